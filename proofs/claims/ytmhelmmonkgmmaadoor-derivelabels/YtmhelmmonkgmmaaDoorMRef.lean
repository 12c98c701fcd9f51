/- The document's own code of bytes: fellowshipref04.Sum. -/
import Derived.Test.YtmhelmmonkgmmaaDoorMMath
import Derived.Test.YtmhelmmonkgmmaaDoorWKeep
import Derived.Test.YtmhelmmonkgmmaaDoorRShaSum
import Derived.Deep.DeepCutAuto
namespace Go.Proofs.YtmhelmmonkgmmaaDoor
open Go.RowKit
/-- A row of 64 bytes whose first k are padded, the others noughts. -/
def xTo (bs : List UInt8) (p : UInt8) (k : Nat) : List UInt8 := macPad (bs.take k) p ++ List.replicate (64 - k) 0
theorem xTo_length (bs : List UInt8) (p : UInt8) (k : Nat) (hl : bs.length = 64) (hk : k ≤ 64) : (xTo bs p k).length = 64 := by simp [xTo, macPad]; omega
theorem xTo_next (bs : List UInt8) (p : UInt8) (k : Nat) (hl : bs.length = 64) (hk : k < 64) : (xTo bs p k).set k (bs[k]'(by omega) ^^^ p) = xTo bs p (k + 1) := by
  rw [xTo, set_nextV _ k 64 _ 0 (by rw [macPad_length, List.length_take]; omega) hk, xTo, take_snoc bs k (by omega), macPad, macPad, List.map_append]
  rfl
def zrow : Array Value := rowCells (List.replicate 64 0)
theorem zrow_made (w : World) : Made (w.alloc (.cells zrow 5)) w.heap.size (List.replicate 64 0) := Made.new w _
theorem made_owns {w : World} {base g : Nat} {bs : List UInt8} (h : Made w g bs) (hb : base ≤ g) (hl : bs.length ≤ 1000000) : Owns w base (.slice (some ⟨g, 0, none⟩) bs.length bs.length) bs := by
  refine ⟨by simp, .inr ⟨g, bs.length, (bs.map cellOf).toArray, rfl, hb, h, Nat.le_refl _, by unfold maxLen; omega, by simp, by simp [List.take_of_length_le]⟩⟩
theorem two_rows (w : World) : Below w.heap.size w ((w.alloc (.cells zrow 5)).alloc (.cells zrow 5)).drew ∧ Made ((w.alloc (.cells zrow 5)).alloc (.cells zrow 5)).drew w.heap.size (List.replicate 64 0) ∧ Made ((w.alloc (.cells zrow 5)).alloc (.cells zrow 5)).drew (w.heap.size + 1) (List.replicate 64 0) := by
  have b1 := (Below.refl w.heap.size w).alloc (Nat.le_refl _) (.cells zrow 5)
  refine ⟨(b1.alloc b1.size (.cells zrow 5)).drew, ?_, ?_⟩
  · exact (zrow_made w).below (B := (w.alloc (.cells zrow 5)).heap.size) ((Below.refl (w.alloc (.cells zrow 5)).heap.size (w.alloc (.cells zrow 5))).alloc (Nat.le_refl _) _).drew (by rw [World.size_alloc]; omega)
  · have h := zrow_made (w.alloc (.cells zrow 5))
    rw [World.size_alloc] at h
    exact h
theorem Made.but {w w' : World} {g b : Nat} {bs : List UInt8} (h : Made w g bs) (hb : But b w w') (hg : g ≠ b) : Made w' g bs := (hb.block g h.lt hg).trans h
theorem Made.other {w : World} {g : Nat} {bs : List UInt8} (h : Made w g bs) {p : Addr} (hp : g ≠ p.block) (u : Value) : Made (w.setCell p u) g bs := (Below.heap_setCell _ _ _ _ hp).trans h
set_option maxRecDepth 100000 in
set_option maxHeartbeats 800000 in
theorem macRef_any (A B : Option Addr) (c n d m : Nat) (key b : List UInt8) (w : World) (hl : key.length = n) (hr : Row w w.heap.size A key) (hA : A = none → c = 0) (hn : n ≤ 900000)
    (hbl : b.length = m) (hb : Row w w.heap.size B b) (hB : B = none → d = 0) (hm : m ≤ 800000) :
    Calls Tryd.prog 10 #[.slice A n c, .slice B m d] w fun e w' => e = .returned (hashVal (macSum key b)) ∧ Below w.heap.size w w' := by
  have HL := Lib.hid hl
  have HBL := Lib.hid hbl
  clear hl hbl
  have hmk : ∀ w, _ := make_bytes 64 64 (Nat.le_refl _) (by omega)
  rw [show ((64 : Nat) : Int) = 64 from rfl, show rowCells (List.replicate 64 0) = zrow from rfl] at hmk
  go_enter Tryd.func10, Tryd.ntmps10
  go_upto_if 13 with (first
    | (refine zero_step rfl 29 rfl 32 zero_r32 ?_
       intro w0 hB0 hR0 hz0))
  go_cut [0, 5] (fun s0 _ wc => ∃ K k q ks, s0 = .slice K k q ∧ ks.length = k ∧ k ≤ 64 ∧ macFill ks = macKey key ∧ Row wc wc.heap.size K ks ∧ Below w.heap.size w wc ∧ Cells wc w.heap.size (List.replicate 32 (cellOf 0)) 29)
  case first =>
    by_cases hlong : 64 < n
    · have h1 : (64 : Int) < (n : Int) := by omega
      have HD := Lib.hid (shaSum_length key)
      go_wp2_with (first
        | (go_at_call 22
           refine (refSum_any A c n key w0 HL.out (hr.on hB0) hA hn).mono ?_
           rintro e w1 ⟨rfl, hb1⟩)
        | (refine put_step rfl rfl 29 (.tmp 5) (.tmp 15) rfl rfl 32 (shaSum key) rfl rfl zero_r32 size_r32 HD.out ?_
           intro w2 hb2 hC2 hz2))
      go_meet
      have hb3 := below_then hb1 hb2
      exact ⟨_, _, _, shaSum key, rfl, HD.out, by omega, (macKey_long key (by rw [HL.out]; exact hlong)).symm, hC2.all, below_then hB0 hb3, hR0.on hb3⟩
    · have h1 : ¬ (64 : Int) < (n : Int) := by omega
      go_wp2_with fail
      go_meet
      exact ⟨A, n, c, key, rfl, HL.out, by omega, (macKey_short key (by rw [HL.out]; omega)).symm, hr.on hB0, hB0, hR0⟩
  case rest =>
  obtain ⟨K, kn, q, ks, rfl, hkl, hk64, hfe, hRk, hBc, hRc⟩ := hcut
  have HKL := Lib.hid hkl
  have HFE := Lib.hid hfe
  have HFL := Lib.hid (macFill_length ks)
  have HFA := Lib.hid (show ∀ i, i < 64 → (macFill ks)[i]? = some (ks.getD i 0) from fun i hi => by rw [List.getElem?_eq_getElem (by rw [macFill_length]; exact hi), macFill_at ks (by rw [hkl]; exact hk64) i hi])
  clear hkl hfe hB0 hR0 hz0
  go_upto_region 4 with fail
  go_cut [6, 7] (fun s6 s7 wx => ∃ gx gy, s6 = .slice (some ⟨gx, 0, none⟩) 64 64 ∧ s7 = .slice (some ⟨gy, 0, none⟩) 64 64 ∧ gx ≠ gy ∧ wc.heap.size ≤ gx ∧ wc.heap.size ≤ gy ∧ gx < wx.heap.size ∧ gy < wx.heap.size ∧ Below wc.heap.size wc wx ∧ Made wx gx (List.replicate 64 0) ∧ Made wx gy (List.replicate 64 0))
  case first =>
    have ht := Lib.hid (two_rows wc)
    go_region
    · go_wp2_with fail
      go_meet
      obtain ⟨t1, t2, t3⟩ := ht.out
      exact ⟨_, _, rfl, rfl, by omega, by omega, by omega, t2.lt, t3.lt, t1, t2, t3⟩
    · go_wp2_with fail
      go_meet
      obtain ⟨t1, t2, t3⟩ := ht.out
      exact ⟨_, _, rfl, rfl, by omega, by omega, by omega, t3.lt, t2.lt, t1, t3, t2⟩
  case rest =>
  obtain ⟨gx, gy, rfl, rfl, n1, n2, n3, n4, n5, hb1, hX, hY⟩ := hcut
  rename World => w2
  have n6 : gy ≠ gx := fun e => n1 e.symm
  have HX0 := Lib.hid (show List.replicate 64 0 = xTo (macFill ks) 54 0 from rfl)
  have HY0 := Lib.hid (show List.replicate 64 0 = xTo (macFill ks) 92 0 from rfl)
  generalize hfill : macFill ks = fill at *
  replace hfill := Lib.hid hfill
  go_wp2_with fail
  go_loopw [8] (fun i wr => ∃ k : Nat, k ≤ 64 ∧ i = .int .i64 k ∧ Below wc.heap.size wc wr ∧ Made wr gx (xTo fill 54 k) ∧ Made wr gy (xTo fill 92 k)) (fun i _ => 64 - (intOf i).toNat)
  case atStart => exact ⟨0, Nat.zero_le _, rfl, hb1, by rw [← HX0.out]; exact hX, by rw [← HY0.out]; exact hY⟩
  case round =>
    clear hb1 hX hY
    obtain ⟨k, hk, rfl, hb1, hX, hY⟩ := hrel
    by_cases hlt : k < 64
    · have hlt2 : k < fill.length := by rw [HFL.out]; exact hlt
      have HNX := Lib.hid (xTo_next fill 54 k HFL.out hlt)
      have HNY := Lib.hid (xTo_next fill 92 k HFL.out hlt)
      have HFK := Lib.hid (show fill[k] = ks.getD k 0 by have h := HFA.out k hlt; rw [List.getElem?_eq_getElem hlt2] at h; exact Option.some.inj h)
      have f1 := hX.frozen k
      have f2 := hY.frozen k
      obtain ⟨v1, c1⟩ : ∃ v, wr.cell? ⟨gx, k, none⟩ = some v := ⟨_, hX.cell k (by rw [xTo_length _ _ _ HFL.out (by omega)]; exact hlt)⟩
      obtain ⟨v2, c2⟩ : ∃ v, wr.cell? ⟨gy, k, none⟩ = some v := ⟨_, hY.cell k (by rw [xTo_length _ _ _ HFL.out (by omega)]; exact hlt)⟩
      have HXR : Hid (∀ x : UInt8, fill[k] = x → Below wc.heap.size wc ((wr.setCell ⟨gx, k, none⟩ (cellOf (x ^^^ 54))).setCell ⟨gy, k, none⟩ (cellOf (x ^^^ 92))) ∧ Made ((wr.setCell ⟨gx, k, none⟩ (cellOf (x ^^^ 54))).setCell ⟨gy, k, none⟩ (cellOf (x ^^^ 92))) gx (xTo fill 54 (k + 1)) ∧ Made ((wr.setCell ⟨gx, k, none⟩ (cellOf (x ^^^ 54))).setCell ⟨gy, k, none⟩ (cellOf (x ^^^ 92))) gy (xTo fill 92 (k + 1))) := by
        intro x hx
        have h1 := HNX.out
        have h2 := HNY.out
        rw [hx] at h1 h2
        refine ⟨(hb1.setCell (p := ⟨gx, k, none⟩) n2 _).setCell (p := ⟨gy, k, none⟩) n3 _, ?_, ?_⟩
        · have h := (hX.set k (x ^^^ 54)).other (p := ⟨gy, k, none⟩) n1 (cellOf (x ^^^ 92))
          rw [h1] at h
          exact h
        · have h := (hY.other (p := ⟨gx, k, none⟩) n6 (cellOf (x ^^^ 54))).set k (x ^^^ 92)
          rw [h2] at h
          exact h
      by_cases hin : k < kn
      · have i1 : (k : Int) < (kn : Int) := by omega
        have hin2 : k < ks.length := by rw [HKL.out]; exact hin
        obtain ⟨b', off', rfl, hb', c3⟩ := (hRk.below hb1).at k hin2
        have HE := Lib.hid (HXR.out ks[k] (by rw [HFK.out, getD_lt ks k hin2]))
        have HZ1 := Lib.hid (xor8 ks[k] 54)
        have HZ2 := Lib.hid (xor8 ks[k] 92)
        generalize ks[k] = x at *
        go_wp2
        go_roundw
        case rel =>
          refine ⟨k + 1, by omega, by go_num, ?_⟩
          have h1 := HZ1.out
          have h2 := HZ2.out
          rw [show (((54 : UInt8).toNat : Nat) : Int) = 54 from rfl] at h1
          rw [show (((92 : UInt8).toNat : Nat) : Int) = 92 from rfl] at h2
          rw [h1, h2]
          exact HE.out
        case measure => simp [intOf]; omega
      · have i1 : ¬ (k : Int) < (kn : Int) := by omega
        have HE := Lib.hid (HXR.out 0 (by rw [HFK.out, List.getD, List.getElem?_eq_none (by rw [HKL.out]; omega)]; rfl))
        go_wp2
        go_roundw
        case rel => exact ⟨k + 1, by omega, by go_num, HE.out⟩
        case measure => simp [intOf]; omega
    · obtain rfl : k = 64 := by omega
      have e64 : ∀ p, xTo fill p 64 = macPad (macKey key) p := fun p => by
        rw [xTo, List.take_of_length_le (by rw [HFL.out]; omega), HFE.out]
        simp
      rw [e64] at hX hY
      clear e64
      have HPX : Hid ((macPad (macKey key) 54).length = 64) := by show _ = _; rw [macPad_length, macKey_length]
      have HPY : Hid ((macPad (macKey key) 92).length = 64) := by show _ = _; rw [macPad_length, macKey_length]
      have HIN : Hid (shaSum (macPad (macKey key) 54 ++ b) = macIn key b) := rfl
      have HOUT : Hid (shaSum (macPad (macKey key) 92 ++ macIn key b) = macSum key b) := rfl
      have HIL := Lib.hid (macIn_length key b)
      have HSL := Lib.hid (macSum_length key b)
      clear HX0 HY0 HFA HFL HFE hfill
      generalize macPad (macKey key) 54 = px at *
      generalize macPad (macKey key) 92 = py at *
      have hB2 : Below w.heap.size w wr := hBc.trans (hb1.mono hBc.size)
      have hR2 := hRc.below hb1 hRc.lt
      have hOx := made_owns (base := wc.heap.size) hX n2 (by rw [HPX.out]; omega)
      rw [HPX.out] at hOx
      have hsz := hb1.size
      have hgr := hRc.lt
      go_wp2_with (first
        | (at_builtin
           refine append_but rfl (.tmp 41) (.tmp 42) rfl wc.heap.size gx 64 64 px b wr.heap.size B d m rfl hOx rfl HBL.out hB (hb.on hB2) (by rw [HPX.out]; omega) hsz ?_
           intro v1 w3 hown1 hbut1))
      have hY3 := hY.but hbut1 n6
      have hR3 := hR2.but hbut1 (by omega)
      have hB3 := hB2.trans (hbut1.below (by omega) hB2.size)
      have hs3 : wc.heap.size ≤ w3.heap.size := Nat.le_trans hsz hbut1.size
      obtain ⟨A1, c1, hv1, _, hA1, hR1⟩ := hown1.form
      obtain ⟨L1, hL1⟩ : ∃ L1, (px ++ b).length = L1 := ⟨_, rfl⟩
      rw [hL1] at hv1
      have hLm : L1 ≤ 800064 := by rw [List.length_append, HPX.out, HBL.out] at hL1; omega
      replace hL1 := Lib.hid hL1
      subst hv1
      clear hX hY hB2 hR2 hOx hown1 hbut1 hb1 hRk
      refine (refSum_any A1 c1 L1 (px ++ b) w3 hL1.out hR1 hA1 (by omega)).mono ?_
      rintro e w4 ⟨rfl, hb4⟩
      rw [HIN.out]
      have hY4 := hY3.below hb4 hY3.lt
      have hR4 := hR3.on hb4
      have hB4 := below_then hB3 hb4
      have hs4 := Nat.le_trans hs3 hb4.size
      clear hY3 hR3 hB3 hb4 hR1 hs3
      generalize macIn key b = inn at *
      have hOy := made_owns (base := wc.heap.size) hY4 n3 (by rw [HPY.out]; omega)
      rw [HPY.out] at hOy
      go_wp2_with (first
        | (refine put_step rfl rfl 29 (.tmp 10) (.tmp 44) rfl rfl 32 inn rfl rfl zero_r32 size_r32 HIL.out ?_
           intro w5 hb5 hI5 _
           have hOy5 := hOy.on hb5
           have hR5 := hR4.on hb5
           have hB5 := below_then hB4 hb5
           have hs5 := Nat.le_trans hs4 hb5.size
           generalize w4.heap.size = gi at *
           clear hb5)
        | (at_builtin
           refine append_but rfl (.tmp 45) (.tmp 46) rfl wc.heap.size gy 64 64 py inn w5.heap.size (some ⟨gi, 0, none⟩) 32 32 rfl hOy5 rfl HIL.out (fun h => by cases h) hI5.all (by rw [HPY.out]; omega) hs5 ?_
           intro v6 w6 hown6 hbut6))
      have hR6 := hR5.but hbut6 (by omega)
      have hB6 := hB5.trans (hbut6.below (by omega) hB5.size)
      obtain ⟨A6, c6, hv6, _, hA6, hRy⟩ := hown6.form
      obtain ⟨L6, hL6⟩ : ∃ L6, (py ++ inn).length = L6 := ⟨_, rfl⟩
      rw [hL6] at hv6
      have hLm6 : L6 ≤ 96 := by rw [List.length_append, HPY.out, HIL.out] at hL6; omega
      replace hL6 := Lib.hid hL6
      subst hv6
      clear hR5 hB5 hown6 hbut6
      refine (refSum_any A6 c6 L6 (py ++ inn) w6 hL6.out hRy hA6 (by omega)).mono ?_
      rintro e w7 ⟨rfl, hb7⟩
      rw [HOUT.out]
      have hR7 := hR6.on hb7
      have hB7 := below_then hB6 hb7
      go_wp2_with (first
        | (refine set_step rfl 29 _ _ rfl w.heap.size 32 _ (macSum key b) rfl rfl hR7 (by simp) size_r32 HSL.out ?_
           intro w8 hb8 hR8 _))
      exact ret_hash Tryd.results10 w.heap.size _ rfl hR8 Tryd.underlying29 size_r32 HSL.out rfl ⟨rfl, hB7.trans (hb8.below (Nat.le_refl _) hB7.size)⟩
end Go.Proofs.YtmhelmmonkgmmaaDoor
