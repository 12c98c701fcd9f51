/- The document's Mod. -/
import Derived.Test.YtdaieklimdhkoaaDoorQHalved
namespace Go.Proofs.YtdaieklimdhkoaaDoor
open Go.RowKit
theorem named {α : Type} (a : α) : ∃ z, Hid (a = z) := ⟨a, rfl⟩
theorem digs_five : digs 5 = [5] := by rw [digs_pos (by decide), show 5 / 256 = 0 from rfl, digs_zero]
/-- What a call answers that gives a row of digits. -/
def GivesR (w : World) (ds : List Nat) (e : Ending) (w' : World) : Prop :=
  ∃ A c, e = .returned (.slice A ds.length c) ∧ ds.length ≤ c ∧ c ≤ maxLen ∧ RowI w' w'.heap.size A ds ∧ Below w.heap.size w w'
/-- A row's digit, and its number, read off the world. -/
def digAt (w : World) : Option Addr → Nat → Nat
  | none, _ => 0
  | some a, j => match w.cell? ⟨a.block, a.off + j, none⟩ with
    | some (.int _ i) => i.toNat
    | _ => 0
def numOf (w : World) : Value → Nat
  | .slice A n _ => dval ((List.range n).map (digAt w A))
  | _ => 0
theorem numOf_row {w : World} {B : Nat} {A : Option Addr} {ds : List Nat} (c : Nat) (h : RowI w B A ds) : numOf w (.slice A ds.length c) = dval ds := by
  show dval ((List.range ds.length).map (digAt w A)) = dval ds
  congr 1
  rcases h with rfl | ⟨b, off, rfl, hb, hc⟩
  · rfl
  · apply List.ext_getElem
    · simp
    · intro i h1 h2
      have h3 := hc i ds[i] (List.getElem?_eq_getElem h2)
      simp only [List.getElem_map, List.getElem_range, digAt, h3]
      rfl
set_option maxRecDepth 100000 in
set_option maxHeartbeats 1000000 in
theorem refMod_any (A : Option Addr) (n c x : Nat) (ds : List Nat) (w : World) (hx : ds = digs x) (hl : ds.length = n) (hr : RowI w w.heap.size A ds) (hc : n ≤ c) (hc2 : c ≤ maxLen) (hx2 : x < 256 ^ 40) :
    Calls Tryd.prog 53 #[.slice A n c] w (GivesR w (digs (x % polyP))) := by
  obtain ⟨rs, HR⟩ : ∃ rs, Hid (digs (x % polyP) = rs) := ⟨_, rfl⟩
  rw [HR.out]
  have HX := Lib.hid hx
  have HL := Lib.hid hl
  have HX2 := Lib.hid hx2
  clear hx hl hx2
  go_enter Tryd.func53, Tryd.ntmps53
  go_wp2_with fail
  go_loopw [0, 3, 4, 7, 8, 9, 10, 11, 12, 13, 14, 15, 16, 17, 18, 19] (fun v _ _ _ _ _ _ _ _ _ _ _ _ _ _ _ wr => ∃ A m d y, v = .slice A m d ∧ RowI wr wr.heap.size A (digs y) ∧ Hid ((digs y).length = m) ∧ m ≤ d ∧ d ≤ maxLen ∧ Hid (y < 256 ^ 40) ∧ Hid (y % polyP = x % polyP) ∧ Below w.heap.size w wr) (fun v _ _ _ _ _ _ _ _ _ _ _ _ _ _ _ wr => numOf wr v)
  case atStart => exact ⟨A, n, c, x, rfl, by rw [← HX.out]; exact hr, by rw [← HX.out]; exact HL, hc, hc2, HX2, rfl, Below.refl _ _⟩
  case round =>
    clear hr HX HL HX2 hc hc2
    obtain ⟨A1, m, d, y, rfl, hrow, HM, hmd, hd, HY, HYP, hB⟩ := hrel
    have hm40 : m ≤ 40 := by rw [← HM.out]; exact digs_length_le y 40 HY.out
    have CH := Lib.hid (halved_any A1 m d y _ wr rfl HM.out hrow hmd hd (by omega))
    have HNUM : Hid (numOf wr (.slice A1 m d) = y) := by
      show _ = _
      rw [← HM.out, numOf_row d hrow, dval_digs]
    obtain ⟨yh, HYH⟩ := named (y / 2 ^ 130)
    obtain ⟨yl, HYL⟩ := named (y % 2 ^ 130)
    rw [HYH.out, HYL.out] at CH
    have bh : Hid (yh * 5 < 256 ^ 40 ∧ yl < 256 ^ 40 ∧ yh < 256 ^ 40) := by
      have h1 := HY.out
      have h2 := HYH.out
      have h3 := HYL.out
      show _ ∧ _
      omega
    obtain ⟨hs, HHS⟩ : ∃ z, Hid (digs yh = z) := ⟨_, rfl⟩
    obtain ⟨ls, HLS⟩ : ∃ z, Hid (digs yl = z) := ⟨_, rfl⟩
    obtain ⟨ys, HYS⟩ : ∃ z, Hid (digs y = z) := ⟨_, rfl⟩
    rw [HHS.out, HLS.out] at CH
    rw [HYS.out] at hrow HM
    obtain ⟨p, HP⟩ : ∃ z, Hid (hs.length = z) := ⟨_, rfl⟩
    obtain ⟨q, HQ⟩ : ∃ z, Hid (ls.length = z) := ⟨_, rfl⟩
    have hp40 : p ≤ 40 := by rw [← HP.out, ← HHS.out]; exact digs_length_le _ 40 bh.out.2.2
    have hq40 : q ≤ 40 := by rw [← HQ.out, ← HLS.out]; exact digs_length_le _ 40 bh.out.2.1
    go_wp2_with fail
    refine CH.out.mono ?_
    rintro e w1 ⟨A2, c2, A3, c3, rfl, hr2, hc2a, hc2b, hr3, hc3a, hc3b, hB1⟩
    rw [HP.out] at hc2a ⊢
    rw [HQ.out] at hc3a ⊢
    clear CH
    have hr5 : RowI (w1.alloc (.cells #[.int .i64 5] 3)) (w1.alloc (.cells #[.int .i64 5] 3)).heap.size (some ⟨w1.heap.size, 0, none⟩) [5] := (rowI_new w1 [5]).more (by simp)
    have hBn : Below w1.heap.size w1 (w1.alloc (.cells #[.int .i64 5] 3)) := (Below.refl _ _).alloc (Nat.le_refl _) _
    have hBw := Lib.hid (below_then (below_then hB hB1) hBn)
    by_cases hp : p = 0
    · subst hp
      have h0 : Hid (y / 2 ^ 130 = 0) := by
        show _ = _
        rw [HYH.out]
        refine (digs_eq_nil yh).1 ?_
        rw [HHS.out]
        exact List.eq_nil_of_length_eq_zero HP.out
      have HPL := Lib.hid (poly_last y h0.out)
      rw [HYP.out] at HPL
      have CA := Lib.hid (add_any A1 (some ⟨w1.heap.size, 0, none⟩) m 1 d 1 y 5 ys [5] (w1.alloc (.cells #[.int .i64 5] 3)) HYS.out.symm digs_five.symm HM.out rfl ((hrow.on hB1).on hBn) hr5 (by omega) (by omega))
      have hrowa := (hrow.on hB1).on hBn
      go_wp2_with fail
      generalize w1.alloc (.cells #[.int .i64 5] 3) = w2 at *
      obtain ⟨y5, HY5⟩ := named (y + 5)
      have hy5 : Hid (y5 < 256 ^ 40) := by
        have h1 := h0.out
        have h2 := HY5.out
        show _ < _
        omega
      rw [HY5.out] at CA HPL
      obtain ⟨zs, HZS⟩ := named (digs y5)
      rw [HZS.out] at CA
      obtain ⟨r, HRL⟩ := named zs.length
      have hr40 : r ≤ 40 := by rw [← HRL.out, ← HZS.out]; exact digs_length_le _ 40 hy5.out
      clear hr2 hr3 HHS HLS HYH HYL bh hr5 hBn HP HQ
      refine CA.out.mono ?_
      rintro e w3 ⟨A4, c4, rfl, -, hc4a, hc4b, hr4, hB3⟩
      rw [HRL.out] at hc4a ⊢
      have CH := Lib.hid (halved_any A4 r c4 y5 zs w3 HZS.out.symm HRL.out hr4 hc4a hc4b (by omega))
      obtain ⟨yh, HYH⟩ := named (y5 / 2 ^ 130)
      obtain ⟨yl, HYL⟩ := named (y5 % 2 ^ 130)
      rw [HYH.out, HYL.out] at CH HPL
      obtain ⟨hs, HHS⟩ := named (digs yh)
      obtain ⟨ls, HLS⟩ := named (digs yl)
      rw [HHS.out, HLS.out] at CH
      obtain ⟨p, HP⟩ := named hs.length
      obtain ⟨q, HQ⟩ := named ls.length
      clear CA
      have hrowb := hrowa.on hB3
      go_wp2_with fail
      refine CH.out.mono ?_
      rintro e w4 ⟨A5, c5, A6, c6, rfl, hr5, hc5a, hc5b, hr6, hc6a, hc6b, hB4⟩
      rw [HP.out] at hc5a ⊢
      rw [HQ.out] at hc6a ⊢
      have hrowc := hrowb.on hB4
      have hBe := Lib.hid (below_then (below_then hBw.out hB3) hB4)
      clear CH
      by_cases hp : p = 0
      · subst hp
        have e0 : yh = 0 := by
          refine (digs_eq_nil yh).1 ?_
          rw [HHS.out]
          exact List.eq_nil_of_length_eq_zero HP.out
        have er : Hid (ys = rs) := by
          have h := HPL.out
          rw [if_neg (fun h => h e0)] at h
          show _ = _
          rw [← HR.out, ← h, HYS.out]
        clear e0
        go_wp2_with fail
        go_ret
        rw [← er.out]
        exact ⟨A1, d, by rw [HM.out]; rfl, by rw [HM.out]; exact hmd, hd, hrowc, hBe.out⟩
      · have hpI : (0 : Int) < (p : Int) := by omega
        have e0 : yh ≠ 0 := by
          intro h
          rw [h, digs_zero] at HHS
          exact hp (by rw [← HP.out, ← HHS.out]; rfl)
        have er : Hid (ls = rs) := by
          have h := HPL.out
          rw [if_pos e0] at h
          show _ = _
          rw [← HR.out, ← h, HLS.out]
        clear e0
        go_wp2_with fail
        go_ret
        rw [← er.out]
        exact ⟨A6, c6, by rw [HQ.out]; rfl, by rw [HQ.out]; exact hc6a, hc6b, hr6, hBe.out⟩
    · have hpI : ¬ (p : Int) = 0 := by omega
      have h0 : Hid (y / 2 ^ 130 ≠ 0) := by
        show _ ≠ _
        rw [HYH.out]
        intro h
        rw [h, digs_zero] at HHS
        exact hp (by rw [← HP.out, ← HHS.out]; rfl)
      have HST := Lib.hid (poly_step y)
      have HLE := Lib.hid (poly_less y h0.out)
      rw [HYP.out] at HST
      rw [HYH.out, HYL.out] at HST HLE
      have CT := Lib.hid (refTimes_any A2 (some ⟨w1.heap.size, 0, none⟩) p 1 c2 1 yh 5 hs [5] (w1.alloc (.cells #[.int .i64 5] 3)) HHS.out.symm digs_five.symm HP.out rfl (hr2.on hBn) hr5 (by omega) (by omega))
      have hr3a := hr3.on hBn
      obtain ⟨y5, HY5⟩ := named (yh * 5)
      rw [HY5.out] at CT bh HST HLE
      obtain ⟨zs, HZS⟩ := named (digs y5)
      rw [HZS.out] at CT
      obtain ⟨r, HRL⟩ := named zs.length
      have hr40 : r ≤ 40 := by rw [← HRL.out, ← HZS.out]; exact digs_length_le _ 40 bh.out.1
      obtain ⟨y', HYY⟩ := named (yl + y5)
      rw [HYY.out] at HST HLE
      obtain ⟨ss, HSS⟩ := named (digs y')
      obtain ⟨sl, HSL⟩ := named ss.length
      have hy' : Hid (y' < 256 ^ 40) := Nat.lt_trans HLE.out HY.out
      go_wp2_with fail
      generalize w1.alloc (.cells #[.int .i64 5] 3) = w2 at *
      clear hr2 hr3 hr5 hBn
      refine CT.out.mono ?_
      rintro e w3 ⟨A4, c4, rfl, -, hc4a, hc4b, hr4, hB3⟩
      rw [HRL.out] at hc4a ⊢
      have CA := Lib.hid (add_any A3 A4 q r c3 c4 yl y5 ls zs w3 HLS.out.symm HZS.out.symm HQ.out HRL.out (hr3a.on hB3) hr4 (by omega) (by omega))
      rw [HYY.out, HSS.out] at CA
      clear CT
      go_wp2_with fail
      refine CA.out.mono ?_
      rintro e w4 ⟨A5, c5, rfl, -, hc5a, hc5b, hr5, hB4⟩
      rw [HSL.out] at hc5a ⊢
      have hBe := Lib.hid (below_then (below_then hBw.out hB3) hB4)
      clear CA
      have HN2 : Hid (numOf w4 (.slice A5 sl c5) = y') := by
        show _ = _
        rw [← HSL.out, numOf_row c5 hr5, ← HSS.out, dval_digs]
      go_wp2_with fail
      go_roundw
      case rel => exact ⟨A5, sl, c5, y', rfl, by rw [HSS.out]; exact hr5, by rw [HSS.out]; exact HSL, hc5a, hc5b, hy', HST, hBe.out⟩
      case measure =>
        show numOf w4 (.slice A5 sl c5) < numOf wr (.slice A1 m d)
        rw [HN2.out, HNUM.out]
        exact HLE.out
end Go.Proofs.YtdaieklimdhkoaaDoor
