/- Bytes that come in pieces, with sums asked between, have the digest of the whole, and copies go on apart: the law fellowshiplaw02.ShaPieces answers true at every input, where package sha's tables and package api's errors hold what the program's text lays. -/
import Derived.Test.YtcnhnmoenoldaaaDoorSPieces
namespace Go.Proofs.YtcnhnmoenoldaaaDoor.shaPieces
open Go.ChangeShapes Go.WideShapes Go.ChangeAt Go.RowKit

theorem long_walk (D A : Option Addr) (d c n m : Nat) (w : World) (hK : Tabs w) (hg : 4 ≤ w.heap.size) (hn : 20 < n ∨ 200 < m) :
    Calls Tryd.prog 4 #[.slice D n d, .slice A m c] w fun e w' => e = .returned (.bool true) ∧ Below w.heap.size w w' := by
  by_cases h1 : 20 < n
  · have i1 : (20 : Int) < (n : Int) := by omega
    clear hn
    go_enter Tryd.func4, Tryd.ntmps4
    go_wp2_with fail
    refine (alive2 w hK hg).mono ?_
    rintro e w1 ⟨rfl, hB⟩
    go_wp2
    go_ret
    exact ⟨rfl, hB⟩
  · have i1 : ¬ (20 : Int) < (n : Int) := by omega
    have i2 : (200 : Int) < (m : Int) := by omega
    clear hn
    go_enter Tryd.func4, Tryd.ntmps4
    go_wp2_with fail
    refine (alive2 w hK hg).mono ?_
    rintro e w1 ⟨rfl, hB⟩
    go_wp2
    go_ret
    exact ⟨rfl, hB⟩
set_option maxRecDepth 100000 in
set_option maxHeartbeats 1500000 in
theorem walk (D A : Option Addr) (d c n m : Nat) (ps : List (List UInt8)) (ms : List UInt8) (w : World) (hK : Tabs w) (hg : 4 ≤ w.heap.size) (hl : ps.length = n) (hP : Parts w w.heap.size D ps) (hml : ms.length = m) (hr : Row w w.heap.size A ms) (hA : A = none → c = 0) (hmc : m ≤ c) (hc2 : c ≤ maxLen) (hn : n ≤ 20) (hm : m ≤ 200) :
    Calls Tryd.prog 4 #[.slice D n d, .slice A m c] w fun e w' => e = .returned (.bool true) ∧ Below w.heap.size w w' := by
  have HL := Lib.hid hl
  have HML := Lib.hid hml
  clear hl hml
  have i1 : ¬ (20 : Int) < (n : Int) := by omega
  have i2 : ¬ (200 : Int) < (m : Int) := by omega
  have hq := hash_eql
  have hnq := hash_neq
  have hgd := hash_guard
  go_enter Tryd.func4, Tryd.ntmps4
  go_wp2_with fail
  refine (alive2 w hK hg).mono ?_
  rintro e w1 ⟨rfl, hB1⟩
  go_wp2_with fail
  refine (new_any w1 (hK.below hB1)).mono ?_
  rintro e w2 ⟨rfl, hB2, hO2⟩
  have hB3 := below_then hB1 hB2
  have hgs := hB1.size
  have hgl := hO2.lt
  generalize w1.heap.size = g at *
  clear hB1 hB2
  have hO3 : HashOf (w2.alloc (.cells (rowCells []) 5)) g [] := hO2.below ((Below.refl _ _).alloc (Nat.le_refl _) _)
  have hB4 := hB3.alloc hB3.size (.cells (rowCells []) 5)
  have hW4 := Owns.lit (base := w2.heap.size) w2 [] (Nat.le_refl _) (by simp)
  have hz4 : w2.heap.size ≤ (w2.alloc (.cells (rowCells []) 5)).heap.size := by simp
  have HE : Hid (rowCells [] = #[]) := rfl
  rw [HE.out] at hO3 hB4 hW4 hz4
  go_wp2_with fail
  generalize w2.alloc (.cells #[] 5) = w3 at *
  have hW5 : Owns w3 w2.heap.size (.slice (some ⟨w2.heap.size, 0, none⟩) 0 0) [] := hW4
  have HS2 : Hid (w.heap.size ≤ w2.heap.size) := hB3.size
  clear hW4 hO2 hB3
  obtain ⟨v0, hv0⟩ : ∃ v0 : Value, v0 = .slice (some ⟨w2.heap.size, 0, none⟩) 0 0 := ⟨_, rfl⟩
  generalize w2.heap.size = base at *
  rw [← hv0] at hW5
  replace hv0 := Lib.hid hv0
  go_loopw [6, 25] (fun v i wr => ∃ k : Nat, k ≤ n ∧ i = .int .i64 k ∧ Below w.heap.size w wr ∧ base ≤ wr.heap.size ∧ HashOf wr g (ps.take k).flatten ∧ Owns wr base v (ps.take k).flatten ∧ (ps.take k).flatten.length ≤ 200 * k) (fun _ i _ => n - (intOf i).toNat)
  case atStart => exact ⟨0, Nat.zero_le _, rfl, hB4, hz4, hO3, by rw [hv0.out] at hW5; exact hW5, by simp⟩
  case round =>
    clear hB4 hz4 hO3 hW5
    obtain ⟨k, hk, rfl, hB, hz, hO, hW, hle⟩ := hrel
    by_cases hlt : k < n
    · have hlt2 : k < ps.length := by rw [HL.out]; exact hlt
      obtain ⟨b, off, A1, c1, rfl, hcl, hr1, h1, h2, h3⟩ := (hP.below hB).at k hlt2
      have HS := Lib.hid (show (ps.take (k + 1)).flatten = (ps.take k).flatten ++ ps[k] by rw [take_snoc ps k hlt2, List.flatten_append]; simp)
      generalize ps[k] = us at *
      generalize hul : us.length = q at *
      replace hul := Lib.hid hul
      by_cases hbig : 200 < q
      · have i3 : (200 : Int) < (q : Int) := by omega
        go_wp2
        go_ret
        exact ⟨rfl, hB⟩
      · have i3 : ¬ (200 : Int) < (q : Int) := by omega
        have HLF : Hid ((ps.take k).flatten.length ≤ 4000) := by show _ ≤ _; omega
        generalize hF : (ps.take k).flatten = F at *
        replace hF := Lib.hid hF
        have hsz := hB.size
        go_wp2_with fail
        refine (write_any g F us A1 q c1 wr (hK.below hB) (by omega) hO hul.out (hr1.more hsz) (hr1.apart (by omega)) h1 h2 (by have := HLF.out; omega)).mono ?_
        rintro e w4 ⟨rfl, hB5, hO5⟩
        have hW6 := hW.but hB5 (by omega)
        have hB6 := hB.trans (hB5.below (by omega) hsz)
        have hz6 := Nat.le_trans hz hB5.size
        have hr6 : Row w4 w4.heap.size A1 us := (hr1.more hsz).but hB5 (hr1.apart (by omega))
        clear hB5 hO hW hcl
        go_wp2_with (first
          | (at_builtin
             refine append_row rfl (.tmp 35) (.tmp 36) rfl base _ F us _ A1 c1 rfl hW6 (by rw [hul.out]; rfl) h3 hr6 (by rw [hul.out]; have := HLF.out; omega) hz6 ?_
             intro v7 w7 hW7 hB7))
        have hO7 := hO5.under hB7 (by omega)
        have hB8 := hB6.trans (hB7.mono (by have := HS2.out; omega))
        have hz8 : base ≤ w7.heap.size := Nat.le_trans hz6 hB7.size
        clear hB6 hO5 hW6 hB7 hr6 hz6
        have HFU : Hid ((F ++ us).length ≤ 200 * (k + 1)) := by show _ ≤ _; rw [List.length_append, hul.out]; omega
        refine (hashSum_any g (F ++ us) w7 (hK.below hB8) (by have := hB8.size; omega) hO7 (by have := HFU.out; omega)).mono ?_
        rintro e w8 ⟨rfl, hB9⟩
        have hW8 := hW7.on hB9
        obtain ⟨A8, c8, hv8, _, hA8, hR8⟩ := hW8.form
        obtain ⟨L8, hL8⟩ : ∃ L8, (F ++ us).length = L8 := ⟨_, rfl⟩
        rw [hL8] at hv8
        replace hL8 := Lib.hid hL8
        have hB10 := below_then hB8 hB9
        have hO8 := hO7.below hB9
        have hz9 : base ≤ w8.heap.size := Nat.le_trans hz8 hB9.size
        clear hB8 hB9 hO7 hW7
        subst hv8
        go_wp2_with fail
        refine (refSum_any A8 c8 L8 (F ++ us) w8 hL8.out hR8 hA8 (by have h8 := hL8.out; have h9 := HFU.out; omega)).mono ?_
        rintro e w9 ⟨rfl, hB11⟩
        go_wp2
        go_roundw
        case rel => exact ⟨k + 1, by omega, by go_num, below_then hB10 hB11, Nat.le_trans hz9 hB11.size, by rw [HS.out]; exact hO8.below hB11, by rw [HS.out]; exact hW8.on hB11, by rw [HS.out]; exact HFU.out⟩
        case measure => simp [intOf]; omega
    · obtain rfl : k = n := by omega
      have eF : ps.take k = ps := List.take_of_length_le (by rw [HL.out]; exact Nat.le_refl _)
      rw [eF] at hO hW hle
      clear eF
      have HPF : Hid (ps.flatten.length ≤ 4000) := by show _ ≤ _; omega
      generalize hF : ps.flatten = F at *
      replace hF := Lib.hid hF
      obtain ⟨A6, c6, hv6, _, hA6, hR6⟩ := hW.form
      have hap : F ≠ [] → ∀ p, A6 = some p → p.block ≠ g := by
        intro hne p hp
        obtain ⟨g6, c6', hv6', _, _, hg6, _⟩ := hW.form_pos (List.length_pos_iff.2 hne)
        rw [hv6', hp] at hv6
        cases hv6
        show g6 ≠ g
        omega
      have HAP := Lib.hid hap
      clear hap
      obtain ⟨LF, hLF⟩ : ∃ LF, F.length = LF := ⟨_, rfl⟩
      rw [hLF] at hv6
      have hLF4 : LF ≤ 4000 := by have := HPF.out; omega
      replace hLF := Lib.hid hLF
      subst hv6
      clear hW hle
      have hsz := hB.size
      go_wp2_with fail
      refine (copyHash_any g F wr hO).mono ?_
      rintro e w4 ⟨rfl, hB5, hC4⟩
      have hO4 := hO.below hB5
      have hB6 := below_then hB hB5
      have hR4 := hR6.below hB5
      have hgc := hC4.lt
      have hggc := hO.lt
      generalize wr.heap.size = gc at *
      clear hO hB hB5 hR6
      go_wp2_with fail
      refine (write_any gc F ms A m c w4 (hK.below hB6) (by omega) hC4 HML.out (hr.on hB6) (hr.apart (by omega)) hmc hc2 (by have := hLF.out; omega)).mono ?_
      rintro e w5 ⟨rfl, hB7, hC5⟩
      have hO5 := hO4.but hB7 (by omega)
      have hR5 := hR4.butB hB7 (Nat.le_refl _) (by omega)
      have hB8 := hB6.trans (hB7.below (by omega) hB6.size)
      have hgc5 := hC5.lt
      clear hB6 hB7 hC4 hO4 hR4 hgc
      have H0 := Lib.hid (Owns.lit (base := w5.heap.size) w5 [] (Nat.le_refl _) (by simp))
      have hz0 : Below w5.heap.size w5 (w5.alloc (.cells (rowCells []) 5)) := (Below.refl _ _).alloc (Nat.le_refl _) _
      have HR0 := Lib.hid ((hR5.more (Nat.le_of_lt hgc5)).on hz0)
      go_wp2_with (first
        | (at_builtin
           refine append_row rfl (.tmp 49) (.tmp 50) rfl w5.heap.size _ [] F _ A6 c6 rfl H0.out (by rw [hLF.out]; rfl) hA6 HR0.out (by rw [hLF.out]; simp; omega) (by simp) ?_
           intro v1 w6 hown1 hB9)
        | (at_builtin
           refine append_row rfl (.tmp 51) (.tmp 52) rfl w5.heap.size _ ([] ++ F) ms _ A c rfl hown1 (by rw [HML.out]; rfl) hA (hr.on (below_then hB8 (hz0.trans hB9))) (by rw [HML.out, List.nil_append, hLF.out]; omega) (by have := (hz0.trans hB9).size; omega) ?_
           intro v2 w7 hown2 hB10))
      rw [List.nil_append] at hown2
      have hB11 := (hz0.trans hB9).trans hB10
      have hB12 := below_then hB8 hB11
      have hO7 := hO5.below hB11
      have hC7 := hC5.below hB11
      have hR7 := hR5.below (hB11.mono (Nat.le_of_lt hgc5))
      have hs7 := hB11.size
      clear hB8 hB9 hB10 hB11 hO5 hC5 hR5 hown1 hz0 H0 HR0
      refine (hashSum_any g F w7 (hK.below hB12) (by have := hB12.size; omega) hO7 (by have := hLF.out; omega)).mono ?_
      rintro e w8 ⟨rfl, hB13⟩
      have hB14 := below_then hB12 hB13
      have hO8 := hO7.below hB13
      have hC8 := hC7.below hB13
      have hR8 := hR7.below (hB13.mono (by omega))
      have hown3 := hown2.on hB13
      have hs8 := hB13.size
      clear hB12 hB13 hO7 hC7 hR7 hown2
      go_wp2_with fail
      refine (refSum_any A6 c6 LF F w8 hLF.out (hR8.more (by omega)) hA6 (by omega)).mono ?_
      rintro e w9 ⟨rfl, hB15⟩
      have hB16 := below_then hB14 hB15
      have hO9 := hO8.below hB15
      have hC9 := hC8.below hB15
      have hR9 := hR8.below (hB15.mono (by omega))
      have hown4 := hown3.on hB15
      have hs9 := hB15.size
      clear hB14 hB15 hO8 hC8 hR8 hown3
      go_wp2_with fail
      refine (hashSum_any gc (F ++ ms) w9 (hK.below hB16) (by have := hB16.size; omega) hC9 (by rw [List.length_append, hLF.out, HML.out]; omega)).mono ?_
      rintro e w10 ⟨rfl, hB17⟩
      have hB18 := below_then hB16 hB17
      have hO10 := hO9.below hB17
      have hC10 := hC9.below hB17
      have hR10 := hR9.below (hB17.mono (by omega))
      have hown5 := hown4.on hB17
      have hs10 := hB17.size
      obtain ⟨A8, c8, hv8, _, hA8, hRb⟩ := hown5.form
      obtain ⟨L8, hL8⟩ : ∃ L8, (F ++ ms).length = L8 := ⟨_, rfl⟩
      rw [hL8] at hv8
      replace hL8 := Lib.hid hL8
      clear hB16 hB17 hO9 hC9 hR9 hown4 hown5
      subst hv8
      go_wp2_with fail
      refine (refSum_any A8 c8 L8 (F ++ ms) w10 hL8.out hRb hA8 (by have h8 := hL8.out; rw [List.length_append, hLF.out, HML.out] at h8; omega)).mono ?_
      rintro e w11 ⟨rfl, hB19⟩
      have hB20 := below_then hB18 hB19
      have hO11 := hO10.below hB19
      have hC11 := hC10.below hB19
      have hR11 := hR10.below (hB19.mono (by omega))
      have hs11 := hB19.size
      clear hB18 hB19 hO10 hC10 hR10 hRb
      go_wp2_with fail
      refine (write_any g F ms A m c w11 (hK.below hB20) (by omega) hO11 HML.out (hr.on hB20) (hr.apart (by omega)) hmc hc2 (by have := hLF.out; omega)).mono ?_
      rintro e w12 ⟨rfl, hB21, hO12⟩
      have hC12 := hC11.but hB21 (by omega)
      have hR12 := (hR11.more (show gc ≤ w11.heap.size by omega)).but hB21 HAP.out
      have hB22 := hB20.trans (hB21.below (by omega) hB20.size)
      clear hB20 hB21 hC11 hR11 hO11
      go_wp2_with fail
      refine (hashSum_any g (F ++ ms) w12 (hK.below hB22) (by have := hB22.size; omega) hO12 (by rw [List.length_append, hLF.out, HML.out]; omega)).mono ?_
      rintro e w13 ⟨rfl, hB23⟩
      have hB24 := below_then hB22 hB23
      have hC13 := hC12.below hB23
      have hR13 := hR12.on hB23
      clear hB22 hB23 hO12 hC12 hR12
      go_wp2_with fail
      refine (hashSum_any gc (F ++ ms) w13 (hK.below hB24) (by have := hB24.size; omega) hC13 (by rw [List.length_append, hLF.out, HML.out]; omega)).mono ?_
      rintro e w14 ⟨rfl, hB25⟩
      have hB26 := below_then hB24 hB25
      have hR14 := hR13.on hB25
      clear hB24 hB25 hC13 hR13
      go_wp2_with fail
      refine (sum_any D d k ps w14 (hK.below hB26) (by have := hB26.size; omega) HL.out ((hP.below hB26).more hB26.size) (by omega) (by rw [hF.out, hLF.out]; omega)).mono ?_
      rintro e w15 ⟨rfl, hB27⟩
      rw [hF.out]
      have hB28 := below_then hB26 hB27
      have hR15 := hR14.on hB27
      clear hB26 hB27 hR14
      go_wp2_with fail
      refine (refSum_any A6 c6 LF F w15 hLF.out hR15 hA6 (by omega)).mono ?_
      rintro e w16 ⟨rfl, hB29⟩
      go_wp2
      go_ret
      exact ⟨rfl, below_then hB28 hB29⟩

theorem contract (H : Type) (enc : TypeId × Value → H) (W : World) (base : Nat) (args : Array Value) (ds gs : List (DataW H)) (before : List MemPlace)
    (hval : ∀ (j : Nat) t v, Tryd.f4.params[j]? = some t → args[j]? = some v → Value.okWide Tryd.prog W .any base t v)
    (hW : DataW.Whole enc Tryd.prog Tryd.f4.params.toList Rows.shaPiecesSpec.vars false W args.toList ds gs before) (hL : laidMetH Tryd.prog Rows.shaPiecesRow.laid W) :
    Calls Tryd.prog 4 args W fun e W' => ∃ v, e = .returned v ∧ Rows.shaPiecesSpec.post enc Tryd.prog Tryd.f4 false true false false W args v W' := by
  have hW' := hW
  obtain ⟨p, q, hA0, hV, rfl, hfz, hnd⟩ := hW
  have hA : DataW.TrodAll enc Tryd.prog W 0 (fun _ => true) true Tryd.f4.params.toList args.toList ds p := hA0
  rw [Tryd.params4] at hA hval
  obtain ⟨v0, vs0, d0, ds0, p0, q0, hargs, rfl, rfl, h0, r0⟩ := trodAll_cons hA
  obtain ⟨v1, vs1, d1, ds1, p1, q1, rfl, rfl, rfl, h1, r1⟩ := trodAll_cons r0
  obtain ⟨rfl, rfl, rfl⟩ := trodAll_nil r1
  obtain rfl : args = #[v0, v1] := by cases args; simp_all
  have fin : ∀ W' : World, Below W.heap.size W W' → ∃ v, Ending.returned (.bool true) = .returned v ∧ Rows.shaPiecesSpec.post enc Tryd.prog Tryd.f4 false true false false W #[v0, v1] v W' := fun W' hb =>
    ⟨_, rfl, law_post laidOut Tryd.underlying4 (by kernel_rfl) (by kernel_rfl) rfl ⟨rfl, rfl, rfl⟩ hW' hb⟩
  obtain ⟨D, d, ps, rfl, hP, _, _⟩ := open_parts (hval 0 31 v0 rfl rfl) h0
  obtain ⟨A, c, ms, rfl, nA, rA, hmc, hc2⟩ := open_bytes (hval 1 22 v1 rfl rfl) h1
  obtain ⟨hK, hg⟩ := tabs_of hL
  have walk : Calls Tryd.prog 4 #[.slice D ps.length d, .slice A ms.length c] W fun e w' => e = .returned (.bool true) ∧ Below W.heap.size W w' := by
    by_cases hn : ps.length ≤ 20 ∧ ms.length ≤ 200
    · exact walk D A d c _ _ ps ms W hK hg rfl hP rfl rA nA hmc hc2 hn.1 hn.2
    · exact long_walk D A d c _ _ W hK hg (by omega)
  refine walk.mono fun e W' ⟨he, hb⟩ => ?_
  subst he
  exact fin W' hb

theorem laid_met (os : Os) (args : Array Value) : laidMetH Tryd.prog Rows.shaPiecesRow.laid ((World.doorLaid Tryd.prog 400 os).forCall (fun _ _ => 0) ⟨#[], args, []⟩).memory :=
  laidMetH_of_parts3 (fuel := 8) (laidMet_of_run' 8 (by kernel_rfl) (by kernel_rfl)) (by kernel_rfl) (by kernel_rfl)
theorem reads (os : Os) {H : Type} (enc : TypeId × Value → H) : ∃ places, DataW.whole enc Tryd.prog ((World.doorLaid Tryd.prog 400 os).forCall (fun _ _ => 0) ⟨#[], #[.slice none 0 0, .slice none 0 0], []⟩).memory Tryd.f4.params.toList Rows.shaPiecesSpec.vars false (#[.slice none 0 0, .slice none 0 0] : Array Value).toList 8 = some ([.nil, .nil], [], places) :=
  ⟨[], by kernel_rfl⟩

set_option maxRecDepth 100000 in
theorem lifted (os : Os) (started : os.Started) (H : Type) (enc : TypeId × Value → H) (F : Stop.Interp) :
    ReturnsInHanded {} Tryd.checked os 4 .any ((OpenSpec.ofChange Rows.shaPiecesSpec).preRow enc Tryd.prog Tryd.f4 Rows.shaPiecesRow.domain false Rows.shaPiecesRow.laid) (((OpenSpec.ofChange Rows.shaPiecesSpec).at F).post enc Tryd.prog Tryd.f4 false true false false) := by
  obtain ⟨places, hx⟩ := reads os enc
  refine returnsInHanded_of_row (C := Tryd.checked) (s := OpenSpec.ofChange Rows.shaPiecesSpec) own started (by kernel_rfl) Tryd.func4
    (witness_row_atRef (enc := enc) (C := Tryd.checked) false (World.doorLaid Tryd.prog 400 os) #[.slice none 0 0, .slice none 0 0] rfl (by kernel_rfl) (by kernel_rfl) (by kernel_rfl)
      (OpenSpec.preRow_of_cond 8 hx (by kernel_rfl) (fun k hk => by cases hk) (by kernel_rfl) (laid_met os _))) ?_
  intro W base args ds gs before hval hW _ _ _ hL _ _
  exact contract H enc W base args ds gs before hval hW hL

theorem said : Rows.ShaPiecesSaid :=
  OpenClaim.holds_of_cond 4 Tryd.f4 rfl rfl rfl rfl rfl rfl rfl ⟨rfl, rfl, rfl, rfl, rfl⟩ rfl rfl rfl rfl rfl (by kernel_rfl) Tryd.func4 (by kernel_rfl)
    (of_decide_eq_true (by kernel_rfl)) (by unfold Func.isWrapper; first | (rw [if_pos (by decide +kernel)]; kernel_rfl) | (rw [if_neg (by decide +kernel)]; exact ⟨rfl, rfl⟩))
    (fun os started H enc _ F => by rw [OpenClaim.pre_eq_preRow]; exact lifted os started H enc F)

theorem plain (f : FuncId) (fn : Func) (hf : Tryd.pinned.checked.prog.funcNamed "fellowship/fellowshiplaw02.ShaPieces" = some f) (hfn : Tryd.pinned.checked.prog.funcs[f]? = some fn) :
    false = Tryd.pinned.checked.prog.looks [] ∧ ∀ (j : Nat) t, fn.params[j]? = some t → Tryd.pinned.checked.prog.wantsStandIn t = false := by
  obtain rfl : f = 4 := Option.some.inj ((show Tryd.prog.funcNamed "fellowship/fellowshiplaw02.ShaPieces" = some 4 by kernel_rfl).symm.trans hf) |>.symm
  obtain rfl : fn = Tryd.f4 := (Option.some.inj (Tryd.func4.symm.trans hfn)).symm
  refine ⟨by kernel_rfl, fun j t ht => ?_⟩
  rw [Tryd.params4] at ht
  have hm : t ∈ [31, 22] := by simpa using Array.mem_of_getElem? ht
  have hall : ([31, 22].all fun u => !Tryd.prog.wantsStandIn u) = true := by kernel_rfl
  exact (show Tryd.prog.wantsStandIn t = false by simpa using List.all_eq_true.1 hall t hm)
end Go.Proofs.YtcnhnmoenoldaaaDoor.shaPieces
namespace Go.Proofs.YtcnhnmoenoldaaaDoor
theorem shaPieces_card : Rows.ShaPiecesCardSaid :=
  Claim7.holds_tied_plain_at .later [] _ _ _ _ shaPieces.said (fun _ h => by cases h) (by kernel_rfl) (fun _ h => by cases h) shaPieces_row_tie rfl ⟨rfl, rfl⟩ (by kernel_rfl) rfl shaPieces.plain (by kernel_rfl)
#print axioms shaPieces_card
end Go.Proofs.YtcnhnmoenoldaaaDoor
