/- Package onetime: bytes written to a coder. -/
import Derived.Test.YtiadgningbogmaaDoorOCoder
import Derived.Test.YtiadgningbogmaaDoorOHold
namespace Go.Proofs.YtiadgningbogmaaDoor
open Go.RowKit
/-- The coder in block g has taken these bytes. -/
def CoderOf (w : World) (g R : Nat) (bs : List UInt8) : Prop := ∃ t rest, CoderIs w g (limbsOf R) t rest (bs.length % 16) ∧ Took R bs t rest
theorem CoderOf.on {w w' : World} {g R : Nat} {bs : List UInt8} (c : CoderOf w g R bs) (hb : Below w.heap.size w w') : CoderOf w' g R bs := by
  obtain ⟨t, rest, h1, h2⟩ := c
  exact ⟨t, rest, h1.on hb, h2⟩
theorem CoderOf.but {w w' : World} {g R b : Nat} {bs : List UInt8} (c : CoderOf w g R bs) (hb : But b w w') (hg : g ≠ b) : CoderOf w' g R bs := by
  obtain ⟨t, rest, h1, h2⟩ := c
  exact ⟨t, rest, h1.but hb hg, h2⟩
theorem blockOf_full (rest : List UInt8) (h : rest.length = 16) : blockOf rest 16 = rest ++ [1] := by
  rw [blockOf, List.take_of_length_le (by omega)]; simp
theorem ccopied {wr w3 : World} {g hd n : Nat} {r t : List Nat} {rest : List UInt8} (us : List UInt8) (hI : CoderIs wr g r t rest n) (hl : hd + us.length ≤ 16) (hw3 : w3 = wr.setCells g (10 + hd) (us.map cellOf)) : But g wr w3 ∧ CoderIs w3 g r t (restPut rest us hd) n := by
  subst hw3
  refine ⟨(But.refl g wr).setCells _ _, hI.1, hI.2.1, by rw [restPut_length _ _ _ (by rw [hI.2.2.1]; omega)]; exact hI.2.2.1, ?_⟩
  have h := hI.2.2.2.setCells (cs := us.map cellOf) (o := 10 + hd) (by rw [coderCells_length hI.1 hI.2.1 hI.2.2.1, List.length_map]; omega)
  rw [coder_putRest hI.1 hI.2.1 _ _ hI.2.2.1 hl] at h
  exact h
theorem cheld {w w3 : World} {g n m : Nat} {r t : List Nat} {rest : List UInt8} (hI : CoderIs w g r t rest n) (hw3 : w3 = w.setCell ⟨g, 26, none⟩ (.int .i64 (m : Int))) : But g w w3 ∧ CoderIs w3 g r t rest m := by
  subst hw3
  refine ⟨(But.refl g w).setCell _ _, hI.1, hI.2.1, hI.2.2.1, ?_⟩
  have h := hI.2.2.2.set 26 (.int .i64 (m : Int))
  rw [coder_setHeld hI.1 hI.2.1 hI.2.2.1] at h
  exact h
theorem size_int : (Tryd.prog.info? 3).map (·.size) = some 1 := by kernel_rfl
set_option maxRecDepth 100000 in
set_option maxHeartbeats 2000000 in
theorem cwrite_any (g R : Nat) (bs us : List UInt8) (A : Option Addr) (n c : Nat) (w : World) (hR : R < 1361129467683753853853498429727072845824) (hH : CoderOf w g R bs) (hl : us.length = n) (hr : Row w w.heap.size A us) (hA : us ≠ [] → ∀ p, A = some p → p.block ≠ g) (hc : n ≤ c) (hc2 : c ≤ maxLen) :
    Calls Tryd.prog 16 #[.pointer (some ⟨g, 0, none⟩), .slice A n c] w fun e w' => e = .returned (.tuple #[]) ∧ But g w w' ∧ CoderOf w' g R (bs ++ us) := by
  obtain ⟨t, rest, hI, hh⟩ := hH
  have HL := Lib.hid hl
  clear hl
  unfold maxLen at hc2
  go_enter Tryd.func16, Tryd.ntmps16
  go_wp2_with fail
  go_loopw [1] (fun b wr => ∃ (k : Nat) (A' : Option Addr) (c' : Nat) (t' : List Nat) (rest' : List UInt8), k ≤ n ∧ b = .slice A' (n - k) c' ∧ n - k ≤ c' ∧ c' ≤ 9223372036854775807 ∧ But g w wr ∧ Row wr wr.heap.size A' (us.drop k) ∧ (us.drop k ≠ [] → ∀ p, A' = some p → p.block ≠ g) ∧ CoderIs wr g (limbsOf R) t' rest' ((bs.length + k) % 16) ∧ Took R (bs ++ us.take k) t' rest') (fun b _ => lenOf b)
  case atStart => exact ⟨0, A, c, t, rest, Nat.zero_le _, rfl, by omega, by omega, But.refl _ _, by simpa using hr, hA, hI, by simpa using hh⟩
  case round =>
    clear hh hI hr hA
    obtain ⟨k, A', c', t', rest', hk, rfl, hc', hc3, hB, hRw, hA', hI, hh⟩ := hrel
    have HX : Hid ((us.drop k).length = n - k) := by show _ = _; rw [List.length_drop, HL.out]
    have h64 := hI.2.2.1
    have HD := Lib.hid (show (bs ++ us.take k).length % 16 = (bs.length + k) % 16 by rw [List.length_append, List.length_take, HL.out, Nat.min_eq_left hk])
    have hlt64 := Nat.mod_lt (bs.length + k) (show 16 > 0 by omega)
    have HR : Hid (n - k ≤ n ∧ k + (n - k) = n) := ⟨by omega, by omega⟩
    generalize hdd : (bs.length + k) % 16 = hd at *
    generalize hrr : n - k = r at *
    replace hdd := Lib.hid hdd
    replace hrr := Lib.hid hrr
    have d0 := hI.held
    have hle : hd ≤ 16 := by omega
    have hleI : (hd : Int) ≤ 16 := by omega
    have hne : ¬ 16 = hd := by omega
    by_cases h0 : 0 < r
    · obtain ⟨m, hm1, hm2, HM, hmf⟩ : ∃ m, m ≤ r ∧ hd + m ≤ 16 ∧ Hid (min r (16 - hd) = m) ∧ (hd + m = 16 ∨ (hd + m < 16 ∧ m = r)) := by
        by_cases hfull : 16 ≤ hd + r
        · exact ⟨16 - hd, by omega, by omega, by show _ = _; omega, by omega⟩
        · exact ⟨r, by omega, by omega, by show _ = _; omega, by omega⟩
      have HU : Hid (((us.drop k).take m).length = m) := by show _ = _; rw [List.length_take, HX.out]; omega
      have HW : Hid ((us.drop k).take (16 - hd) = (us.drop k).take m) := by
        show _ = _
        have hm := HM.out
        rcases Nat.le_total r (16 - hd) with h | h
        · rw [List.take_of_length_le (by rw [HX.out]; exact h), List.take_of_length_le (by rw [HX.out]; omega)]
        · rw [show m = 16 - hd by omega]
      have hm0 : 0 < m := by omega
      go_wp2_with fail
      refine wp_region_tail 9 (by kernel_rfl) (by kernel_rfl) ?_
      intro w2 hw2
      have hB2 : But g w w2 := by rw [hw2]; exact hB.drew
      have hI2 : CoderIs w2 g (limbsOf R) t' rest' hd := by rw [hw2]; exact hI
      have hR2 : Row w2 w2.heap.size A' (us.drop k) := by rw [hw2]; exact hRw
      have d2 := hI2.held
      clear hw2 hB hI hRw d0
      simp only [List.take_succ_cons, List.take_zero, List.drop_succ_cons, List.drop_zero]
      repeat still_step
      refine wpStill_nil ?_
      have hTT := hI2.2.2.2.there (10 + hd) m (by rw [coderCells_length hI2.1 hI2.2.1 hI2.2.2.1]; omega)
      have i1 : (0 : Int) ≤ (m : Int) := by omega
      go_wp2_with (first
        | (refine copy_row rfl (.tmp 15) (.tmp 16) rfl g (10 + hd) (16 - hd) (16 - hd) r c' w2.heap.size m A' (us.drop k) rfl rfl HX.out HM.out hR2 hTT ?_
           intro w3 hw3
           rw [HW.out] at hw3
           obtain ⟨hb3, hI3⟩ := ccopied _ hI2 (by rw [HU.out]; omega) hw3
           have hB3 := hB2.trans hb3
           have hR3 := hR2.but hb3 hA'
           have d3 := hI3.held
           have hT3 := hI3.2.2.2.there 26 1 (by rw [coderCells_length hI3.1 hI3.2.1 hI3.2.2.1]; omega)
           clear hw3 hB2 hI2 hR2 d2 hTT hb3)
        | (refine cut_from rfl (.tmp 18) (.tmp 19) rfl A' r c' m rfl rfl hm1 ?_)
        | (rw [show (hd : Int) + (m : Int) = ((hd + m : Nat) : Int) from (Int.natCast_add hd m).symm]
           refine store_step rfl 3 _ _ rfl g 26 .i64 _ rfl rfl size_int hT3 ?_
           intro w4 hw4
           obtain ⟨hb4, hI4⟩ := cheld hI3 hw4
           have hB4 := hB3.trans hb4
           have hR4 := hR3.but hb4 hA'
           have d4 := hI4.held
           clear hw4 hB3 hI3 hR3 d3 hT3 hb4))
      · rename_i he K0 hK0
        have hfull : hd + m = 16 := by simp at he; omega
        clear he
        rw [hfull] at hI4
        refine (work_any g 16 (limbsOf R) t' _ w4 hI4 (Nat.le_refl _)).mono ?_
        rintro e w5 ⟨rfl, hb5, hI5⟩
        rw [blockOf_full _ hI4.2.2.1] at hI5
        have hB5 := hB4.trans hb5
        have hR5 := hR4.but hb5 hA'
        clear hB4 hR4 hI4 d4 hb5
        go_wp2_with fail
        go_roundw
        case rel =>
          have hdv := hdd.out
          refine ⟨k + m, cutA A' m c', c' - m, nextN R t' (restPut rest' ((us.drop k).take m) hd ++ [1]), restPut rest' ((us.drop k).take m) hd, by have := HR.out; omega, ?_, ?_, by omega, hB5, ?_, ?_, ?_, ?_⟩
          · rw [show r - m = n - (k + m) by have := hrr.out; omega]
          · have := hrr.out; omega
          · have h := hR5.cut m c' (by rw [HX.out]; exact hc')
            rw [List.drop_drop] at h
            exact h
          · intro hne p hp
            obtain ⟨q, hq, e⟩ := cutA_block hp
            rw [e]
            refine hA' (fun e0 => hne ?_) q hq
            rw [← List.drop_drop, e0, List.drop_nil]
          · rw [show (bs.length + (k + m)) % 16 = 0 by omega]
            exact hI5
          · have h := took_full hh hR h64 (us := (us.drop k).take m) (by rw [HD.out, HU.out]; omega) (restPut rest' ((us.drop k).take m) hd)
            rw [HD.out, List.append_assoc, ← List.take_add] at h
            exact h
        case measure => simp [lenOf]; omega
      · rename_i he
        have hless : hd + m < 16 := by
          rcases hmf with h | h
          · simp at he; omega
          · exact h.1
        have hmr : m = r := by omega
        clear he
        go_roundw
        case rel =>
          have hdv := hdd.out
          refine ⟨k + m, cutA A' m c', c' - m, t', restPut rest' ((us.drop k).take m) hd, by have := HR.out; omega, ?_, ?_, by omega, hB4, ?_, ?_, ?_, ?_⟩
          · rw [show r - m = n - (k + m) by have := hrr.out; omega]
          · have := hrr.out; omega
          · have h := hR4.cut m c' (by rw [HX.out]; exact hc')
            rw [List.drop_drop] at h
            exact h
          · intro hne p hp
            obtain ⟨q, hq, e⟩ := cutA_block hp
            rw [e]
            refine hA' (fun e0 => hne ?_) q hq
            rw [← List.drop_drop, e0, List.drop_nil]
          · rw [show (bs.length + (k + m)) % 16 = hd + m by omega]
            exact hI4
          · have h := took_less hh h64 (us := (us.drop k).take m) (by rw [HD.out, HU.out]; omega)
            rw [HD.out, List.append_assoc, ← List.take_add] at h
            exact h
        case measure => simp [lenOf]; omega
    · go_wp2_with fail
      go_end0
      refine ⟨rfl, hB, t', rest', ?_, ?_⟩
      · rw [List.length_append, HL.out]
        have e1 := HR.out
        have e2 := hdd.out
        rw [show (bs.length + n) % 16 = hd by rw [← e2, show k = n by omega]]
        exact hI
      · rw [List.take_of_length_le (by have := HL.out; have := HR.out; omega)] at hh
        exact hh
end Go.Proofs.YtiadgningbogmaaDoor
