/- A hash that takes bytes: held, Write. -/
import Derived.Test.YtmhelmmonkgmmaaDoorSBlock
import Derived.Test.YtmhelmmonkgmmaaDoorWParts
namespace Go.Proofs.YtmhelmmonkgmmaaDoor
open Go.RowKit
/-- A chain and the waiting bytes are those of the bytes bs. -/
def Holds (bs : List UInt8) (o : Oct) (rest : List UInt8) : Prop := o = shaChain bs (bs.length / 64) ∧ rest.take (bs.length % 64) = bs.drop (64 * (bs.length / 64))
theorem holds_less {bs us : List UInt8} {o : Oct} {rest : List UInt8} (h : Holds bs o rest) (hr : rest.length = 64) (hl : bs.length % 64 + us.length < 64) : Holds (bs ++ us) o (restPut rest us (bs.length % 64)) := by
  have e1 : (bs ++ us).length / 64 = bs.length / 64 := by rw [List.length_append]; omega
  have e2 : (bs ++ us).length % 64 = bs.length % 64 + us.length := by rw [List.length_append]; omega
  refine ⟨?_, ?_⟩
  · rw [e1, shaChain_append _ _ _ (by omega)]; exact h.1
  · rw [e1, e2, restPut_take _ _ _ (by omega), h.2, List.drop_append_of_le_length (by omega)]
theorem holds_full {bs us : List UInt8} {o : Oct} {rest : List UInt8} (h : Holds bs o rest) (hr : rest.length = 64) (hl : bs.length % 64 + us.length = 64) (rest' : List UInt8) : Holds (bs ++ us) (shaBlock o (restPut rest us (bs.length % 64))) rest' := by
  have e1 : (bs ++ us).length / 64 = bs.length / 64 + 1 := by rw [List.length_append]; omega
  have e2 : (bs ++ us).length % 64 = 0 := by rw [List.length_append]; omega
  have e3 : restPut rest us (bs.length % 64) = ((bs ++ us).drop (64 * (bs.length / 64))).take 64 := by
    have := restPut_take rest us (bs.length % 64) (by omega)
    rw [List.take_of_length_le (by rw [restPut_length _ _ _ (by omega)]; omega), h.2] at this
    rw [this, List.drop_append_of_le_length (by omega), List.take_of_length_le]
    rw [List.length_append, List.length_drop]; omega
  refine ⟨?_, ?_⟩
  · rw [e1, shaChain, shaChain_append _ _ _ (by omega), ← h.1, e3]
  · rw [e1, e2, List.take_zero, List.drop_eq_nil_of_le (by rw [List.length_append]; omega)]
/-- The hash in block g has taken these bytes. -/
def HashOf (w : World) (g : Nat) (bs : List UInt8) : Prop := ∃ o rest, HashIs w g o rest bs.length ∧ Holds bs o rest
theorem hash_count (o : Oct) (rest : List UInt8) (n : Nat) (h : rest.length = 64) : (hashCells o rest n)[72]? = some (.int .u64 (n : Int)) := by
  rw [hashCells, List.getElem?_append_right (by simp [Oct.list, h])]
  simp [Oct.list, h]
theorem hash_setCount (o : Oct) (rest : List UInt8) (n m : Nat) (h : rest.length = 64) : (hashCells o rest n).set 72 (.int .u64 (m : Int)) = hashCells o rest m := by
  rw [hashCells, List.set_append_right _ _ (by simp [Oct.list, h])]
  simp [Oct.list, h, hashCells]
theorem hash_splice (o : Oct) (rest us : List UInt8) (n h : Nat) (hr : rest.length = 64) (hl : h + us.length ≤ 64) : splice (hashCells o rest n) (8 + h) (us.map cellOf) = hashCells o (restPut rest us h) n := by
  have e := splice_mid (o.list.map wcell) (rest.map cellOf) [.int .u64 (n : Int)] (us.map cellOf) h (by simp; omega)
  rw [show (o.list.map wcell).length = 8 by simp [Oct.list]] at e
  unfold hashCells restPut
  rw [e]
  simp [List.map_take, List.map_drop]
theorem HashIs.count {w : World} {g n : Nat} {o : Oct} {rest : List UInt8} (h : HashIs w g o rest n) : w.cell? ⟨g, 72, none⟩ = some (.int .u64 (n : Int)) := h.2.get (hash_count o rest n h.1)
theorem HashIs.row {w : World} {g n : Nat} {o : Oct} {rest : List UInt8} (h : HashIs w g o rest n) : Row w w.heap.size (some ⟨g, 8, none⟩) rest := by
  refine .inr ⟨g, 8, rfl, h.2.lt, fun j u hu => h.2.get ?_⟩
  have hj : j < rest.length := by
    rcases Nat.lt_or_ge j rest.length with hlt | hge
    · exact hlt
    · rw [List.getElem?_eq_none hge] at hu; cases hu
  rw [hashCells, List.append_assoc, List.getElem?_append_right (by simp [Oct.list])]
  simp [Oct.list]
  rw [List.getElem?_append_left (by simpa using hj), List.getElem?_map, hu]
  rfl
theorem held_any (g n : Nat) (o : Oct) (rest : List UInt8) (w : World) (hH : HashIs w g o rest n) (_hn : n ≤ 1000000) :
    Calls Tryd.prog 40 #[.pointer (some ⟨g, 0, none⟩)] w fun e w' => e = .returned (.int .i64 ((n % 64 : Nat) : Int)) ∧ w = w' := by
  have hc := hH.count
  go_enter Tryd.func40, Tryd.ntmps40
  go_wp2
  go_ret
  exact ⟨ret_int (by omega), rfl⟩
theorem copied {wr w3 : World} {g hd n : Nat} {o : Oct} {rest : List UInt8} (us : List UInt8) (hI : HashIs wr g o rest n) (hl : hd + us.length ≤ 64) (hw3 : w3 = wr.setCells g (8 + hd) (us.map cellOf)) : But g wr w3 ∧ HashIs w3 g o (restPut rest us hd) n := by
  subst hw3
  refine ⟨(But.refl g wr).setCells _ _, by rw [restPut_length _ _ _ (by rw [hI.1]; omega)]; exact hI.1, ?_⟩
  have h := hI.2.setCells (cs := us.map cellOf) (o := 8 + hd) (by rw [hashCells_length _ _ _ hI.1, List.length_map]; omega)
  rw [hash_splice _ _ _ _ _ hI.1 hl] at h
  exact h
set_option maxRecDepth 100000 in
theorem write_any (g : Nat) (bs us : List UInt8) (A : Option Addr) (n c : Nat) (w : World) (hK : Tabs w) (hg : 21 ≤ g) (hH : HashOf w g bs) (hl : us.length = n) (hr : Row w w.heap.size A us) (hA : us ≠ [] → ∀ p, A = some p → p.block ≠ g) (hc : n ≤ c) (hc2 : c ≤ maxLen) (hn : bs.length + n ≤ 1000000) :
    Calls Tryd.prog 38 #[.pointer (some ⟨g, 0, none⟩), .slice A n c] w fun e w' => e = .returned (.tuple #[]) ∧ But g w w' ∧ HashOf w' g (bs ++ us) := by
  obtain ⟨o, rest, hI, hh⟩ := hH
  have HL := Lib.hid hl
  clear hl
  unfold maxLen at hc2
  have hcnt := hI.count
  have hf := hI.2.frozen 72
  have hm := Nat.mod_lt bs.length (show 64 > 0 by omega)
  go_enter Tryd.func38, Tryd.ntmps38
  go_wp2_with fail
  refine (held_any g _ o rest _ hI (by omega)).mono ?_
  rintro e w' ⟨rfl, rfl⟩
  go_wp2_with fail
  have hB0 : But g w (w.setCell ⟨g, 72, none⟩ (.int .u64 ((bs.length : Int) + (n : Int)))) := (But.refl g w).setCell _ _
  have hI0 : HashIs (w.setCell ⟨g, 72, none⟩ (.int .u64 ((bs.length : Int) + (n : Int)))) g o rest (bs.length + n) := by
    refine ⟨hI.1, ?_⟩
    have h := hI.2.set 72 (.int .u64 ((bs.length + n : Nat) : Int))
    rw [hash_setCount _ _ _ _ hI.1, Int.natCast_add] at h
    exact h
  generalize w.setCell ⟨g, 72, none⟩ (.int .u64 ((bs.length : Int) + (n : Int))) = w0 at *
  clear hcnt hf
  go_loopw [1, 4] (fun b h wr => ∃ (k : Nat) (A' : Option Addr) (c' : Nat) (o' : Oct) (rest' : List UInt8), k ≤ n ∧ b = .slice A' (n - k) c' ∧ h = .int .i64 (((bs.length + k) % 64 : Nat) : Int) ∧ n - k ≤ c' ∧ c' ≤ 9223372036854775807 ∧ But g w wr ∧ Row wr wr.heap.size A' (us.drop k) ∧ (us.drop k ≠ [] → ∀ p, A' = some p → p.block ≠ g) ∧ HashIs wr g o' rest' (bs.length + n) ∧ Holds (bs ++ us.take k) o' rest') (fun b _ _ => lenOf b)
  case atStart => exact ⟨0, A, c, o, rest, Nat.zero_le _, rfl, by simp, by omega, by omega, hB0, by simpa using hr.but hB0 hA, hA, hI0, by simpa using hh⟩
  case round =>
    clear hB0 hI0 hh hI
    obtain ⟨k, A', c', o', rest', hk, rfl, rfl, hc', hc3, hB, hR, hA', hI, hh⟩ := hrel
    have HX : Hid ((us.drop k).length = n - k) := by show _ = _; rw [List.length_drop, HL.out]
    have hKr := hK.but hB hg
    have h64 := hI.1
    have hT := hI.2.there 8 64 (by rw [hashCells_length _ _ _ h64]; omega)
    have HD := Lib.hid (show (bs ++ us.take k).length % 64 = (bs.length + k) % 64 by rw [List.length_append, List.length_take, HL.out, Nat.min_eq_left hk])
    have hlt64 := Nat.mod_lt (bs.length + k) (show 64 > 0 by omega)
    have HR : Hid (n - k ≤ n ∧ k + (n - k) = n) := ⟨by omega, by omega⟩
    have HP := Lib.hid (rfl : (bs.length + k) % 64 = (bs.length + k) % 64)
    generalize hdd : (bs.length + k) % 64 = hd at *
    generalize hrr : n - k = r at *
    replace hdd := Lib.hid hdd
    replace hrr := Lib.hid hrr
    have hle : hd ≤ 64 := by omega
    have hleI : (hd : Int) ≤ 64 := by omega
    have hne : ¬ 64 = hd := by omega
    by_cases h0 : 0 < r
    · by_cases hfull : 64 ≤ hd + r
      · have HM : Hid (min r (64 - hd) = 64 - hd) := by show _ = _; omega
        have HU : Hid (((us.drop k).take (64 - hd)).length = 64 - hd) := by show _ = _; rw [List.length_take, HX.out]; omega
        have hTT := hI.2.there (8 + hd) (64 - hd) (by rw [hashCells_length _ _ _ h64]; omega)
        have f1 : (64 : Int) = (hd : Int) + ((64 - hd : Nat) : Int) := by omega
        have F1 := Lib.hid f1
        have F2 : Hid (((hd : Int) + ((64 - hd : Nat) : Int) == 64) = true) := by show _ = true; rw [← f1]; rfl
        clear f1
        have hm1 : 64 - hd ≤ r := by omega
        have hm2 : 64 - hd ≤ 64 := by omega
        generalize hmm : 64 - hd = m at *
        have f2 := F2.out
        go_wp2_with (first
          | (refine copy_row rfl (.tmp 25) (.tmp 26) rfl g (8 + hd) m m r c' wr.heap.size m A' (us.drop k) rfl rfl HX.out HM.out hR hTT ?_
             intro w3 hw3
             obtain ⟨hB3, hI3⟩ := copied _ hI (by rw [HU.out]; have := F1.out; omega) hw3
             clear hw3)
          | (clear hmm
             refine cut_from rfl (.tmp 28) (.tmp 29) rfl A' r c' m rfl rfl hm1 ?_))
        have f3 : (hd : Int) + (m : Int) = 64 := by have := F1.out; omega
        clear f2
        refine wp_region_tail 7 (by kernel_rfl) (by kernel_rfl) ?_
        intro w4 hw4
        have hB4 : But g wr w4 := by rw [hw4]; exact hB3.drew
        have hI4 : HashIs w4 g o' (restPut rest' ((us.drop k).take m) hd) (bs.length + n) := by rw [hw4]; exact hI3
        clear hw4 hB3 hI3
        simp only [List.take_succ_cons, List.take_zero, List.drop_succ_cons, List.drop_zero]
        repeat still_step
        refine wpStill_nil ?_
        go_wp2_with fail
        refine (work_any g g 8 64 _ o' _ _ _ (hKr.but hB4 hg) hI4 hI4.row hI4.1 (by omega) (by unfold maxLen; omega)).mono ?_
        rintro e w5 ⟨rfl, hB5, hI5⟩
        have hB6 := hB4.trans hB5
        go_wp2_with fail
        go_roundw
        case rel =>
          have hdv := hdd.out
          refine ⟨k + m, cutA A' m c', c' - m, _, _, by have := HR.out; omega, ?_, ?_, ?_, by omega, hB.trans hB6, ?_, ?_, hI5, ?_⟩
          · rw [show r - m = n - (k + m) by have := hrr.out; omega]
          · rw [show (bs.length + (k + m)) % 64 = 0 by omega]; rfl
          · have := hrr.out; omega
          · have h := (hR.but hB6 hA').cut m c' (by rw [HX.out]; exact hc')
            rw [List.drop_drop] at h
            exact h
          · intro hne p hp
            obtain ⟨q, hq, e⟩ := cutA_block hp
            rw [e]
            refine hA' (fun e0 => hne ?_) q hq
            rw [← List.drop_drop, e0, List.drop_nil]
          · have h := holds_full hh h64 (us := (us.drop k).take m) (by rw [HD.out, HU.out]; omega) (restPut rest' ((us.drop k).take m) hd)
            rw [HD.out, List.append_assoc, ← List.take_add] at h
            exact h
        case measure => simp [lenOf]; omega
      · have hm1 : r ≤ 64 - hd := by omega
        have HM : Hid (min r (64 - hd) = r) := by show _ = _; omega
        have HU : Hid ((us.drop k).take (64 - hd) = us.drop k) := by show _ = _; rw [List.take_of_length_le (by rw [HX.out]; omega)]
        have hTT := hI.2.there (8 + hd) r (by rw [hashCells_length _ _ _ h64]; omega)
        have f2 : ((hd : Int) + (r : Int) == 64) = false := by simp; omega
        go_wp2_with (first
          | (refine copy_row rfl (.tmp 25) (.tmp 26) rfl g (8 + hd) (64 - hd) (64 - hd) r c' wr.heap.size r A' (us.drop k) rfl rfl HX.out HM.out hR hTT ?_
             intro w3 hw3
             rw [HU.out] at hw3
             obtain ⟨hB3, hI3⟩ := copied _ hI (by rw [HX.out]; omega) hw3
             clear hw3)
          | (refine cut_from rfl (.tmp 28) (.tmp 29) rfl A' r c' r rfl rfl (Nat.le_refl _) ?_))
        go_roundw
        case rel =>
          have hdv := hdd.out
          refine ⟨k + r, cutA A' r c', c' - r, _, _, by have := HR.out; omega, ?_, ?_, ?_, by omega, hB.trans hB3, ?_, ?_, hI3, ?_⟩
          · rw [show n - (k + r) = 0 by have := hrr.out; omega]
          · rw [show (bs.length + (k + r)) % 64 = hd + r by omega, Int.natCast_add]
          · have := hrr.out; omega
          · have h := (hR.but hB3 hA').cut r c' (by rw [HX.out]; exact hc')
            rw [List.drop_drop] at h
            exact h
          · intro hne p hp
            obtain ⟨q, hq, e⟩ := cutA_block hp
            rw [e]
            refine hA' (fun e0 => hne ?_) q hq
            rw [← List.drop_drop, e0, List.drop_nil]
          · have h := holds_less hh h64 (us := us.drop k) (by rw [HD.out, HX.out]; omega)
            rw [HD.out, List.append_assoc] at h
            have e : us.take (k + r) = us.take k ++ us.drop k := by rw [List.take_append_drop, List.take_of_length_le (by have := HL.out; have := HR.out; omega)]
            rw [e]
            exact h
        case measure => simp [lenOf]; omega
    · go_wp2_with fail
      go_end0
      refine ⟨rfl, hB, o', rest', ?_, ?_⟩
      · rw [List.length_append, HL.out]; exact hI
      · rw [List.take_of_length_le (by have := HL.out; have := HR.out; omega)] at hh
        exact hh
end Go.Proofs.YtmhelmmonkgmmaaDoor
