/- Package mac: a key's block, padded and filled. -/
import Derived.Test.YtmhelmmonkgmmaaDoorMMath
import Derived.Test.YtmhelmmonkgmmaaDoorSParts
namespace Go.Proofs.YtmhelmmonkgmmaaDoor
open Go.RowKit
def z64 : List Value := List.replicate 64 (cellOf 0)
theorem z64_length : z64.length = 64 := by simp [z64]
theorem zero_blk : ∀ w, (zeroValue 54).run Tryd.prog w = .ok (.agg z64.toArray) w := (zero_of_info (P := Tryd.prog) (t := 54) (v := .agg z64.toArray) (n := 64) (by kernel_rfl)).1
theorem size_blk : (Tryd.prog.info? 54).map (·.size) = some 64 := by kernel_rfl
/-- A block whose first k bytes are padded. -/
def padTo (bs : List UInt8) (p : UInt8) (k : Nat) : List Value := (macPad (bs.take k) p ++ bs.drop k).map cellOf
theorem padTo_length (bs : List UInt8) (p : UInt8) (k : Nat) : (padTo bs p k).length = bs.length := by simp [padTo, macPad]; omega
theorem padTo_at (bs : List UInt8) (p : UInt8) (k : Nat) (hk : k < bs.length) : (padTo bs p k)[k]? = some (cellOf bs[k]) := by
  rw [padTo, List.getElem?_map, List.getElem?_append_right (by rw [macPad_length, List.length_take]; omega), macPad_length, List.length_take, Nat.min_eq_left (by omega), Nat.sub_self, List.getElem?_drop, Nat.add_zero, List.getElem?_eq_getElem hk]
  rfl
theorem padTo_next (bs : List UInt8) (p : UInt8) (k : Nat) (hk : k < bs.length) : (padTo bs p k).set k (cellOf (bs[k] ^^^ p)) = padTo bs p (k + 1) := by
  have e : (macPad (bs.take k) p).length = k := by rw [macPad_length, List.length_take]; omega
  rw [padTo, ← List.map_set, List.set_append_right _ _ (by omega), e, Nat.sub_self, List.drop_eq_getElem_cons hk, List.set_cons_zero, padTo, take_snoc bs k hk]
  simp only [macPad, List.map_append, List.map_cons, List.map_nil, List.append_assoc, List.cons_append, List.nil_append]
set_option maxRecDepth 100000 in
theorem blockPad_any (bs : List UInt8) (p : UInt8) (z : Int) (w : World) (hl : bs.length = 64) (hz : (p.toNat : Int) = z) :
    Calls Tryd.prog 29 #[hashVal bs, .int .u8 z] w fun e w' => e = .returned (hashVal (macPad bs p)) ∧ Below w.heap.size w w' := by
  subst hz
  have HL := Lib.hid hl
  clear hl
  have H0 := Lib.hid (show bs.map cellOf = padTo bs p 0 by simp [padTo, macPad])
  have HE := Lib.hid (show padTo bs p 64 = (macPad bs p).map cellOf by rw [padTo, List.take_of_length_le (by rw [HL.out]; omega), List.drop_eq_nil_of_le (by rw [HL.out]; omega), List.append_nil])
  have HV : Hid (hashVal bs = .agg (padTo bs p 0).toArray) := by show _ = _; rw [← H0.out]; rfl
  rw [HV.out]
  generalize hv0 : padTo bs p 0 = vs0 at *
  replace hv0 := Lib.hid hv0
  go_enter Tryd.func29, Tryd.ntmps29
  go_wp2_with (first
    | (refine box_step rfl 54 _ rfl vs0.toArray rfl ?_
       intro w0 hw0
       have hB0 : Below w.heap.size w w0 := by rw [hw0]; exact (Below.refl _ _).alloc (Nat.le_refl _) _
       have hC0 : Cells w0 w.heap.size vs0 54 := by rw [hw0]; exact Cells.new w _ _
       have hz0 : w0.heap.size = w.heap.size + 1 := by rw [hw0]; simp
       clear hw0)
    | (refine alloc_step rfl 54 rfl _ zero_blk ?_
       intro w1 hw1
       have hB1 : Below w.heap.size w w1 := by rw [hw1]; exact hB0.alloc hB0.size _
       have hC1 : Cells w1 w.heap.size vs0 54 := by rw [hw1]; exact hC0.alloc _
       have hR1 : Cells w1 (w.heap.size + 1) z64 54 := by rw [hw1, ← hz0]; exact Cells.new w0 _ _
       clear hw1
       rw [hz0]))
  clear hB0 hC0 hz0
  go_loopw [6] (fun i wr => ∃ k : Nat, k ≤ 64 ∧ i = .int .i64 k ∧ Below w.heap.size w wr ∧ Cells wr w.heap.size (padTo bs p k) 54 ∧ Cells wr (w.heap.size + 1) z64 54) (fun i _ => 64 - (intOf i).toNat)
  case atStart => exact ⟨0, Nat.zero_le _, rfl, hB1, by rw [hv0.out]; exact hC1, hR1⟩
  case round =>
    clear hB1 hC1 hR1
    obtain ⟨k, hk, rfl, hB, hC, hR⟩ := hrel
    by_cases hlt : k < 64
    · have hlt2 : k < bs.length := by rw [HL.out]; exact hlt
      have hc := hC.get (padTo_at bs p k hlt2)
      have hf := hC.frozen k
      have HN := Lib.hid (padTo_next bs p k hlt2)
      have HX := Lib.hid (xor8 bs[k] p)
      generalize bs[k] = x at *
      go_wp2
      go_roundw
      case rel =>
        refine ⟨k + 1, by omega, by go_num, hB.setCell (p := ⟨w.heap.size, k, none⟩) (Nat.le_refl _) _, ?_, hR.other (by simp) _⟩
        rw [HX.out, ← HN.out]
        exact hC.set k _
      case measure => simp [intOf]; omega
    · obtain rfl : k = 64 := by omega
      rw [HE.out] at hC
      have HW : Hid (((macPad bs p).map cellOf).length = 64) := by show _ = _; rw [List.length_map, macPad_length, HL.out]
      have HP : Hid (∀ v ∈ (macPad bs p).map cellOf, v.oneCell' = true) := cells8_one _
      have HV2 : Hid (hashVal (macPad bs p) = .agg ((macPad bs p).map cellOf).toArray) := rfl
      generalize (macPad bs p).map cellOf = vs at *
      have HS : Hid (vs.toArray.size = 64) := by show _ = _; rw [List.size_toArray, HW.out]
      have hi : (Tryd.prog.info? 54).map (·.size) = some vs.toArray.size := by rw [HS.out]; exact size_blk
      have hT : wr.there (w.heap.size + 1) 0 vs.toArray.size := by rw [HS.out]; exact hR.there 0 64 (by rw [z64_length]; omega)
      go_wp2_with (first
        | (refine wpList_load_row rfl 54 _ rfl w.heap.size rfl 54 _ (0, 0) _ hC Tryd.underlying54 rfl hi ?_)
        | (refine wpList_store_mid rfl 54 _ _ rfl (w.heap.size + 1) 0 vs.toArray rfl rfl hT hi (all_oneCell_toArray HP.out) ?_))
      have hD := hR.setCells (cs := vs) (o := 0) (by simp [HW.out, z64_length])
      rw [splice_all _ _ (by simp [HW.out, z64_length])] at hD
      refine ret_block Tryd.results29 (w.heap.size + 1) vs 54 rfl hD Tryd.underlying54 rfl (by simpa using hi) rfl ⟨by rw [HV2.out], below_setCells hB (Nat.le_succ _) _ _⟩
end Go.Proofs.YtmhelmmonkgmmaaDoor
