/- Package scalar: Bit. -/
import Derived.Test.YticgkabamelddaaDoorPart10
namespace Go.Proofs.YticgkabamelddaaDoor
open Go.RowKit
/-- A number's bit, where there is one. -/
def sbit (k : List UInt8) (i : Int) : Bool := if 0 ≤ i ∧ i < 256 then kbit k i.toNat else false
set_option maxRecDepth 100000 in
set_option maxHeartbeats 1000000 in
theorem scBit_over (k : List UInt8) (i : Nat) (q : UInt8) (b : Bool) (w : World) (hi : i < 256) (D : Hid ((k.map cellOf)[i / 8]? = some (cellOf q))) (HB : Hid (decide (q.toNat / 2 ^ (i % 8) % 2 = 1) = b)) :
    Calls Tryd.prog 10 #[hashVal k, .int .i64 (i : Int)] w fun e w' => e = .returned (.bool b) ∧ Below w.heap.size w w' := by
  have hbit := bit8_at q.toNat (i % 8) b q.toNat_lt (Nat.mod_lt _ (by decide)) HB.out
  have i1 : (0 : Int) ≤ (i : Int) := by omega
  have i2 : (i : Int) < 256 := by omega
  go_enter Tryd.func10, Tryd.ntmps10
  cases b
  all_goals go_wp2_with (first
    | (refine take_step rfl 25 (.tmp 0) rfl k rfl ?_
       intro w1 hB1 hA1 hz
       clear hz
       have d1 := hA1.get D.out
       try simp only [Act.put, List.setIfInBounds_toArray, List.set_cons_zero, List.set_cons_succ]
       skip))
  all_goals (go_ret; exact ⟨rfl, hB1⟩)
set_option maxRecDepth 100000 in
set_option maxHeartbeats 1000000 in
theorem scBit_neg (k : List UInt8) (i : Int) (w : World) (hi : i < 0) : Calls Tryd.prog 10 #[hashVal k, .int .i64 i] w fun e w' => e = .returned (.bool false) ∧ Below w.heap.size w w' := by
  have i1 : ¬ (0 : Int) ≤ i := by omega
  go_enter Tryd.func10, Tryd.ntmps10
  go_wp2_with (first
    | (refine take_step rfl 25 (.tmp 0) rfl k rfl ?_
       intro w1 hB1 hA1 hz
       clear hz hA1
       try simp only [Act.put, List.setIfInBounds_toArray, List.set_cons_zero, List.set_cons_succ]
       skip))
  go_ret
  exact ⟨rfl, hB1⟩
set_option maxRecDepth 100000 in
set_option maxHeartbeats 1000000 in
theorem scBit_far (k : List UInt8) (i : Int) (w : World) (hi : 256 ≤ i) : Calls Tryd.prog 10 #[hashVal k, .int .i64 i] w fun e w' => e = .returned (.bool false) ∧ Below w.heap.size w w' := by
  have i1 : (0 : Int) ≤ i := by omega
  have i2 : ¬ i < 256 := by omega
  go_enter Tryd.func10, Tryd.ntmps10
  go_wp2_with (first
    | (refine take_step rfl 25 (.tmp 0) rfl k rfl ?_
       intro w1 hB1 hA1 hz
       clear hz hA1
       try simp only [Act.put, List.setIfInBounds_toArray, List.set_cons_zero, List.set_cons_succ]
       skip))
  go_ret
  exact ⟨rfl, hB1⟩
theorem scBit_any (k : List UInt8) (i : Int) (w : World) (hk : k.length = 32) : Calls Tryd.prog 10 #[hashVal k, .int .i64 i] w fun e w' => e = .returned (.bool (sbit k i)) ∧ Below w.heap.size w w' := by
  unfold sbit
  rcases Int.lt_or_le i 0 with h | h
  · rw [if_neg (by omega)]; exact scBit_neg k i w h
  · rcases Int.lt_or_le i 256 with h2 | h2
    · rw [if_pos ⟨h, h2⟩]
      obtain ⟨n, rfl⟩ := Int.eq_ofNat_of_zero_le h
      refine scBit_over k n (k.getD (n / 8) 0) _ w (by omega) ?_ rfl
      show _ = _
      rw [List.getElem?_map, List.getD_eq_getElem?_getD, List.getElem?_eq_getElem (by omega)]; rfl
    · rw [if_neg (by omega)]; exact scBit_far k i w h2
end Go.Proofs.YticgkabamelddaaDoor
