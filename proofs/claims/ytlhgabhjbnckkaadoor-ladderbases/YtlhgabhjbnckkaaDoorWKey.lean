/- Keys that come in by value. -/
import Derived.Test.YtlhgabhjbnckkaaDoorWOpen3
import Derived.Deep.WholeRow
namespace Go.Proofs.YtlhgabhjbnckkaaDoor
open Go.ChangeShapes Go.WideShapes Go.ChangeAt Go.RowKit
set_option maxRecDepth 100000 in
/-- An array of 32 bytes, a key, that comes in by value. -/
theorem open_key {H : Type} {enc : TypeId × Value → H} {W : World} {r : Reach} {b0 : Nat} {v : Value} {d : DataW H} {p : List MemPlace} (hv : Value.okWide Tryd.prog W r b0 23 v) (h : DataW.Trod enc Tryd.prog W 0 (fun _ => true) true 23 v d p) : ∃ s : List UInt8, v = hashVal s ∧ s.length = 32 := by
  obtain ⟨zs, rfl, hz, hw⟩ := open_intarr Tryd.underlying23 Tryd.underlying5 cells_u8 (by kernel_rfl) hv h
  obtain ⟨bs, h1, h2⟩ := bytes_of_ints zs hw
  exact ⟨bs, by unfold hashVal; rw [h1], by omega⟩
theorem zero_key : ∀ w, (zeroValue 23).run Tryd.prog w = .ok (.agg (List.replicate 32 (cellOf 0)).toArray) w := (zero_of_info (P := Tryd.prog) (t := 23) (v := .agg (List.replicate 32 (cellOf 0)).toArray) (n := 32) (by kernel_rfl)).1
theorem size_key : (Tryd.prog.info? 23).map (·.size) = some 32 := by kernel_rfl
end Go.Proofs.YtlhgabhjbnckkaaDoor
