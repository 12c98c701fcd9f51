/- What the laws of layer 2 share: the tables that the program's text lays, digests held against each other, slices of slices, 'alive'. -/
import Derived.Test.YtmhelmmonkgmmaaDoorRShaSum
import Derived.Test.YtmhelmmonkgmmaaDoorWOpen2
import Derived.Lib.LaidTab
import Derived.Stop.BytesEq
import Derived.Lib.SlBytesConst
namespace Go.Proofs.YtmhelmmonkgmmaaDoor
open Go.RowKit
theorem start_tab : (Rows.laid_fellowship_sha_start : DataW Unit) = Lib.tabData .u32 (shaStart.list.map fun x => (x.toNat : Int)) := by rfl
theorem rounds_tab : (Rows.laid_fellowship_sha_rounds : DataW Unit) = Lib.tabData .u32 (shaK.map fun x => (x.toNat : Int)) := by rfl
theorem tab_range {W : World} {name : String} {g : Nat} {cs : Array Value} (l : List (BitVec 32)) (hg : Tryd.prog.globalNamed name = some g) (hv : W.var? Tryd.prog name = some cs) (hc : cs.toList = (l.map fun x => (x.toNat : Int)).map fun z => Value.int .u32 z) : W.rangeAt g 0 (l.map wcell) := by
  intro j v hj
  have h := World.var?_cell hg hv j
  have e : cs[j]? = some v := by
    rw [← Array.getElem?_toList, hc, List.map_map]
    exact hj
  rw [e] at h
  simpa using h
theorem hash_eql (bs : List UInt8) (w : World) : (binOp .eql 30 (hashVal (shaSum bs)) (hashVal (shaSum bs))).run Tryd.prog w = .ok (.bool true) w := by
  have h := run_eql_bytes (P := Tryd.prog) w 30 5 32 Tryd.underlying30 Tryd.underlying5 (fun w => by
    obtain ⟨i0, hi0, hs0⟩ := Option.map_eq_some_iff.1 size_u8
    simp [sizeOf, typeInfo, hi0, hs0]) (shaSum bs) (shaSum bs) (shaSum_length bs) (shaSum_length bs)
  rw [beq_self_eq_true] at h
  exact h
theorem hash_neq (bs : List UInt8) (w : World) : (binOp .neq 30 (hashVal (shaSum bs)) (hashVal (shaSum bs))).run Tryd.prog w = .ok (.bool false) w := by
  have h := run_equalIn_bytes (P := Tryd.prog) w 9998 30 5 32 Tryd.underlying30 Tryd.underlying5 (fun w => by
    obtain ⟨i0, hi0, hs0⟩ := Option.map_eq_some_iff.1 size_u8
    simp [sizeOf, typeInfo, hi0, hs0]) (shaSum bs) (shaSum bs) (shaSum_length bs) (shaSum_length bs)
  rw [beq_self_eq_true] at h
  have h2 := run_neq_struct (P := Tryd.prog) w 30 ((shaSum bs).map cellOf).toArray ((shaSum bs).map cellOf).toArray
  unfold hashVal
  rw [h2]
  have h3 : (Op.equalIn 10000 30 (.agg ((shaSum bs).map cellOf).toArray) (.agg ((shaSum bs).map cellOf).toArray)).run Tryd.prog w = .ok true w := h
  rw [h3]
  rfl
theorem hash_guard (op : BinOp) (x y : Operand) (ds es : List UInt8) (w : World) : (eqGuard op 30 x y (hashVal ds) (hashVal es)).run Tryd.prog w = .ok () w := run_eqGuard_agg w op 30 x y _ _ (by kernel_rfl)
end Go.Proofs.YtmhelmmonkgmmaaDoor
