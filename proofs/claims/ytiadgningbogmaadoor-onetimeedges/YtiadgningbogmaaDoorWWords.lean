/- Words of 32 bits as cells hold them, and lists of them. No program is named here. -/
import Derived.Test.YtiadgningbogmaaDoorWMath
import Derived.Test.YtiadgningbogmaaDoorWCells
namespace Go.Proofs.YtiadgningbogmaaDoor
open Go.RowKit
/-- A word as a cell holds it. -/
abbrev wcell (x : BitVec 32) : Value := .int .u32 (x.toNat : Int)
/- Go's operations on words of 32 bits. -/
theorem add32 (x y : BitVec 32) : ((x.toNat : Int) + (y.toNat : Int)) % 4294967296 = ((x + y).toNat : Int) := by
  rw [BitVec.toNat_add]; omega
theorem wadd32 (x y : BitVec 32) : IntKind.u32.wrap ((x.toNat : Int) + (y.toNat : Int)) = ((x + y).toNat : Int) := by
  rw [IntKind.wrap_u32, add32]
theorem wcells_one (l : List (BitVec 32)) : (l.map wcell).toArray.all (·.oneCell') = true := all_oneCell_toArray (by intro v hv; obtain ⟨x, _, rfl⟩ := List.mem_map.1 hv; rfl)
theorem list_at (l : List (BitVec 32)) (k : Nat) (hk : k < l.length) : (l.map wcell)[k]? = some (wcell (l.getD k 0)) := by
  rw [List.getElem?_map, List.getD_eq_getElem?_getD, List.getElem?_eq_getElem hk]
  rfl
/-- So many words of nought. (Named, so that a walk leaves them whole.) -/
def wzeros (n : Nat) : List Value := List.replicate n (wcell 0)
theorem wzeros_map (n : Nat) : wzeros n = (List.replicate n (0 : BitVec 32)).map wcell := by simp [wzeros]
theorem wset_map (l : List (BitVec 32)) (k : Nat) (x : BitVec 32) : (l.map wcell).set k (wcell x) = (l.set k x).map wcell := by rw [List.map_set]
end Go.Proofs.YtiadgningbogmaaDoor
