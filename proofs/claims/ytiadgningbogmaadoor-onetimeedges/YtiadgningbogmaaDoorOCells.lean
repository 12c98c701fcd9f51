/- Limbs as cells hold them; Go's operations on words of 64 bits. -/
import Derived.Test.YtiadgningbogmaaDoorOMath
import Derived.Test.YtiadgningbogmaaDoorWVals
import Derived.Deep.WholeRow
namespace Go.Proofs.YtiadgningbogmaaDoor
open Go.RowKit
/-- A limb as a cell holds it. -/
abbrev ncell (x : Nat) : Value := .int .u64 (x : Int)
/-- A number as a value. -/
def numVal (n : List Nat) : Value := .agg (n.map ncell).toArray
theorem add64n (x y : Nat) : IntKind.u64.wrap ((x : Int) + (y : Int)) = ((addW x y : Nat) : Int) := by
  rw [IntKind.wrap_u64, addW]; omega
theorem mul64n (x y : Nat) : IntKind.u64.wrap ((x : Int) * (y : Int)) = ((mulW x y : Nat) : Int) := by
  rw [IntKind.wrap_u64, mulW, ← Int.natCast_mul]; omega
theorem and26 (x : Nat) (h : x < 18446744073709551616) : bits .and .u64 (x : Int) 67108863 = ((x % 67108864 : Nat) : Int) := by
  rw [show (67108863 : Int) = ((67108863 : Nat) : Int) from rfl, u64_and_nat _ _ h (by omega)]
  have := Nat.and_two_pow_sub_one_eq_mod x 26
  simp only [Nat.reducePow, Nat.reduceSub] at this
  rw [this]
theorem addW_lt (x y : Nat) : addW x y < 18446744073709551616 := Nat.mod_lt _ (by omega)
theorem mulW_lt64 (x y : Nat) : mulW x y < 18446744073709551616 := Nat.mod_lt _ (by omega)
theorem ncells_one (l : List Nat) : (l.map ncell).toArray.all (·.oneCell') = true := all_oneCell_toArray (by intro v hv; obtain ⟨x, _, rfl⟩ := List.mem_map.1 hv; rfl)
theorem nat_at (l : List Nat) (k : Nat) (hk : k < l.length) : (l.map ncell)[k]? = some (ncell (l.getD k 0)) := by
  rw [List.getElem?_map, List.getD_eq_getElem?_getD, List.getElem?_eq_getElem hk]
  rfl
/-- So many limbs of nought. (Named, so that a walk leaves them whole.) -/
def nzeros (n : Nat) : List Value := List.replicate n (ncell 0)
theorem nset_map (l : List Nat) (k : Nat) (x : Nat) : (l.map ncell).set k (ncell x) = (l.set k x).map ncell := by rw [List.map_set]
theorem zero_num : ∀ w, (zeroValue 41).run Tryd.prog w = .ok (.agg (nzeros 5).toArray) w := (zero_of_info (P := Tryd.prog) (t := 41) (v := .agg (nzeros 5).toArray) (n := 5) (by kernel_rfl)).1
theorem size_num : (Tryd.prog.info? 41).map (·.size) = some 5 := by kernel_rfl
theorem size_u64 : (Tryd.prog.info? 39).map (·.size) = some 1 := by kernel_rfl
/-- A function whose results are an array in a block of its own, and a plain value. -/
theorem vret2 {P : Program} {fn : Func} {R : Ending → World → Prop} {a : Act} {w : World} {p u : Tmp} {ty e : TypeId} {n : Nat} (hres : fn.results = #[.cell p ty, .tmp u]) (g : Nat) (vs : List Value) (v : Value)
    (hp : a.tmps.getD p undef = .pointer (some ⟨g, 0, none⟩)) (hv : a.tmps.getD u undef = v) (hg : Cells w g vs ty) (hu : P.underlying ty = some (.array n e)) (hi : (P.info? ty).map (·.size) = some n) (hl : vs.length = n)
    (hdf : a.defers = []) (hR : R (.returned (.tuple #[.agg vs.toArray, v])) w) : bodyPost P fn R .ret a w := by
  have hp' : a.tmps[p]?.getD undef = .pointer (some ⟨g, 0, none⟩) := by simpa using hp
  have hv' : a.tmps[u]?.getD undef = v := by simpa using hv
  have hrun : (results fn a.tmps).run P w = .ok (.tuple #[.agg vs.toArray, v]) w := by
    simp [results, hres, hp', hv', asAddr, run_loadVar_row w g ty ty vs.toArray (0, 0) _ hg hu rfl (by rw [List.size_toArray, hl]; exact hi)]
  exact bodyPost_ret hrun hdf hR
end Go.Proofs.YtiadgningbogmaaDoor
