/- Part 4 of what the laws of this seat share: WVals, OCells, FSteps, FLeast, FPlus, FWide, FNarrow, WOrders, WLoops, WLoose. -/
import Derived.Deep.WholeRow
import Derived.Laws.Externs
import Derived.Deep.QuietTactic
import Derived.BigQuiet
import Derived.Deep.RegionHeld
import Derived.RegionTactic
import Derived.StillTail
import Derived.Test.YticgkabamelddaaDoorPart3
namespace Go.Proofs.YticgkabamelddaaDoor
open Go.RowKit
theorem size_u32 : (Tryd.prog.info? 71).map (·.size) = some 1 := by kernel_rfl
theorem u32_info : (Tryd.prog.info? 71).map (fun i => (i.zero, i.size, i.bytes)) = some (some (.int .u32 0), 1, 4) := by kernel_rfl
section
variable {P : Program} {w : World} {ops : Array Oper} {rest : List Oper} {o o1 o2 : Oper} {a : Act} {Q : Exit → Act → World → Prop}
/-- 'x := f(..)', x an array: a new variable, and the value stored into it. -/
theorem vput_step (hg1 : o1.guard = none) (hg2 : o2.guard = none) (t : TypeId) (x y : Operand) (h1 : o1.op = .alloc t) (h2 : o2.op = .store t x y) (n : Nat) (zs vs : List Value)
    (hx : (a.put o1.dst (.pointer (some ⟨w.heap.size, 0, none⟩))).eval x = .pointer (some ⟨w.heap.size, 0, none⟩)) (hy : (a.put o1.dst (.pointer (some ⟨w.heap.size, 0, none⟩))).eval y = .agg vs.toArray)
    (hz : ∀ w, (zeroValue t).run P w = .ok (.agg zs.toArray) w) (hzl : zs.length = n) (hs : (P.info? t).map (·.size) = some n) (hl : vs.length = n) (h1c : vs.toArray.all (·.oneCell') = true)
    (h : ∀ w', Below w.heap.size w w' → Cells w' w.heap.size vs t → wpList P ops Q rest ((a.put o1.dst (.pointer (some ⟨w.heap.size, 0, none⟩))).put o2.dst undef) w') : wpList P ops Q (o1 :: o2 :: rest) a w := by
  refine alloc_step hg1 t h1 _ hz ?_
  intro w1 hw1
  have hB1 : Below w.heap.size w w1 := by rw [hw1]; exact (Below.refl _ _).alloc (Nat.le_refl _) _
  have hC1 : Cells w1 w.heap.size zs t := by rw [hw1]; exact Cells.new w _ _
  clear hw1
  have hsz : vs.toArray.size = n := by rw [List.size_toArray, hl]
  refine wpList_store_mid hg2 t x y h2 w.heap.size 0 vs.toArray hx hy (by rw [hsz]; exact hC1.there 0 n (by omega)) (by rw [hsz]; exact hs) h1c ?_
  have hC2 := hC1.setCells (cs := vs) (o := 0) (by omega)
  rw [splice_all _ _ (by omega)] at hC2
  exact h _ (below_setCells hB1 (Nat.le_refl _) _ _) hC2
/-- A variable that is an array, as a value. -/
theorem vget_step (hgd : o.guard = none) (t : TypeId) (x : Operand) (ho : o.op = .load t x) (g n : Nat) (vs : List Value) (e : TypeId) (hx : a.eval x = .pointer (some ⟨g, 0, none⟩)) (hC : Cells w g vs t) (hu : P.underlying t = some (.array n e))
    (hs : (P.info? t).map (·.size) = some n) (hl : vs.length = n) (h : wpList P ops Q rest (a.put o.dst (.agg vs.toArray)) w) : wpList P ops Q (o :: rest) a w :=
  wpList_load_row hgd t x ho g hx t vs.toArray (0, 0) _ hC hu rfl (by rw [List.size_toArray, hl]; exact hs) h
/-- An array stored over a variable. -/
theorem vset_step (hgd : o.guard = none) (t : TypeId) (x y : Operand) (ho : o.op = .store t x y) (g n : Nat) (us vs : List Value) (hx : a.eval x = .pointer (some ⟨g, 0, none⟩)) (hy : a.eval y = .agg vs.toArray) (hC : Cells w g us t) (hv : us.length = n)
    (hs : (P.info? t).map (·.size) = some n) (hl : vs.length = n) (h1c : vs.toArray.all (·.oneCell') = true) (h : ∀ w', But g w w' → Cells w' g vs t → w'.heap.size = w.heap.size → wpList P ops Q rest (a.put o.dst undef) w') : wpList P ops Q (o :: rest) a w := by
  have hsz : vs.toArray.size = n := by rw [List.size_toArray, hl]
  refine wpList_store_mid hgd t x y ho g 0 vs.toArray hx hy (by rw [hsz]; exact hC.there 0 n (by omega)) (by rw [hsz]; exact hs) h1c ?_
  have hC2 := hC.setCells (cs := vs) (o := 0) (by omega)
  rw [splice_all _ _ (by omega)] at hC2
  exact h _ ((But.refl g w).setCells _ _) hC2 (heap_setCells _ _ _ _).2.2.2.1
/-- A new variable of a type whose zero value is known. -/
theorem vzero_step (hgd : o.guard = none) (t : TypeId) (ho : o.op = .alloc t) (zs : List Value) (hz : ∀ w, (zeroValue t).run P w = .ok (.agg zs.toArray) w)
    (h : ∀ w', Below w.heap.size w w' → Cells w' w.heap.size zs t → wpList P ops Q rest (a.put o.dst (.pointer (some ⟨w.heap.size, 0, none⟩))) w') : wpList P ops Q (o :: rest) a w := by
  refine alloc_step hgd t ho _ hz ?_
  intro w1 hw1
  exact h w1 (by rw [hw1]; exact (Below.refl _ _).alloc (Nat.le_refl _) _) (by rw [hw1]; exact Cells.new w _ _)
/-- An array that comes as a value, laid into a new variable. -/
theorem vtake_step (hgd : o.guard = none) (t : TypeId) (x : Operand) (ho : o.op = .box t x) (vs : List Value) (hx : a.eval x = .agg vs.toArray)
    (h : ∀ w', Below w.heap.size w w' → Cells w' w.heap.size vs t → wpList P ops Q rest (a.put o.dst (.pointer (some ⟨w.heap.size, 0, none⟩))) w') : wpList P ops Q (o :: rest) a w := by
  refine box_step hgd t x ho _ hx ?_
  intro w1 hw1
  exact h w1 (by rw [hw1]; exact (Below.refl _ _).alloc (Nat.le_refl _) _) (by rw [hw1]; exact Cells.new w _ _)
end
/-- A function whose result is an array in a block of its own. -/
theorem vret {P : Program} {fn : Func} {R : Ending → World → Prop} {a : Act} {w : World} {p : Tmp} {ty e : TypeId} {n : Nat} (hres : fn.results = #[.cell p ty]) (g : Nat) (vs : List Value)
    (hp : a.tmps.getD p undef = .pointer (some ⟨g, 0, none⟩)) (hg : Cells w g vs ty) (hu : P.underlying ty = some (.array n e)) (hi : (P.info? ty).map (·.size) = some n) (hl : vs.length = n)
    (hdf : a.defers = []) (hR : R (.returned (.agg vs.toArray)) w) : bodyPost P fn R .ret a w :=
  ret_block hres g vs ty hp hg hu rfl (by rw [hl]; exact hi) hdf hR
end Go.Proofs.YticgkabamelddaaDoor
namespace Go.Proofs.YticgkabamelddaaDoor
open Go.RowKit
/-- A limb as a cell holds it. -/
abbrev ncell (x : Nat) : Value := .int .u64 (x : Int)
/-- A number as a value. -/
def numVal (n : List Nat) : Value := .agg (n.map ncell).toArray
theorem add64n (x y : Nat) : IntKind.u64.wrap ((x : Int) + (y : Int)) = ((addW x y : Nat) : Int) := by
  rw [IntKind.wrap_u64, addW]; omega
theorem mul64n (x y : Nat) : IntKind.u64.wrap ((x : Int) * (y : Int)) = ((mulW x y : Nat) : Int) := by
  rw [IntKind.wrap_u64, mulW, ← Int.natCast_mul]; omega
theorem and26 (x : Nat) (h : x < 18446744073709551616) : bits .and .u64 (x : Int) 67108863 = ((x % 67108864 : Nat) : Int) := by
  rw [show (67108863 : Int) = ((67108863 : Nat) : Int) from rfl, u64_and_nat _ _ h (by omega)]
  have := Nat.and_two_pow_sub_one_eq_mod x 26
  simp only [Nat.reducePow, Nat.reduceSub] at this
  rw [this]
theorem addW_lt (x y : Nat) : addW x y < 18446744073709551616 := Nat.mod_lt _ (by omega)
theorem mulW_lt64 (x y : Nat) : mulW x y < 18446744073709551616 := Nat.mod_lt _ (by omega)
theorem ncells_one (l : List Nat) : (l.map ncell).toArray.all (·.oneCell') = true := all_oneCell_toArray (by intro v hv; obtain ⟨x, _, rfl⟩ := List.mem_map.1 hv; rfl)
theorem nat_at (l : List Nat) (k : Nat) (hk : k < l.length) : (l.map ncell)[k]? = some (ncell (l.getD k 0)) := by
  rw [List.getElem?_map, List.getD_eq_getElem?_getD, List.getElem?_eq_getElem hk]
  rfl
/-- So many limbs of nought. (Named, so that a walk leaves them whole.) -/
def nzeros (n : Nat) : List Value := List.replicate n (ncell 0)
theorem nset_map (l : List Nat) (k : Nat) (x : Nat) : (l.map ncell).set k (ncell x) = (l.set k x).map ncell := by rw [List.map_set]
theorem size_u64 : (Tryd.prog.info? 40).map (·.size) = some 1 := by kernel_rfl
/-- A function whose results are an array in a block of its own, and a plain value. -/
theorem vret2 {P : Program} {fn : Func} {R : Ending → World → Prop} {a : Act} {w : World} {p u : Tmp} {ty e : TypeId} {n : Nat} (hres : fn.results = #[.cell p ty, .tmp u]) (g : Nat) (vs : List Value) (v : Value)
    (hp : a.tmps.getD p undef = .pointer (some ⟨g, 0, none⟩)) (hv : a.tmps.getD u undef = v) (hg : Cells w g vs ty) (hu : P.underlying ty = some (.array n e)) (hi : (P.info? ty).map (·.size) = some n) (hl : vs.length = n)
    (hdf : a.defers = []) (hR : R (.returned (.tuple #[.agg vs.toArray, v])) w) : bodyPost P fn R .ret a w := by
  have hp' : a.tmps[p]?.getD undef = .pointer (some ⟨g, 0, none⟩) := by simpa using hp
  have hv' : a.tmps[u]?.getD undef = v := by simpa using hv
  have hrun : (results fn a.tmps).run P w = .ok (.tuple #[.agg vs.toArray, v]) w := by
    simp [results, hres, hp', hv', asAddr, run_loadVar_row w g ty ty vs.toArray (0, 0) _ hg hu rfl (by rw [List.size_toArray, hl]; exact hi)]
  exact bodyPost_ret hrun hdf hR
end Go.Proofs.YticgkabamelddaaDoor
namespace Go.Proofs.YticgkabamelddaaDoor
open Go.RowKit
/-- A number modulo p, as the program holds it. -/
def elV (n : Nat) : Value := numVal (limb5 n)
/-- A sum of products. -/
def wideV (x : Nat) : Value := numVal [x / 18446744073709551616, x % 18446744073709551616]
theorem namedF {α : Type} (a : α) : ∃ z, Hid (a = z) := ⟨a, rfl⟩
theorem numVal_eq (l : List Nat) : numVal l = .agg (l.map ncell).toArray := rfl
section
variable {P : Program} {w : World} {ops : Array Oper} {rest : List Oper} {o : Oper} {a : Act} {Q : Exit → Act → World → Prop}
/-- A variable that is a struct or an array, as a value. -/
theorem sget_step (hgd : o.guard = none) (t : TypeId) (x : Operand) (ho : o.op = .load t x) (g n : Nat) (vs : List Value) {d : TypeDesc} {t' : TypeId} (hx : a.eval x = .pointer (some ⟨g, 0, none⟩)) (hC : Cells w g vs t') (hu : P.underlying t = some d)
    (hd : (match d with | .struct _ | .array _ _ => true | _ => false) = true) (hs : (P.info? t).map (·.size) = some n) (hl : vs.length = n) (h : wpList P ops Q rest (a.put o.dst (.agg vs.toArray)) w) : wpList P ops Q (o :: rest) a w :=
  wpList_load_row hgd t x ho g hx t' vs.toArray (0, 0) _ hC hu hd (by rw [List.size_toArray, hl]; exact hs) h
end
/-- A function whose result is a struct or an array in a block of its own. -/
theorem sret {P : Program} {fn : Func} {R : Ending → World → Prop} {a : Act} {w : World} {p : Tmp} {ty : TypeId} {d : TypeDesc} {n : Nat} (hres : fn.results = #[.cell p ty]) (g : Nat) (vs : List Value)
    (hp : a.tmps.getD p undef = .pointer (some ⟨g, 0, none⟩)) (hg : Cells w g vs ty) (hu : P.underlying ty = some d) (hd : (match d with | .struct _ | .array _ _ => true | _ => false) = true) (hi : (P.info? ty).map (·.size) = some n) (hl : vs.length = n)
    (hdf : a.defers = []) (hR : R (.returned (.agg vs.toArray)) w) : bodyPost P fn R .ret a w :=
  ret_block hres g vs ty hp hg hu hd (by rw [hl]; exact hi) hdf hR
theorem and51 (x : Nat) (h : x < 18446744073709551616) : bits .and .u64 (x : Int) 2251799813685247 = ((x % 2251799813685248 : Nat) : Int) := by
  rw [show (2251799813685247 : Int) = ((2251799813685247 : Nat) : Int) from rfl, u64_and_nat _ _ h (by omega)]
  have := Nat.and_two_pow_sub_one_eq_mod x 51
  simp only [Nat.reducePow, Nat.reduceSub] at this
  rw [this]
theorem wadd (x y : Nat) (h : x + y < 18446744073709551616) : IntKind.u64.wrap ((x : Int) + (y : Int)) = ((x + y : Nat) : Int) := by
  rw [IntKind.wrap_u64]; omega
theorem wmul (x y : Nat) (h : x * y < 18446744073709551616) : IntKind.u64.wrap ((x : Int) * (y : Int)) = ((x * y : Nat) : Int) := by
  rw [IntKind.wrap_u64, ← Int.natCast_mul]; omega
theorem wadd_div (x y : Nat) (h : x + y / 2251799813685248 < 18446744073709551616) : IntKind.u64.wrap ((x : Int) + (y : Int) / 2251799813685248) = ((x + y / 2251799813685248 : Nat) : Int) := wadd x (y / 2251799813685248) h
theorem cast_div51 (y : Nat) : (y : Int) / 2251799813685248 = ((y / 2251799813685248 : Nat) : Int) := rfl
end Go.Proofs.YticgkabamelddaaDoor
namespace Go.Proofs.YticgkabamelddaaDoor
open Go.RowKit
theorem results_tmp6 {fn : Func} {t u v x y z : Tmp} (h : fn.results = #[.tmp t, .tmp u, .tmp v, .tmp x, .tmp y, .tmp z]) (tmps : Array Value) (P : Program) (w : World) :
    (results fn tmps).run P w = .ok (.tuple #[tmps.getD t undef, tmps.getD u undef, tmps.getD v undef, tmps.getD x undef, tmps.getD y undef, tmps.getD z undef]) w := by
  simp [results, h]
end Go.Proofs.YticgkabamelddaaDoor
namespace Go.Proofs.YticgkabamelddaaDoor
open Go.RowKit
theorem wsub (C y : Nat) (h : y ≤ C) (hC : C < 18446744073709551616) : IntKind.u64.wrap ((C : Int) - (y : Int)) = ((C - y : Nat) : Int) := by
  rw [IntKind.wrap_u64]; omega
def minTo (a b : List Nat) : Nat → List Nat
  | 0 => a
  | 1 => a.set 0 (a.getD 0 0 + (4503599627370458 - b.getD 0 0))
  | k + 1 => (minTo a b k).set k ((minTo a b k).getD k 0 + (4503599627370494 - b.getD k 0))
theorem minTo_length (a b : List Nat) : ∀ k, (minTo a b k).length = a.length
  | 0 => rfl
  | 1 => by rw [minTo, List.length_set]
  | k + 2 => by rw [minTo, List.length_set, minTo_length a b (k + 1)]; exact fun h => by omega
end Go.Proofs.YticgkabamelddaaDoor
namespace Go.Proofs.YticgkabamelddaaDoor
open Go.RowKit
theorem andLow (x : Nat) (h : x < 18446744073709551616) : bits .and .u64 (x : Int) 4294967295 = ((x % 4294967296 : Nat) : Int) := by
  rw [show (4294967295 : Int) = ((4294967295 : Nat) : Int) from rfl, u64_and_nat _ _ h (by omega)]
  have := Nat.and_two_pow_sub_one_eq_mod x 32
  simp only [Nat.reducePow, Nat.reduceSub] at this
  rw [this]
theorem mul_parts (x0 x1 y0 y1 : Nat) : (x0 + 4294967296 * x1) * (y0 + 4294967296 * y1) = x0 * y0 + 4294967296 * (x1 * y0) + 4294967296 * (x0 * y1) + 18446744073709551616 * (x1 * y1) := by grind
theorem mulHalf {x y : Nat} (hx : x < 4294967296) (hy : y < 4294967296) : x * y ≤ 18446744065119617025 := Nat.mul_le_mul (show x ≤ 4294967295 by omega) (show y ≤ 4294967295 by omega)
end Go.Proofs.YticgkabamelddaaDoor
namespace Go.Proofs.YticgkabamelddaaDoor
open Go.RowKit
theorem shl13 (h : Nat) (hh : h < 2251799813685248) : IntKind.u64.wrap ((h : Int) * 8192) = ((h * 8192 : Nat) : Int) := by
  rw [IntKind.wrap_u64]; omega
theorem or13 (h l : Nat) (hh : h < 2251799813685248) (hl : l < 18446744073709551616) : bits .or .u64 (((h * 8192 : Nat)) : Int) ((l / 2251799813685248 : Nat) : Int) = ((h * 8192 + l / 2251799813685248 : Nat) : Int) := by
  rw [u64_or_nat _ _ (by omega) (by omega), nat_join 13 _ _ (by omega) (by omega)]
end Go.Proofs.YticgkabamelddaaDoor
namespace Go.Proofs.YticgkabamelddaaDoor
open Go.RowKit
section
variable {P : Program} {ops : Array Oper} {Q : Exit → Act → World → Prop} {md : Region.Mode} {S : World → Prop} {c : Nat}
/-- Whatever order is picked from here on; until operation c has come up, S holds behind each. -/
def wpAnyU (P : Program) (md : Region.Mode) (ops : Array Oper) (Q : Exit → Act → World → Prop) (S : World → Prop) (c : Nat) : Nat → Array Bool → Act → World → Prop
  | 0, listed, a, w => Region.ready md ops listed = [] ∧ Q .normal a w
  | fuel + 1, listed, a, w =>
    (Region.ready md ops listed = [] → Q .normal a w) ∧
    ∀ i ∈ Region.ready md ops listed, wpOp P ops Q i (fun a' w' => (i = c → wpAny P md ops Q fuel (listed.setIfInBounds i true) a' w') ∧ (i ≠ c → S w' ∧ wpAnyU P md ops Q S c fuel (listed.setIfInBounds i true) a' w')) a w
theorem wpAny_of_until : ∀ (fuel : Nat) (listed : Array Bool) (a : Act) (w : World), wpAnyU P md ops Q S c fuel listed a w → wpAny P md ops Q fuel listed a w
  | 0, _, _, _, h => h
  | fuel + 1, _, _, _, h => ⟨h.1, fun i hi => wpOp_mono (fun a' w' h' => by
      by_cases e : i = c
      · exact h'.1 e
      · exact wpAny_of_until fuel _ a' w' (h'.2 e).2) (h.2 i hi)⟩
/-- Operation c waits for operation i. -/
def waitsFor (md : Region.Mode) (ops : Array Oper) (c i : Nat) : Bool := match ops[c]? with
  | some oc => oc.after.any fun e => Region.binds md e && e.on == i
  | none => false
theorem not_ready {i : Nat} {listed : Array Bool} (hw : waitsFor md ops c i = true) (hr : i ∈ Region.ready md ops listed) : c ∉ Region.ready md ops listed := by
  intro hc
  obtain ⟨_, oc, hoc, hall⟩ := mem_ready.1 hc
  have h0 := (mem_ready.1 hr).1
  simp only [waitsFor, hoc] at hw
  obtain ⟨e, he, hb⟩ := Array.any_eq_true'.1 hw
  simp only [Bool.and_eq_true, beq_iff_eq] at hb
  have h1 := hall e he hb.1
  rw [hb.2] at h1
  rcases Nat.lt_or_ge i listed.size with h' | h'
  · simp [h'] at h0 h1; rw [h0] at h1; cases h1
  · simp [Array.getElem?_eq_none h'] at h1
theorem wpAnyU_first {i : Nat} {oi : Oper} {v : Value} (hi : ops[i]? = some oi) (hic : i ≠ c) (hwt : waitsFor md ops c i = true) (hsel : ∀ (j : Nat) (o : Oper) cs b, ops[j]? = some o → o.op ≠ .select cs b)
    (hQ : ∀ c a w, Q (.panic c) (a.put oi.dst v) w → Q (.panic c) a w) :
    ∀ (fuel : Nat) (listed : Array Bool) (a : Act) (w : World),
      (∀ j oj, ops[j]? = some oj → j ≠ i → listed.getD j true = false → (∀ e ∈ oj.after, Region.binds md e = true → e.on ≠ i) → oi.apart ops oj = true) →
      i ∈ Region.ready md ops listed → YieldsIf P ops S oi v a → S w →
      wpAnyU P md ops Q S c fuel (listed.setIfInBounds i true) (a.put oi.dst v) w → wpAnyU P md ops Q S c (fuel + 1) listed a w := by
  intro fuel
  induction fuel with
  | zero =>
    intro listed a w _ hr hy hS H
    refine ⟨fun h => (by rw [h] at hr; cases hr), fun j hj => ?_⟩
    by_cases hji : j = i
    · subst hji; exact hy.wpOp hi hS ⟨fun e => absurd e hic, fun _ => ⟨hS, H⟩⟩
    · have := ready_mono hj hji
      rw [H.1] at this
      cases this
  | succ fuel ih =>
    intro listed a w hfree hr hy hS H
    refine ⟨fun h => (by rw [h] at hr; cases hr), fun j hj => ?_⟩
    by_cases hji : j = i
    · subst hji; exact hy.wpOp hi hS ⟨fun e => absurd e hic, fun _ => ⟨hS, H⟩⟩
    · have hjc : j ≠ c := fun e => not_ready hwt hr (e ▸ hj)
      have h1 := wpOp_mono (fun a' w' h' => h'.2 hjc) (H.2 j (ready_mono hj hji))
      obtain ⟨hjun, oj, hoj, hall⟩ := mem_ready.1 hj
      have hnot : ∀ e ∈ oj.after, Region.binds md e = true → e.on ≠ i := fun e he hb heq => by
        have h1 := hall e he hb
        have h0 := (mem_ready.1 hr).1
        rw [heq] at h1
        rcases Nat.lt_or_ge i listed.size with h' | h'
        · simp [h'] at h0 h1; rw [h0] at h1; cases h1
        · simp [Array.getElem?_eq_none h'] at h1
      have h2 := wpOp_putIf hoj (hfree j oj hoj hji hjun hnot) (fun cs b => hsel i oi cs b hi) (fun cs b => hsel j oj cs b hoj) hQ hy h1
      have hfree' : ∀ k ok, ops[k]? = some ok → k ≠ i → (listed.setIfInBounds j true).getD k true = false →
          (∀ e ∈ ok.after, Region.binds md e = true → e.on ≠ i) → oi.apart ops ok = true := fun k ok hk hki hun hno => by
        refine hfree k ok hk hki ?_ hno
        by_cases hjk : j = k
        · subst hjk; exact hjun
        · rw [getD_set_ne true hjk] at hun; exact hun
      refine wpOp_mono (fun a' w' h3 => ⟨fun e => absurd e hjc, fun _ => ⟨h3.2.1, ih (listed.setIfInBounds j true) a' w' hfree' (ready_mono hr (Ne.symm hji)) h3.1 h3.2.1 ?_⟩⟩) h2
      rw [Array.setIfInBounds_comm _ _ hji]
      exact h3.2.2
/-- Take number i first: c waits for it. -/
theorem wpAnyU_take {i : Nat} {oi : Oper} {v : Value} {fuel : Nat} {listed : Array Bool} {a : Act} {w : World} (hi : ops[i]? = some oi) (hic : i ≠ c) (hwt : waitsFor md ops c i = true)
    (hs : Region.noSelect ops = true) (hf : Region.free md ops listed i = true) (hr : (Region.ready md ops listed).contains i = true)
    (hQ : ∀ c a w, Q (.panic c) (a.put oi.dst v) w → Q (.panic c) a w) (hy : YieldsIf P ops S oi v a) (hS : S w)
    (h : wpAnyU P md ops Q S c fuel (listed.setIfInBounds i true) (a.put oi.dst v) w) : wpAnyU P md ops Q S c (fuel + 1) listed a w :=
  wpAnyU_first hi hic hwt (Region.noSelect_spec hs) hQ fuel listed a w (Region.free_spec hi hf) (by simpa using hr) hy hS h
/-- c comes up, and nothing else can. -/
theorem wpAnyU_end {o : Oper} {fuel : Nat} {listed : Array Bool} {a : Act} {w : World} (hr : Region.ready md ops listed = [c]) (ho : ops[c]? = some o)
    (h : ∀ K' : Act → World → Prop, Shut (∀ a w, wpAny P md ops Q fuel (listed.setIfInBounds c true) a w → K' a w) → if Region.wanted o (yielded ops a.tmps) = true then Oper.wp P o a w K' Q else K' (a.put o.dst undef) w) : wpAnyU P md ops Q S c (fuel + 1) listed a w := by
  refine ⟨fun h0 => (by rw [hr] at h0; cases h0), fun i hi => ?_⟩
  rw [hr] at hi
  obtain rfl : i = c := by simpa using hi
  refine wpOp_step ho fun K' hK => h K' fun a' w' h' => hK a' w' ⟨fun _ => h', fun e => absurd rfl e⟩
/-- One operation can come up. -/
theorem wpAny_one {i : Nat} {o : Oper} {fuel : Nat} {listed : Array Bool} {a : Act} {w : World} (hr : Region.ready md ops listed = [i]) (ho : ops[i]? = some o)
    (h : ∀ K' : Act → World → Prop, Shut (∀ a w, wpAny P md ops Q fuel (listed.setIfInBounds i true) a w → K' a w) → if Region.wanted o (yielded ops a.tmps) = true then Oper.wp P o a w K' Q else K' (a.put o.dst undef) w) : wpAny P md ops Q (fuel + 1) listed a w :=
  wpAny_ready hr (by simp) (AllReady.cons ho h AllReady.nil)
/-- From here on the rest comes in the text's order. -/
theorem wpAny_rest {l : List Oper} {fuel : Nat} {listed : Array Bool} {a : Act} {w : World} (n : Nat) (hf : fuel = (l.drop n).length) (hB : Region.seqB md l.toArray (l.drop n).length n listed = true) (h : wpList P l.toArray Q (l.drop n) a w) : wpAny P md l.toArray Q fuel listed a w := by
  subst hf
  exact wpAny_of_seq (l.drop n) n listed a w (fun j => by simp [List.getElem?_drop]) hB h
/-- One operation can come up: it stores an integer into one cell. -/
theorem wpAny_store {i : Nat} {o : Oper} {fuel : Nat} {listed : Array Bool} {a : Act} {w : World} (hr : Region.ready md ops listed = [i]) (ho : ops[i]? = some o) (hgd : o.guard = none) (t : TypeId) (x y : Operand) (hop : o.op = .store t x y) (g j : Nat) (ik : IntKind) (z : Int)
    (hx : a.eval x = .pointer (some ⟨g, j, none⟩)) (hy : a.eval y = .int ik z) (hs : (P.info? t).map (·.size) = some 1) (ht : w.there g j 1)
    (h : ∀ w', w' = w.setCell ⟨g, j, none⟩ (.int ik z) → wpAny P md ops Q fuel (listed.setIfInBounds i true) (a.put o.dst undef) w') : wpAny P md ops Q (fuel + 1) listed a w := by
  refine wpAny_one hr ho (fun K hK => ?_)
  obtain ⟨i0, hi0, hs0⟩ := Option.map_eq_some_iff.1 hs
  have hst := run_storeCells_cells (P := P) g j [.int ik z] 0 w (fun i hi => by simpa using (ht i hi).1) (fun i hi => by simpa using (ht i hi).2) (by intro v hv; cases List.mem_singleton.1 hv; rfl)
  have hrun : (Instr.storeAt t (.pointer (some ⟨g, j, none⟩)) (.int ik z)).run P w = .ok () (w.setCell ⟨g, j, none⟩ (.int ik z)) := by
    simp only [Instr.storeAt, Instr.sureAddr, Sem.run_bind, Sem.run_pure, Result.andThen_ok]
    simp [storeVar, sizeOf, typeInfo, hi0, hs0, Value.cells, hst, World.setCells]
  rw [if_pos (by simp [Region.wanted, hgd])]
  unfold Oper.wp
  simp only [execOp, hop, hx, hy, hrun, Sem.run_bind, Sem.run_pure, Result.andThen_ok]
  exact hK.out _ _ (h _ rfl)
end
end Go.Proofs.YticgkabamelddaaDoor
namespace Go.Proofs.YticgkabamelddaaDoor
open Go.RowKit
/-- The bodies of a code's loops, the outer one first. -/
def loopsOf : Code → List Code
  | .loop c => c :: loopsOf c
  | .seq a b => loopsOf a ++ loopsOf b
  | .block _ c => loopsOf c
  | .scope c => loopsOf c
  | .cond _ a b => loopsOf a ++ loopsOf b
  | _ => []
/-- What these slots hold. -/
def Slots (a : Act) : List (Nat × Value) → Prop
  | [] => True
  | (i, v) :: l => a.tmps.getD i undef = v ∧ Slots a l
/-- A frame of n slots, of which some are known. -/
def Fr (n : Nat) (l : List (Nat × Value)) (a : Act) : Prop := a.tmps.size = n ∧ a.defers = [] ∧ Slots a l
theorem frame_of (n : Nat) (a : Act) (hs : a.tmps.size = n) (hd : a.defers = []) : ∃ u : Nat → Value, a = ⟨((List.range n).map u).toArray, []⟩ := by
  obtain ⟨t, d⟩ := a
  simp only at hs hd
  subst hd
  refine ⟨fun i => t.getD i undef, ?_⟩
  congr 1
  apply Array.ext_getElem?
  intro i
  by_cases h : i < n
  · simp [h, hs]
  · simp [h, hs]
end Go.Proofs.YticgkabamelddaaDoor
namespace Go.Proofs.YticgkabamelddaaDoor
open Go.RowKit
section
variable {P : Program} {ops : Array Oper} {Q : Exit → Act → World → Prop} {md : Region.Mode}
/-- Whatever order the operations of L come up in, it comes to one of these ends (what is listed, how many are left). -/
def looseB (md : Region.Mode) (ops : Array Oper) (L : List Nat) (fins : List (Array Bool × Nat)) : Nat → Array Bool → Bool
  | 0, listed => fins.contains (listed, 0)
  | k + 1, listed => fins.contains (listed, k + 1) || (!(Region.ready md ops listed).isEmpty && (Region.ready md ops listed).all fun i => L.contains i && looseB md ops L fins k (listed.setIfInBounds i true))
theorem wpAny_loose {L : List Nat} {fins : List (Array Bool × Nat)} (I : Array Bool → Act → World → Prop)
    (hstep : ∀ i ∈ L, ∀ listed a w, I listed a w → i ∈ Region.ready md ops listed → wpOp P ops Q i (I (listed.setIfInBounds i true)) a w)
    (hend : ∀ f ∈ fins, ∀ a w, I f.1 a w → wpAny P md ops Q f.2 f.1 a w) :
    ∀ (k : Nat) (listed : Array Bool) (a : Act) (w : World), looseB md ops L fins k listed = true → I listed a w → wpAny P md ops Q k listed a w
  | 0, listed, a, w, hB, hI => hend (listed, 0) (by simpa [looseB] using hB) a w hI
  | k + 1, listed, a, w, hB, hI => by
    rw [looseB, Bool.or_eq_true] at hB
    rcases hB with hB | hB
    · exact hend (listed, k + 1) (by simpa using hB) a w hI
    rw [Bool.and_eq_true, List.all_eq_true] at hB
    refine ⟨fun h0 => ?_, fun i hi => ?_⟩
    · rw [h0] at hB
      simp at hB
    · have h := hB.2 i hi
      rw [Bool.and_eq_true] at h
      exact wpOp_mono (fun a' w' h' => wpAny_loose I hstep hend k _ a' w' h.2 h') (hstep i (by simpa using h.1) listed a w hI hi)
/-- What a loose operation finds: only new memory, the frame as it was but for the loose ones' slots, and what those yield that it waits for. -/
structure LooseAt (w0 : World) (a0 : Act) (slots : List (Nat × Nat)) (prop : Nat → Value → World → Prop) (listed : Array Bool) (a : Act) (w : World) : Prop where
  below : Below w0.heap.size w0 w
  size : a.tmps.size = a0.tmps.size
  defers : a.defers = a0.defers
  same : ∀ s, (∀ p ∈ slots, p.2 ≠ s) → a.tmps.getD s undef = a0.tmps.getD s undef
  fact : ∀ p ∈ slots, listed.getD p.1 false = true → prop p.1 (a.tmps.getD p.2 undef) w
theorem ready_has {i j : Nat} {listed : Array Bool} (hr : i ∈ Region.ready md ops listed) (hw : waitsFor md ops i j = true) : listed.getD j false = true := by
  obtain ⟨_, o, ho, hall⟩ := mem_ready.1 hr
  simp only [waitsFor, ho] at hw
  obtain ⟨e, he, hb⟩ := Array.any_eq_true'.1 hw
  simp only [Bool.and_eq_true, beq_iff_eq] at hb
  have h1 := hall e he hb.1
  rwa [hb.2] at h1
theorem put_getD_ne (a : Act) (s t : Nat) (v : Value) (h : s ≠ t) : (a.put (some s) v).tmps.getD t undef = a.tmps.getD t undef := by
  simp only [Act.put, Array.getD_eq_getD_getElem?]
  rw [Array.getElem?_setIfInBounds_ne h]
theorem put_getD_eq (a : Act) (s : Nat) (v : Value) (h : s < a.tmps.size) : (a.put (some s) v).tmps.getD s undef = v := by
  simp [Act.put, h]
theorem loose_put {w0 : World} {a0 : Act} {slots : List (Nat × Nat)} {prop : Nat → Value → World → Prop} (hinj : (slots.map (·.2)).Nodup) (hinj1 : (slots.map (·.1)).Nodup) (N : Nat) (hN : a0.tmps.size = N) (hlt : ∀ p ∈ slots, p.2 < N)
    (hst : ∀ i v w w', prop i v w → Below w.heap.size w w' → prop i v w') {i s : Nat} (hi : (i, s) ∈ slots) {listed : Array Bool} {a : Act} {w w' : World} {v : Value} (h : LooseAt w0 a0 slots prop listed a w) (hb : Below w.heap.size w w') (hv : prop i v w') :
    LooseAt w0 a0 slots prop (listed.setIfInBounds i true) (a.put (some s) v) w' := by
  refine ⟨h.below.trans (hb.mono h.below.size), ?_, ?_, fun t ht => ?_, fun p hp hl => ?_⟩
  · rw [← h.size]; simp [Act.put]
  · rw [← h.defers]; rfl
  · rw [put_getD_ne _ _ _ _ (ht _ hi)]
    exact h.same t ht
  · by_cases e : p.1 = i
    · have e2 : p = (i, s) := by
        have : ∀ (l : List (Nat × Nat)), (l.map (·.1)).Nodup → p ∈ l → (i, s) ∈ l → p = (i, s) := by
          intro l hl h1 h2
          induction l with
          | nil => cases h1
          | cons q l ih =>
            rw [List.map_cons, List.nodup_cons] at hl
            rcases List.mem_cons.1 h1 with rfl | h1
            · rcases List.mem_cons.1 h2 with h2 | h2
              · exact h2.symm
              · exact absurd (List.mem_map.2 ⟨(i, s), h2, e.symm⟩) hl.1
            · rcases List.mem_cons.1 h2 with h2 | h2
              · rw [← h2] at hl
                exact absurd (List.mem_map.2 ⟨p, h1, e⟩) hl.1
              · exact ih hl.2 h1 h2
        exact this slots hinj1 hp hi
      subst e2
      rw [put_getD_eq _ _ _ (by rw [h.size, hN]; exact hlt _ hi)]
      exact hv
    · have hne : s ≠ p.2 := by
        intro e3
        have : ∀ (l : List (Nat × Nat)), (l.map (·.2)).Nodup → p ∈ l → (i, s) ∈ l → p = (i, s) := by
          intro l hl h1 h2
          induction l with
          | nil => cases h1
          | cons q l ih =>
            rw [List.map_cons, List.nodup_cons] at hl
            rcases List.mem_cons.1 h1 with rfl | h1
            · rcases List.mem_cons.1 h2 with h2 | h2
              · exact h2.symm
              · exact absurd (List.mem_map.2 ⟨(i, s), h2, e3⟩) hl.1
            · rcases List.mem_cons.1 h2 with h2 | h2
              · rw [← h2] at hl
                exact absurd (List.mem_map.2 ⟨p, h1, e3.symm⟩) hl.1
              · exact ih hl.2 h1 h2
        exact e (by rw [this slots hinj hp hi])
      rw [put_getD_ne _ _ _ _ hne]
      refine hst _ _ _ _ (h.fact p hp ?_) hb
      rwa [getD_set_ne false (fun e4 => e e4.symm)] at hl
/-- One loose operation. -/
theorem loose_step {w0 : World} {a0 : Act} {slots : List (Nat × Nat)} {prop : Nat → Value → World → Prop} (hinj : (slots.map (·.2)).Nodup) (hinj1 : (slots.map (·.1)).Nodup) (N : Nat) (hN : a0.tmps.size = N) (hlt : ∀ p ∈ slots, p.2 < N)
    (hst : ∀ i v w w', prop i v w → Below w.heap.size w w' → prop i v w')
    {i s : Nat} (hi : (i, s) ∈ slots) {o : Oper} (ho : ops[i]? = some o) (hd : o.dst = some s)
    (hop : ∀ a w K, Below w0.heap.size w0 w → a.tmps.size = a0.tmps.size → a.defers = a0.defers → (∀ s, (∀ p ∈ slots, p.2 ≠ s) → a.tmps.getD s undef = a0.tmps.getD s undef) →
      (∀ p ∈ slots, waitsFor md ops i p.1 = true → prop p.1 (a.tmps.getD p.2 undef) w) → (∀ v w', Below w.heap.size w w' → prop i v w' → K (a.put o.dst v) w') →
      if Region.wanted o (yielded ops a.tmps) = true then Oper.wp P o a w K Q else K (a.put o.dst undef) w)
    (listed : Array Bool) (a : Act) (w : World) (h : LooseAt w0 a0 slots prop listed a w) (hr : i ∈ Region.ready md ops listed) :
    wpOp P ops Q i (LooseAt w0 a0 slots prop (listed.setIfInBounds i true)) a w := by
  refine wpOp_step ho fun K hK => ?_
  refine hop a w K h.below h.size h.defers h.same (fun p hp hwt => h.fact p hp (ready_has hr hwt)) fun v w' hb hv => hK _ _ ?_
  rw [hd]
  exact loose_put hinj hinj1 N hN hlt hst hi h hb hv
/-- The block that a value leads to. -/
def blk : Value → Nat | .pointer (some p) => p.block | .slice (some p) _ _ => p.block | _ => 0
/-- Besides: what the operations of 'fresh' make lies in blocks apart. -/
structure LooseAp (w0 : World) (a0 : Act) (slots : List (Nat × Nat)) (prop : Nat → Value → World → Prop) (fresh : List Nat) (listed : Array Bool) (a : Act) (w : World) : Prop where
  base : LooseAt w0 a0 slots prop listed a w
  apart : ∀ p ∈ slots, ∀ q ∈ slots, p.1 ∈ fresh → q.1 ∈ fresh → p.1 ≠ q.1 → listed.getD p.1 false = true → listed.getD q.1 false = true → blk (a.tmps.getD p.2 undef) ≠ blk (a.tmps.getD q.2 undef)
theorem slot_eq {slots : List (Nat × Nat)} {p q : Nat × Nat} : (slots.map (·.1)).Nodup → p ∈ slots → q ∈ slots → p.1 = q.1 → p = q := by
  intro hl h1 h2 e
  induction slots with
  | nil => cases h1
  | cons r l ih =>
    rw [List.map_cons, List.nodup_cons] at hl
    rcases List.mem_cons.1 h1 with rfl | h1
    · rcases List.mem_cons.1 h2 with h2 | h2
      · exact h2.symm
      · exact absurd (List.mem_map.2 ⟨q, h2, e.symm⟩) hl.1
    · rcases List.mem_cons.1 h2 with h2 | h2
      · rw [← h2] at hl
        exact absurd (List.mem_map.2 ⟨p, h1, e⟩) hl.1
      · exact ih hl.2 h1 h2
theorem loose_step_ap {w0 : World} {a0 : Act} {slots : List (Nat × Nat)} {prop : Nat → Value → World → Prop} {fresh : List Nat} (hinj : (slots.map (·.2)).Nodup) (hinj1 : (slots.map (·.1)).Nodup) (N : Nat) (hN : a0.tmps.size = N) (hlt : ∀ p ∈ slots, p.2 < N)
    (hst : ∀ i v w w', prop i v w → Below w.heap.size w w' → prop i v w') (hfr : ∀ i ∈ fresh, ∀ v w, prop i v w → blk v < w.heap.size)
    {i s : Nat} (hi : (i, s) ∈ slots) {o : Oper} (ho : ops[i]? = some o) (hd : o.dst = some s)
    (hop : ∀ a w K, Below w0.heap.size w0 w → a.tmps.size = a0.tmps.size → a.defers = a0.defers → (∀ s, (∀ p ∈ slots, p.2 ≠ s) → a.tmps.getD s undef = a0.tmps.getD s undef) →
      (∀ p ∈ slots, waitsFor md ops i p.1 = true → prop p.1 (a.tmps.getD p.2 undef) w) → (∀ v w', Below w.heap.size w w' → prop i v w' → (i ∈ fresh → w.heap.size ≤ blk v) → K (a.put o.dst v) w') →
      if Region.wanted o (yielded ops a.tmps) = true then Oper.wp P o a w K Q else K (a.put o.dst undef) w)
    (listed : Array Bool) (a : Act) (w : World) (h : LooseAp w0 a0 slots prop fresh listed a w) (hr : i ∈ Region.ready md ops listed) :
    wpOp P ops Q i (LooseAp w0 a0 slots prop fresh (listed.setIfInBounds i true)) a w := by
  refine wpOp_step ho fun K hK => ?_
  refine hop a w K h.base.below h.base.size h.base.defers h.base.same (fun p hp hwt => h.base.fact p hp (ready_has hr hwt)) fun v w' hb hv hf => hK _ _ ?_
  rw [hd]
  refine ⟨loose_put hinj hinj1 N hN hlt hst hi h.base hb hv, ?_⟩
  have hsz : s < a.tmps.size := by rw [h.base.size, hN]; exact hlt _ hi
  have hold : ∀ p ∈ slots, p.1 ≠ i → (a.put (some s) v).tmps.getD p.2 undef = a.tmps.getD p.2 undef := fun p hp hne => by
    refine put_getD_ne _ _ _ _ fun e => hne ?_
    have : ∀ (l : List (Nat × Nat)), (l.map (·.2)).Nodup → p ∈ l → (i, s) ∈ l → p = (i, s) := by
      intro l hl h1 h2
      induction l with
      | nil => cases h1
      | cons q l ih =>
        rw [List.map_cons, List.nodup_cons] at hl
        rcases List.mem_cons.1 h1 with rfl | h1
        · rcases List.mem_cons.1 h2 with h2 | h2
          · exact h2.symm
          · exact absurd (List.mem_map.2 ⟨(i, s), h2, e⟩) hl.1
        · rcases List.mem_cons.1 h2 with h2 | h2
          · rw [← h2] at hl
            exact absurd (List.mem_map.2 ⟨p, h1, e.symm⟩) hl.1
          · exact ih hl.2 h1 h2
    rw [this slots hinj hp hi]
  have hlist : ∀ j, j ≠ i → (listed.setIfInBounds i true).getD j false = true → listed.getD j false = true := fun j hj hl => by
    rwa [getD_set_ne false (fun e4 => hj e4.symm)] at hl
  intro p hp q hq hpf hqf hpq hlp hlq
  by_cases ep : p.1 = i
  · have hp2 := slot_eq hinj1 hp hi ep
    subst hp2
    have hqi : q.1 ≠ i := fun e => hpq (ep.trans e.symm)
    rw [put_getD_eq _ _ _ hsz, hold q hq hqi]
    have h1 := hf hpf
    have h2 := hfr q.1 hqf _ _ (h.base.fact q hq (hlist _ hqi hlq))
    omega
  · by_cases eq : q.1 = i
    · have hq2 := slot_eq hinj1 hq hi eq
      subst hq2
      rw [put_getD_eq _ _ _ hsz, hold p hp ep]
      have h1 := hf hqf
      have h2 := hfr p.1 hpf _ _ (h.base.fact p hp (hlist _ ep hlp))
      omega
    · rw [hold p hp ep, hold q hq eq]
      exact h.apart p hp q hq hpf hqf hpq (hlist _ ep hlp) (hlist _ eq hlq)
/-- The same until operation c has come up. -/
theorem wpAnyU_loose {L : List Nat} {fins : List (Array Bool × Nat)} {S : World → Prop} {c : Nat} (I : Array Bool → Act → World → Prop) (hS : ∀ l a w, I l a w → S w) (hc : L.contains c = false)
    (hstep : ∀ i ∈ L, ∀ listed a w, I listed a w → i ∈ Region.ready md ops listed → wpOp P ops Q i (I (listed.setIfInBounds i true)) a w)
    (hend : ∀ f ∈ fins, ∀ a w, I f.1 a w → wpAnyU P md ops Q S c f.2 f.1 a w) :
    ∀ (k : Nat) (listed : Array Bool) (a : Act) (w : World), looseB md ops L fins k listed = true → I listed a w → wpAnyU P md ops Q S c k listed a w
  | 0, listed, a, w, hB, hI => hend (listed, 0) (by simpa [looseB] using hB) a w hI
  | k + 1, listed, a, w, hB, hI => by
    rw [looseB, Bool.or_eq_true] at hB
    rcases hB with hB | hB
    · exact hend (listed, k + 1) (by simpa using hB) a w hI
    rw [Bool.and_eq_true, List.all_eq_true] at hB
    refine ⟨fun h0 => ?_, fun i hi => ?_⟩
    · rw [h0] at hB
      simp at hB
    · have h := hB.2 i hi
      rw [Bool.and_eq_true] at h
      refine wpOp_mono (fun a' w' h' => ⟨fun e => ?_, fun _ => ⟨hS _ _ _ h', wpAnyU_loose I hS hc hstep hend k _ a' w' h.2 h'⟩⟩) (hstep i (by simpa using h.1) listed a w hI hi)
      rw [e, hc] at h
      exact absurd h.1 (by simp)
/-- One operation can come up, and it isn't c. -/
theorem wpAnyU_one {i c : Nat} {o : Oper} {fuel : Nat} {listed : Array Bool} {a : Act} {w : World} {S : World → Prop} (hr : Region.ready md ops listed = [i]) (hic : i ≠ c) (ho : ops[i]? = some o)
    (h : ∀ K' : Act → World → Prop, Shut (∀ a w, S w → wpAnyU P md ops Q S c fuel (listed.setIfInBounds i true) a w → K' a w) → if Region.wanted o (yielded ops a.tmps) = true then Oper.wp P o a w K' Q else K' (a.put o.dst undef) w) : wpAnyU P md ops Q S c (fuel + 1) listed a w := by
  refine ⟨fun h0 => (by rw [hr] at h0; cases h0), fun j hj => ?_⟩
  rw [hr] at hj
  obtain rfl : j = i := by simpa using hj
  refine wpOp_step ho fun K' hK => h K' fun a' w' hS h' => hK a' w' ⟨fun e => absurd e hic, fun _ => ⟨hS, h'⟩⟩
/-- A whole array stored. -/
theorem store_op {w : World} {o : Oper} {a : Act} {K : Act → World → Prop} (hgd : o.guard = none) (t : TypeId) (x y : Operand) (ho : o.op = .store t x y) (b off : Nat) (cs : Array Value) (hx : a.eval x = .pointer (some ⟨b, off, none⟩)) (hy : a.eval y = .agg cs) (ht : w.there b off cs.size) (hi : (P.info? t).map (·.size) = some cs.size) (h1 : cs.all (·.oneCell') = true)
    (h : K (a.put o.dst undef) (w.setCells b off cs.toList)) : if Region.wanted o (yielded ops a.tmps) = true then Oper.wp P o a w K Q else K (a.put o.dst undef) w := by
  rw [if_pos (by simp [Region.wanted, hgd])]
  exact wp_store_mid t x y ho b off cs hx hy ht hi h1 h
/-- A range in a block that stood. -/
theorem range_on {w w' : World} {b off : Nat} {cs : List Value} (h : w.rangeAt b off cs) (hlt : b < w.heap.size) (hb : Below w.heap.size w w') : w'.rangeAt b off cs := by
  intro j v hj
  rw [World.cell?_of_block (w := w) (hb.block b hlt)]
  exact h j v hj
/-- A call of a Go function. -/
theorem call_op {w : World} {o : Oper} {a : Act} {K : Act → World → Prop} (hgd : o.guard = none) (f : FuncId) (args : List Operand) (tys : Array TypeId) (ho : o.op = .call { callee := .value (.func f), args := args.toArray, argTypes := tys }) (vs : List Value) (hv : args.map a.eval = vs) (hcf : ∀ args w, (callFunc f args).run P w = .ok (.enter f args) w)
    {R : Ending → World → Prop} (hc : Calls P f vs.toArray w R) (h : ∀ e w', R e w' → ∃ v, e = .returned v ∧ K (a.put o.dst v) w') : if Region.wanted o (yielded ops a.tmps) = true then Oper.wp P o a w K Q else K (a.put o.dst undef) w := by
  rw [if_pos (by simp [Region.wanted, hgd])]
  unfold Oper.wp
  simp [execOp, ho, resolve, invoke, Act.eval, Deferred.ofValue, hv, hcf, Oper.upon]
  refine hc.mono fun e w' hR => ?_
  obtain ⟨v, rfl, hk⟩ := h e w' hR
  exact hk
theorem enters {f : FuncId} {fn : Func} (hf : P.funcs[f]? = some fn) (hn : (fn.name == "runtime.NumGoroutine") = false) (hb : fn.body.isNone = false) (args : Array Value) (w : World) : (callFunc f args).run P w = .ok (.enter f args) w := by
  have hn' : fn.name ≠ "runtime.NumGoroutine" := by simpa using hn
  have hb' : fn.body ≠ none := by intro e; rw [e] at hb; cases hb
  simp [callFunc, hf, hn', hb']
/-- An operation that only yields. -/
theorem quiet_op {w : World} {o : Oper} {a : Act} {K : Act → World → Prop} (hgd : o.guard = none) (v : Value) (hr : (execOp a.eval o).run P w = .ok (.value v) w) (h : K (a.put o.dst v) w) : if Region.wanted o (yielded ops a.tmps) = true then Oper.wp P o a w K Q else K (a.put o.dst undef) w := by
  rw [if_pos (by simp [Region.wanted, hgd])]
  unfold Oper.wp
  rw [hr]
  exact h
theorem move_op {w : World} {o : Oper} {a : Act} {K : Act → World → Prop} (hgd : o.guard = none) (x : Operand) (ho : o.op = .move x) (v : Value) (hx : a.eval x = v) (h : K (a.put o.dst v) w) : if Region.wanted o (yielded ops a.tmps) = true then Oper.wp P o a w K Q else K (a.put o.dst undef) w := by
  refine quiet_op hgd v ?_ h
  simp [execOp, ho, hx]
theorem extract_op {w : World} {o : Oper} {a : Act} {K : Act → World → Prop} (hgd : o.guard = none) (x : Operand) (i : Nat) (ho : o.op = .extract x i) (vs : Array Value) (hx : a.eval x = .tuple vs) (v : Value) (hv : vs[i]? = some v) (h : K (a.put o.dst v) w) : if Region.wanted o (yielded ops a.tmps) = true then Oper.wp P o a w K Q else K (a.put o.dst undef) w := by
  refine quiet_op hgd v ?_ h
  simp [execOp, ho, hx, Instr.extract, hv]
/-- A whole array loaded. -/
theorem load_op {w : World} {o : Oper} {a : Act} {K : Act → World → Prop} (hgd : o.guard = none) (t : TypeId) (x : Operand) (ho : o.op = .load t x) (b off : Nat) (hx : a.eval x = .pointer (some ⟨b, off, none⟩)) (cs : List Value) (d : TypeDesc) (hc : w.rangeAt b off cs)
    (hu : P.underlying t = some d) (hd : d.isRow = true) (hi : (P.info? t).map (·.size) = some cs.length) (h : K (a.put o.dst (.agg cs.toArray)) w) : if Region.wanted o (yielded ops a.tmps) = true then Oper.wp P o a w K Q else K (a.put o.dst undef) w := by
  rw [if_pos (by simp [Region.wanted, hgd])]
  exact wp_load_mid t x ho b off hx cs d hc hu hd hi h
/-- A new variable. -/
theorem alloc_op {w : World} {o : Oper} {a : Act} {K : Act → World → Prop} (hgd : o.guard = none) (t : TypeId) (ho : o.op = .alloc t) (zs : List Value) (hz : ∀ w, (zeroValue t).run P w = .ok (.agg zs.toArray) w)
    (h : ∀ w', Below w.heap.size w w' → Cells w' w.heap.size zs t → K (a.put o.dst (.pointer (some ⟨w.heap.size, 0, none⟩))) w') : if Region.wanted o (yielded ops a.tmps) = true then Oper.wp P o a w K Q else K (a.put o.dst undef) w := by
  rw [if_pos (by simp [Region.wanted, hgd])]
  unfold Oper.wp
  simp only [execOp, ho, Instr.alloc, hz, newVar, Value.cells, Sem.run_bind, Sem.run_pure, Result.andThen_ok, go_sem]
  exact h _ ((Below.refl _ _).alloc (Nat.le_refl _) _) (Cells.new w _ _)
/-- A literal of a slice. -/
theorem lit_op {w : World} {o : Oper} {a : Act} {K : Act → World → Prop} (hgd : o.guard = none) (t : TypeId) (n : Nat) (parts : List (Nat × Operand)) (ho : o.op = .buildSlice t n parts.toArray) (ps : List (Nat × Value)) (hp : (parts.map fun (i, x) => (i, a.eval x)) = ps) (e : TypeId) (vs : List Value)
    (hr : ∀ w, (Instr.buildSlice t n ps.toArray).run P w = .ok (.slice (some ⟨w.heap.size, 0, none⟩) n n) (w.alloc (.cells vs.toArray e)))
    (h : ∀ w', Below w.heap.size w w' → Cells w' w.heap.size vs e → K (a.put o.dst (.slice (some ⟨w.heap.size, 0, none⟩) n n)) w') : if Region.wanted o (yielded ops a.tmps) = true then Oper.wp P o a w K Q else K (a.put o.dst undef) w := by
  rw [if_pos (by simp [Region.wanted, hgd])]
  unfold Oper.wp
  simp only [execOp, ho, List.map_toArray, hp, hr, Sem.run_bind, Sem.run_pure, Result.andThen_ok]
  exact h _ ((Below.refl _ _).alloc (Nat.le_refl _) _) (Cells.new w _ _)
end
set_option maxRecDepth 100000 in
theorem loose_frame32 (a : Act) (hs : a.tmps.size = 32) (hd : a.defers = []) : ∃ u : Nat → Value, a = ⟨(u 0 :: u 1 :: u 2 :: u 3 :: u 4 :: u 5 :: u 6 :: u 7 :: u 8 :: u 9 :: u 10 :: u 11 :: u 12 :: u 13 :: u 14 :: u 15 :: u 16 :: u 17 :: u 18 :: u 19 :: u 20 :: u 21 :: u 22 :: u 23 :: u 24 :: u 25 :: u 26 :: u 27 :: u 28 :: u 29 :: u 30 :: u 31 :: []).toArray, []⟩ := by
  obtain ⟨u, h⟩ := frame_of 32 a hs hd
  exact ⟨u, h⟩
set_option maxRecDepth 100000 in
theorem loose_frame36 (a : Act) (hs : a.tmps.size = 36) (hd : a.defers = []) : ∃ u : Nat → Value, a = ⟨(u 0 :: u 1 :: u 2 :: u 3 :: u 4 :: u 5 :: u 6 :: u 7 :: u 8 :: u 9 :: u 10 :: u 11 :: u 12 :: u 13 :: u 14 :: u 15 :: u 16 :: u 17 :: u 18 :: u 19 :: u 20 :: u 21 :: u 22 :: u 23 :: u 24 :: u 25 :: u 26 :: u 27 :: u 28 :: u 29 :: u 30 :: u 31 :: u 32 :: u 33 :: u 34 :: u 35 :: []).toArray, []⟩ := by
  obtain ⟨u, h⟩ := frame_of 36 a hs hd
  exact ⟨u, h⟩
set_option maxRecDepth 100000 in
theorem loose_frame44 (a : Act) (hs : a.tmps.size = 44) (hd : a.defers = []) : ∃ u : Nat → Value, a = ⟨(u 0 :: u 1 :: u 2 :: u 3 :: u 4 :: u 5 :: u 6 :: u 7 :: u 8 :: u 9 :: u 10 :: u 11 :: u 12 :: u 13 :: u 14 :: u 15 :: u 16 :: u 17 :: u 18 :: u 19 :: u 20 :: u 21 :: u 22 :: u 23 :: u 24 :: u 25 :: u 26 :: u 27 :: u 28 :: u 29 :: u 30 :: u 31 :: u 32 :: u 33 :: u 34 :: u 35 :: u 36 :: u 37 :: u 38 :: u 39 :: u 40 :: u 41 :: u 42 :: u 43 :: []).toArray, []⟩ := by
  obtain ⟨u, h⟩ := frame_of 44 a hs hd
  exact ⟨u, h⟩
set_option maxRecDepth 100000 in
theorem loose_frame63 (a : Act) (hs : a.tmps.size = 63) (hd : a.defers = []) : ∃ u : Nat → Value, a = ⟨(u 0 :: u 1 :: u 2 :: u 3 :: u 4 :: u 5 :: u 6 :: u 7 :: u 8 :: u 9 :: u 10 :: u 11 :: u 12 :: u 13 :: u 14 :: u 15 :: u 16 :: u 17 :: u 18 :: u 19 :: u 20 :: u 21 :: u 22 :: u 23 :: u 24 :: u 25 :: u 26 :: u 27 :: u 28 :: u 29 :: u 30 :: u 31 :: u 32 :: u 33 :: u 34 :: u 35 :: u 36 :: u 37 :: u 38 :: u 39 :: u 40 :: u 41 :: u 42 :: u 43 :: u 44 :: u 45 :: u 46 :: u 47 :: u 48 :: u 49 :: u 50 :: u 51 :: u 52 :: u 53 :: u 54 :: u 55 :: u 56 :: u 57 :: u 58 :: u 59 :: u 60 :: u 61 :: u 62 :: []).toArray, []⟩ := by
  obtain ⟨u, h⟩ := frame_of 63 a hs hd
  exact ⟨u, h⟩
set_option maxRecDepth 100000 in
theorem loose_frame65 (a : Act) (hs : a.tmps.size = 65) (hd : a.defers = []) : ∃ u : Nat → Value, a = ⟨(u 0 :: u 1 :: u 2 :: u 3 :: u 4 :: u 5 :: u 6 :: u 7 :: u 8 :: u 9 :: u 10 :: u 11 :: u 12 :: u 13 :: u 14 :: u 15 :: u 16 :: u 17 :: u 18 :: u 19 :: u 20 :: u 21 :: u 22 :: u 23 :: u 24 :: u 25 :: u 26 :: u 27 :: u 28 :: u 29 :: u 30 :: u 31 :: u 32 :: u 33 :: u 34 :: u 35 :: u 36 :: u 37 :: u 38 :: u 39 :: u 40 :: u 41 :: u 42 :: u 43 :: u 44 :: u 45 :: u 46 :: u 47 :: u 48 :: u 49 :: u 50 :: u 51 :: u 52 :: u 53 :: u 54 :: u 55 :: u 56 :: u 57 :: u 58 :: u 59 :: u 60 :: u 61 :: u 62 :: u 63 :: u 64 :: []).toArray, []⟩ := by
  obtain ⟨u, h⟩ := frame_of 65 a hs hd
  exact ⟨u, h⟩
end Go.Proofs.YticgkabamelddaaDoor
