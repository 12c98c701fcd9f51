/- Guarded operations, conversions and comparisons of texts in regions that draw their order. -/
import Derived.Test.YtdaieklimdhkoaaDoorPart8
import Derived.Test.YtdaieklimdhkoaaDoorPart1
namespace Go.Proofs.YtdaieklimdhkoaaDoor
open Go.RowKit
/-- A guarded operation that is wanted, as one with no guard. -/
theorem under_guard {P : Program} {ops : Array Oper} {Q : Exit → Act → World → Prop} {w : World} {o : Oper} {a : Act} {K : Act → World → Prop} (hw : Region.wanted o (yielded ops a.tmps) = true)
    (h : if Region.wanted { o with guard := none } (yielded ops a.tmps) = true then Oper.wp P { o with guard := none } a w K Q else K (a.put o.dst undef) w) : if Region.wanted o (yielded ops a.tmps) = true then Oper.wp P o a w K Q else K (a.put o.dst undef) w := by
  rw [if_pos hw]
  rw [if_pos (by simp [Region.wanted])] at h
  exact h
theorem wanted_by {ops : Array Oper} {o : Oper} {a : Act} {j s : Nat} (hg : o.guard = some (j, true)) {oj : Oper} (hj : ops[j]? = some oj) (hd : oj.dst = some s) (hv : a.tmps.getD s undef = .bool true) : Region.wanted o (yielded ops a.tmps) = true := by
  simp only [Region.wanted, hg]
  unfold yielded
  rw [Array.getD_eq_getD_getElem?] at hv
  cases h : a.tmps[s]? with
  | none => rw [h] at hv; cases hv
  | some v =>
    rw [h] at hv
    obtain rfl : v = .bool true := hv
    simp [hj, hd, h]
theorem conv_op {P : Program} {ops : Array Oper} {Q : Exit → Act → World → Prop} {w : World} {o : Oper} {a : Act} {K : Act → World → Prop} (hgd : o.guard = none) (t1 t2 : TypeId) (x : Operand) (ho : o.op = .convert t1 t2 x) (v u : Value) (hx : a.eval x = v) (hr : (convert t1 t2 v).run P w = .ok u w) (h : K (a.put o.dst u) w) : if Region.wanted o (yielded ops a.tmps) = true then Oper.wp P o a w K Q else K (a.put o.dst undef) w := by
  refine quiet_op hgd u ?_ h
  simp [execOp, ho, hx, hr]
set_option maxRecDepth 100000 in
/-- Two texts compared. -/
theorem str_eql_op {ops : Array Oper} {Q : Exit → Act → World → Prop} {w : World} {o : Oper} {a : Act} {K : Act → World → Prop} (hgd : o.guard = none) (x y : Operand) (ho : o.op = .binOp .eql 9 x y 9) (s t : List UInt8) (r : Bool) (hx : a.eval x = .string (str s)) (hy : a.eval y = .string (str t)) (hr : (s == t) = r) (h : K (a.put o.dst (.bool r)) w) :
    if Region.wanted o (yielded ops a.tmps) = true then Oper.wp Tryd.prog o a w K Q else K (a.put o.dst undef) w := by
  refine quiet_op hgd (.bool r) ?_ h
  have sb := str_beq
  obtain ⟨dst, op, ty, pos, after, guard⟩ := o
  simp only at ho
  subst ho
  simp only [execOp]
  rw [hx, hy]
  go_simp
end Go.Proofs.YtdaieklimdhkoaaDoor
