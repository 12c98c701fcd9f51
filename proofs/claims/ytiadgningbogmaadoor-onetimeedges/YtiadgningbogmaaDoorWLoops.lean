/- A great function's loops, each a theorem of its own: the loops' bodies taken out of the translation, frames told by the slots that matter. No program is named here. -/
import Derived.Test.YtiadgningbogmaaDoorWCells
namespace Go.Proofs.YtiadgningbogmaaDoor
open Go.RowKit
/-- The bodies of a code's loops, the outer one first. -/
def loopsOf : Code → List Code
  | .loop c => c :: loopsOf c
  | .seq a b => loopsOf a ++ loopsOf b
  | .block _ c => loopsOf c
  | .scope c => loopsOf c
  | .cond _ a b => loopsOf a ++ loopsOf b
  | _ => []
/-- What these slots hold. -/
def Slots (a : Act) : List (Nat × Value) → Prop
  | [] => True
  | (i, v) :: l => a.tmps.getD i undef = v ∧ Slots a l
/-- A frame of n slots, of which some are known. -/
def Fr (n : Nat) (l : List (Nat × Value)) (a : Act) : Prop := a.tmps.size = n ∧ a.defers = [] ∧ Slots a l
theorem frame_of (n : Nat) (a : Act) (hs : a.tmps.size = n) (hd : a.defers = []) : ∃ u : Nat → Value, a = ⟨((List.range n).map u).toArray, []⟩ := by
  obtain ⟨t, d⟩ := a
  simp only at hs hd
  subst hd
  refine ⟨fun i => t.getD i undef, ?_⟩
  congr 1
  apply Array.ext_getElem?
  intro i
  by_cases h : i < n
  · simp [h, hs]
  · simp [h, hs]
end Go.Proofs.YtiadgningbogmaaDoor
