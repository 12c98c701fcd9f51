/- A region in the text's order is one of the orders: what is shown of all orders serves it too. No program is named here. -/
import Derived.Test.YtcnmohmlfffnkaaDoorPart13
namespace Go.Proofs.YtcnmohmlfffnkaaDoor
open Go.RowKit
section
variable {P : Program} {ops : Array Oper} {Q : Exit → Act → World → Prop} {md : Region.Mode}
/-- Each operation waits for earlier ones alone. -/
def earlyB (md : Region.Mode) (ops : Array Oper) : Bool := (List.range ops.size).all fun i => match ops[i]? with
  | some o => o.after.all fun e => !Region.binds md e || Nat.blt e.on i
  | none => true
/-- The first k of n have come up. -/
def preA (n k : Nat) : Array Bool := ((List.range n).map fun i => Nat.blt i k).toArray
theorem preA_get (n k i : Nat) (d : Bool) (h : i < n) : (preA n k).getD i d = Nat.blt i k := by simp [preA, h]
theorem preA_zero (n : Nat) : preA n 0 = Array.replicate n false := by
  apply Array.ext_getElem?
  intro i
  by_cases h : i < n
  · simp [preA, h, show Nat.blt i 0 = false from Bool.eq_false_iff.2 (by rw [Ne, Nat.blt_eq]; omega)]
  · simp [preA, h]
theorem preA_set (n k : Nat) : (preA n k).setIfInBounds k true = preA n (k + 1) := by
  apply Array.ext_getElem?
  intro i
  rw [Array.getElem?_setIfInBounds]
  by_cases h : i < n
  · by_cases e : k = i
    · subst e
      simp [preA, h, Nat.blt_eq]
    · have : Nat.blt i k = Nat.blt i (k + 1) := by
        rw [Bool.eq_iff_iff, Nat.blt_eq, Nat.blt_eq]
        omega
      simp [preA, h, e, this]
  · by_cases e : k = i
    · subst e
      simp [preA, h]
    · simp [preA, h, e]
theorem wpOps_of_any (hE : earlyB md ops = true) : ∀ (n k : Nat) (a : Act) (w : World), k + n = ops.size → wpAny P md ops Q n (preA ops.size k) a w → wpOps P ops Q (List.range' k n) a w
  | 0, _, _, _, _, h => h.2
  | n + 1, k, a, w, hk, h => by
    rw [List.range'_succ, wpOps_cons]
    have hr : k ∈ Region.ready md ops (preA ops.size k) := by
      have hlt : k < ops.size := by omega
      refine mem_ready.2 ⟨by rw [preA_get _ _ _ _ hlt]; exact Bool.eq_false_iff.2 (by rw [Ne, Nat.blt_eq]; omega), ops[k], by simp [hlt], fun e he hb => ?_⟩
      rw [earlyB, List.all_eq_true] at hE
      have h1 := hE k (List.mem_range.2 hlt)
      rw [Array.getElem?_eq_getElem hlt] at h1
      have h2 := (Array.all_eq_true'.1 h1) e he
      rw [hb] at h2
      have h3 : Nat.blt e.on k = true := by simpa using h2
      rw [preA_get _ _ _ _ (Nat.lt_trans (by simpa [Nat.blt_eq] using h3) hlt)]
      exact h3
    refine wpOp_mono (fun a w hh => wpOps_of_any hE n (k + 1) a w (by omega) ?_) (h.2 k hr)
    rwa [preA_set] at hh
theorem wp_region_flat {id : Nat} {a : Act} {w : World} (hE : earlyB md ops = true) (h : wpAny P md ops Q ops.size (Array.replicate ops.size false) a w) : (Code.region id ops false).wp P Q a w := by
  refine wp_region ?_
  rw [List.range_eq_range']
  refine wpOps_of_any hE ops.size 0 a w (by omega) ?_
  rw [preA_zero]
  exact h
end
end Go.Proofs.YtcnmohmlfffnkaaDoor
