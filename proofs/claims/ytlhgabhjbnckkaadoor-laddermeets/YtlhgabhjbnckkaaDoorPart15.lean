/- Part 15 of what the laws of this seat share: NCurve, NAssoc, NGroup, NEdw, NPoints, NOrder, NRep, NBase, NLadder. -/
import Derived.Test.YtlhgabhjbnckkaaDoorPart14
namespace Go.Proofs.YtlhgabhjbnckkaaDoor.NP
/-- A prime, a root of less 1, and a number that is no square. -/
structure Edw (P : Nat) (d i : Int) : Prop where
  prime : Pr P
  odd : ¬ (P : Int) ∣ 2
  root : (P : Int) ∣ i * i + 1
  non : ∀ s t : Int, (P : Int) ∣ s * s - d * (t * t) → (P : Int) ∣ t
/-- A point is on the curve. -/
def On (P : Nat) (d x y : Int) : Prop := (P : Int) ∣ y*y - x*x - 1 - d*x*x*y*y
theorem Pr.not_one {P : Nat} (h : Pr P) : ¬ (P : Int) ∣ 1 := fun hd => by
  have h1 := Int.natCast_dvd_natCast.1 (show ((P : Nat) : Int) ∣ ((1 : Nat) : Int) from hd)
  have h2 := Nat.le_of_dvd (by decide) h1
  have := h.1
  omega
theorem Edw.part {P : Nat} {d i : Int} (h : Edw P d i) {x1 y1 x2 y2 e f : Int} (he : e * e = 1) (hf : f * f = 1) (h1 : On P d x1 y1) (h2 : On P d x2 y2) (hk : (P : Int) ∣ e - d*x1*x2*y1*y2) : (P : Int) ∣ x1 * y1 * (i * x2 + f * y2) := by
  obtain ⟨u1, hu1⟩ := h1
  obtain ⟨u2, hu2⟩ := h2
  obtain ⟨v, hv⟩ := hk
  obtain ⟨j, hj⟩ := h.root
  refine h.non (i * x1 + e * f * y1) _ ⟨u1 - d*x1*x1*y1*y1*u2 + v*(e + d*x1*x2*y1*y2) + 2*i*x1*y1*f*v + j*x1*x1 - d*x1*x1*y1*y1*j*x2*x2, ?_⟩
  grind
theorem Edw.apart {P : Nat} {d i : Int} (h : Edw P d i) {x1 y1 x2 y2 e : Int} (he : e * e = 1) (h1 : On P d x1 y1) (h2 : On P d x2 y2) : ¬ (P : Int) ∣ e - d*x1*x2*y1*y2 := fun hk => by
  obtain ⟨a, ha⟩ := h.part (f := 1) he rfl h1 h2 hk
  obtain ⟨b, hb⟩ := h.part (f := -1) he rfl h1 h2 hk
  obtain ⟨v, hv⟩ := hk
  obtain ⟨j, hj⟩ := h.root
  have h3 : (P : Int) ∣ 2 * (i * (d*x1*x2*y1*y2)) := ⟨(a + b) * (d * y2), by grind⟩
  rcases h.prime.int h3 with h4 | h4
  · exact h.odd h4
  · rcases h.prime.int h4 with ⟨c, hc⟩ | ⟨c, hc⟩
    · exact h.prime.not_one ⟨j - c * i, by rw [Int.mul_sub, ← Int.mul_assoc, ← hc, ← hj]; omega⟩
    · have h5 : e = (P : Int) * (v + c) := by rw [Int.mul_add, ← hv, ← hc]; omega
      exact h.prime.not_one ⟨e * (v + c), by rw [Int.mul_left_comm, ← h5, he]⟩
theorem Edw.plus {P : Nat} {d i : Int} (h : Edw P d i) {x1 y1 x2 y2 : Int} (h1 : On P d x1 y1) (h2 : On P d x2 y2) : ¬ (P : Int) ∣ 1 + d*x1*x2*y1*y2 := fun ⟨c, hc⟩ =>
  h.apart (e := -1) rfl h1 h2 ⟨-c, by grind⟩
theorem Edw.less {P : Nat} {d i : Int} (h : Edw P d i) {x1 y1 x2 y2 : Int} (h1 : On P d x1 y1) (h2 : On P d x2 y2) : ¬ (P : Int) ∣ 1 - d*x1*x2*y1*y2 := h.apart (e := 1) rfl h1 h2
/-- The third point is the sum of the two. -/
def Sum (P : Nat) (d x1 y1 x2 y2 x3 y3 : Int) : Prop := (P : Int) ∣ x3 * (1 + d*x1*x2*y1*y2) - (x1*y2 + x2*y1) ∧ (P : Int) ∣ y3 * (1 - d*x1*x2*y1*y2) - (y1*y2 + x1*x2)
theorem cancel {P : Nat} (hP : Pr P) {a b c : Int} (hc : ¬ (P : Int) ∣ c) (h : (P : Int) ∣ a * c - b * c) : (P : Int) ∣ a - b := by
  rw [← Int.sub_mul] at h
  exact (hP.int h).resolve_right hc
theorem Edw.one {P : Nat} {d i : Int} (h : Edw P d i) {x1 y1 x2 y2 x3 y3 x4 y4 : Int} (h1 : On P d x1 y1) (h2 : On P d x2 y2) (h3 : Sum P d x1 y1 x2 y2 x3 y3) (h4 : Sum P d x1 y1 x2 y2 x4 y4) : (P : Int) ∣ x3 - x4 ∧ (P : Int) ∣ y3 - y4 := by
  obtain ⟨⟨a, ha⟩, ⟨b, hb⟩⟩ := h3
  obtain ⟨⟨a', ha'⟩, ⟨b', hb'⟩⟩ := h4
  exact ⟨cancel h.prime (h.plus h1 h2) ⟨a - a', by grind⟩, cancel h.prime (h.less h1 h2) ⟨b - b', by grind⟩⟩
theorem Sum.swap {P : Nat} {d x1 y1 x2 y2 x3 y3 : Int} (h : Sum P d x1 y1 x2 y2 x3 y3) : Sum P d x2 y2 x1 y1 x3 y3 := by
  obtain ⟨⟨a, ha⟩, ⟨b, hb⟩⟩ := h
  exact ⟨⟨a, by grind⟩, ⟨b, by grind⟩⟩
end Go.Proofs.YtlhgabhjbnckkaaDoor.NP
namespace Go.Proofs.YtlhgabhjbnckkaaDoor.NP
set_option maxHeartbeats 4000000 in
set_option maxRecDepth 100000 in
theorem assoc_x (d x1 y1 x2 y2 x3 y3 : Int) : ((x1*y2 + x2*y1)*(1 - d*x1*x2*y1*y2)*y3 + (y1*y2 + x1*x2)*(1 + d*x1*x2*y1*y2)*x3) * ((1 + d*x2*x3*y2*y3)*(1 - d*x2*x3*y2*y3) + d*(x2*y3 + x3*y2)*(y2*y3 + x2*x3)*x1*y1) - ((x2*y3 + x3*y2)*(1 - d*x2*x3*y2*y3)*y1 + (y2*y3 + x2*x3)*(1 + d*x2*x3*y2*y3)*x1) * ((1 + d*x1*x2*y1*y2)*(1 - d*x1*x2*y1*y2) + d*(x1*y2 + x2*y1)*(y1*y2 + x1*x2)*x3*y3) = ((-1) * d * y1 * x2 * y2^4 * x3^2 * y3 + (-1) * d * y1 * x2^2 * y2^3 * x3 + (-1) * d * y1 * x2^2 * y2^3 * x3^3 + (-1) * d * y1 * x2^3 * y2^2 * y3 + (1) * d * y1 * x2^3 * y2^2 * y3^3 + (1) * d * y1 * x2^4 * y2 * x3 * y3^2 + (1) * d * x1 * x2 * y2^4 * x3 * y3^2 + (-1) * d * x1 * x2^2 * y2^3 * y3 + (1) * d * x1 * x2^2 * y2^3 * y3^3 + (-1) * d * x1 * x2^3 * y2^2 * x3 + (-1) * d * x1 * x2^3 * y2^2 * x3^3 + (-1) * d * x1 * x2^4 * y2 * x3^2 * y3 + (1) * d^2 * y1 * x2^3 * y2^4 * x3^2 * y3 + (1) * d^2 * y1 * x2^4 * y2^3 * x3 * y3^2 + (-1) * d^2 * x1 * x2^3 * y2^4 * x3 * y3^2 + (-1) * d^2 * x1 * x2^4 * y2^3 * x3^2 * y3) * (y1*y1 - x1*x1 - 1 - d*x1*x1*y1*y1) + ((1) * y1 * y2 * x3 + (-1) * y1 * y2 * x3 * y3^2 + (1) * y1 * y2 * x3^3 + (1) * y1 * x2 * y3 + (-1) * y1 * x2 * y3^3 + (1) * y1 * x2 * x3^2 * y3 + (-1) * y1^3 * y2 * x3 + (1) * y1^3 * y2 * x3 * y3^2 + (-1) * y1^3 * y2 * x3^3 + (-1) * y1^3 * x2 * y3 + (1) * y1^3 * x2 * y3^3 + (-1) * y1^3 * x2 * x3^2 * y3 + (1) * x1 * y2 * y3 + (-1) * x1 * y2 * y3^3 + (1) * x1 * y2 * x3^2 * y3 + (1) * x1 * x2 * x3 + (-1) * x1 * x2 * x3 * y3^2 + (1) * x1 * x2 * x3^3 + (-1) * x1 * y1^2 * y2 * y3 + (1) * x1 * y1^2 * y2 * y3^3 + (-1) * x1 * y1^2 * y2 * x3^2 * y3 + (-1) * x1 * y1^2 * x2 * x3 + (1) * x1 * y1^2 * x2 * x3 * y3^2 + (-1) * x1 * y1^2 * x2 * x3^3 + (1) * x1^2 * y1 * y2 * x3 + (-1) * x1^2 * y1 * y2 * x3 * y3^2 + (1) * x1^2 * y1 * y2 * x3^3 + (1) * x1^2 * y1 * x2 * y3 + (-1) * x1^2 * y1 * x2 * y3^3 + (1) * x1^2 * y1 * x2 * x3^2 * y3 + (1) * x1^3 * y2 * y3 + (-1) * x1^3 * y2 * y3^3 + (1) * x1^3 * y2 * x3^2 * y3 + (1) * x1^3 * x2 * x3 + (-1) * x1^3 * x2 * x3 * y3^2 + (1) * x1^3 * x2 * x3^3 + (1) * d * y1 * y2 * x3^3 * y3^2 + (1) * d * y1 * x2 * x3^2 * y3^3 + (-1) * d * y1 * x2 * y2^2 * x3^2 * y3 + (-1) * d * y1 * x2^2 * y2 * x3 * y3^2 + (-1) * d * y1^3 * y2 * x3^3 * y3^2 + (-1) * d * y1^3 * x2 * x3^2 * y3^3 + (1) * d * y1^3 * x2 * y2^2 * x3^2 * y3 + (1) * d * y1^3 * x2^2 * y2 * x3 * y3^2 + (1) * d * x1 * y2 * x3^2 * y3^3 + (1) * d * x1 * x2 * x3^3 * y3^2 + (1) * d * x1 * x2 * y2^2 * x3 * y3^2 + (1) * d * x1 * x2^2 * y2 * x3^2 * y3 + (-1) * d * x1 * y1^2 * y2 * x3^2 * y3^3 + (-1) * d * x1 * y1^2 * x2 * x3^3 * y3^2 + (-1) * d * x1 * y1^2 * x2 * y2^2 * x3 * y3^2 + (-1) * d * x1 * y1^2 * x2^2 * y2 * x3^2 * y3 + (1) * d * x1^2 * y1 * y2 * x3^3 * y3^2 + (1) * d * x1^2 * y1 * x2 * x3^2 * y3^3 + (-1) * d * x1^2 * y1 * x2 * y2^2 * x3^2 * y3 + (-1) * d * x1^2 * y1 * x2^2 * y2 * x3 * y3^2 + (1) * d * x1^3 * y2 * x3^2 * y3^3 + (1) * d * x1^3 * x2 * x3^3 * y3^2 + (1) * d * x1^3 * x2 * y2^2 * x3 * y3^2 + (1) * d * x1^3 * x2^2 * y2 * x3^2 * y3 + (1) * d^2 * x1 * y1^2 * x2 * y2^2 * x3^3 * y3^2 + (-1) * d^2 * x1 * y1^2 * x2^2 * y2 * x3^2 * y3^3 + (-1) * d^2 * x1^2 * y1 * x2 * y2^2 * x3^2 * y3^3 + (1) * d^2 * x1^2 * y1 * x2^2 * y2 * x3^3 * y3^2) * (y2*y2 - x2*x2 - 1 - d*x2*x2*y2*y2) + ((-1) * y1 * y2 * x3 + (1) * y1 * y2^3 * x3 + (-1) * y1 * x2 * y3 + (1) * y1 * x2 * y2^2 * y3 + (-1) * y1 * x2^2 * y2 * x3 + (-1) * y1 * x2^3 * y3 + (1) * y1^3 * y2 * x3 + (-1) * y1^3 * y2^3 * x3 + (1) * y1^3 * x2 * y3 + (-1) * y1^3 * x2 * y2^2 * y3 + (1) * y1^3 * x2^2 * y2 * x3 + (1) * y1^3 * x2^3 * y3 + (-1) * x1 * y2 * y3 + (1) * x1 * y2^3 * y3 + (-1) * x1 * x2 * x3 + (1) * x1 * x2 * y2^2 * x3 + (-1) * x1 * x2^2 * y2 * y3 + (-1) * x1 * x2^3 * x3 + (1) * x1 * y1^2 * y2 * y3 + (-1) * x1 * y1^2 * y2^3 * y3 + (1) * x1 * y1^2 * x2 * x3 + (-1) * x1 * y1^2 * x2 * y2^2 * x3 + (1) * x1 * y1^2 * x2^2 * y2 * y3 + (1) * x1 * y1^2 * x2^3 * x3 + (-1) * x1^2 * y1 * y2 * x3 + (1) * x1^2 * y1 * y2^3 * x3 + (-1) * x1^2 * y1 * x2 * y3 + (1) * x1^2 * y1 * x2 * y2^2 * y3 + (-1) * x1^2 * y1 * x2^2 * y2 * x3 + (-1) * x1^2 * y1 * x2^3 * y3 + (-1) * x1^3 * y2 * y3 + (1) * x1^3 * y2^3 * y3 + (-1) * x1^3 * x2 * x3 + (1) * x1^3 * x2 * y2^2 * x3 + (-1) * x1^3 * x2^2 * y2 * y3 + (-1) * x1^3 * x2^3 * x3 + (-1) * d * x1 * y1^2 * x2 * y2^2 * x3 + (1) * d * x1 * y1^2 * x2^2 * y2 * y3 + (1) * d * x1^2 * y1 * x2 * y2^2 * y3 + (-1) * d * x1^2 * y1 * x2^2 * y2 * x3) * (y3*y3 - x3*x3 - 1 - d*x3*x3*y3*y3) := by grind
set_option maxHeartbeats 4000000 in
set_option maxRecDepth 100000 in
theorem assoc_y (d x1 y1 x2 y2 x3 y3 : Int) : ((y1*y2 + x1*x2)*(1 + d*x1*x2*y1*y2)*y3 + (x1*y2 + x2*y1)*(1 - d*x1*x2*y1*y2)*x3) * ((1 + d*x2*x3*y2*y3)*(1 - d*x2*x3*y2*y3) - d*(x2*y3 + x3*y2)*(y2*y3 + x2*x3)*x1*y1) - ((y2*y3 + x2*x3)*(1 + d*x2*x3*y2*y3)*y1 + (x2*y3 + x3*y2)*(1 - d*x2*x3*y2*y3)*x1) * ((1 + d*x1*x2*y1*y2)*(1 - d*x1*x2*y1*y2) - d*(x1*y2 + x2*y1)*(y1*y2 + x1*x2)*x3*y3) = ((1) * d * y1 * x2 * y2^4 * x3 * y3^2 + (-1) * d * y1 * x2^2 * y2^3 * y3 + (1) * d * y1 * x2^2 * y2^3 * y3^3 + (-1) * d * y1 * x2^3 * y2^2 * x3 + (-1) * d * y1 * x2^3 * y2^2 * x3^3 + (-1) * d * y1 * x2^4 * y2 * x3^2 * y3 + (-1) * d * x1 * x2 * y2^4 * x3^2 * y3 + (-1) * d * x1 * x2^2 * y2^3 * x3 + (-1) * d * x1 * x2^2 * y2^3 * x3^3 + (-1) * d * x1 * x2^3 * y2^2 * y3 + (1) * d * x1 * x2^3 * y2^2 * y3^3 + (1) * d * x1 * x2^4 * y2 * x3 * y3^2 + (-1) * d^2 * y1 * x2^3 * y2^4 * x3 * y3^2 + (-1) * d^2 * y1 * x2^4 * y2^3 * x3^2 * y3 + (1) * d^2 * x1 * x2^3 * y2^4 * x3^2 * y3 + (1) * d^2 * x1 * x2^4 * y2^3 * x3 * y3^2) * (y1*y1 - x1*x1 - 1 - d*x1*x1*y1*y1) + ((1) * y1 * y2 * y3 + (-1) * y1 * y2 * y3^3 + (1) * y1 * y2 * x3^2 * y3 + (1) * y1 * x2 * x3 + (-1) * y1 * x2 * x3 * y3^2 + (1) * y1 * x2 * x3^3 + (-1) * y1^3 * y2 * y3 + (1) * y1^3 * y2 * y3^3 + (-1) * y1^3 * y2 * x3^2 * y3 + (-1) * y1^3 * x2 * x3 + (1) * y1^3 * x2 * x3 * y3^2 + (-1) * y1^3 * x2 * x3^3 + (1) * x1 * y2 * x3 + (-1) * x1 * y2 * x3 * y3^2 + (1) * x1 * y2 * x3^3 + (1) * x1 * x2 * y3 + (-1) * x1 * x2 * y3^3 + (1) * x1 * x2 * x3^2 * y3 + (-1) * x1 * y1^2 * y2 * x3 + (1) * x1 * y1^2 * y2 * x3 * y3^2 + (-1) * x1 * y1^2 * y2 * x3^3 + (-1) * x1 * y1^2 * x2 * y3 + (1) * x1 * y1^2 * x2 * y3^3 + (-1) * x1 * y1^2 * x2 * x3^2 * y3 + (1) * x1^2 * y1 * y2 * y3 + (-1) * x1^2 * y1 * y2 * y3^3 + (1) * x1^2 * y1 * y2 * x3^2 * y3 + (1) * x1^2 * y1 * x2 * x3 + (-1) * x1^2 * y1 * x2 * x3 * y3^2 + (1) * x1^2 * y1 * x2 * x3^3 + (1) * x1^3 * y2 * x3 + (-1) * x1^3 * y2 * x3 * y3^2 + (1) * x1^3 * y2 * x3^3 + (1) * x1^3 * x2 * y3 + (-1) * x1^3 * x2 * y3^3 + (1) * x1^3 * x2 * x3^2 * y3 + (1) * d * y1 * y2 * x3^2 * y3^3 + (1) * d * y1 * x2 * x3^3 * y3^2 + (1) * d * y1 * x2 * y2^2 * x3 * y3^2 + (1) * d * y1 * x2^2 * y2 * x3^2 * y3 + (-1) * d * y1^3 * y2 * x3^2 * y3^3 + (-1) * d * y1^3 * x2 * x3^3 * y3^2 + (-1) * d * y1^3 * x2 * y2^2 * x3 * y3^2 + (-1) * d * y1^3 * x2^2 * y2 * x3^2 * y3 + (1) * d * x1 * y2 * x3^3 * y3^2 + (1) * d * x1 * x2 * x3^2 * y3^3 + (-1) * d * x1 * x2 * y2^2 * x3^2 * y3 + (-1) * d * x1 * x2^2 * y2 * x3 * y3^2 + (-1) * d * x1 * y1^2 * y2 * x3^3 * y3^2 + (-1) * d * x1 * y1^2 * x2 * x3^2 * y3^3 + (1) * d * x1 * y1^2 * x2 * y2^2 * x3^2 * y3 + (1) * d * x1 * y1^2 * x2^2 * y2 * x3 * y3^2 + (1) * d * x1^2 * y1 * y2 * x3^2 * y3^3 + (1) * d * x1^2 * y1 * x2 * x3^3 * y3^2 + (1) * d * x1^2 * y1 * x2 * y2^2 * x3 * y3^2 + (1) * d * x1^2 * y1 * x2^2 * y2 * x3^2 * y3 + (1) * d * x1^3 * y2 * x3^3 * y3^2 + (1) * d * x1^3 * x2 * x3^2 * y3^3 + (-1) * d * x1^3 * x2 * y2^2 * x3^2 * y3 + (-1) * d * x1^3 * x2^2 * y2 * x3 * y3^2 + (1) * d^2 * x1 * y1^2 * x2 * y2^2 * x3^2 * y3^3 + (-1) * d^2 * x1 * y1^2 * x2^2 * y2 * x3^3 * y3^2 + (-1) * d^2 * x1^2 * y1 * x2 * y2^2 * x3^3 * y3^2 + (1) * d^2 * x1^2 * y1 * x2^2 * y2 * x3^2 * y3^3) * (y2*y2 - x2*x2 - 1 - d*x2*x2*y2*y2) + ((-1) * y1 * y2 * y3 + (1) * y1 * y2^3 * y3 + (-1) * y1 * x2 * x3 + (1) * y1 * x2 * y2^2 * x3 + (-1) * y1 * x2^2 * y2 * y3 + (-1) * y1 * x2^3 * x3 + (1) * y1^3 * y2 * y3 + (-1) * y1^3 * y2^3 * y3 + (1) * y1^3 * x2 * x3 + (-1) * y1^3 * x2 * y2^2 * x3 + (1) * y1^3 * x2^2 * y2 * y3 + (1) * y1^3 * x2^3 * x3 + (-1) * x1 * y2 * x3 + (1) * x1 * y2^3 * x3 + (-1) * x1 * x2 * y3 + (1) * x1 * x2 * y2^2 * y3 + (-1) * x1 * x2^2 * y2 * x3 + (-1) * x1 * x2^3 * y3 + (1) * x1 * y1^2 * y2 * x3 + (-1) * x1 * y1^2 * y2^3 * x3 + (1) * x1 * y1^2 * x2 * y3 + (-1) * x1 * y1^2 * x2 * y2^2 * y3 + (1) * x1 * y1^2 * x2^2 * y2 * x3 + (1) * x1 * y1^2 * x2^3 * y3 + (-1) * x1^2 * y1 * y2 * y3 + (1) * x1^2 * y1 * y2^3 * y3 + (-1) * x1^2 * y1 * x2 * x3 + (1) * x1^2 * y1 * x2 * y2^2 * x3 + (-1) * x1^2 * y1 * x2^2 * y2 * y3 + (-1) * x1^2 * y1 * x2^3 * x3 + (-1) * x1^3 * y2 * x3 + (1) * x1^3 * y2^3 * x3 + (-1) * x1^3 * x2 * y3 + (1) * x1^3 * x2 * y2^2 * y3 + (-1) * x1^3 * x2^2 * y2 * x3 + (-1) * x1^3 * x2^3 * y3 + (-1) * d * x1 * y1^2 * x2 * y2^2 * y3 + (1) * d * x1 * y1^2 * x2^2 * y2 * x3 + (1) * d * x1^2 * y1 * x2 * y2^2 * x3 + (-1) * d * x1^2 * y1 * x2^2 * y2 * y3) * (y3*y3 - x3*x3 - 1 - d*x3*x3*y3*y3) := by grind
set_option maxHeartbeats 4000000 in
set_option maxRecDepth 100000 in
theorem sum_on (d x1 y1 x2 y2 : Int) : (y1*y2 + x1*x2)*(y1*y2 + x1*x2)*((1 + d*x1*x2*y1*y2)*(1 + d*x1*x2*y1*y2)) - (x1*y2 + x2*y1)*(x1*y2 + x2*y1)*((1 - d*x1*x2*y1*y2)*(1 - d*x1*x2*y1*y2)) - (1 + d*x1*x2*y1*y2)*(1 + d*x1*x2*y1*y2)*((1 - d*x1*x2*y1*y2)*(1 - d*x1*x2*y1*y2)) - d*((x1*y2 + x2*y1)*(x1*y2 + x2*y1))*((y1*y2 + x1*x2)*(y1*y2 + x1*x2)) = ((1) * y2^4 + (-4) * x2^2 * y2^2 + (2) * x2^2 * y2^4 + (1) * x2^4 + (-2) * x2^4 * y2^2 + (-2) * d * x2^2 * y2^2 + (-2) * d * x2^4 * y2^4 + (-1) * d * y1^2 * x2^2 * y2^4 + (1) * d * y1^2 * x2^4 * y2^2 + (1) * d * x1^2 * x2^2 * y2^4 + (-1) * d * x1^2 * x2^4 * y2^2 + (-1) * d^2 * x2^4 * y2^4 + (1) * d^2 * y1^2 * x2^4 * y2^4 + (-1) * d^2 * x1^2 * x2^4 * y2^4 + (1) * d^3 * x1^2 * y1^2 * x2^4 * y2^4) * (y1*y1 - x1*x1 - 1 - d*x1*x1*y1*y1) + ((1) + (1) * y2^2 + (-1) * x2^2 + (2) * x2^2 * y2^2 + (-1) * y1^2 * y2^2 + (1) * y1^2 * x2^2 + (-2) * y1^2 * x2^2 * y2^2 + (1) * x1^2 * y2^2 + (-1) * x1^2 * x2^2 + (2) * x1^2 * x2^2 * y2^2 + (1) * d * x2^2 * y2^2 + (-2) * d * y1^2 * x2^2 * y2^2 + (1) * d * y1^4 * x2^2 * y2^2 + (2) * d * x1^2 * x2^2 * y2^2 + (1) * d * x1^4 * x2^2 * y2^2) * (y2*y2 - x2*x2 - 1 - d*x2*x2*y2*y2) := by grind
end Go.Proofs.YtlhgabhjbnckkaaDoor.NP
namespace Go.Proofs.YtlhgabhjbnckkaaDoor.NP
theorem sum_letters {P d nx ny dp dm x3 y3 a b w : Int} (hx : x3 * dp - nx = P * a) (hy : y3 * dm - ny = P * b) (hs : ny*ny*(dp*dp) - nx*nx*(dm*dm) - dp*dp*(dm*dm) - d*(nx*nx)*(ny*ny) = P * w) :
    (y3*y3 - x3*x3 - 1 - d*x3*x3*y3*y3) * (dp*dp*(dm*dm)) = P * (w + dp*dp*b*(ny + y3*dm) - dm*dm*a*(nx + x3*dp) - d*(a*(nx + x3*dp)*(y3*dm)*(y3*dm) + nx*nx*b*(ny + y3*dm))) := by
  obtain rfl : nx = x3 * dp - P * a := by omega
  obtain rfl : ny = y3 * dm - P * b := by omega
  grind
theorem Edw.on {P : Nat} {d i : Int} (h : Edw P d i) {x1 y1 x2 y2 x3 y3 : Int} (h1 : On P d x1 y1) (h2 : On P d x2 y2) (h3 : Sum P d x1 y1 x2 y2 x3 y3) : On P d x3 y3 := by
  have hp := h.plus h1 h2
  have hm := h.less h1 h2
  obtain ⟨⟨a, ha⟩, ⟨b, hb⟩⟩ := h3
  have hs := sum_on d x1 y1 x2 y2
  have hw : ∃ w, (y1*y2 + x1*x2)*(y1*y2 + x1*x2)*((1 + d*x1*x2*y1*y2)*(1 + d*x1*x2*y1*y2)) - (x1*y2 + x2*y1)*(x1*y2 + x2*y1)*((1 - d*x1*x2*y1*y2)*(1 - d*x1*x2*y1*y2)) - (1 + d*x1*x2*y1*y2)*(1 + d*x1*x2*y1*y2)*((1 - d*x1*x2*y1*y2)*(1 - d*x1*x2*y1*y2)) - d*((x1*y2 + x2*y1)*(x1*y2 + x2*y1))*((y1*y2 + x1*x2)*(y1*y2 + x1*x2)) = (P : Int) * w := by
    rw [hs]
    exact Int.dvd_add (Int.dvd_mul_of_dvd_right h1) (Int.dvd_mul_of_dvd_right h2)
  obtain ⟨w, hw⟩ := hw
  have h4 := sum_letters ha hb hw
  rcases h.prime.int (show (P : Int) ∣ _ from ⟨_, h4⟩) with h5 | h5
  · exact h5
  · rcases h.prime.int h5 with h6 | h6
    · rcases h.prime.int h6 with h7 | h7 <;> exact absurd h7 hp
    · rcases h.prime.int h6 with h7 | h7 <;> exact absurd h7 hm
/-- A sum of a sum, over one denominator. -/
theorem twice_letters {P d nx ny dp dm x3 y3 x4 y4 x5 a b c : Int} (hx : x4 * dp - nx = P * a) (hy : y4 * dm - ny = P * b) (h5 : x5 * (1 + d*x4*x3*y4*y3) - (x4*y3 + x3*y4) = P * c) :
    x5 * (dp*dm + d*nx*ny*x3*y3) - (nx*dm*y3 + ny*dp*x3) = P * (c*dp*dm - x5*d*x3*y3*(a*(y4*dm) + nx*b) + a*dm*y3 + b*dp*x3) := by
  obtain rfl : nx = x4 * dp - P * a := by omega
  obtain rfl : ny = y4 * dm - P * b := by omega
  grind
theorem twice_letters' {P d nx ny dp dm x3 y3 x4 y4 y5 a b c : Int} (hx : x4 * dp - nx = P * a) (hy : y4 * dm - ny = P * b) (h5 : y5 * (1 - d*x4*x3*y4*y3) - (y4*y3 + x4*x3) = P * c) :
    y5 * (dp*dm - d*nx*ny*x3*y3) - (ny*dp*y3 + nx*dm*x3) = P * (c*dp*dm + y5*d*x3*y3*(a*(y4*dm) + nx*b) + b*dp*y3 + a*dm*x3) := by
  obtain rfl : nx = x4 * dp - P * a := by omega
  obtain rfl : ny = y4 * dm - P * b := by omega
  grind
theorem den_letters {P d nx ny dp dm x3 y3 x4 y4 a b : Int} (hx : x4 * dp - nx = P * a) (hy : y4 * dm - ny = P * b) :
    dp*dm*(1 + d*x4*x3*y4*y3) = (dp*dm + d*nx*ny*x3*y3) + P * (d*x3*y3*(a*(y4*dm) + nx*b)) := by
  obtain rfl : nx = x4 * dp - P * a := by omega
  obtain rfl : ny = y4 * dm - P * b := by omega
  grind
theorem den_letters' {P d nx ny dp dm x3 y3 x4 y4 a b : Int} (hx : x4 * dp - nx = P * a) (hy : y4 * dm - ny = P * b) :
    dp*dm*(1 - d*x4*x3*y4*y3) = (dp*dm - d*nx*ny*x3*y3) - P * (d*x3*y3*(a*(y4*dm) + nx*b)) := by
  obtain rfl : nx = x4 * dp - P * a := by omega
  obtain rfl : ny = y4 * dm - P * b := by omega
  grind
theorem meet_letters {P s t na da nb db u v w : Int} (h1 : s * da - na = P * u) (h2 : t * db - nb = P * v) (h3 : na * db - nb * da = P * w) : (s - t) * (da * db) = P * (u * db - v * da + w) := by
  obtain rfl : na = s * da - P * u := by omega
  obtain rfl : nb = t * db - P * v := by omega
  grind
theorem three {P l c1 e1 c2 e2 c3 e3 : Int} (h : l = c1 * e1 + c2 * e2 + c3 * e3) (h1 : P ∣ e1) (h2 : P ∣ e2) (h3 : P ∣ e3) : ∃ w, l = P * w := by
  rw [h]
  exact Int.dvd_add (Int.dvd_add (Int.dvd_mul_of_dvd_right h1) (Int.dvd_mul_of_dvd_right h2)) (Int.dvd_mul_of_dvd_right h3)
/-- Sums go together: (1 + 2) + 3 is (2 + 3) + 1. -/
theorem Edw.goes {P : Nat} {d i : Int} (h : Edw P d i) {x1 y1 x2 y2 x3 y3 x4 y4 x5 y5 x6 y6 x7 y7 : Int} (h1 : On P d x1 y1) (h2 : On P d x2 y2) (h3 : On P d x3 y3)
    (s4 : Sum P d x1 y1 x2 y2 x4 y4) (s5 : Sum P d x4 y4 x3 y3 x5 y5) (s6 : Sum P d x2 y2 x3 y3 x6 y6) (s7 : Sum P d x6 y6 x1 y1 x7 y7) : (P : Int) ∣ x5 - x7 ∧ (P : Int) ∣ y5 - y7 := by
  have h4 := h.on h1 h2 s4
  have h6 := h.on h2 h3 s6
  have p12 := h.plus h1 h2
  have m12 := h.less h1 h2
  have p23 := h.plus h2 h3
  have m23 := h.less h2 h3
  have p43 := h.plus h4 h3
  have m43 := h.less h4 h3
  have p61 := h.plus h6 h1
  have m61 := h.less h6 h1
  obtain ⟨⟨a, ha⟩, ⟨b, hb⟩⟩ := s4
  obtain ⟨⟨a', ha'⟩, ⟨b', hb'⟩⟩ := s6
  obtain ⟨⟨c, hc⟩, ⟨e, he⟩⟩ := s5
  obtain ⟨⟨c', hc'⟩, ⟨e', he'⟩⟩ := s7
  have two : ∀ {x y z : Int}, ¬ (P : Int) ∣ x → ¬ (P : Int) ∣ y → ¬ (P : Int) ∣ z → ¬ (P : Int) ∣ x * y * z := fun hx hy hz hd => by
    rcases h.prime.int hd with h8 | h8
    · rcases h.prime.int h8 with h9 | h9
      · exact hx h9
      · exact hy h9
    · exact hz h8
  have nz : ∀ {x y z : Int}, ¬ (P : Int) ∣ x → x = y + P * z → ¬ (P : Int) ∣ y := fun hx e hd => hx (e ▸ Int.dvd_add hd ⟨_, rfl⟩)
  have nz' : ∀ {x y z : Int}, ¬ (P : Int) ∣ x → x = y - P * z → ¬ (P : Int) ∣ y := fun hx e hd => hx (e ▸ Int.dvd_sub hd ⟨_, rfl⟩)
  have fin : ∀ {s t x y z : Int}, ¬ (P : Int) ∣ x → ¬ (P : Int) ∣ y → (s - t) * (x * y) = P * z → (P : Int) ∣ s - t := fun hx hy e => by
    rcases h.prime.int (show (P : Int) ∣ _ from ⟨_, e⟩) with h8 | h8
    · exact h8
    · rcases h.prime.int h8 with h9 | h9
      · exact absurd h9 hx
      · exact absurd h9 hy
  obtain ⟨wx, hwx⟩ := three (assoc_x d x1 y1 x2 y2 x3 y3) h1 h2 h3
  obtain ⟨wy, hwy⟩ := three (assoc_y d x1 y1 x2 y2 x3 y3) h1 h2 h3
  exact ⟨fin (nz (two p12 m12 p43) (den_letters ha hb)) (nz (two p23 m23 p61) (den_letters ha' hb')) (meet_letters (twice_letters ha hb hc) (twice_letters ha' hb' hc') hwx),
    fin (nz' (two p12 m12 m43) (den_letters' ha hb)) (nz' (two p23 m23 m61) (den_letters' ha' hb')) (meet_letters (twice_letters' ha hb he) (twice_letters' ha' hb' he') hwy)⟩
end Go.Proofs.YtlhgabhjbnckkaaDoor.NP
namespace Go.Proofs.YtlhgabhjbnckkaaDoor.NP
/-- The curve's d, and a root of less 1. -/
def dE : Nat := 37095705934669439343138083508754565189542113879843219016388785533085940283555
def iE : Nat := 19681161376707505956807079304988542015446066515923890162744021073123829784752
theorem euler_not {P k D : Nat} (hP : Pr P) (hk : P = 2 * k + 1) (h2 : ¬ (P : Int) ∣ 2) (hD : (D ^ k + 1) % P = 0) {a b : Nat} (h : a * a % P = D * (b * b) % P) (hb : ¬ P ∣ b) : False := by
  have hb1 := hP.little hb
  rw [show P - 1 = 2 * k by omega] at hb1
  have e1 : a ^ (2 * k) % P = D ^ k * b ^ (2 * k) % P := by
    rw [Nat.pow_mul, Nat.pow_two, Nat.pow_mod, h, ← Nat.pow_mod, Nat.mul_pow, Nat.pow_mul, Nat.pow_two]
  rw [Nat.mul_mod, hb1, Nat.mul_one, Nat.mod_mod] at e1
  by_cases ha : P ∣ a
  · by_cases hk0 : k = 0
    · have := hP.1; omega
    · have h4 : P ∣ a ^ (2 * k) := Nat.dvd_trans ha (dvd_pow_self a (by omega))
      rw [Nat.mod_eq_zero_of_dvd h4] at e1
      rw [Nat.add_mod, ← e1, Nat.zero_add, Nat.mod_mod] at hD
      have := hP.1
      rw [Nat.mod_eq_of_lt (by omega)] at hD
      omega
  · have ha1 := hP.little ha
    rw [show P - 1 = 2 * k by omega, e1] at ha1
    rw [Nat.add_mod, ha1] at hD
    refine h2 ?_
    have := hP.1
    have h5 : P ∣ 1 + 1 := by
      have h6 : (1 + 1 % P) % P = 0 := hD
      rw [Nat.mod_eq_of_lt (show 1 < P by omega)] at h6
      exact Nat.dvd_of_mod_eq_zero h6
    exact Int.natCast_dvd_natCast.2 h5
theorem no_square {P k D : Nat} (hP : Pr P) (hk : P = 2 * k + 1) (h2 : ¬ (P : Int) ∣ 2) (hD : (D ^ k + 1) % P = 0) (s t : Int) (h : (P : Int) ∣ s * s - (D : Int) * (t * t)) : (P : Int) ∣ t := by
  refine Classical.byContradiction fun ht => ?_
  have e : ((s.natAbs * s.natAbs : Nat) : Int) = s * s := Int.natAbs_mul_self
  have e2 : ((t.natAbs * t.natAbs : Nat) : Int) = t * t := Int.natAbs_mul_self
  refine euler_not hP hk h2 hD (a := s.natAbs) (b := t.natAbs) ?_ (fun hb => ht ?_)
  · rw [cg, e, Int.natCast_mul, e2]
    exact h
  · exact Int.natAbs_dvd_natAbs.1 (by simpa using hb)
theorem d_power (k : Nat) (hk : 2 * k + 1 = PP) : (dE ^ k + 1) % PP = 0 := by
  have hl : k < 2 ^ 256 := by simp only [PP] at hk; omega
  have h := pw_eq PP 256 dE k hl
  rw [Nat.add_mod, ← h]
  obtain rfl : k = 28948022309329048855892746252171976963317496166410141009864396001978282409974 := by simp only [PP] at hk; omega
  decide +kernel
theorem odd_P : ¬ ((PP : Nat) : Int) ∣ 2 := by decide +kernel
/-- The curve modulo p. -/
theorem edw : Edw PP dE iE where
  prime := pr_P
  odd := odd_P
  root := by decide +kernel
  non := fun s t h => by
    obtain ⟨k, hk⟩ : ∃ k, 2 * k + 1 = PP := ⟨28948022309329048855892746252171976963317496166410141009864396001978282409974, by decide⟩
    exact no_square pr_P hk.symm odd_P (d_power k hk) s t h
/-- What isn't nought modulo a prime has an inverse. -/
theorem inv_int {P : Nat} (hP : Pr P) (x : Int) (hx : ¬ (P : Int) ∣ x) : ∃ y : Int, (P : Int) ∣ x * y - 1 := by
  have hn : ¬ P ∣ x.natAbs := fun h => hx (Int.natAbs_dvd_natAbs.1 (by simpa using h))
  have h := hP.little hn
  have h2 := hP.1
  obtain ⟨q, hq⟩ : ∃ q, P - 1 = q + 1 := ⟨P - 2, by omega⟩
  rw [hq, Nat.pow_succ] at h
  have h3 := (cg (x.natAbs ^ q * x.natAbs) 1 P).1 (by rw [h, Nat.mod_eq_of_lt (by omega)])
  rw [Int.natCast_mul] at h3
  rcases Int.natAbs_eq x with e | e
  · refine ⟨((x.natAbs ^ q : Nat) : Int), ?_⟩
    rw [← e, Int.mul_comm] at h3
    exact h3
  · refine ⟨-((x.natAbs ^ q : Nat) : Int), ?_⟩
    have e2 : ((x.natAbs : Nat) : Int) = -x := by omega
    rw [e2, Int.mul_neg, Int.mul_comm, ← Int.mul_neg] at h3
    exact h3
/-- A sum is there. -/
theorem Edw.there {P : Nat} {d i : Int} (h : Edw P d i) {x1 y1 x2 y2 : Int} (h1 : On P d x1 y1) (h2 : On P d x2 y2) : ∃ x3 y3, Sum P d x1 y1 x2 y2 x3 y3 := by
  obtain ⟨u, v, hu⟩ := inv_int h.prime _ (h.plus h1 h2)
  obtain ⟨u', v', hu'⟩ := inv_int h.prime _ (h.less h1 h2)
  refine ⟨(x1*y2 + x2*y1) * u, (y1*y2 + x1*x2) * u', ⟨(x1*y2 + x2*y1) * v, ?_⟩, ⟨(y1*y2 + x1*x2) * v', ?_⟩⟩
  · generalize 1 + d*x1*x2*y1*y2 = q at *
    generalize x1*y2 + x2*y1 = r at *
    grind
  · generalize 1 - d*x1*x2*y1*y2 = q at *
    generalize y1*y2 + x1*x2 = r at *
    grind
end Go.Proofs.YtlhgabhjbnckkaaDoor.NP
namespace Go.Proofs.YtlhgabhjbnckkaaDoor.NP
/-- A point, its numbers least. -/
structure Pt (P : Nat) (d : Int) where
  x : Int
  y : Int
  on : On P d x y
  xl : x % (P : Int) = x
  yl : y % (P : Int) = y
theorem Pt.same {P : Nat} {d : Int} {p q : Pt P d} (hx : (P : Int) ∣ p.x - q.x) (hy : (P : Int) ∣ p.y - q.y) : p = q := by
  have h1 := Int.emod_emod_of_dvd
  have ex : p.x = q.x := by rw [← p.xl, ← q.xl]; exact Int.emod_eq_emod_iff_emod_sub_eq_zero.2 (Int.emod_eq_zero_of_dvd hx)
  have ey : p.y = q.y := by rw [← p.yl, ← q.yl]; exact Int.emod_eq_emod_iff_emod_sub_eq_zero.2 (Int.emod_eq_zero_of_dvd hy)
  cases p
  cases q
  cases ex
  cases ey
  rfl
theorem Sum.least {P : Nat} {d x1 y1 x2 y2 x3 y3 : Int} (h : Sum P d x1 y1 x2 y2 x3 y3) : Sum P d x1 y1 x2 y2 (x3 % P) (y3 % P) := by
  obtain ⟨⟨a, ha⟩, ⟨b, hb⟩⟩ := h
  have e1 : x3 = x3 % (P : Int) + (P : Int) * (x3 / P) := by rw [Int.add_comm]; exact (Int.mul_ediv_add_emod x3 P).symm
  have e2 : y3 = y3 % (P : Int) + (P : Int) * (y3 / P) := by rw [Int.add_comm]; exact (Int.mul_ediv_add_emod y3 P).symm
  generalize x3 % (P : Int) = x at *
  generalize y3 % (P : Int) = y at *
  generalize x3 / (P : Int) = u at *
  generalize y3 / (P : Int) = v at *
  subst e1
  subst e2
  exact ⟨⟨a - u * (1 + d*x1*x2*y1*y2), by grind⟩, ⟨b - v * (1 - d*x1*x2*y1*y2), by grind⟩⟩
theorem Edw.pt {P : Nat} {d i : Int} (h : Edw P d i) (p q : Pt P d) : ∃ r : Pt P d, Sum P d p.x p.y q.x q.y r.x r.y := by
  obtain ⟨x, y, hs⟩ := h.there p.on q.on
  have hs2 := hs.least
  exact ⟨⟨_, _, h.on p.on q.on hs2, Int.emod_emod _ _, Int.emod_emod _ _⟩, hs2⟩
/-- The sum of two points. -/
noncomputable def Edw.add {P : Nat} {d i : Int} (h : Edw P d i) (p q : Pt P d) : Pt P d := Classical.choose (h.pt p q)
theorem Edw.add_is {P : Nat} {d i : Int} (h : Edw P d i) (p q : Pt P d) : Sum P d p.x p.y q.x q.y (h.add p q).x (h.add p q).y := Classical.choose_spec (h.pt p q)
theorem Edw.add_of {P : Nat} {d i : Int} (h : Edw P d i) {p q r : Pt P d} (hs : Sum P d p.x p.y q.x q.y r.x r.y) : h.add p q = r := by
  obtain ⟨hx, hy⟩ := h.one p.on q.on (h.add_is p q) hs
  exact Pt.same hx hy
theorem Edw.add_comm {P : Nat} {d i : Int} (h : Edw P d i) (p q : Pt P d) : h.add p q = h.add q p := h.add_of (h.add_is q p).swap
theorem Edw.add_assoc {P : Nat} {d i : Int} (h : Edw P d i) (p q r : Pt P d) : h.add (h.add p q) r = h.add p (h.add q r) := by
  rw [h.add_comm p (h.add q r)]
  obtain ⟨hx, hy⟩ := h.goes p.on q.on r.on (h.add_is p q) (h.add_is (h.add p q) r) (h.add_is q r) (h.add_is (h.add q r) p)
  exact Pt.same hx hy
/-- The neutral point. -/
def Edw.zero {P : Nat} {d i : Int} (h : Edw P d i) : Pt P d where
  x := 0
  y := 1
  on := ⟨0, by grind⟩
  xl := Int.zero_emod _
  yl := by
    have := h.prime.1
    exact Int.emod_eq_of_lt (by omega) (by omega)
theorem Edw.zero_add {P : Nat} {d i : Int} (h : Edw P d i) (p : Pt P d) : h.add h.zero p = p := h.add_of ⟨⟨0, by show p.x * (1 + d*0*p.x*1*p.y) - (0*p.y + p.x*1) = _; grind⟩, ⟨0, by show p.y * (1 - d*0*p.x*1*p.y) - (1*p.y + 0*p.x) = _; grind⟩⟩
theorem Edw.add_zero {P : Nat} {d i : Int} (h : Edw P d i) (p : Pt P d) : h.add p h.zero = p := by rw [h.add_comm, h.zero_add]
/-- A point turned round. -/
def Pt.neg {P : Nat} {d : Int} (p : Pt P d) : Pt P d where
  x := (-p.x) % P
  y := p.y
  on := by
    obtain ⟨a, ha⟩ := p.on
    have e : -p.x = (-p.x) % (P : Int) + (P : Int) * ((-p.x) / P) := by rw [Int.add_comm]; exact (Int.mul_ediv_add_emod _ _).symm
    generalize (-p.x) % (P : Int) = x at *
    generalize (-p.x) / (P : Int) = u at *
    have e2 : p.x = -(x + (P : Int) * u) := by omega
    rw [e2] at ha
    exact ⟨a + u*(2*x + (P : Int)*u)*(1 + d*p.y*p.y), by grind⟩
  xl := Int.emod_emod _ _
  yl := p.yl
theorem Edw.neg_add {P : Nat} {d i : Int} (h : Edw P d i) (p : Pt P d) : h.add p.neg p = h.zero := by
  obtain ⟨a, ha⟩ := p.on
  have e : -p.x = (-p.x) % (P : Int) + (P : Int) * ((-p.x) / P) := by rw [Int.add_comm]; exact (Int.mul_ediv_add_emod _ _).symm
  refine h.add_of ⟨?_, ?_⟩
  · show (P : Int) ∣ 0 * (1 + d*((-p.x) % P)*p.x*p.y*p.y) - (((-p.x) % P)*p.y + p.x*p.y)
    generalize (-p.x) % (P : Int) = x at *
    generalize (-p.x) / (P : Int) = u at *
    obtain rfl : x = -p.x - (P : Int) * u := by omega
    exact ⟨u * p.y, by grind⟩
  · show (P : Int) ∣ 1 * (1 - d*((-p.x) % P)*p.x*p.y*p.y) - (p.y*p.y + ((-p.x) % P)*p.x)
    generalize (-p.x) % (P : Int) = x at *
    generalize (-p.x) / (P : Int) = u at *
    obtain rfl : x = -p.x - (P : Int) * u := by omega
    exact ⟨u * p.x * (1 + d*p.y*p.y) - a, by grind⟩
/-- A point so often. -/
noncomputable def Edw.mul {P : Nat} {d i : Int} (h : Edw P d i) (p : Pt P d) : Nat → Pt P d
  | 0 => h.zero
  | n + 1 => h.add (h.mul p n) p
theorem Edw.mul_one {P : Nat} {d i : Int} (h : Edw P d i) (p : Pt P d) : h.mul p 1 = p := h.zero_add p
theorem Edw.mul_add {P : Nat} {d i : Int} (h : Edw P d i) (p : Pt P d) (m : Nat) : ∀ n, h.mul p (m + n) = h.add (h.mul p m) (h.mul p n)
  | 0 => (h.add_zero _).symm
  | n + 1 => by
    show h.add (h.mul p (m + n)) p = h.add (h.mul p m) (h.add (h.mul p n) p)
    rw [h.mul_add p m n, h.add_assoc]
theorem Edw.mul_mul {P : Nat} {d i : Int} (h : Edw P d i) (p : Pt P d) (m : Nat) : ∀ n, h.mul (h.mul p m) n = h.mul p (m * n)
  | 0 => rfl
  | n + 1 => by
    show h.add (h.mul (h.mul p m) n) (h.mul p m) = h.mul p (m * n + m)
    rw [h.mul_mul p m n, h.mul_add]
theorem Edw.mul_swap {P : Nat} {d i : Int} (h : Edw P d i) (p : Pt P d) (m n : Nat) : h.mul (h.mul p m) n = h.mul (h.mul p n) m := by rw [h.mul_mul, h.mul_mul, Nat.mul_comm]
end Go.Proofs.YtlhgabhjbnckkaaDoor.NP
namespace Go.Proofs.YtlhgabhjbnckkaaDoor.NP
def lC : Nat := 1257559732178653
def lD : Nat := 4434155615661930479
def lE : Nat := 172054593956031949258510691
def lF : Nat := 19757330305831588566944191468367130476339
def lG : Nat := 276602624281642239937218680557139826668747
/-- The order. -/
def LL : Nat := 7237005577332262213973186563042994240857116359379907606001950938285454250989
set_option maxRecDepth 100000 in
theorem pr_lA : Pr 1224481 := pr_small 1224481 1106 (by decide +kernel) (by decide +kernel) (by decide +kernel)
set_option maxRecDepth 100000 in
theorem pr_lB : Pr 531581 := pr_small 531581 729 (by decide +kernel) (by decide +kernel) (by decide +kernel)
set_option maxRecDepth 100000 in
theorem pr_lC : Pr lC := pr_two (q := 1224481) (u := 531581) 2 2 51 pr_lA pr_lB (by decide +kernel) (by decide +kernel) (by decide +kernel) (by decide +kernel) (by decide +kernel) (by decide +kernel) (by decide +kernel) (by decide +kernel) (by decide +kernel) (by decide +kernel)
set_option maxRecDepth 100000 in
theorem pr_lD : Pr lD := pr_one (q := lC) 2 62 pr_lC (by decide +kernel) (by decide +kernel) (by decide +kernel) (by decide +kernel) (by decide +kernel) (by decide +kernel)
set_option maxRecDepth 100000 in
theorem pr_lE : Pr lE := pr_one (q := lD) 2 88 pr_lD (by decide +kernel) (by decide +kernel) (by decide +kernel) (by decide +kernel) (by decide +kernel) (by decide +kernel)
set_option maxRecDepth 100000 in
theorem pr_lF : Pr lF := pr_one (q := lE) 2 134 pr_lE (by decide +kernel) (by decide +kernel) (by decide +kernel) (by decide +kernel) (by decide +kernel) (by decide +kernel)
set_option maxRecDepth 100000 in
theorem pr_lG : Pr lG := pr_one (q := lF) 2 138 pr_lF (by decide +kernel) (by decide +kernel) (by decide +kernel) (by decide +kernel) (by decide +kernel) (by decide +kernel)
set_option maxRecDepth 100000 in
theorem pr_L : Pr LL := pr_one (q := lG) 2 253 pr_lG (by decide +kernel) (by decide +kernel) (by decide +kernel) (by decide +kernel) (by decide +kernel) (by decide +kernel)
end Go.Proofs.YtlhgabhjbnckkaaDoor.NP
namespace Go.Proofs.YtlhgabhjbnckkaaDoor.NP
/-- The same modulo P. -/
def Cg (P a b : Int) : Prop := P ∣ a - b
theorem Cg.refl {P : Int} (a : Int) : Cg P a a := ⟨0, by omega⟩
theorem Cg.add {P a b a' b' : Int} (h : Cg P a a') (k : Cg P b b') : Cg P (a + b) (a' + b') := by
  obtain ⟨u, hu⟩ := h
  obtain ⟨v, hv⟩ := k
  exact ⟨u + v, by rw [Int.mul_add, ← hu, ← hv]; omega⟩
theorem Cg.sub {P a b a' b' : Int} (h : Cg P a a') (k : Cg P b b') : Cg P (a - b) (a' - b') := by
  obtain ⟨u, hu⟩ := h
  obtain ⟨v, hv⟩ := k
  exact ⟨u - v, by rw [Int.mul_sub, ← hu, ← hv]; omega⟩
theorem Cg.mul {P a b a' b' : Int} (h : Cg P a a') (k : Cg P b b') : Cg P (a * b) (a' * b') := by
  obtain ⟨u, hu⟩ := h
  obtain ⟨v, hv⟩ := k
  exact ⟨u * b + a' * v, by grind⟩
theorem Cg.trans {P a b c : Int} (h : Cg P a b) (k : Cg P b c) : Cg P a c := by
  have := Int.dvd_add h k
  rwa [show a - b + (b - c) = a - c by omega] at this
theorem Cg.dvd {P a b : Int} (h : Cg P a b) (hd : P ∣ a) : P ∣ b := by
  have := Int.dvd_sub hd h
  rwa [show a - (a - b) = b by omega] at this
theorem Cg.least (P a : Int) : Cg P (a % P) a := ⟨-(a / P), by have := Int.mul_ediv_add_emod a P; rw [Int.mul_neg]; omega⟩
theorem Cg.swap {P a b : Int} (h : Cg P a b) : Cg P b a := by
  obtain ⟨u, hu⟩ := h
  exact ⟨-u, by rw [Int.mul_neg, ← hu]; omega⟩
/-- A point over one denominator. -/
structure Rep {P : Nat} {d : Int} (p : Pt P d) (X Y Z : Int) : Prop where
  nz : ¬ (P : Int) ∣ Z
  hx : Cg P X (p.x * Z)
  hy : Cg P Y (p.y * Z)
theorem Rep.of {P : Nat} {d : Int} {p : Pt P d} {X Y Z X' Y' Z' : Int} (h : Rep p X Y Z) (hX : Cg P X' X) (hY : Cg P Y' Y) (hZ : Cg P Z' Z) : Rep p X' Y' Z' :=
  ⟨fun hd => h.nz (hZ.dvd hd), (hX.trans h.hx).trans ((Cg.refl _).mul hZ.swap), (hY.trans h.hy).trans ((Cg.refl _).mul hZ.swap)⟩
/-- The sum over one denominator. -/
def sumX (d X1 Y1 Z1 X2 Y2 Z2 : Int) : Int := Z1 * Z2 * (Z1 * Z2 * (Z1 * Z2) - d * (X1 * X2) * (Y1 * Y2)) * ((X1 + Y1) * (X2 + Y2) - X1 * X2 - Y1 * Y2)
def sumY (d X1 Y1 Z1 X2 Y2 Z2 : Int) : Int := Z1 * Z2 * (Z1 * Z2 * (Z1 * Z2) + d * (X1 * X2) * (Y1 * Y2)) * (Y1 * Y2 + X1 * X2)
def sumZ (d X1 Y1 Z1 X2 Y2 Z2 : Int) : Int := (Z1 * Z2 * (Z1 * Z2) - d * (X1 * X2) * (Y1 * Y2)) * (Z1 * Z2 * (Z1 * Z2) + d * (X1 * X2) * (Y1 * Y2))
theorem Rep.add {P : Nat} {d i : Int} (h : Edw P d i) {p q : Pt P d} {X1 Y1 Z1 X2 Y2 Z2 : Int} (r1 : Rep p X1 Y1 Z1) (r2 : Rep q X2 Y2 Z2) : Rep (h.add p q) (sumX d X1 Y1 Z1 X2 Y2 Z2) (sumY d X1 Y1 Z1 X2 Y2 Z2) (sumZ d X1 Y1 Z1 X2 Y2 Z2) := by
  obtain ⟨⟨a, ha⟩, ⟨b, hb⟩⟩ := h.add_is p q
  have hp := h.plus p.on q.on
  have hm := h.less p.on q.on
  obtain ⟨n1, cx1, cy1⟩ := r1
  obtain ⟨n2, cx2, cy2⟩ := r2
  have cC := cx1.mul cx2
  have cD := cy1.mul cy2
  have cE := ((Cg.refl (P := P) d).mul cC).mul cD
  have cF := (Cg.refl (P := P) (Z1 * Z2 * (Z1 * Z2))).sub cE
  have cG := (Cg.refl (P := P) (Z1 * Z2 * (Z1 * Z2))).add cE
  have cS := (((cx1.add cy1).mul (cx2.add cy2)).sub cC).sub cD
  have cW := Cg.refl (P := P) (Z1 * Z2)
  have cX := (cW.mul cF).mul cS
  have cY := (cW.mul cG).mul (cD.add cC)
  have cZ := cF.mul cG
  obtain ⟨s, hs⟩ : ∃ s, (h.add p q).x = s := ⟨_, rfl⟩
  obtain ⟨t, ht⟩ : ∃ t, (h.add p q).y = t := ⟨_, rfl⟩
  rw [hs] at ha
  rw [ht] at hb
  generalize p.x = x1 at *
  generalize p.y = y1 at *
  generalize q.x = x2 at *
  generalize q.y = y2 at *
  have eZ : (Z1 * Z2 * (Z1 * Z2) - d * (x1 * Z1 * (x2 * Z2)) * (y1 * Z1 * (y2 * Z2))) * (Z1 * Z2 * (Z1 * Z2) + d * (x1 * Z1 * (x2 * Z2)) * (y1 * Z1 * (y2 * Z2))) = Z1 * Z2 * (Z1 * Z2) * (Z1 * Z2 * (Z1 * Z2)) * ((1 + d*x1*x2*y1*y2) * (1 - d*x1*x2*y1*y2)) := by grind
  have two : ∀ {x y : Int}, ¬ (P : Int) ∣ x → ¬ (P : Int) ∣ y → ¬ (P : Int) ∣ x * y := fun hx hy hd => by
    rcases h.prime.int hd with h8 | h8
    · exact hx h8
    · exact hy h8
  have hW := two n1 n2
  refine ⟨fun hd => ?_, ?_, ?_⟩
  · have h9 := cZ.dvd hd
    rw [eZ] at h9
    exact two (two (two hW hW) (two hW hW)) (two hp hm) h9
  · rw [hs]
    refine (cX.trans ?_).trans ((Cg.refl s).mul cZ.swap)
    exact ⟨-(a * (Z1 * Z2 * (Z1 * Z2)) * (Z1 * Z2 * (Z1 * Z2)) * (1 - d*x1*x2*y1*y2)), by grind⟩
  · rw [ht]
    refine (cY.trans ?_).trans ((Cg.refl t).mul cZ.swap)
    exact ⟨-(b * (Z1 * Z2 * (Z1 * Z2)) * (Z1 * Z2 * (Z1 * Z2)) * (1 + d*x1*x2*y1*y2)), by grind⟩
/-- A multiple, by doubling, all modulo P. -/
def addR (P d : Int) (p q : Int × Int × Int) : Int × Int × Int := (sumX d p.1 p.2.1 p.2.2 q.1 q.2.1 q.2.2 % P, sumY d p.1 p.2.1 p.2.2 q.1 q.2.1 q.2.2 % P, sumZ d p.1 p.2.1 p.2.2 q.1 q.2.1 q.2.2 % P)
def mulR (P d : Int) (b : Int × Int × Int) : Nat → Nat → Int × Int × Int
  | 0, _ => (0, 1, 1)
  | f + 1, n => bif Nat.beq n 0 then (0, 1, 1) else bif Nat.beq (n % 2) 1 then addR P d (addR P d (mulR P d b f (n / 2)) (mulR P d b f (n / 2))) b else addR P d (mulR P d b f (n / 2)) (mulR P d b f (n / 2))
theorem Rep.addR {P : Nat} {d i : Int} (h : Edw P d i) {p q : Pt P d} {u v : Int × Int × Int} (r1 : Rep p u.1 u.2.1 u.2.2) (r2 : Rep q v.1 v.2.1 v.2.2) : Rep (h.add p q) (addR P d u v).1 (addR P d u v).2.1 (addR P d u v).2.2 :=
  (Rep.add h r1 r2).of (Cg.least _ _) (Cg.least _ _) (Cg.least _ _)
theorem Rep.zero {P : Nat} {d i : Int} (h : Edw P d i) : Rep h.zero 0 1 1 := ⟨h.prime.not_one, by show Cg P 0 (0 * 1); exact Cg.refl _, by show Cg P 1 (1 * 1); exact Cg.refl _⟩
theorem Rep.mulR {P : Nat} {d i : Int} (h : Edw P d i) {p : Pt P d} {b : Int × Int × Int} (r : Rep p b.1 b.2.1 b.2.2) : ∀ f n, n < 2 ^ f → Rep (h.mul p n) (mulR P d b f n).1 (mulR P d b f n).2.1 (mulR P d b f n).2.2
  | 0, n, hn => by
    obtain rfl : n = 0 := by simpa using hn
    exact Rep.zero h
  | f + 1, n, hn => by
    rw [Nat.pow_succ] at hn
    have ih := Rep.mulR h r f (n / 2) (by omega)
    have i2 := Rep.addR h ih ih
    rw [← h.mul_add] at i2
    unfold NP.mulR
    by_cases h0 : n = 0
    · subst h0
      exact Rep.zero h
    · rw [show Nat.beq n 0 = false from Bool.eq_false_iff.2 (fun c => h0 (Nat.eq_of_beq_eq_true c))]
      rcases Nat.mod_two_eq_zero_or_one n with h3 | h3
      · rw [h3, cond_false, show Nat.beq 0 1 = false from rfl, cond_false]
        rw [show n / 2 + n / 2 = n by omega] at i2
        exact i2
      · rw [h3, cond_false, show Nat.beq 1 1 = true from rfl, cond_true]
        have i3 := Rep.addR h i2 r
        have e : h.add (h.mul p (n / 2 + n / 2)) p = h.mul p n := by
          show h.mul p (n / 2 + n / 2 + 1) = h.mul p n
          rw [show n / 2 + n / 2 + 1 = n by omega]
        rw [e] at i3
        exact i3
end Go.Proofs.YtlhgabhjbnckkaaDoor.NP
namespace Go.Proofs.YtlhgabhjbnckkaaDoor.NP
def bxE : Int := 15112221349535400772501151409588531511454012693041857206046113283949847762202
def byE : Int := 46316835694926478169428394003475163141307993866256225615783033603165251855960
/-- The base point. -/
def bE : Pt PP dE where
  x := bxE
  y := byE
  on := by unfold On; decide +kernel
  xl := by decide +kernel
  yl := by decide +kernel
theorem bE_rep : Rep bE bxE byE 1 := ⟨pr_P.not_one, by show Cg _ bxE (bxE * 1); rw [Int.mul_one]; exact Cg.refl _, by show Cg _ byE (byE * 1); rw [Int.mul_one]; exact Cg.refl _⟩
set_option maxRecDepth 100000 in
theorem order_run : (mulR PP dE (bxE, byE, 1) 253 LL).1 = 0 ∧ (mulR PP dE (bxE, byE, 1) 253 LL).2.1 = (mulR PP dE (bxE, byE, 1) 253 LL).2.2 := by decide +kernel
theorem order_zero : edw.mul bE LL = edw.zero := by
  have r := Rep.mulR edw (b := (bxE, byE, 1)) bE_rep 253 LL (by decide +kernel)
  obtain ⟨h1, h2⟩ := order_run
  rw [h1, h2] at r
  generalize (mulR PP dE (bxE, byE, 1) 253 LL).2.2 = Z at *
  generalize edw.mul bE LL = q at *
  obtain ⟨nz, ⟨a, ha⟩, ⟨b, hb⟩⟩ := r
  refine Pt.same ?_ ?_
  · show ((PP : Nat) : Int) ∣ q.x - 0
    refine (edw.prime.int (show ((PP : Nat) : Int) ∣ (q.x - 0) * Z from ⟨-a, ?_⟩)).resolve_right nz
    rw [Int.mul_neg, ← ha, Int.sub_zero]
    omega
  · show ((PP : Nat) : Int) ∣ q.y - 1
    refine (edw.prime.int (show ((PP : Nat) : Int) ∣ (q.y - 1) * Z from ⟨-b, ?_⟩)).resolve_right nz
    rw [Int.mul_neg, ← hb, Int.sub_mul]
    omega
theorem Edw.mul_zero {P : Nat} {d i : Int} (h : Edw P d i) : ∀ n, h.mul h.zero n = h.zero
  | 0 => rfl
  | n + 1 => by
    show h.add (h.mul h.zero n) h.zero = h.zero
    rw [h.mul_zero n, h.zero_add]
theorem base_not_zero : bE ≠ edw.zero := fun h => by
  have h2 : bE.x = edw.zero.x := by rw [h]
  exact absurd (show bxE = 0 from h2) (by decide)
theorem mul_over {P : Nat} {d i : Int} (h : Edw P d i) (b : Pt P d) (L n : Nat) (hL : Pr L) (ho : h.mul b L = h.zero) (hb : b ≠ h.zero) (hn : ¬ L ∣ n) : h.mul b n ≠ h.zero := fun hz => by
  have h1 := hL.little hn
  have h2 := hL.1
  obtain ⟨q, hq⟩ : ∃ q, L - 1 = q + 1 := ⟨L - 2, by omega⟩
  rw [hq, Nat.pow_succ, Nat.mul_comm] at h1
  have e1 : h.mul b (n * n ^ q) = h.zero := by rw [← h.mul_mul, hz, h.mul_zero]
  have e2 := Nat.div_add_mod (n * n ^ q) L
  rw [h1] at e2
  rw [← e2, h.mul_add, ← h.mul_mul, ho, h.mul_zero, h.mul_one, h.zero_add] at e1
  exact hb e1
/-- A multiple of the base point is the neutral one just where the order divides it. -/
theorem base_mul (n : Nat) (hn : ¬ LL ∣ n) : edw.mul bE n ≠ edw.zero := mul_over edw bE LL n pr_L order_zero base_not_zero hn
end Go.Proofs.YtlhgabhjbnckkaaDoor.NP
namespace Go.Proofs.YtlhgabhjbnckkaaDoor.NP
/-- X : Z is the point's u-coordinate. -/
structure RepU {P : Nat} {d : Int} (p : Pt P d) (X Z : Int) : Prop where
  nz : ¬ (P : Int) ∣ X + Z
  hu : Cg P (X - Z) (p.y * (X + Z))
theorem not_mul {P : Nat} (hP : Pr P) {x y : Int} (hx : ¬ (P : Int) ∣ x) (hy : ¬ (P : Int) ∣ y) : ¬ (P : Int) ∣ x * y := fun hd => by
  rcases hP.int hd with h | h
  · exact hx h
  · exact hy h
/-- What is X : Z so that neither both are nought and (X - Z) = y (X + Z), out of the two ways to say it. -/
theorem RepU.mk' {P : Nat} {d i : Int} (h : Edw P d i) {p : Pt P d} {X Z : Int} (hnz : ¬ ((P : Int) ∣ X ∧ (P : Int) ∣ Z)) (hu : (P : Int) ∣ X * (1 - p.y) - Z * (1 + p.y)) : RepU p X Z := by
  refine ⟨fun hd => hnz ?_, ?_⟩
  · obtain ⟨a, ha⟩ := hu
    obtain ⟨b, hb⟩ := hd
    have h2 : (P : Int) ∣ 2 * Z := ⟨b * (1 - p.y) - a, by
      obtain rfl : X = (P : Int) * b - Z := by omega
      generalize p.y = y at *
      grind⟩
    have hz := (h.prime.int h2).resolve_left h.odd
    refine ⟨?_, hz⟩
    have := Int.dvd_sub (show (P : Int) ∣ X + Z from ⟨b, hb⟩) hz
    rwa [show X + Z - Z = X by omega] at this
  · obtain ⟨a, ha⟩ := hu
    refine ⟨a, ?_⟩
    generalize p.y = y at *
    grind
theorem dbl_letters (d x y t : Int) : (y*y*(1 - t) - (1 - y*y)*(1 + 121665*(1 - y*y))*(1 + t)) * (1 - d*x*x*y*y) =
    2*(1 - y*y)*(121666*(y*y - x*x - 1 - d*x*x*y*y) + (121666*d + 121665)*(x*x*y*y)) + y*y*((y*y - x*x - 1 - d*x*x*y*y) - (t*(1 - d*x*x*y*y) - (y*y + x*x))) - (1 - y*y)*(1 + 121665*(1 - y*y))*((y*y - x*x - 1 - d*x*x*y*y) + (t*(1 - d*x*x*y*y) - (y*y + x*x))) := by grind
theorem RepU.dbl {P : Nat} {d i : Int} (h : Edw P d i) (hd : (P : Int) ∣ 121666 * d + 121665) (h6 : ¬ (P : Int) ∣ 121666) {p : Pt P d} {X Z : Int} (r : RepU p X Z) :
    RepU (h.add p p) ((X + Z) * (X + Z) * ((X - Z) * (X - Z))) (((X + Z) * (X + Z) - (X - Z) * (X - Z)) * ((X + Z) * (X + Z) + 121665 * ((X + Z) * (X + Z) - (X - Z) * (X - Z)))) := by
  obtain ⟨nz, u, hu⟩ := r
  obtain ⟨-, ⟨b, hb⟩⟩ := h.add_is p p
  have hm := h.less p.on p.on
  obtain ⟨e, he⟩ := p.on
  obtain ⟨g, hg⟩ := hd
  generalize X + Z = A at *
  generalize X - Z = B at *
  refine RepU.mk' h ?_ ?_
  · rintro ⟨hx, hz⟩
    have hB : (P : Int) ∣ B := by
      rcases h.prime.int hx with h1 | h1
      · exact absurd h1 (not_mul h.prime nz nz)
      · rcases h.prime.int h1 with h2 | h2 <;> exact h2
    obtain ⟨q, hq⟩ := hB
    have h4 : (P : Int) ∣ A * A * (A * A) * 121666 := by
      obtain ⟨w, hw⟩ := hz
      exact ⟨w + 243331 * A * A * B * q - 121665 * B * B * B * q, by rw [hq] at hw ⊢; grind⟩
    exact not_mul h.prime (not_mul h.prime (not_mul h.prime nz nz) (not_mul h.prime nz nz)) h6 h4
  · generalize (h.add p p).y = t at *
    generalize p.x = x at *
    generalize p.y = y at *
    have key := dbl_letters d x y t
    rw [he, hb, hg] at key
    rw [show ∀ P : Int, 2*(1 - y*y)*(121666*(P*e) + P*g*(x*x*y*y)) + y*y*(P*e - P*b) - (1 - y*y)*(1 + 121665*(1 - y*y))*(P*e + P*b) = P*(2*(1 - y*y)*(121666*e + g*(x*x*y*y)) + y*y*(e - b) - (1 - y*y)*(1 + 121665*(1 - y*y))*(e + b)) from fun P => by grind] at key
    have h7 := (h.prime.int (show (P : Int) ∣ _ from ⟨_, key⟩)).resolve_right hm
    have cB : Cg P B (y * A) := ⟨u, hu⟩
    have cA := Cg.refl (P := P) (A * A)
    have cS := cA.sub (cB.mul cB)
    have c := ((cA.mul (cB.mul cB)).mul (Cg.refl (1 - t))).sub ((cS.mul (cA.add ((Cg.refl 121665).mul cS))).mul (Cg.refl (1 + t)))
    refine c.swap.dvd ?_
    rw [show A * A * (y * A * (y * A)) * (1 - t) - (A * A - y * A * (y * A)) * (A * A + 121665 * (A * A - y * A * (y * A))) * (1 + t) = A * A * (A * A) * (y*y*(1 - t) - (1 - y*y)*(1 + 121665*(1 - y*y))*(1 + t)) by grind]
    exact Int.dvd_mul_of_dvd_right h7
theorem diff_letters (d x1 y1 x2 y2 : Int) : (y2 + y1)*(y2 + y1)*((1 - y1*y2)*(1 - y1*y2) - (d*x1*x2*y1*y2 + x1*x2)*(d*x1*x2*y1*y2 + x1*x2)) - (y2 - y1)*(y2 - y1)*((1 + y1*y2)*(1 + y1*y2) - (d*x1*x2*y1*y2 - x1*x2)*(d*x1*x2*y1*y2 - x1*x2)) =
    (4*y1*x2*x2*y2 + 4*d*y1*x2*x2*y2*y2*y2) * (y1*y1 - x1*x1 - 1 - d*x1*x1*y1*y1) + (4*y1*y1*y1*y2 - 4*y1*y2) * (y2*y2 - x2*x2 - 1 - d*x2*x2*y2*y2) := by grind
theorem diff_core {P : Nat} (hP : Pr P) {d x1 y1 x2 y2 sy ty : Int} (h1 : On P d x1 y1) (h2 : On P d x2 y2) (hp : ¬ (P : Int) ∣ 1 + d*x1*x2*y1*y2) (hm : ¬ (P : Int) ∣ 1 - d*x1*x2*y1*y2)
    (hs : (P : Int) ∣ sy*(1 - d*x1*x2*y1*y2) - (y1*y2 + x1*x2)) (hb : (P : Int) ∣ ty*(1 + d*x1*x2*y1*y2) - (y1*y2 - x1*x2)) : (P : Int) ∣ (y2 + y1)*(y2 + y1)*((1 - sy)*(1 - ty)) - (y2 - y1)*(y2 - y1)*((1 + sy)*(1 + ty)) := by
  obtain ⟨a, ha⟩ := hs
  obtain ⟨c, hc⟩ := hb
  have c1 : Cg P ((1 - sy)*(1 - d*x1*x2*y1*y2)) (1 - d*x1*x2*y1*y2 - (y1*y2 + x1*x2)) := ⟨-a, by rw [Int.mul_neg, ← ha]; grind⟩
  have c2 : Cg P ((1 - ty)*(1 + d*x1*x2*y1*y2)) (1 + d*x1*x2*y1*y2 - (y1*y2 - x1*x2)) := ⟨-c, by rw [Int.mul_neg, ← hc]; grind⟩
  have c3 : Cg P ((1 + sy)*(1 - d*x1*x2*y1*y2)) (1 - d*x1*x2*y1*y2 + (y1*y2 + x1*x2)) := ⟨a, by rw [← ha]; grind⟩
  have c4 : Cg P ((1 + ty)*(1 + d*x1*x2*y1*y2)) (1 + d*x1*x2*y1*y2 + (y1*y2 - x1*x2)) := ⟨c, by rw [← hc]; grind⟩
  have big := ((Cg.refl (P := P) ((y2 + y1)*(y2 + y1))).mul (c1.mul c2)).sub ((Cg.refl (P := P) ((y2 - y1)*(y2 - y1))).mul (c3.mul c4))
  have e := diff_letters d x1 y1 x2 y2
  have hz : (P : Int) ∣ (y2 + y1)*(y2 + y1)*((1 - d*x1*x2*y1*y2 - (y1*y2 + x1*x2))*(1 + d*x1*x2*y1*y2 - (y1*y2 - x1*x2))) - (y2 - y1)*(y2 - y1)*((1 - d*x1*x2*y1*y2 + (y1*y2 + x1*x2))*(1 + d*x1*x2*y1*y2 + (y1*y2 - x1*x2))) := by
    rw [show (y2 + y1)*(y2 + y1)*((1 - d*x1*x2*y1*y2 - (y1*y2 + x1*x2))*(1 + d*x1*x2*y1*y2 - (y1*y2 - x1*x2))) - (y2 - y1)*(y2 - y1)*((1 - d*x1*x2*y1*y2 + (y1*y2 + x1*x2))*(1 + d*x1*x2*y1*y2 + (y1*y2 - x1*x2))) = (y2 + y1)*(y2 + y1)*((1 - y1*y2)*(1 - y1*y2) - (d*x1*x2*y1*y2 + x1*x2)*(d*x1*x2*y1*y2 + x1*x2)) - (y2 - y1)*(y2 - y1)*((1 + y1*y2)*(1 + y1*y2) - (d*x1*x2*y1*y2 - x1*x2)*(d*x1*x2*y1*y2 - x1*x2)) by grind, e]
    exact Int.dvd_add (Int.dvd_mul_of_dvd_right h1) (Int.dvd_mul_of_dvd_right h2)
  have h9 := big.swap.dvd hz
  rw [show (y2 + y1)*(y2 + y1)*((1 - sy)*(1 - d*x1*x2*y1*y2)*((1 - ty)*(1 + d*x1*x2*y1*y2))) - (y2 - y1)*(y2 - y1)*((1 + sy)*(1 - d*x1*x2*y1*y2)*((1 + ty)*(1 + d*x1*x2*y1*y2))) = ((y2 + y1)*(y2 + y1)*((1 - sy)*(1 - ty)) - (y2 - y1)*(y2 - y1)*((1 + sy)*(1 + ty))) * ((1 - d*x1*x2*y1*y2)*(1 + d*x1*x2*y1*y2)) by grind] at h9
  exact (hP.int h9).resolve_right (not_mul hP hm hp)
/-- The difference of two points, as their sum is told. -/
theorem Edw.less_is {P : Nat} {d i : Int} (h : Edw P d i) (p q : Pt P d) : (P : Int) ∣ (h.add q p.neg).y*(1 + d*p.x*q.x*p.y*q.y) - (p.y*q.y - p.x*q.x) := by
  obtain ⟨-, ⟨c, hc⟩⟩ := h.add_is q p.neg
  have e : p.neg.x = (-p.x) % (P : Int) := rfl
  have e2 : p.neg.y = p.y := rfl
  have e3 : Cg P ((-p.x) % (P : Int)) (-p.x) := Cg.least _ _
  rw [e, e2] at hc
  generalize (-p.x) % (P : Int) = z at *
  obtain ⟨u, hu⟩ := e3
  generalize (h.add q p.neg).y = t at *
  generalize p.x = x at *
  generalize p.y = y at *
  generalize q.x = v at *
  generalize q.y = w at *
  obtain rfl : z = (P : Int) * u - x := by omega
  refine ⟨c + t*d*v*u*w*y + v*u, ?_⟩
  rw [show (P : Int) * (c + t*d*v*u*w*y + v*u) = (P : Int) * c + (t*d*v*w*y*((P : Int) * u) + v*((P : Int) * u)) by grind, ← hc]
  generalize (P : Int) * u = g
  grind
/-- The sum of two points out of their difference, of which U is the u-coordinate. -/
theorem RepU.diff {P : Nat} {d i : Int} (h : Edw P d i) {p q b s : Pt P d} {X2 Z2 X3 Z3 U : Int} (r2 : RepU p X2 Z2) (r3 : RepU q X3 Z3) (rb : RepU b U 1) (hs : s = h.add p q) (hb : b = h.add q p.neg) (hU : ¬ (P : Int) ∣ U) (hy : ¬ (P : Int) ∣ p.y) (hb1 : ¬ (P : Int) ∣ 1 - b.y) :
    RepU s (((X3 - Z3) * (X2 + Z2) + (X3 + Z3) * (X2 - Z2)) * ((X3 - Z3) * (X2 + Z2) + (X3 + Z3) * (X2 - Z2))) (U * (((X3 - Z3) * (X2 + Z2) - (X3 + Z3) * (X2 - Z2)) * ((X3 - Z3) * (X2 + Z2) - (X3 + Z3) * (X2 - Z2)))) := by
  have hp := h.plus p.on q.on
  have hm := h.less p.on q.on
  obtain ⟨-, hsy⟩ := h.add_is p q
  have hby := h.less_is p q
  have core := diff_core h.prime p.on q.on hp hm hsy hby
  rw [← hs, ← hb] at core
  obtain ⟨n2, c2⟩ := r2
  obtain ⟨n3, c3⟩ := r3
  obtain ⟨_, cb⟩ := rb
  generalize X2 + Z2 = A at *
  generalize X2 - Z2 = B at *
  generalize X3 + Z3 = C at *
  generalize X3 - Z3 = D at *
  refine RepU.mk' h ?_ ?_
  · rintro ⟨hx, hz⟩
    have hW : (P : Int) ∣ D * A + C * B := by rcases h.prime.int hx with h1 | h1 <;> exact h1
    have hV : (P : Int) ∣ D * A - C * B := by
      rcases h.prime.int hz with h1 | h1
      · exact absurd h1 hU
      · rcases h.prime.int h1 with h2 | h2 <;> exact h2
    have h3 := Int.dvd_sub hW hV
    rw [show D * A + C * B - (D * A - C * B) = 2 * (C * B) by omega] at h3
    have hB := (h.prime.int ((h.prime.int h3).resolve_left h.odd)).resolve_left n3
    exact not_mul h.prime hy n2 (c2.dvd hB)
  · have cW := (c3.mul (Cg.refl (P := P) A)).add ((Cg.refl (P := P) C).mul c2)
    have cV := (c3.mul (Cg.refl (P := P) A)).sub ((Cg.refl (P := P) C).mul c2)
    have cU : Cg P (U * (1 - b.y)) (1 + b.y) := by
      obtain ⟨u, hu⟩ := cb
      exact ⟨u, by rw [← hu]; grind⟩
    have big := ((cW.mul cW).mul (Cg.refl (P := P) ((1 - s.y) * (1 - b.y)))).sub (((cV.mul cV).mul (Cg.refl (P := P) (1 + s.y))).mul cU)
    have hz : (P : Int) ∣ (q.y * C * A + C * (p.y * A)) * (q.y * C * A + C * (p.y * A)) * ((1 - s.y) * (1 - b.y)) - (q.y * C * A - C * (p.y * A)) * (q.y * C * A - C * (p.y * A)) * (1 + s.y) * (1 + b.y) := by
      rw [show (q.y * C * A + C * (p.y * A)) * (q.y * C * A + C * (p.y * A)) * ((1 - s.y) * (1 - b.y)) - (q.y * C * A - C * (p.y * A)) * (q.y * C * A - C * (p.y * A)) * (1 + s.y) * (1 + b.y) = A * A * (C * C) * ((q.y + p.y)*(q.y + p.y)*((1 - s.y)*(1 - b.y)) - (q.y - p.y)*(q.y - p.y)*((1 + s.y)*(1 + b.y))) by grind]
      exact Int.dvd_mul_of_dvd_right core
    have h9 := big.swap.dvd hz
    rw [show (D * A + C * B) * (D * A + C * B) * ((1 - s.y) * (1 - b.y)) - (D * A - C * B) * (D * A - C * B) * (1 + s.y) * (U * (1 - b.y)) = ((D * A + C * B) * (D * A + C * B) * (1 - s.y) - U * ((D * A - C * B) * (D * A - C * B)) * (1 + s.y)) * (1 - b.y) by grind] at h9
    exact (h.prime.int h9).resolve_right hb1
end Go.Proofs.YtlhgabhjbnckkaaDoor.NP
