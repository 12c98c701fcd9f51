/- Part 2 of what the laws of this seat share: NRoot, FMath, WCells, WCopy, WParts, WKeep, WWords, WVals, OCells, FSteps. -/
import Derived.Deep.MidRow
import Derived.StillTailTactics
import Derived.Laws.CopyOwn
import Derived.Deep.WholeRow
import Derived.Laws.Externs
import Derived.Test.YtagjbdhelfickaaDoorPart1
namespace Go.Proofs.YtagjbdhelfickaaDoor.NP
theorem cg (x y P : Nat) : (x % P = y % P) ↔ ((P : Int) ∣ (x : Int) - (y : Int)) := by
  constructor
  · intro h
    have h1 : (x : Int) % (P : Int) = (y : Int) % (P : Int) := by rw [← Int.natCast_emod, ← Int.natCast_emod, h]
    exact Int.dvd_of_emod_eq_zero (Int.emod_eq_emod_iff_emod_sub_eq_zero.1 h1)
  · intro h
    have h1 := Int.emod_eq_emod_iff_emod_sub_eq_zero.2 (Int.emod_eq_zero_of_dvd h)
    rw [← Int.natCast_emod, ← Int.natCast_emod] at h1
    exact Int.ofNat.inj h1
theorem Pr.int {P : Nat} (h : Pr P) {x y : Int} (hd : (P : Int) ∣ x * y) : (P : Int) ∣ x ∨ (P : Int) ∣ y := by
  rw [← Int.natAbs_dvd_natAbs, Int.natAbs_mul] at hd
  rcases h.euclid hd with h1 | h1
  · exact Or.inl (Int.natAbs_dvd_natAbs.1 h1)
  · exact Or.inr (Int.natAbs_dvd_natAbs.1 h1)
theorem not_dvd {P a : Nat} (h : a < P) (h0 : a ≠ 0) : ¬ (P : Int) ∣ (a : Int) := by
  rw [Int.natCast_dvd_natCast]
  intro hd
  have := Nat.le_of_dvd (by omega) hd
  omega
/-- What a root of a would be. -/
def rt (P k t a : Nat) : Nat := if (a ^ (k + 1) % P) * (a ^ (k + 1) % P) % P = a then a ^ (k + 1) % P else (a ^ (k + 1) % P) * t % P
/-- Whether it is one. -/
def isS (P k t a : Nat) : Bool := decide (rt P k t a * rt P k t a % P = a)
theorem four (P k a : Nat) : (a ^ (k + 1) % P) * (a ^ (k + 1) % P) * ((a ^ (k + 1) % P) * (a ^ (k + 1) % P)) % P = a ^ (4 * k + 2) * (a * a) % P := by
  have h : ∀ x : Nat, x * x * (x * x) = x ^ 4 := fun x => by grind
  rw [h, ← Nat.pow_mod, ← Nat.pow_mul, ← Nat.pow_two, ← Nat.pow_add]
  rw [show (k + 1) * 4 = 4 * k + 2 + 2 by omega]
theorem isS_iff {P k t a : Nat} (hP : Pr P) (ht : (P : Int) ∣ (t : Int) * t + 1) (ha : a < P) : isS P k t a = true ↔ a = 0 ∨ a ^ (4 * k + 2) % P = 1 := by
  have h4 := (cg _ _ P).1 (four P k a)
  have h2 := hP.1
  rw [isS, decide_eq_true_eq, rt]
  by_cases h0 : a = 0
  · subst h0
    simp
  have hna := not_dvd ha h0
  have hc1 : a ^ (4 * k + 2) % P = 1 ↔ (P : Int) ∣ ((a ^ (4 * k + 2) : Nat) : Int) - ((1 : Nat) : Int) := by rw [← cg, Nat.mod_eq_of_lt h2]
  rw [or_iff_right h0, hc1]
  generalize a ^ (k + 1) % P = r at *
  generalize a ^ (4 * k + 2) = c at *
  simp only [Int.natCast_mul, Int.natCast_one] at *
  have cancel : (P : Int) ∣ ((c : Int) - 1) * (a * a) → (P : Int) ∣ (c : Int) - 1 := by
    intro h
    rcases hP.int h with h | h
    · exact h
    · rcases hP.int h with h | h <;> exact absurd h hna
  by_cases hr : r * r % P = a
  · rw [if_pos hr]
    have h5 : (P : Int) ∣ (r : Int) * r - a := by
      have := (cg (r * r) a P).1 (by rw [hr, Nat.mod_eq_of_lt ha])
      simpa using this
    refine ⟨fun _ => cancel ?_, fun _ => hr⟩
    obtain ⟨u, hu⟩ := h4
    obtain ⟨v, hv⟩ := h5
    exact ⟨v * (r * r + a) - u, by grind⟩
  · rw [if_neg hr]
    have e1 : (r * t % P) * (r * t % P) % P = a ↔ (P : Int) ∣ (r : Int) * t * (r * t) - a := by
      rw [← Nat.mul_mod]
      have := cg (r * t * (r * t)) a P
      rw [Nat.mod_eq_of_lt ha] at this
      simpa using this
    rw [e1]
    obtain ⟨u, hu⟩ := h4
    obtain ⟨w, hw⟩ := ht
    constructor
    · rintro ⟨v, hv⟩
      refine cancel ⟨v * (r * t * (r * t) + a) - (r * r * (r * r)) * w * (t * t - 1) - u, by grind⟩
    · rintro ⟨z, hz⟩
      have h6 : (P : Int) ∣ ((r : Int) * r - a) * (r * r + a) := ⟨u + z * a * a, by grind⟩
      rcases hP.int h6 with ⟨y, hy⟩ | ⟨y, hy⟩
      · refine absurd ?_ hr
        have := (cg (r * r) a P).2 (by simp only [Int.natCast_mul]; exact ⟨y, hy⟩)
        rw [this, Nat.mod_eq_of_lt ha]
      · exact ⟨w * r * r - y, by grind⟩
/-- Euler: the half power of what is not nought is 1 or less 1. -/
theorem half {P k a : Nat} (hP : Pr P) (hk : P = 8 * k + 5) (ha : a < P) (h0 : a ≠ 0) : (P : Int) ∣ ((a ^ (4 * k + 2) : Nat) : Int) - 1 ∨ (P : Int) ∣ ((a ^ (4 * k + 2) : Nat) : Int) + 1 := by
  have h := hP.little (a := a) (fun h => not_dvd ha h0 (Int.natCast_dvd_natCast.2 h))
  rw [show P - 1 = (4 * k + 2) * 2 by omega, Nat.pow_mul, Nat.pow_two] at h
  have h1 := (cg _ 1 P).1 (h.trans (Nat.mod_eq_of_lt hP.1).symm)
  generalize a ^ (4 * k + 2) = c at *
  refine hP.int ?_
  obtain ⟨u, hu⟩ := h1
  simp only [Int.natCast_mul] at hu
  exact ⟨u, by grind⟩
theorem one_iff {P c : Nat} (hP : Pr P) : c % P = 1 ↔ (P : Int) ∣ (c : Int) - 1 := by
  have := cg c 1 P
  rw [Nat.mod_eq_of_lt hP.1] at this
  exact this
/-- Of two that are not nought the product has a root just where both have one, or neither has. -/
theorem isS_mul {P k t a b : Nat} (hP : Pr P) (hk : P = 8 * k + 5) (ht : (P : Int) ∣ (t : Int) * t + 1) (ha : a < P) (hb : b < P) (ha0 : a ≠ 0) (hb0 : b ≠ 0) : isS P k t (a * b % P) = (isS P k t a == isS P k t b) := by
  have hp := hP.pos
  have h5 : (5 : Int) ≤ P := by omega
  have hab : ¬ (P : Int) ∣ (a : Int) * b := fun h => by
    rcases hP.int h with h | h
    · exact not_dvd ha ha0 h
    · exact not_dvd hb hb0 h
  have hab0 : a * b % P ≠ 0 := fun h => hab (by rw [← Int.natCast_mul, Int.natCast_dvd_natCast]; exact Nat.dvd_of_mod_eq_zero h)
  have ia := isS_iff (k := k) hP ht ha
  have ib := isS_iff (k := k) hP ht hb
  have ic := isS_iff (k := k) (a := a * b % P) hP ht (Nat.mod_lt _ hp)
  rw [or_iff_right ha0, one_iff hP] at ia
  rw [or_iff_right hb0, one_iff hP] at ib
  rw [or_iff_right hab0, ← Nat.pow_mod, Nat.mul_pow, one_iff hP, Int.natCast_mul] at ic
  have xa := half hP hk ha ha0
  have xb := half hP hk hb hb0
  generalize isS P k t (a * b % P) = p at *
  generalize isS P k t a = q at *
  generalize isS P k t b = r at *
  generalize ((a ^ (4 * k + 2) : Nat) : Int) = c at *
  generalize ((b ^ (4 * k + 2) : Nat) : Int) = d at *
  have no2 : ∀ x : Int, (P : Int) ∣ x - 1 → (P : Int) ∣ x + 1 → False := by
    rintro x ⟨u, hu⟩ ⟨v, hv⟩
    have h : (P : Int) ∣ ((2 : Nat) : Int) := ⟨v - u, by grind⟩
    exact not_dvd (by omega) (by omega) h
  rcases xa with hA | hA <;> rcases xb with hB | hB
  · rw [ia.2 hA, ib.2 hB, ic.2 (by obtain ⟨u, hu⟩ := hA; obtain ⟨v, hv⟩ := hB; exact ⟨u * d + v, by grind⟩)]; rfl
  · have e1 : r = false := Bool.eq_false_iff.2 (fun e => no2 d (ib.1 e) hB)
    have e2 : p = false := Bool.eq_false_iff.2 (fun e => no2 (c * d) (ic.1 e) (by obtain ⟨u, hu⟩ := hA; obtain ⟨v, hv⟩ := hB; exact ⟨u * d + v, by grind⟩))
    rw [ia.2 hA, e1, e2]; rfl
  · have e1 : q = false := Bool.eq_false_iff.2 (fun e => no2 c (ia.1 e) hA)
    have e2 : p = false := Bool.eq_false_iff.2 (fun e => no2 (c * d) (ic.1 e) (by obtain ⟨u, hu⟩ := hA; obtain ⟨v, hv⟩ := hB; exact ⟨u * d - v, by grind⟩))
    rw [ib.2 hB, e1, e2]; rfl
  · have e1 : q = false := Bool.eq_false_iff.2 (fun e => no2 c (ia.1 e) hA)
    have e2 : r = false := Bool.eq_false_iff.2 (fun e => no2 d (ib.1 e) hB)
    rw [e1, e2, ic.2 (by obtain ⟨u, hu⟩ := hA; obtain ⟨v, hv⟩ := hB; exact ⟨u * d - v, by grind⟩)]; rfl
/-- A square has a root. -/
theorem isS_square {P k t x : Nat} (hP : Pr P) (hk : P = 8 * k + 5) (ht : (P : Int) ∣ (t : Int) * t + 1) (hx : x < P) : isS P k t (x * x % P) = true := by
  by_cases h0 : x = 0
  · subst h0
    rw [isS_iff hP ht (Nat.mod_lt _ hP.pos)]; simp
  · rw [isS_mul hP hk ht hx hx h0 h0]; simp
/-- Two numbers with one square. -/
theorem same_square {P x y : Nat} (hP : Pr P) (hx : x < P) (hy : y < P) (h : x * x % P = y * y % P) : x = y ∨ (x + y) % P = 0 := by
  have h1 := (cg _ _ P).1 h
  rw [Int.natCast_mul, Int.natCast_mul, show (x : Int) * x - y * y = (x - y) * (x + y) by grind] at h1
  rcases hP.int h1 with h2 | h2
  · left
    have := (cg _ _ P).2 h2
    rw [Nat.mod_eq_of_lt hx, Nat.mod_eq_of_lt hy] at this
    exact this
  · right
    rw [← Int.natCast_add, Int.natCast_dvd_natCast] at h2
    exact Nat.mod_eq_zero_of_dvd h2
end Go.Proofs.YtagjbdhelfickaaDoor.NP
namespace Go.Proofs.YtagjbdhelfickaaDoor
open Go.RowKit
/-- The number p, written out. -/
abbrev pp : Nat := 57896044618658097711785492504343953926634992332820282019728792003956564819949
/-- A number's five limbs. -/
def limb5 (n : Nat) : List Nat := [n % 2251799813685248, n / 2251799813685248 % 2251799813685248, n / 2251799813685248 / 2251799813685248 % 2251799813685248, n / 2251799813685248 / 2251799813685248 / 2251799813685248 % 2251799813685248, n / 2251799813685248 / 2251799813685248 / 2251799813685248 / 2251799813685248 % 2251799813685248]
theorem limb5_length (n : Nat) : (limb5 n).length = 5 := rfl
/-- The number of five limbs, which may be greater than their bits. -/
def val5 (a b c d e : Nat) : Nat := a + 2251799813685248 * (b + 2251799813685248 * (c + 2251799813685248 * (d + 2251799813685248 * e)))
theorem div51 (x y : Nat) : (x + 2251799813685248 * y) / 2251799813685248 = x / 2251799813685248 + y := Nat.add_mul_div_left x y (by decide)
theorem mod51 (x y : Nat) : (x + 2251799813685248 * y) % 2251799813685248 = x % 2251799813685248 := Nat.add_mul_mod_self_left x 2251799813685248 y
/-- Carries, one behind the other. -/
theorem val5_1 (a b c d e : Nat) : val5 a b c d e / 2251799813685248 = (b + a / 2251799813685248) + 2251799813685248 * (c + 2251799813685248 * (d + 2251799813685248 * e)) := by rw [val5, div51]; omega
theorem val5_2 (a b c d e : Nat) : val5 a b c d e / 2251799813685248 / 2251799813685248 = (c + (b + a / 2251799813685248) / 2251799813685248) + 2251799813685248 * (d + 2251799813685248 * e) := by rw [val5_1, div51]; omega
theorem val5_3 (a b c d e : Nat) : val5 a b c d e / 2251799813685248 / 2251799813685248 / 2251799813685248 = (d + (c + (b + a / 2251799813685248) / 2251799813685248) / 2251799813685248) + 2251799813685248 * e := by rw [val5_2, div51]; omega
theorem val5_4 (a b c d e : Nat) : val5 a b c d e / 2251799813685248 / 2251799813685248 / 2251799813685248 / 2251799813685248 = e + (d + (c + (b + a / 2251799813685248) / 2251799813685248) / 2251799813685248) / 2251799813685248 := by rw [val5_3, div51]; omega
theorem div5_all (n : Nat) : n / 2251799813685248 / 2251799813685248 / 2251799813685248 / 2251799813685248 / 2251799813685248 = n / 57896044618658097711785492504343953926634992332820282019728792003956564819968 := by
  rw [Nat.div_div_eq_div_mul, Nat.div_div_eq_div_mul, Nat.div_div_eq_div_mul, Nat.div_div_eq_div_mul]
theorem val5_limbs (n : Nat) (h : n < 57896044618658097711785492504343953926634992332820282019728792003956564819968) : val5 (n % 2251799813685248) (n / 2251799813685248 % 2251799813685248) (n / 2251799813685248 / 2251799813685248 % 2251799813685248) (n / 2251799813685248 / 2251799813685248 / 2251799813685248 % 2251799813685248) (n / 2251799813685248 / 2251799813685248 / 2251799813685248 / 2251799813685248 % 2251799813685248) = n := by
  rw [val5]; omega
theorem limb5_mod (n : Nat) : limb5 (n % 57896044618658097711785492504343953926634992332820282019728792003956564819968) = limb5 n := by
  simp only [limb5]
  have e := Nat.div_add_mod n 57896044618658097711785492504343953926634992332820282019728792003956564819968
  generalize n % 57896044618658097711785492504343953926634992332820282019728792003956564819968 = r at *
  generalize n / 57896044618658097711785492504343953926634992332820282019728792003956564819968 = q at *
  subst e
  have e1 : 57896044618658097711785492504343953926634992332820282019728792003956564819968 * q + r = r + 2251799813685248 * (2251799813685248 * (2251799813685248 * (2251799813685248 * (2251799813685248 * q)))) := by omega
  rw [e1, mod51, div51]
  have e2 : ∀ x y : Nat, (x + 2251799813685248 * y) % 2251799813685248 = x % 2251799813685248 := mod51
  rw [mod51, div51, mod51, div51, mod51, div51, mod51]
/-- The rest modulo p, of limbs up to 2^60: the three carries. -/
theorem least_val (a b c d e n o q r : Nat) (hn : n = val5 a b c d e) (hs : n < 1024 * 57896044618658097711785492504343953926634992332820282019728792003956564819968) (ho : o = n / 2251799813685248 / 2251799813685248 / 2251799813685248 / 2251799813685248 / 2251799813685248)
    (hq : q = val5 (n % 2251799813685248 + 19 * o + 19) (n / 2251799813685248 % 2251799813685248) (n / 2251799813685248 / 2251799813685248 % 2251799813685248) (n / 2251799813685248 / 2251799813685248 / 2251799813685248 % 2251799813685248) (n / 2251799813685248 / 2251799813685248 / 2251799813685248 / 2251799813685248 % 2251799813685248) / 2251799813685248 / 2251799813685248 / 2251799813685248 / 2251799813685248 / 2251799813685248)
    (hr : r = val5 (n % 2251799813685248 + 19 * o + 19 * q) (n / 2251799813685248 % 2251799813685248) (n / 2251799813685248 / 2251799813685248 % 2251799813685248) (n / 2251799813685248 / 2251799813685248 / 2251799813685248 % 2251799813685248) (n / 2251799813685248 / 2251799813685248 / 2251799813685248 / 2251799813685248 % 2251799813685248)) : limb5 r = limb5 (n % pp) := by
  rw [div5_all] at ho hq
  have e1 : val5 (n % 2251799813685248) (n / 2251799813685248 % 2251799813685248) (n / 2251799813685248 / 2251799813685248 % 2251799813685248) (n / 2251799813685248 / 2251799813685248 / 2251799813685248 % 2251799813685248) (n / 2251799813685248 / 2251799813685248 / 2251799813685248 / 2251799813685248 % 2251799813685248) = n % 57896044618658097711785492504343953926634992332820282019728792003956564819968 := by
    have h1 := limb5_mod n
    have h2 := val5_limbs (n % 57896044618658097711785492504343953926634992332820282019728792003956564819968) (Nat.mod_lt _ (by decide))
    simp only [limb5, List.cons.injEq, and_true] at h1
    obtain ⟨g0, g1, g2, g3, g4⟩ := h1
    rw [g0, g1, g2, g3, g4] at h2
    exact h2
  have e2 : ∀ x b c d e y : Nat, val5 (x + y) b c d e = val5 x b c d e + y := by intros; simp only [val5]; omega
  rw [Nat.add_assoc, e2, e1] at hq
  rw [Nat.add_assoc, e2, e1] at hr
  rw [← limb5_mod r]
  have h3 := Nat.mod_lt n (show 0 < 57896044618658097711785492504343953926634992332820282019728792003956564819968 by decide)
  have h4 := Nat.div_add_mod n 57896044618658097711785492504343953926634992332820282019728792003956564819968
  congr 1
  rw [hr]
  generalize n % 57896044618658097711785492504343953926634992332820282019728792003956564819968 = u at *
  rw [← ho] at h4
  show _ = n % 57896044618658097711785492504343953926634992332820282019728792003956564819949
  rw [show n = (u + 19 * o) + 57896044618658097711785492504343953926634992332820282019728792003956564819949 * o by omega, Nat.add_mul_mod_self_left]
  have h5 : o < 1024 := by omega
  clear hr ho h4 hn e1 e2
  rcases (show q = 0 ∨ q = 1 by omega) with rfl | rfl
  · rw [Nat.mod_eq_of_lt (show u + 19 * o < 57896044618658097711785492504343953926634992332820282019728792003956564819949 by omega), Nat.mod_eq_of_lt (by omega)]; omega
  · have h6 : 57896044618658097711785492504343953926634992332820282019728792003956564819949 ≤ u + 19 * o := by omega
    rw [Nat.mod_eq_sub_mod h6, Nat.mod_eq_of_lt (show u + 19 * o - 57896044618658097711785492504343953926634992332820282019728792003956564819949 < 57896044618658097711785492504343953926634992332820282019728792003956564819949 by omega)]
    rw [Nat.mod_eq_sub_mod (by omega), Nat.mod_eq_of_lt (by omega)]; omega
end Go.Proofs.YtagjbdhelfickaaDoor
namespace Go.Proofs.YtagjbdhelfickaaDoor
open Go.RowKit
/-- Block g is just these cells. -/
def Cells (w : World) (g : Nat) (vs : List Value) (t : TypeId) : Prop := w.heap[g]? = some (.cells vs.toArray t (0, 0))
/-- Of all blocks that there were only g may have turned. -/
structure But (g : Nat) (w w' : World) : Prop where
  os : w'.os = w.os
  tape : w'.tape = w.tape
  output : w'.output = w.output
  size : w.heap.size ≤ w'.heap.size
  block : ∀ k, k < w.heap.size → k ≠ g → w'.heap[k]? = w.heap[k]?
theorem heap_setCells (b : Nat) : ∀ (vs : List Value) (o : Nat) (w : World), (w.setCells b o vs).os = w.os ∧ (w.setCells b o vs).tape = w.tape ∧ (w.setCells b o vs).output = w.output ∧ (w.setCells b o vs).heap.size = w.heap.size ∧ ∀ k, k ≠ b → (w.setCells b o vs).heap[k]? = w.heap[k]?
  | [], _, _ => ⟨rfl, rfl, rfl, rfl, fun _ _ => rfl⟩
  | v :: r, o, w => by
    obtain ⟨h1, h2, h3, h4, h5⟩ := heap_setCells b r (o + 1) (w.setCell ⟨b, o, none⟩ v)
    refine ⟨h1, h2, h3, h4.trans (by simp [World.setCell]), fun k hk => (h5 k hk).trans (Below.heap_setCell _ _ _ _ hk)⟩
theorem heap_lt {w : World} {b : Nat} {o : Obj} (h : w.heap[b]? = some o) : b < w.heap.size := by
  rcases Nat.lt_or_ge b w.heap.size with hlt | hge
  · exact hlt
  · rw [Array.getElem?_eq_none hge] at h; cases h
section
variable {w w' w'' : World} {g B : Nat} {vs : List Value} {t : TypeId}
theorem Cells.cell (h : Cells w g vs t) (j : Nat) (hj : j < vs.length) : w.cell? ⟨g, j, none⟩ = some vs[j] := by
  rw [cell_of_row w g j _ _ _ h]
  simp [hj]
theorem Cells.get (h : Cells w g vs t) {j : Nat} {v : Value} (hj : vs[j]? = some v) : w.cell? ⟨g, j, none⟩ = some v := by
  rw [cell_of_row w g j _ _ _ h, List.getElem?_toArray, hj]
theorem Cells.lt (h : Cells w g vs t) : g < w.heap.size := heap_lt h
theorem Cells.below (h : Cells w g vs t) (hb : Below B w w') (hg : g < B) : Cells w' g vs t := (hb.block g hg).trans h
theorem Cells.frozen (h : Cells w g vs t) (j : Nat) : w.frozen? ⟨g, j, none⟩ = false := by
  unfold Cells at h
  simp [World.frozen?, h]
theorem Cells.set (h : Cells w g vs t) (j : Nat) (u : Value) : Cells (w.setCell ⟨g, j, none⟩ u) g (vs.set j u) t := by
  unfold Cells at h ⊢
  simp [World.setCell, Array.getElem?_modify, h]
theorem Cells.other (h : Cells w g vs t) {p : Addr} (hp : g ≠ p.block) (u : Value) : Cells (w.setCell p u) g vs t := (Below.heap_setCell _ _ _ _ hp).trans h
theorem Cells.drewN (h : Cells w g vs t) (n : Nat) : Cells (w.drewN n) g vs t := h
theorem Cells.drew (h : Cells w g vs t) : Cells w.drew g vs t := h
theorem Cells.alloc (h : Cells w g vs t) (o : Obj) : Cells (w.alloc o) g vs t := (Below.heap_alloc _ _ _ h.lt).trans h
theorem Cells.new (w : World) (vs : Array Value) (t : TypeId) : Cells (w.alloc (.cells vs t)) w.heap.size vs.toList t := by
  have := heap_alloc_new w (.cells vs t)
  unfold Cells
  rw [this]
theorem Cells.range (h : Cells w g vs t) (o n : Nat) : w.rangeAt g o ((vs.drop o).take n) := by
  intro j v hj
  rw [List.getElem?_take] at hj
  split at hj
  · rw [List.getElem?_drop] at hj
    exact h.get hj
  · cases hj
theorem Cells.there (h : Cells w g vs t) (o n : Nat) (hn : o + n ≤ vs.length) : w.there g o n := fun j hj =>
  ⟨by rw [h.cell (o + j) (by omega)]; rfl, h.frozen _⟩
/-- A piece of a list, written anew. -/
def splice (vs : List Value) (o : Nat) (cs : List Value) : List Value := vs.take o ++ cs ++ vs.drop (o + cs.length)
theorem splice_length (vs cs : List Value) (o : Nat) (h : o + cs.length ≤ vs.length) : (splice vs o cs).length = vs.length := by
  simp [splice]; omega
theorem set_splice (vs : List Value) (o : Nat) (u : Value) (cs : List Value) (h : o + 1 + cs.length ≤ vs.length) : splice (vs.set o u) (o + 1) cs = splice vs o (u :: cs) := by
  have e1 : (vs.set o u).take (o + 1) = vs.take o ++ [u] := by
    rw [List.take_succ_eq_append_getElem (by simp; omega), List.take_set_of_le (Nat.le_refl _)]
    simp
  have e2 : (vs.set o u).drop (o + 1 + cs.length) = vs.drop (o + (cs.length + 1)) := by
    rw [List.drop_set_of_lt (by omega)]
    congr 1; omega
  simp [splice, e1, e2]
theorem Cells.setCells : ∀ {cs : List Value} {w : World} {vs : List Value} {o : Nat}, Cells w g vs t → o + cs.length ≤ vs.length → Cells (w.setCells g o cs) g (splice vs o cs) t
  | [], w, vs, o, h, _ => by
    have e : splice vs o [] = vs := by simp [splice]
    rw [e]; exact h
  | u :: cs, w, vs, o, h, hl => by
    rw [← set_splice vs o u cs (by simp at hl; omega)]
    exact Cells.setCells (h.set o u) (by simp at hl ⊢; omega)
theorem Cells.otherCells (h : Cells w g vs t) {b : Nat} (hp : g ≠ b) (o : Nat) (cs : List Value) : Cells (w.setCells b o cs) g vs t := ((heap_setCells b cs o w).2.2.2.2 g hp).trans h
theorem But.refl (g : Nat) (w : World) : But g w w := ⟨rfl, rfl, rfl, Nat.le_refl _, fun _ _ _ => rfl⟩
theorem But.trans (h : But g w w') (k : But g w' w'') : But g w w'' :=
  ⟨k.os.trans h.os, k.tape.trans h.tape, k.output.trans h.output, Nat.le_trans h.size k.size, fun i hi hg => (k.block i (Nat.lt_of_lt_of_le hi h.size) hg).trans (h.block i hi hg)⟩
theorem But.below (h : But g w w') (hB : B ≤ g) (hw : B ≤ w.heap.size) : Below B w w' := ⟨h.os, h.tape, h.output, h.size, fun k hk => h.block k (by omega) (by omega)⟩
theorem But.drew (h : But g w w') : But g w w'.drew := ⟨h.os, h.tape, h.output, h.size, h.block⟩
theorem But.drewN (h : But g w w') (n : Nat) : But g w (w'.drewN n) := ⟨h.os, h.tape, h.output, h.size, h.block⟩
theorem But.setCell (h : But g w w') (j : Nat) (u : Value) : But g w (w'.setCell ⟨g, j, none⟩ u) :=
  h.trans ⟨rfl, rfl, rfl, by simp [World.setCell], fun k _ hk => Below.heap_setCell _ _ _ _ hk⟩
theorem But.alloc (h : But g w w') (o : Obj) : But g w (w'.alloc o) := h.trans ⟨rfl, rfl, rfl, by simp, fun k hk _ => Below.heap_alloc _ _ _ hk⟩
theorem But.setCells (h : But g w w') (o : Nat) (cs : List Value) : But g w (w'.setCells g o cs) := by
  obtain ⟨h1, h2, h3, h4, h5⟩ := heap_setCells g cs o w'
  exact h.trans ⟨h1, h2, h3, by rw [h4]; exact Nat.le_refl _, fun k _ hk => h5 k hk⟩
theorem below_setCells {B b : Nat} (h : Below B w w') (hb : B ≤ b) (o : Nat) (cs : List Value) : Below B w (w'.setCells b o cs) := by
  obtain ⟨h1, h2, h3, h4, h5⟩ := heap_setCells b cs o w'
  exact h.trans ⟨h1, h2, h3, by rw [h4]; exact Nat.le_refl _, fun k hk => h5 k (by omega)⟩
/-- A change of block b as well, where b is new. -/
theorem But.new (h : But g w w') {b : Nat} (hb : w.heap.size ≤ b) (k : But b w' w'') : But g w w'' :=
  ⟨k.os.trans h.os, k.tape.trans h.tape, k.output.trans h.output, Nat.le_trans h.size k.size, fun i hi hg => (k.block i (Nat.lt_of_lt_of_le hi h.size) (by omega)).trans (h.block i hi hg)⟩
theorem Cells.but (h : Cells w g vs t) {b : Nat} (hb : But b w w') (hg : g ≠ b) : Cells w' g vs t := (hb.block g h.lt hg).trans h
theorem Row.but {A : Option Addr} {bs : List UInt8} {b : Nat} (h : Row w w.heap.size A bs) (hb : But b w w') (hg : bs ≠ [] → ∀ p, A = some p → p.block ≠ b) : Row w' w'.heap.size A bs := by
  rcases h with rfl | ⟨b', off, rfl, hb', hc⟩
  · exact .inl rfl
  · refine .inr ⟨b', off, rfl, Nat.lt_of_lt_of_le hb' hb.size, fun j u hu => ?_⟩
    have hne : bs ≠ [] := fun e => by subst e; simp at hu
    rw [World.cell?_of_block (w := w) (hb.block b' hb' (hg hne _ rfl))]
    exact hc j u hu
/-- A region whose head only reads and calls quietly, and whose tail comes in the text's order: the drawn world under a name. -/
theorem wp_region_tail {P : Program} {id : Nat} {Q : Exit → Act → World → Prop} {a : Act} {w : World} {l : List Oper} (n : Nat) (hm : P.follows .mixedOrders = true) (hB : Region.lexTailB .any l.toArray n = true)
    (h : ∀ w1, w1 = w.drew → wpStill P l.toArray w1 (fun a' => wpList P l.toArray Q (l.drop n) a' w1) (l.take n) a) : (Code.region id l.toArray true).wp P Q a w := wp_region_still_tail n hm hB (h _ rfl)
end
section
variable {P : Program} {w : World} {ops : Array Oper} {rest : List Oper} {o : Oper} {a : Act} {Q : Exit → Act → World → Prop}
/-- A literal of a struct or an array. -/
theorem build_step (hgd : o.guard = none) (t : TypeId) (parts : List (Nat × Operand)) (ho : o.op = .build t parts.toArray) (ps : List (Nat × Value)) (hp : (parts.map fun (i, x) => (i, a.eval x)) = ps) (v : Value) (hr : ∀ w, (Instr.build t ps.toArray).run P w = .ok v w)
    (h : wpList P ops Q rest (a.put o.dst v) w) : wpList P ops Q (o :: rest) a w := by
  refine wpList_plain hgd fun K hK => ?_
  unfold Oper.wp
  simp only [execOp, ho, List.map_toArray, hp, hr, Sem.run_bind, Sem.run_pure, Result.andThen_ok]
  exact hK _ _ h
/-- A literal of a slice. -/
theorem slice_step (hgd : o.guard = none) (t : TypeId) (n : Nat) (parts : List (Nat × Operand)) (ho : o.op = .buildSlice t n parts.toArray) (ps : List (Nat × Value)) (hp : (parts.map fun (i, x) => (i, a.eval x)) = ps) (e : TypeId) (vs : Array Value)
    (hr : ∀ w, (Instr.buildSlice t n ps.toArray).run P w = .ok (.slice (some ⟨w.heap.size, 0, none⟩) n n) (w.alloc (.cells vs e)))
    (h : ∀ w', w' = w.alloc (.cells vs e) → wpList P ops Q rest (a.put o.dst (.slice (some ⟨w.heap.size, 0, none⟩) n n)) w') : wpList P ops Q (o :: rest) a w := by
  refine wpList_plain hgd fun K hK => ?_
  unfold Oper.wp
  simp only [execOp, ho, List.map_toArray, hp, hr, Sem.run_bind, Sem.run_pure, Result.andThen_ok]
  exact hK _ _ (h _ rfl)
/-- A new variable of a type whose zero value is known whole. -/
theorem alloc_step (hgd : o.guard = none) (t : TypeId) (ho : o.op = .alloc t) (vs : Array Value) (hz : ∀ w, (zeroValue t).run P w = .ok (.agg vs) w)
    (h : ∀ w', w' = w.alloc (.cells vs t) → wpList P ops Q rest (a.put o.dst (.pointer (some ⟨w.heap.size, 0, none⟩))) w') : wpList P ops Q (o :: rest) a w := by
  refine wpList_plain hgd fun K hK => ?_
  unfold Oper.wp
  simp only [execOp, ho, Instr.alloc, hz, newVar, Value.cells, Sem.run_bind, Sem.run_pure, Result.andThen_ok, go_sem]
  exact hK _ _ (h _ rfl)
/-- An integer stored into one cell. -/
theorem store_step (hgd : o.guard = none) (t : TypeId) (x y : Operand) (ho : o.op = .store t x y) (g j : Nat) (ik : IntKind) (z : Int) (hx : a.eval x = .pointer (some ⟨g, j, none⟩)) (hy : a.eval y = .int ik z) (hs : (P.info? t).map (·.size) = some 1) (ht : w.there g j 1)
    (h : ∀ w', w' = w.setCell ⟨g, j, none⟩ (.int ik z) → wpList P ops Q rest (a.put o.dst undef) w') : wpList P ops Q (o :: rest) a w := by
  refine wpList_plain hgd fun K hK => ?_
  obtain ⟨i0, hi0, hs0⟩ := Option.map_eq_some_iff.1 hs
  have hst := run_storeCells_cells (P := P) g j [.int ik z] 0 w (fun i hi => by simpa using (ht i hi).1) (fun i hi => by simpa using (ht i hi).2) (by intro v hv; cases List.mem_singleton.1 hv; rfl)
  have hrun : (Instr.storeAt t (.pointer (some ⟨g, j, none⟩)) (.int ik z)).run P w = .ok () (w.setCell ⟨g, j, none⟩ (.int ik z)) := by
    simp only [Instr.storeAt, Instr.sureAddr, Sem.run_bind, Sem.run_pure, Result.andThen_ok]
    simp [storeVar, sizeOf, typeInfo, hi0, hs0, Value.cells, hst, World.setCells]
  unfold Oper.wp
  simp only [execOp, ho, hx, hy, hrun, Sem.run_bind, Sem.run_pure, Result.andThen_ok]
  exact hK _ _ (h _ rfl)
/-- A value laid into a new variable. -/
theorem box_step (hgd : o.guard = none) (t : TypeId) (x : Operand) (ho : o.op = .box t x) (vs : Array Value) (hx : a.eval x = .agg vs)
    (h : ∀ w', w' = w.alloc (.cells vs t) → wpList P ops Q rest (a.put o.dst (.pointer (some ⟨w.heap.size, 0, none⟩))) w') : wpList P ops Q (o :: rest) a w := by
  refine wpList_plain hgd fun K hK => ?_
  unfold Oper.wp
  simp only [execOp, ho, hx, Instr.box]
  simp only [newVar, Value.cells, Sem.run_bind, Sem.run_pure, Result.andThen_ok, go_sem]
  exact hK _ _ (h _ rfl)
end
/-- A row below B lies in no block from B on. -/
theorem Row.apart {w : World} {B g : Nat} {A : Option Addr} {bs : List UInt8} (h : Row w B A bs) (hg : B ≤ g) : bs ≠ [] → ∀ p, A = some p → p.block ≠ g := by
  intro hne p hp
  rcases h with rfl | ⟨b, off, rfl, hb, _⟩
  · exact absurd rfl hne
  · cases hp; show b ≠ g; omega
theorem splice_all (vs cs : List Value) (h : cs.length = vs.length) : splice vs 0 cs = cs := by simp [splice, h]
/-- A function whose result lies in a block of its own, a whole array or struct. -/
theorem ret_block {P : Program} {fn : Func} {R : Ending → World → Prop} {a : Act} {w : World} {p : Tmp} {ty : TypeId} {d : TypeDesc} (hres : fn.results = #[.cell p ty]) (g : Nat) (vs : List Value) (t : TypeId)
    (hp : a.tmps.getD p undef = .pointer (some ⟨g, 0, none⟩)) (hg : Cells w g vs t) (hu : P.underlying ty = some d) (hd : (match d with | .struct _ | .array _ _ => true | _ => false) = true) (hi : (P.info? ty).map (·.size) = some vs.length)
    (hdf : a.defers = []) (hR : R (.returned (.agg vs.toArray)) w) : bodyPost P fn R .ret a w :=
  bodyPost_ret (results_cell_row hres a.tmps w g t vs.toArray (0, 0) d hp hg hu hd (by simpa using hi)) hdf hR
theorem Row.piece {w : World} {B b off : Nat} {bs : List UInt8} (h : Row w B (some ⟨b, off, none⟩) bs) (i n : Nat) : Row w B (some ⟨b, off + i, none⟩) ((bs.drop i).take n) := by
  rcases h with rfl | ⟨b', off', hA, hb, hc⟩
  · exact .inl (by simp)
  · cases hA
    refine .inr ⟨b, off + i, rfl, hb, fun j u hu => ?_⟩
    rw [List.getElem?_take] at hu
    split at hu
    · rw [List.getElem?_drop] at hu
      rw [Nat.add_assoc]
      exact hc (i + j) u hu
    · cases hu
end Go.Proofs.YtagjbdhelfickaaDoor
namespace Go.Proofs.YtagjbdhelfickaaDoor
open Go.RowKit
theorem size_u8 : (Tryd.prog.info? 5).map (·.size) = some 1 := by kernel_rfl
theorem cells8_one (us : List UInt8) : ∀ v ∈ us.map cellOf, v.oneCell' = true := by
  intro v hv
  obtain ⟨x, _, rfl⟩ := List.mem_map.1 hv
  rfl
/-- 'copy(dst, src)', both rows of bytes, dst's room known. -/
theorem copy_row {w : World} {ops : Array Oper} {rest : List Oper} {o : Oper} {a : Act} {Q : Exit → Act → World → Prop} (hgd : o.guard = none) (d s : Operand)
    (ho : o.op = .call { callee := .builtin .copy, args := #[d, s], argTypes := #[124, 124] }) (g off dLen dCap sLen sCap B m : Nat) (A : Option Addr) (us : List UInt8) (hd : a.eval d = .slice (some ⟨g, off, none⟩) dLen dCap) (hs : a.eval s = .slice A sLen sCap)
    (hl : us.length = sLen) (hm : min sLen dLen = m) (hr : Row w B A us) (ht : w.there g off m) (h : ∀ w', w' = w.setCells g off ((us.take dLen).map cellOf) → wpList Tryd.prog ops Q rest (a.put o.dst (.int .i64 (m : Int))) w') : wpList Tryd.prog ops Q (o :: rest) a w := by
  subst hm
  replace h := h _ rfl
  have hlen : ((us.take dLen).map cellOf).length = Nat.min sLen dLen := by rw [List.length_map, List.length_take, hl, Nat.min_comm]
  by_cases h0 : Nat.min sLen dLen = 0
  · have e : (us.take dLen).map cellOf = [] := List.eq_nil_of_length_eq_zero (hlen.trans h0)
    refine wpList_copy_nothing hgd d s _ _ ho 5 Tryd.underlying124 size_u8 _ _ _ _ _ _ hd hs h0 ?_
    rw [e] at h
    have e2 : (min sLen dLen : Nat) = 0 := h0
    rw [e2] at h
    exact h
  · have hpos : us ≠ [] := by
      intro e
      subst e
      simp at hl
      subst hl
      simp at h0
    rcases hr with e | ⟨b, bo, rfl, hb, hc⟩
    · exact absurd e hpos
    · refine wpList_plain hgd fun K hK => ?_
      have hrun := run_copy_cells (P := Tryd.prog) w 124 124 o.type 5 g off dLen dCap ⟨b, bo, none⟩ sLen sCap ((us.take dLen).map cellOf) Tryd.underlying124 size_u8 hlen (fun j v hj => by
        rw [Addr.add_mid]
        rw [List.getElem?_map] at hj
        cases hu : (us.take dLen)[j]? with
        | none => rw [hu] at hj; cases hj
        | some u =>
          rw [hu] at hj
          cases hj
          refine hc j u ?_
          rw [List.getElem?_take] at hu
          split at hu
          · exact hu
          · cases hu) (fun j hj => (ht j (by rw [hlen] at hj; exact hj)).1) (fun j hj => (ht j (by rw [hlen] at hj; exact hj)).2) (cells8_one _)
      unfold Oper.wp
      simp only [execOp, ho, resolve, invoke, builtin, Sem.run_bind, Sem.run_pure, Result.andThen_ok, List.map_toArray, List.map_cons, List.map_nil, hd, hs, hrun]
      have e3 : goInt (((us.take dLen).map cellOf).length : Int) = .int .i64 ((min sLen dLen : Nat) : Int) := by rw [hlen]; rfl
      rw [e3]
      exact hK _ _ h
end Go.Proofs.YtagjbdhelfickaaDoor
namespace Go.Proofs.YtagjbdhelfickaaDoor
open Go.RowKit
theorem Cells.row {w : World} {g m : Nat} {vs : List Value} {t : TypeId} {us : List UInt8} (h : Cells w g vs t) (hv : vs.take m = us.map cellOf) : Row w w.heap.size (some ⟨g, 0, none⟩) us := by
  refine .inr ⟨g, 0, rfl, h.lt, fun j u hu => ?_⟩
  rw [Nat.zero_add]
  refine h.get ?_
  have h1 : (vs.take m)[j]? = some (cellOf u) := by rw [hv, List.getElem?_map, hu]; rfl
  rw [List.getElem?_take] at h1
  split at h1
  · exact h1
  · cases h1
/-- A digest as the program holds it. -/
def hashVal (ds : List UInt8) : Value := .agg (ds.map cellOf).toArray
/-- The value v is a slice of these bytes. -/
def Part (w : World) (B : Nat) (v : Value) (us : List UInt8) : Prop := ∃ A c, v = .slice A us.length c ∧ Row w B A us ∧ us.length ≤ c ∧ c ≤ maxLen ∧ (A = none → c = 0)
/-- The address leads to so many slices of bytes. -/
def Parts (w : World) (B : Nat) (D : Option Addr) (ps : List (List UInt8)) : Prop :=
  ps = [] ∨ ∃ b off, D = some ⟨b, off, none⟩ ∧ b < B ∧ ∀ j us, ps[j]? = some us → ∃ v, w.cell? ⟨b, off + j, none⟩ = some v ∧ Part w B v us
theorem Part.below {w w' : World} {B : Nat} {v : Value} {us : List UInt8} (h : Part w B v us) (hb : Below B w w') : Part w' B v us := by
  obtain ⟨A, c, e, hr, h1, h2⟩ := h
  exact ⟨A, c, e, hr.below hb, h1, h2⟩
theorem Part.more {w : World} {B B' : Nat} {v : Value} {us : List UInt8} (h : Part w B v us) (hB : B ≤ B') : Part w B' v us := by
  obtain ⟨A, c, e, hr, h1, h2⟩ := h
  exact ⟨A, c, e, hr.more hB, h1, h2⟩
theorem Parts.below {w w' : World} {B : Nat} {D : Option Addr} {ps : List (List UInt8)} (h : Parts w B D ps) (hb : Below B w w') : Parts w' B D ps := by
  rcases h with rfl | ⟨b, off, rfl, hlt, hc⟩
  · exact .inl rfl
  · refine .inr ⟨b, off, rfl, hlt, fun j us hu => ?_⟩
    obtain ⟨v, h1, h2⟩ := hc j us hu
    exact ⟨v, (hb.cell hlt).trans h1, h2.below hb⟩
theorem Parts.more {w : World} {B B' : Nat} {D : Option Addr} {ps : List (List UInt8)} (h : Parts w B D ps) (hB : B ≤ B') : Parts w B' D ps := by
  rcases h with rfl | ⟨b, off, rfl, hlt, hc⟩
  · exact .inl rfl
  · refine .inr ⟨b, off, rfl, by omega, fun j us hu => ?_⟩
    obtain ⟨v, h1, h2⟩ := hc j us hu
    exact ⟨v, h1, h2.more hB⟩
theorem Parts.at {w : World} {B : Nat} {D : Option Addr} {ps : List (List UInt8)} (h : Parts w B D ps) (k : Nat) (hk : k < ps.length) : ∃ b off A c, D = some ⟨b, off, none⟩ ∧ w.cell? ⟨b, off + k, none⟩ = some (.slice A ps[k].length c) ∧ Row w B A ps[k] ∧ ps[k].length ≤ c ∧ c ≤ maxLen ∧ (A = none → c = 0) := by
  rcases h with rfl | ⟨b, off, rfl, hlt, hc⟩
  · simp at hk
  · obtain ⟨v, h1, A, c, rfl, h2, h3, h4⟩ := hc k _ (List.getElem?_eq_getElem hk)
    exact ⟨b, off, A, c, rfl, h1, h2, h3, h4⟩
theorem Owns.keep {w w' : World} {base : Nat} {v : Value} {bs : List UInt8} (h : Owns w base v bs) (hk : ∀ g, v.ownBlock = some g → w'.heap[g]? = w.heap[g]?) : Owns w' base v bs := by
  obtain ⟨h1, h2⟩ := h
  refine ⟨h1, ?_⟩
  rcases h2 with h2 | ⟨g, cap, cur, hv, hg, hh, r⟩
  · exact .inl h2
  · refine .inr ⟨g, cap, cur, hv, hg, ?_, r⟩
    rw [hk g (by rw [hv]; rfl)]
    exact hh
theorem Owns.on {w w' : World} {base : Nat} {v : Value} {bs : List UInt8} (h : Owns w base v bs) (hb : Below w.heap.size w w') : Owns w' base v bs :=
  h.keep fun g hg => hb.block g (World.ownsRow.lt h g hg).2
theorem Owns.but {w w' : World} {base g : Nat} {v : Value} {bs : List UInt8} (h : Owns w base v bs) (hb : But g w w') (hg : g < base) : Owns w' base v bs :=
  h.keep fun k hk => hb.block k (World.ownsRow.lt h k hk).2 (by have := (World.ownsRow.lt h k hk).1; omega)
theorem Made.cells {w : World} {g : Nat} {bs : List UInt8} (h : Made w g bs) : Cells w g (bs.map cellOf) 5 := h
end Go.Proofs.YtagjbdhelfickaaDoor
namespace Go.Proofs.YtagjbdhelfickaaDoor
open Go.RowKit
section
variable {w : World} {ops : Array Oper} {rest : List Oper} {o o1 o2 : Oper} {a : Act} {Q : Exit → Act → World → Prop}
/-- 'x := f(..)', x an array of bytes: a new variable, and the value stored into it. -/
theorem put_step (hg1 : o1.guard = none) (hg2 : o2.guard = none) (t : TypeId) (x y : Operand) (h1 : o1.op = .alloc t) (h2 : o2.op = .store t x y) (n : Nat) (ds : List UInt8)
    (hx : (a.put o1.dst (.pointer (some ⟨w.heap.size, 0, none⟩))).eval x = .pointer (some ⟨w.heap.size, 0, none⟩)) (hy : (a.put o1.dst (.pointer (some ⟨w.heap.size, 0, none⟩))).eval y = hashVal ds)
    (hz : ∀ w, (zeroValue t).run Tryd.prog w = .ok (.agg (List.replicate n (cellOf 0)).toArray) w) (hs : (Tryd.prog.info? t).map (·.size) = some n) (hl : ds.length = n)
    (h : ∀ w', Below w.heap.size w w' → Cells w' w.heap.size (ds.map cellOf) t → w'.heap.size = w.heap.size + 1 → wpList Tryd.prog ops Q rest ((a.put o1.dst (.pointer (some ⟨w.heap.size, 0, none⟩))).put o2.dst undef) w') : wpList Tryd.prog ops Q (o1 :: o2 :: rest) a w := by
  refine alloc_step hg1 t h1 _ hz ?_
  intro w1 hw1
  have hB1 : Below w.heap.size w w1 := by rw [hw1]; exact (Below.refl _ _).alloc (Nat.le_refl _) _
  have hC1 : Cells w1 w.heap.size (List.replicate n (cellOf 0)) t := by rw [hw1]; exact Cells.new w _ _
  have hz1 : w1.heap.size = w.heap.size + 1 := by rw [hw1]; simp
  clear hw1
  have hsz : (ds.map cellOf).toArray.size = n := by rw [List.size_toArray, List.length_map, hl]
  refine wpList_store_mid hg2 t x y h2 w.heap.size 0 (ds.map cellOf).toArray hx hy (by rw [hsz]; exact hC1.there 0 n (by simp)) (by rw [hsz]; exact hs) (all_oneCell_toArray (cells8_one ds)) ?_
  have hC2 := hC1.setCells (cs := ds.map cellOf) (o := 0) (by simp [hl])
  rw [splice_all _ _ (by simp [hl])] at hC2
  exact h _ (below_setCells hB1 (Nat.le_refl _) _ _) hC2 (by rw [(heap_setCells _ _ _ _).2.2.2.1, hz1])
/-- A variable that is an array of bytes, as a value. -/
theorem get_step (hgd : o.guard = none) (t : TypeId) (x : Operand) (ho : o.op = .load t x) (g n : Nat) (ds : List UInt8) (e : TypeId) (hx : a.eval x = .pointer (some ⟨g, 0, none⟩)) (hC : Cells w g (ds.map cellOf) t) (hu : Tryd.prog.underlying t = some (.array n e))
    (hs : (Tryd.prog.info? t).map (·.size) = some n) (hl : ds.length = n) (h : wpList Tryd.prog ops Q rest (a.put o.dst (hashVal ds)) w) : wpList Tryd.prog ops Q (o :: rest) a w :=
  wpList_load_row hgd t x ho g hx t (ds.map cellOf).toArray (0, 0) _ hC hu rfl (by rw [List.size_toArray, List.length_map, hl]; exact hs) h
/-- An array of bytes stored over a variable. -/
theorem set_step (hgd : o.guard = none) (t : TypeId) (x y : Operand) (ho : o.op = .store t x y) (g n : Nat) (vs : List Value) (ds : List UInt8) (hx : a.eval x = .pointer (some ⟨g, 0, none⟩)) (hy : a.eval y = hashVal ds) (hC : Cells w g vs t) (hv : vs.length = n)
    (hs : (Tryd.prog.info? t).map (·.size) = some n) (hl : ds.length = n) (h : ∀ w', But g w w' → Cells w' g (ds.map cellOf) t → w'.heap.size = w.heap.size → wpList Tryd.prog ops Q rest (a.put o.dst undef) w') : wpList Tryd.prog ops Q (o :: rest) a w := by
  have hsz : (ds.map cellOf).toArray.size = n := by rw [List.size_toArray, List.length_map, hl]
  refine wpList_store_mid hgd t x y ho g 0 (ds.map cellOf).toArray hx hy (by rw [hsz]; exact hC.there 0 n (by omega)) (by rw [hsz]; exact hs) (all_oneCell_toArray (cells8_one ds)) ?_
  have hC2 := hC.setCells (cs := ds.map cellOf) (o := 0) (by simp [hl, hv])
  rw [splice_all _ _ (by simp [hl, hv])] at hC2
  exact h _ ((But.refl g w).setCells _ _) hC2 (heap_setCells _ _ _ _).2.2.2.1
/-- A new variable of a type whose zero value is an array of noughts. -/
theorem zero_step (hgd : o.guard = none) (t : TypeId) (ho : o.op = .alloc t) (n : Nat) (hz : ∀ w, (zeroValue t).run Tryd.prog w = .ok (.agg (List.replicate n (cellOf 0)).toArray) w)
    (h : ∀ w', Below w.heap.size w w' → Cells w' w.heap.size (List.replicate n (cellOf 0)) t → w'.heap.size = w.heap.size + 1 → wpList Tryd.prog ops Q rest (a.put o.dst (.pointer (some ⟨w.heap.size, 0, none⟩))) w') : wpList Tryd.prog ops Q (o :: rest) a w := by
  refine alloc_step hgd t ho _ hz ?_
  intro w1 hw1
  exact h w1 (by rw [hw1]; exact (Below.refl _ _).alloc (Nat.le_refl _) _) (by rw [hw1]; exact Cells.new w _ _) (by rw [hw1]; simp)
/-- An array of bytes that comes as a value, laid into a new variable. -/
theorem take_step (hgd : o.guard = none) (t : TypeId) (x : Operand) (ho : o.op = .box t x) (ds : List UInt8) (hx : a.eval x = hashVal ds)
    (h : ∀ w', Below w.heap.size w w' → Cells w' w.heap.size (ds.map cellOf) t → w'.heap.size = w.heap.size + 1 → wpList Tryd.prog ops Q rest (a.put o.dst (.pointer (some ⟨w.heap.size, 0, none⟩))) w') : wpList Tryd.prog ops Q (o :: rest) a w := by
  refine box_step hgd t x ho _ hx ?_
  intro w1 hw1
  exact h w1 (by rw [hw1]; exact (Below.refl _ _).alloc (Nat.le_refl _) _) (by rw [hw1]; exact Cells.new w _ _) (by rw [hw1]; simp)
end
/-- A function whose result is an array of bytes in a block of its own. -/
theorem ret_hash {fn : Func} {R : Ending → World → Prop} {a : Act} {w : World} {p : Tmp} {ty e : TypeId} {n : Nat} (hres : fn.results = #[.cell p ty]) (g : Nat) (ds : List UInt8)
    (hp : a.tmps.getD p undef = .pointer (some ⟨g, 0, none⟩)) (hg : Cells w g (ds.map cellOf) ty) (hu : Tryd.prog.underlying ty = some (.array n e)) (hi : (Tryd.prog.info? ty).map (·.size) = some n) (hl : ds.length = n)
    (hdf : a.defers = []) (hR : R (.returned (hashVal ds)) w) : bodyPost Tryd.prog fn R .ret a w :=
  ret_block hres g (ds.map cellOf) ty hp hg hu rfl (by rw [List.length_map, hl]; exact hi) hdf hR
theorem Cells.all {w : World} {g : Nat} {ds : List UInt8} {t : TypeId} (h : Cells w g (ds.map cellOf) t) : Row w w.heap.size (some ⟨g, 0, none⟩) ds :=
  h.row (m := ds.length) (by rw [← List.length_map cellOf, List.take_length])
theorem Cells.on {w w' : World} {g : Nat} {vs : List Value} {t : TypeId} (h : Cells w g vs t) (hb : Below w.heap.size w w') : Cells w' g vs t := h.below hb h.lt
end Go.Proofs.YtagjbdhelfickaaDoor
namespace Go.Proofs.YtagjbdhelfickaaDoor
open Go.RowKit
/- Go's operations on words of 32 bits. -/
end Go.Proofs.YtagjbdhelfickaaDoor
namespace Go.Proofs.YtagjbdhelfickaaDoor
open Go.RowKit
section
variable {P : Program} {w : World} {ops : Array Oper} {rest : List Oper} {o o1 o2 : Oper} {a : Act} {Q : Exit → Act → World → Prop}
/-- 'x := f(..)', x an array: a new variable, and the value stored into it. -/
theorem vput_step (hg1 : o1.guard = none) (hg2 : o2.guard = none) (t : TypeId) (x y : Operand) (h1 : o1.op = .alloc t) (h2 : o2.op = .store t x y) (n : Nat) (zs vs : List Value)
    (hx : (a.put o1.dst (.pointer (some ⟨w.heap.size, 0, none⟩))).eval x = .pointer (some ⟨w.heap.size, 0, none⟩)) (hy : (a.put o1.dst (.pointer (some ⟨w.heap.size, 0, none⟩))).eval y = .agg vs.toArray)
    (hz : ∀ w, (zeroValue t).run P w = .ok (.agg zs.toArray) w) (hzl : zs.length = n) (hs : (P.info? t).map (·.size) = some n) (hl : vs.length = n) (h1c : vs.toArray.all (·.oneCell') = true)
    (h : ∀ w', Below w.heap.size w w' → Cells w' w.heap.size vs t → wpList P ops Q rest ((a.put o1.dst (.pointer (some ⟨w.heap.size, 0, none⟩))).put o2.dst undef) w') : wpList P ops Q (o1 :: o2 :: rest) a w := by
  refine alloc_step hg1 t h1 _ hz ?_
  intro w1 hw1
  have hB1 : Below w.heap.size w w1 := by rw [hw1]; exact (Below.refl _ _).alloc (Nat.le_refl _) _
  have hC1 : Cells w1 w.heap.size zs t := by rw [hw1]; exact Cells.new w _ _
  clear hw1
  have hsz : vs.toArray.size = n := by rw [List.size_toArray, hl]
  refine wpList_store_mid hg2 t x y h2 w.heap.size 0 vs.toArray hx hy (by rw [hsz]; exact hC1.there 0 n (by omega)) (by rw [hsz]; exact hs) h1c ?_
  have hC2 := hC1.setCells (cs := vs) (o := 0) (by omega)
  rw [splice_all _ _ (by omega)] at hC2
  exact h _ (below_setCells hB1 (Nat.le_refl _) _ _) hC2
/-- A variable that is an array, as a value. -/
theorem vget_step (hgd : o.guard = none) (t : TypeId) (x : Operand) (ho : o.op = .load t x) (g n : Nat) (vs : List Value) (e : TypeId) (hx : a.eval x = .pointer (some ⟨g, 0, none⟩)) (hC : Cells w g vs t) (hu : P.underlying t = some (.array n e))
    (hs : (P.info? t).map (·.size) = some n) (hl : vs.length = n) (h : wpList P ops Q rest (a.put o.dst (.agg vs.toArray)) w) : wpList P ops Q (o :: rest) a w :=
  wpList_load_row hgd t x ho g hx t vs.toArray (0, 0) _ hC hu rfl (by rw [List.size_toArray, hl]; exact hs) h
/-- An array stored over a variable. -/
theorem vset_step (hgd : o.guard = none) (t : TypeId) (x y : Operand) (ho : o.op = .store t x y) (g n : Nat) (us vs : List Value) (hx : a.eval x = .pointer (some ⟨g, 0, none⟩)) (hy : a.eval y = .agg vs.toArray) (hC : Cells w g us t) (hv : us.length = n)
    (hs : (P.info? t).map (·.size) = some n) (hl : vs.length = n) (h1c : vs.toArray.all (·.oneCell') = true) (h : ∀ w', But g w w' → Cells w' g vs t → w'.heap.size = w.heap.size → wpList P ops Q rest (a.put o.dst undef) w') : wpList P ops Q (o :: rest) a w := by
  have hsz : vs.toArray.size = n := by rw [List.size_toArray, hl]
  refine wpList_store_mid hgd t x y ho g 0 vs.toArray hx hy (by rw [hsz]; exact hC.there 0 n (by omega)) (by rw [hsz]; exact hs) h1c ?_
  have hC2 := hC.setCells (cs := vs) (o := 0) (by omega)
  rw [splice_all _ _ (by omega)] at hC2
  exact h _ ((But.refl g w).setCells _ _) hC2 (heap_setCells _ _ _ _).2.2.2.1
/-- A new variable of a type whose zero value is known. -/
theorem vzero_step (hgd : o.guard = none) (t : TypeId) (ho : o.op = .alloc t) (zs : List Value) (hz : ∀ w, (zeroValue t).run P w = .ok (.agg zs.toArray) w)
    (h : ∀ w', Below w.heap.size w w' → Cells w' w.heap.size zs t → wpList P ops Q rest (a.put o.dst (.pointer (some ⟨w.heap.size, 0, none⟩))) w') : wpList P ops Q (o :: rest) a w := by
  refine alloc_step hgd t ho _ hz ?_
  intro w1 hw1
  exact h w1 (by rw [hw1]; exact (Below.refl _ _).alloc (Nat.le_refl _) _) (by rw [hw1]; exact Cells.new w _ _)
/-- An array that comes as a value, laid into a new variable. -/
theorem vtake_step (hgd : o.guard = none) (t : TypeId) (x : Operand) (ho : o.op = .box t x) (vs : List Value) (hx : a.eval x = .agg vs.toArray)
    (h : ∀ w', Below w.heap.size w w' → Cells w' w.heap.size vs t → wpList P ops Q rest (a.put o.dst (.pointer (some ⟨w.heap.size, 0, none⟩))) w') : wpList P ops Q (o :: rest) a w := by
  refine box_step hgd t x ho _ hx ?_
  intro w1 hw1
  exact h w1 (by rw [hw1]; exact (Below.refl _ _).alloc (Nat.le_refl _) _) (by rw [hw1]; exact Cells.new w _ _)
end
/-- A function whose result is an array in a block of its own. -/
theorem vret {P : Program} {fn : Func} {R : Ending → World → Prop} {a : Act} {w : World} {p : Tmp} {ty e : TypeId} {n : Nat} (hres : fn.results = #[.cell p ty]) (g : Nat) (vs : List Value)
    (hp : a.tmps.getD p undef = .pointer (some ⟨g, 0, none⟩)) (hg : Cells w g vs ty) (hu : P.underlying ty = some (.array n e)) (hi : (P.info? ty).map (·.size) = some n) (hl : vs.length = n)
    (hdf : a.defers = []) (hR : R (.returned (.agg vs.toArray)) w) : bodyPost P fn R .ret a w :=
  ret_block hres g vs ty hp hg hu rfl (by rw [hl]; exact hi) hdf hR
end Go.Proofs.YtagjbdhelfickaaDoor
namespace Go.Proofs.YtagjbdhelfickaaDoor
open Go.RowKit
/-- A limb as a cell holds it. -/
abbrev ncell (x : Nat) : Value := .int .u64 (x : Int)
/-- A number as a value. -/
def numVal (n : List Nat) : Value := .agg (n.map ncell).toArray
theorem add64n (x y : Nat) : IntKind.u64.wrap ((x : Int) + (y : Int)) = ((addW x y : Nat) : Int) := by
  rw [IntKind.wrap_u64, addW]; omega
theorem ncells_one (l : List Nat) : (l.map ncell).toArray.all (·.oneCell') = true := all_oneCell_toArray (by intro v hv; obtain ⟨x, _, rfl⟩ := List.mem_map.1 hv; rfl)
theorem nat_at (l : List Nat) (k : Nat) (hk : k < l.length) : (l.map ncell)[k]? = some (ncell (l.getD k 0)) := by
  rw [List.getElem?_map, List.getD_eq_getElem?_getD, List.getElem?_eq_getElem hk]
  rfl
/-- So many limbs of nought. (Named, so that a walk leaves them whole.) -/
def nzeros (n : Nat) : List Value := List.replicate n (ncell 0)
theorem nset_map (l : List Nat) (k : Nat) (x : Nat) : (l.map ncell).set k (ncell x) = (l.set k x).map ncell := by rw [List.map_set]
theorem size_u64 : (Tryd.prog.info? 25).map (·.size) = some 1 := by kernel_rfl
end Go.Proofs.YtagjbdhelfickaaDoor
namespace Go.Proofs.YtagjbdhelfickaaDoor
open Go.RowKit
/-- A number modulo p, as the program holds it. -/
def elV (n : Nat) : Value := numVal (limb5 n)
/-- A sum of products. -/
def wideV (x : Nat) : Value := numVal [x / 18446744073709551616, x % 18446744073709551616]
theorem zero_numF : ∀ w, (zeroValue 27).run Tryd.prog w = .ok (.agg (nzeros 5).toArray) w := (zero_of_info (P := Tryd.prog) (t := 27) (v := .agg (nzeros 5).toArray) (n := 5) (by kernel_rfl)).1
theorem zero_arrF : ∀ w, (zeroValue 26).run Tryd.prog w = .ok (.agg (nzeros 5).toArray) w := (zero_of_info (P := Tryd.prog) (t := 26) (v := .agg (nzeros 5).toArray) (n := 5) (by kernel_rfl)).1
theorem zero_elem : ∀ w, (zeroValue 29).run Tryd.prog w = .ok (.agg (nzeros 5).toArray) w := (zero_of_info (P := Tryd.prog) (t := 29) (v := .agg (nzeros 5).toArray) (n := 5) (by kernel_rfl)).1
theorem zero_wide : ∀ w, (zeroValue 122).run Tryd.prog w = .ok (.agg (nzeros 2).toArray) w := (zero_of_info (P := Tryd.prog) (t := 122) (v := .agg (nzeros 2).toArray) (n := 2) (by kernel_rfl)).1
theorem size_numF : (Tryd.prog.info? 27).map (·.size) = some 5 := by kernel_rfl
theorem size_elem : (Tryd.prog.info? 29).map (·.size) = some 5 := by kernel_rfl
theorem size_wide : (Tryd.prog.info? 122).map (·.size) = some 2 := by kernel_rfl
theorem build_elem (a b c d e : Nat) (w : World) : (Instr.build 29 #[(0, numVal [a, b, c, d, e])]).run Tryd.prog w = .ok (numVal [a, b, c, d, e]) w := by kernel_rfl
theorem build_elV (n : Nat) (w : World) : (Instr.build 29 #[(0, elV n)]).run Tryd.prog w = .ok (elV n) w := build_elem _ _ _ _ _ w
theorem build_num (a b c d e : Nat) (w : World) : (Instr.build 27 #[(0, ncell a), (1, ncell b), (2, ncell c), (3, ncell d), (4, ncell e)]).run Tryd.prog w = .ok (numVal [a, b, c, d, e]) w := by kernel_rfl
theorem build_two (a b : Nat) (w : World) : (Instr.build 27 #[(0, ncell a), (1, ncell b)]).run Tryd.prog w = .ok (numVal [a, b, 0, 0, 0]) w := by kernel_rfl
theorem build_none (w : World) : (Instr.build 29 #[]).run Tryd.prog w = .ok (elV 0) w := by kernel_rfl
theorem build_wide (a b : Nat) (w : World) : (Instr.build 122 #[(0, ncell a), (1, ncell b)]).run Tryd.prog w = .ok (numVal [a, b]) w := by kernel_rfl
theorem build_wide0 (w : World) : (Instr.build 122 #[]).run Tryd.prog w = .ok (wideV 0) w := by kernel_rfl
theorem namedF {α : Type} (a : α) : ∃ z, Hid (a = z) := ⟨a, rfl⟩
section
variable {P : Program} {w : World} {ops : Array Oper} {rest : List Oper} {o : Oper} {a : Act} {Q : Exit → Act → World → Prop}
/-- A variable that is a struct or an array, as a value. -/
theorem sget_step (hgd : o.guard = none) (t : TypeId) (x : Operand) (ho : o.op = .load t x) (g n : Nat) (vs : List Value) {d : TypeDesc} {t' : TypeId} (hx : a.eval x = .pointer (some ⟨g, 0, none⟩)) (hC : Cells w g vs t') (hu : P.underlying t = some d)
    (hd : (match d with | .struct _ | .array _ _ => true | _ => false) = true) (hs : (P.info? t).map (·.size) = some n) (hl : vs.length = n) (h : wpList P ops Q rest (a.put o.dst (.agg vs.toArray)) w) : wpList P ops Q (o :: rest) a w :=
  wpList_load_row hgd t x ho g hx t' vs.toArray (0, 0) _ hC hu hd (by rw [List.size_toArray, hl]; exact hs) h
end
/-- A function whose result is a struct or an array in a block of its own. -/
theorem sret {P : Program} {fn : Func} {R : Ending → World → Prop} {a : Act} {w : World} {p : Tmp} {ty : TypeId} {d : TypeDesc} {n : Nat} (hres : fn.results = #[.cell p ty]) (g : Nat) (vs : List Value)
    (hp : a.tmps.getD p undef = .pointer (some ⟨g, 0, none⟩)) (hg : Cells w g vs ty) (hu : P.underlying ty = some d) (hd : (match d with | .struct _ | .array _ _ => true | _ => false) = true) (hi : (P.info? ty).map (·.size) = some n) (hl : vs.length = n)
    (hdf : a.defers = []) (hR : R (.returned (.agg vs.toArray)) w) : bodyPost P fn R .ret a w :=
  ret_block hres g vs ty hp hg hu hd (by rw [hl]; exact hi) hdf hR
theorem and51 (x : Nat) (h : x < 18446744073709551616) : bits .and .u64 (x : Int) 2251799813685247 = ((x % 2251799813685248 : Nat) : Int) := by
  rw [show (2251799813685247 : Int) = ((2251799813685247 : Nat) : Int) from rfl, u64_and_nat _ _ h (by omega)]
  have := Nat.and_two_pow_sub_one_eq_mod x 51
  simp only [Nat.reducePow, Nat.reduceSub] at this
  rw [this]
theorem wadd (x y : Nat) (h : x + y < 18446744073709551616) : IntKind.u64.wrap ((x : Int) + (y : Int)) = ((x + y : Nat) : Int) := by
  rw [IntKind.wrap_u64]; omega
theorem wmul (x y : Nat) (h : x * y < 18446744073709551616) : IntKind.u64.wrap ((x : Int) * (y : Int)) = ((x * y : Nat) : Int) := by
  rw [IntKind.wrap_u64, ← Int.natCast_mul]; omega
theorem wadd_div (x y : Nat) (h : x + y / 2251799813685248 < 18446744073709551616) : IntKind.u64.wrap ((x : Int) + (y : Int) / 2251799813685248) = ((x + y / 2251799813685248 : Nat) : Int) := wadd x (y / 2251799813685248) h
end Go.Proofs.YtagjbdhelfickaaDoor
