/- Part 16 of what the laws of this seat share: NMeet, JMath, JTwice. -/
import Derived.Deep.Cut
import Derived.Test.YtlhgabhjbnckkaaDoorPart15
namespace Go.Proofs.YtlhgabhjbnckkaaDoor.NP
theorem d_is : ((PP : Nat) : Int) ∣ 121666 * (dE : Int) + 121665 := by decide +kernel
theorem six_is : ¬ ((PP : Nat) : Int) ∣ 121666 := by decide +kernel
theorem bE_u : RepU bE 9 1 := ⟨by decide +kernel, by unfold Cg; decide +kernel⟩
theorem zero_u {P : Nat} {d i : Int} (h : Edw P d i) : RepU h.zero 1 0 := ⟨h.prime.not_one, by show Cg P (1 - 0) (1 * (1 + 0)); exact Cg.refl _⟩
/-- y is 1 for the neutral point alone. -/
theorem Edw.y_one {P : Nat} {d i : Int} (h : Edw P d i) (hd : (P : Int) ∣ 121666 * d + 121665) {p : Pt P d} (hy : (P : Int) ∣ 1 - p.y) : p = h.zero := by
  obtain ⟨e, he⟩ := p.on
  obtain ⟨g, hg⟩ := hd
  obtain ⟨u, hu⟩ := hy
  have h1 : (P : Int) ∣ p.x * p.x := by
    generalize p.x = x at *
    generalize p.y = y at *
    obtain rfl : y = 1 - (P : Int) * u := by omega
    refine ⟨-(g*x*x) - 121666*e - 121666*(2 - (P : Int)*u)*u*(1 - d*x*x), ?_⟩
    rw [show ∀ Q : Int, Q * (-(g*x*x) - 121666*e - 121666*(2 - Q*u)*u*(1 - d*x*x)) = -((Q*g)*(x*x)) - 121666*(Q*e) - 121666*(2 - Q*u)*(Q*u)*(1 - d*x*x) from fun Q => by grind, ← hg, ← he]
    generalize (P : Int) * u = v
    grind
  have hx : (P : Int) ∣ p.x := by rcases h.prime.int h1 with h2 | h2 <;> exact h2
  refine Pt.same (by show (P : Int) ∣ p.x - 0; rwa [Int.sub_zero]) ?_
  show (P : Int) ∣ p.y - 1
  exact ⟨-u, by rw [Int.mul_neg, ← hu]; omega⟩
/-- Where x is nought, the point's double is neutral. -/
theorem Edw.x_zero {P : Nat} {d i : Int} (h : Edw P d i) {p : Pt P d} (hx : (P : Int) ∣ p.x) : h.add p p = h.zero := by
  obtain ⟨e, he⟩ := p.on
  obtain ⟨u, hu⟩ := hx
  refine h.add_of ⟨?_, ?_⟩
  · show (P : Int) ∣ 0 * (1 + d*p.x*p.x*p.y*p.y) - (p.x*p.y + p.x*p.y)
    rw [hu]
    exact ⟨-(2 * u * p.y), by grind⟩
  · show (P : Int) ∣ 1 * (1 - d*p.x*p.x*p.y*p.y) - (p.y*p.y + p.x*p.x)
    generalize p.x = x at *
    generalize p.y = y at *
    refine ⟨-e - 2*u*x*(1 + d*y*y), ?_⟩
    rw [show ∀ Q : Int, Q * (-e - 2*u*x*(1 + d*y*y)) = -(Q*e) - 2*(Q*u)*x*(1 + d*y*y) from fun Q => by grind, ← hu, ← he]
    grind
/-- Where y is nought, the point's double's double is neutral. -/
theorem Edw.y_zero {P : Nat} {d i : Int} (h : Edw P d i) {p : Pt P d} (hy : (P : Int) ∣ p.y) : h.add (h.add p p) (h.add p p) = h.zero := by
  refine h.x_zero ?_
  obtain ⟨⟨a, ha⟩, -⟩ := h.add_is p p
  obtain ⟨u, hu⟩ := hy
  refine (h.prime.int (show (P : Int) ∣ (h.add p p).x * (1 + d*p.x*p.x*p.y*p.y) from ⟨a + 2 * p.x * u, ?_⟩)).resolve_right (h.plus p.on p.on)
  rw [show ∀ Q : Int, Q * (a + 2 * p.x * u) = Q * a + 2 * p.x * (Q * u) from fun Q => by grind, ← ha, ← hu]
  grind
theorem four_times {P : Nat} {d i : Int} (h : Edw P d i) (b : Pt P d) (k : Nat) : h.add (h.add (h.mul b k) (h.mul b k)) (h.add (h.mul b k) (h.mul b k)) = h.mul b (4 * k) := by
  rw [← h.mul_add, ← h.mul_add]
  congr 1
  omega
/-- y is nought for no multiple of the base point. -/
theorem base_y (k : Nat) : ¬ ((PP : Nat) : Int) ∣ (edw.mul bE k).y := fun hy => by
  have h1 := edw.y_zero hy
  rw [four_times] at h1
  have h2 : LL ∣ 4 * k := Classical.byContradiction fun hn => base_mul _ hn h1
  have h3 : LL ∣ k := (pr_L.euclid h2).resolve_left (by decide +kernel)
  obtain ⟨q, rfl⟩ := h3
  rw [← edw.mul_mul, order_zero, edw.mul_zero] at hy
  exact edw.prime.not_one hy
theorem Edw.y_less {P : Nat} {d i : Int} (h : Edw P d i) (hd : (P : Int) ∣ 121666 * d + 121665) {p : Pt P d} (hy : (P : Int) ∣ 1 + p.y) : (P : Int) ∣ p.x := by
  obtain ⟨e, he⟩ := p.on
  obtain ⟨g, hg⟩ := hd
  obtain ⟨u, hu⟩ := hy
  have h1 : (P : Int) ∣ p.x * p.x := by
    generalize p.x = x at *
    generalize p.y = y at *
    obtain rfl : y = (P : Int) * u - 1 := by omega
    refine ⟨-(g*x*x) - 121666*e - 121666*(2 - (P : Int)*u)*u*(1 - d*x*x), ?_⟩
    rw [show ∀ Q : Int, Q * (-(g*x*x) - 121666*e - 121666*(2 - Q*u)*u*(1 - d*x*x)) = -((Q*g)*(x*x)) - 121666*(Q*e) - 121666*(2 - Q*u)*(Q*u)*(1 - d*x*x) from fun Q => by grind, ← hg, ← he]
    generalize (P : Int) * u = v
    grind
  rcases h.prime.int h1 with h2 | h2 <;> exact h2
/-- The u-coordinate of a multiple of the base point, where the order doesn't divide it, is no nought; and its y isn't 1. -/
theorem base_u {m : Nat} (hm : ¬ LL ∣ m) {U : Int} (r : RepU (edw.mul bE m) U 1) : ¬ ((PP : Nat) : Int) ∣ U := fun hU => by
  obtain ⟨-, ⟨a, ha⟩⟩ := r
  obtain ⟨b, hb⟩ := hU
  have hy : ((PP : Nat) : Int) ∣ 1 + (edw.mul bE m).y := by
    generalize (edw.mul bE m).y = y at *
    refine ⟨b - a - y * b, ?_⟩
    rw [show ∀ Q : Int, Q * (b - a - y * b) = Q * b - Q * a - y * (Q * b) from fun Q => by grind, ← ha, ← hb]
    grind
  have h2 := edw.x_zero (edw.y_less d_is hy)
  rw [← edw.mul_add] at h2
  have h3 : LL ∣ m + m := Classical.byContradiction fun hn => base_mul _ hn h2
  rw [show m + m = 2 * m by omega] at h3
  exact hm ((pr_L.euclid h3).resolve_left (by decide +kernel))
theorem base_y_one {m : Nat} (hm : ¬ LL ∣ m) : ¬ ((PP : Nat) : Int) ∣ 1 - (edw.mul bE m).y := fun hy => base_mul m hm (edw.y_one d_is hy)
theorem Edw.step_back {P : Nat} {d i : Int} (h : Edw P d i) (q : Pt P d) (n : Nat) : h.add (h.mul q (n + 1)) (h.mul q n).neg = q := by
  show h.add (h.add (h.mul q n) q) (h.mul q n).neg = q
  rw [h.add_comm (h.mul q n) q, h.add_assoc, h.add_comm (h.mul q n), h.neg_add, h.add_zero]
/-- The ladder's differential addition, of n and n + 1 times a multiple of the base point. -/
theorem ladder_add {m : Nat} (hm : ¬ LL ∣ m) {U : Int} (rb : RepU (edw.mul bE m) U 1) (n : Nat) {X2 Z2 X3 Z3 : Int} (r2 : RepU (edw.mul (edw.mul bE m) n) X2 Z2) (r3 : RepU (edw.mul (edw.mul bE m) (n + 1)) X3 Z3) :
    RepU (edw.mul (edw.mul bE m) (2 * n + 1)) (((X3 - Z3) * (X2 + Z2) + (X3 + Z3) * (X2 - Z2)) * ((X3 - Z3) * (X2 + Z2) + (X3 + Z3) * (X2 - Z2))) (U * (((X3 - Z3) * (X2 + Z2) - (X3 + Z3) * (X2 - Z2)) * ((X3 - Z3) * (X2 + Z2) - (X3 + Z3) * (X2 - Z2)))) := by
  refine RepU.diff edw r2 r3 rb ?_ (edw.step_back _ n).symm (base_u hm rb) ?_ (base_y_one hm)
  · rw [← edw.mul_add]
    congr 1
    omega
  · rw [edw.mul_mul]
    exact base_y _
theorem ladder_dbl {p : Pt PP dE} {X Z : Int} (n : Nat) (r : RepU (edw.mul p n) X Z) : RepU (edw.mul p (2 * n)) ((X + Z) * (X + Z) * ((X - Z) * (X - Z))) (((X + Z) * (X + Z) - (X - Z) * (X - Z)) * ((X + Z) * (X + Z) + 121665 * ((X + Z) * (X + Z) - (X - Z) * (X - Z)))) := by
  have h := RepU.dbl edw d_is six_is r
  rw [← edw.mul_add, show n + n = 2 * n by omega] at h
  exact h
end Go.Proofs.YtlhgabhjbnckkaaDoor.NP
namespace Go.Proofs.YtlhgabhjbnckkaaDoor
open Go.RowKit
def fA (n m : Nat) : Nat := (n + m) % pp
def fS (n m : Nat) : Nat := (n + (pp - m)) % pp
def fM (n m : Nat) : Nat := n * m % pp
theorem fA_lt (n m : Nat) : fA n m < pp := Nat.mod_lt _ (by decide)
theorem fS_lt (n m : Nat) : fS n m < pp := Nat.mod_lt _ (by decide)
theorem fM_lt (n m : Nat) : fM n m < pp := Nat.mod_lt _ (by decide)
theorem fA_comm (n m : Nat) : fA n m = fA m n := by rw [fA, fA, Nat.add_comm]
theorem fM_comm (n m : Nat) : fM n m = fM m n := by rw [fM, fM, Nat.mul_comm]
theorem sq_letters (P x y : Nat) (h : x + y = 2 * P) : x * x % P = y * y % P := by
  have e : x * x + P * (2 * y) = y * y + P * (2 * x) := by
    have h1 : (x + y) * x = 2 * P * x := by rw [h]
    have h2 : (x + y) * y = 2 * P * y := by rw [h]
    rw [Nat.add_mul] at h1 h2
    rw [Nat.mul_comm y x] at h1
    rw [show P * (2 * y) = 2 * P * y by rw [← Nat.mul_assoc, Nat.mul_comm P 2], show P * (2 * x) = 2 * P * x by rw [← Nat.mul_assoc, Nat.mul_comm P 2]]
    omega
  have h3 := congrArg (· % P) e
  simp only [Nat.add_mul_mod_self_left] at h3
  exact h3
theorem sq_turned (P n m : Nat) (hn : n < P) (hm : m < P) : ((n + (P - m)) % P) * ((n + (P - m)) % P) % P = ((m + (P - n)) % P) * ((m + (P - n)) % P) % P := by
  rw [← Nat.mul_mod, ← Nat.mul_mod]
  exact sq_letters P _ _ (by omega)
/-- A difference's square is the turned one's. -/
theorem fS_sq {n m : Nat} (hn : n < pp) (hm : m < pp) : fM (fS n m) (fS n m) = fM (fS m n) (fS m n) := sq_turned pp n m hn hm
/-- A point's double, of x : z. -/
def smP (a : Nat × Nat) : Nat := fM (fA a.1 a.2) (fA a.1 a.2)
def lesP (a : Nat × Nat) : Nat := fM (fS a.1 a.2) (fS a.1 a.2)
def btwP (a : Nat × Nat) : Nat := fS (smP a) (lesP a)
def dblP (a : Nat × Nat) : Nat × Nat := (fM (smP a) (lesP a), fM (btwP a) (fA (smP a) (fM (btwP a) 121665)))
/-- The sum of two points whose difference's u-coordinate is x1. -/
def oneP (a b : Nat × Nat) : Nat := fM (fA a.1 a.2) (fS b.1 b.2)
def othP (a b : Nat × Nat) : Nat := fM (fS a.1 a.2) (fA b.1 b.2)
def addP (x1 : Nat) (a b : Nat × Nat) : Nat × Nat := (fM (fA (oneP a b) (othP a b)) (fA (oneP a b) (othP a b)), fM (fM (fS (oneP a b) (othP a b)) (fS (oneP a b) (othP a b))) x1)
/-- One round: the point as often as the key's bits tell so far, and once more. -/
def ladStep (x1 : Nat) (b : Bool) (s : (Nat × Nat) × (Nat × Nat)) : (Nat × Nat) × (Nat × Nat) := bif b then (addP x1 s.1 s.2, dblP s.2) else (dblP s.1, addP x1 s.1 s.2)
def ladN (x1 : Nat) (b : Nat → Bool) : Nat → (Nat × Nat) × (Nat × Nat)
  | 0 => ((1, 0), (x1, 1))
  | j + 1 => ladStep x1 (b (254 - j)) (ladN x1 b j)
/-- The numbers are below p. -/
def LadLt (s : (Nat × Nat) × (Nat × Nat)) : Prop := s.1.1 < pp ∧ s.1.2 < pp ∧ s.2.1 < pp ∧ s.2.2 < pp
theorem dblP_lt (a : Nat × Nat) : (dblP a).1 < pp ∧ (dblP a).2 < pp := ⟨fM_lt _ _, fM_lt _ _⟩
theorem addP_lt (x1 : Nat) (a b : Nat × Nat) : (addP x1 a b).1 < pp ∧ (addP x1 a b).2 < pp := ⟨fM_lt _ _, fM_lt _ _⟩
theorem ladStep_lt (x1 : Nat) (b : Bool) (s : (Nat × Nat) × (Nat × Nat)) : LadLt (ladStep x1 b s) := by
  cases b
  · exact ⟨(dblP_lt _).1, (dblP_lt _).2, (addP_lt _ _ _).1, (addP_lt _ _ _).2⟩
  · exact ⟨(addP_lt _ _ _).1, (addP_lt _ _ _).2, (dblP_lt _).1, (dblP_lt _).2⟩
theorem ladN_lt {x1 : Nat} (hx : x1 < pp) (b : Nat → Bool) : ∀ j, LadLt (ladN x1 b j)
  | 0 => ⟨by show 1 < pp; decide, by show 0 < pp; decide, hx, by show 1 < pp; decide⟩
  | j + 1 => ladStep_lt _ _ _
/-- n modulo p, to the power p - 2. -/
def ivN (n : Nat) : Nat := n ^ (pp - 2) % pp
/-- What the ladder comes to. -/
def multN (b : Nat → Bool) (u : Nat) : Nat := fM (ladN u b 255).1.1 (ivN (ladN u b 255).1.2)
theorem multN_lt (b : Nat → Bool) (u : Nat) : multN b u < pp := fM_lt _ _
namespace NP
theorem cgA (P n m : Nat) : Cg (P : Int) (((n + m) % P : Nat) : Int) ((n : Int) + m) := by rw [Int.natCast_emod, Int.natCast_add]; exact Cg.least _ _
theorem cgM (P n m : Nat) : Cg (P : Int) ((n * m % P : Nat) : Int) ((n : Int) * m) := by rw [Int.natCast_emod, Int.natCast_mul]; exact Cg.least _ _
theorem cgS (P n m : Nat) (hm : m < P) : Cg (P : Int) (((n + (P - m)) % P : Nat) : Int) ((n : Int) - m) := by
  rw [Int.natCast_emod]
  refine (Cg.least _ _).trans ⟨1, ?_⟩
  omega
theorem RepU.of {P : Nat} {d : Int} {p : Pt P d} {X Z X' Z' : Int} (r : RepU p X Z) (hX : Cg P X' X) (hZ : Cg P Z' Z) : RepU p X' Z' :=
  ⟨fun h => r.nz ((hX.add hZ).dvd h), ((hX.sub hZ).trans r.hu).trans ((Cg.refl _).mul (hX.add hZ).swap)⟩
theorem cg_A (n m : Nat) : Cg ((PP : Nat) : Int) ((fA n m : Nat) : Int) ((n : Int) + m) := cgA PP n m
theorem cg_M (n m : Nat) : Cg ((PP : Nat) : Int) ((fM n m : Nat) : Int) ((n : Int) * m) := cgM PP n m
theorem cg_S (n m : Nat) (hm : m < pp) : Cg ((PP : Nat) : Int) ((fS n m : Nat) : Int) ((n : Int) - m) := cgS PP n m hm
theorem dbl_rep {p : Pt PP dE} {a : Nat × Nat} (n : Nat) (h2 : a.2 < pp) (r : RepU (edw.mul p n) a.1 a.2) : RepU (edw.mul p (2 * n)) (dblP a).1 (dblP a).2 := by
  have hs : Cg ((PP : Nat) : Int) (smP a : Nat) _ := (cg_M _ _).trans ((cg_A a.1 a.2).mul (cg_A a.1 a.2))
  have hl : Cg ((PP : Nat) : Int) (lesP a : Nat) _ := (cg_M _ _).trans ((cg_S a.1 a.2 h2).mul (cg_S a.1 a.2 h2))
  have hb : Cg ((PP : Nat) : Int) (btwP a : Nat) _ := (cg_S _ _ (fM_lt _ _)).trans (hs.sub hl)
  have hq : Cg ((PP : Nat) : Int) (fM (btwP a) 121665 : Nat) _ := (cg_M (btwP a) 121665).trans (hb.mul (Cg.refl ((121665 : Nat) : Int)))
  have h := ladder_dbl n r
  refine h.of ((cg_M _ _).trans (hs.mul hl)) ?_
  have hz := (cg_M _ _).trans (hb.mul ((cg_A _ _).trans (hs.add hq)))
  rw [Int.mul_comm _ ((121665 : Nat) : Int)] at hz
  exact hz
theorem plus_rep {m : Nat} (hm : ¬ LL ∣ m) {U : Nat} (rb : RepU (edw.mul bE m) U 1) (n : Nat) {a b : Nat × Nat} (h2 : a.2 < pp) (h3 : b.2 < pp) (r2 : RepU (edw.mul (edw.mul bE m) n) a.1 a.2) (r3 : RepU (edw.mul (edw.mul bE m) (n + 1)) b.1 b.2) :
    RepU (edw.mul (edw.mul bE m) (2 * n + 1)) (addP U a b).1 (addP U a b).2 := by
  have h1 : Cg ((PP : Nat) : Int) (oneP a b : Nat) _ := (cg_M _ _).trans ((cg_A a.1 a.2).mul (cg_S b.1 b.2 h3))
  have ho : Cg ((PP : Nat) : Int) (othP a b : Nat) _ := (cg_M _ _).trans ((cg_S a.1 a.2 h2).mul (cg_A b.1 b.2))
  rw [Int.mul_comm] at h1 ho
  have hp := (cg_A _ _).trans (h1.add ho)
  have hd := (cg_S _ _ (fM_lt _ _)).trans (h1.sub ho)
  refine (ladder_add hm rb n r2 r3).of ((cg_M _ _).trans (hp.mul hp)) ?_
  have hz := (cg_M _ U).trans (((cg_M _ _).trans (hd.mul hd)).mul (Cg.refl _))
  rw [Int.mul_comm _ (U : Int)] at hz
  exact hz
/-- The number that the bits from 254 on make. -/
def preN (b : Nat → Bool) : Nat → Nat
  | 0 => 0
  | j + 1 => 2 * preN b j + (b (254 - j)).toNat
theorem preN_is {A : Nat} (hA : A < 57896044618658097711785492504343953926634992332820282019728792003956564819968) {b : Nat → Bool} (hb : ∀ i, i < 255 → b i = decide (A / 2 ^ i % 2 = 1)) : ∀ j k, j + k = 255 → preN b j = A / 2 ^ k
  | 0, k, h => by
    obtain rfl : k = 255 := by omega
    exact (Nat.div_eq_of_lt (by rw [show (2 : Nat) ^ 255 = 57896044618658097711785492504343953926634992332820282019728792003956564819968 from by decide +kernel]; exact hA)).symm
  | j + 1, k, h => by
    have ih := preN_is hA hb j (k + 1) (by omega)
    rw [Nat.pow_succ, ← Nat.div_div_eq_div_mul] at ih
    show 2 * preN b j + (b (254 - j)).toNat = _
    rw [ih, show 254 - j = k by omega, hb k (by omega)]
    generalize A / 2 ^ k = q
    by_cases h1 : q % 2 = 1
    · rw [decide_eq_true h1, Bool.toNat_true]; omega
    · rw [decide_eq_false h1, Bool.toNat_false]; omega
theorem lad_rep {m : Nat} (hm : ¬ LL ∣ m) {U : Nat} (hU : U < pp) (rb : RepU (edw.mul bE m) U 1) (b : Nat → Bool) : ∀ j,
    RepU (edw.mul (edw.mul bE m) (preN b j)) (ladN U b j).1.1 (ladN U b j).1.2 ∧ RepU (edw.mul (edw.mul bE m) (preN b j + 1)) (ladN U b j).2.1 (ladN U b j).2.2
  | 0 => ⟨zero_u edw, by
    show RepU (edw.mul (edw.mul bE m) 1) U 1
    rw [edw.mul_one]
    exact rb⟩
  | j + 1 => by
    obtain ⟨r2, r3⟩ := lad_rep hm hU rb b j
    obtain ⟨-, l2, -, l4⟩ := ladN_lt hU b j
    show RepU (edw.mul (edw.mul bE m) (2 * preN b j + (b (254 - j)).toNat)) (ladStep U (b (254 - j)) (ladN U b j)).1.1 (ladStep U (b (254 - j)) (ladN U b j)).1.2 ∧ RepU (edw.mul (edw.mul bE m) (2 * preN b j + (b (254 - j)).toNat + 1)) (ladStep U (b (254 - j)) (ladN U b j)).2.1 (ladStep U (b (254 - j)) (ladN U b j)).2.2
    have hp := plus_rep hm rb _ l2 l4 r2 r3
    cases b (254 - j)
    · exact ⟨dbl_rep _ l2 r2, hp⟩
    · exact ⟨hp, dbl_rep _ l4 r3⟩
/-- X : Z made X/Z : 1. -/
theorem fin_rep {P : Nat} (hP : Pr P) {d : Int} {p : Pt P d} {x z k iv : Nat} (hk : k + 2 = P) (hi : iv = z ^ k % P) (r : RepU p x z) (hy : ¬ (P : Int) ∣ 1 - p.y) : RepU p ((x * iv % P : Nat) : Int) 1 := by
  have hz : ¬ (P : Int) ∣ (z : Int) := fun hd => by
    have h1 := r.nz
    obtain ⟨u, hu⟩ := r.hu
    obtain ⟨v, hv⟩ := hd
    rw [hv] at h1 hu
    have hx : ¬ (P : Int) ∣ (x : Int) := fun ⟨q, hq⟩ => h1 ⟨q + v, by rw [hq, Int.mul_add]⟩
    refine not_mul hP hx hy ?_
    generalize (x : Int) = X at *
    generalize p.y = y at *
    exact ⟨u + v + y * v, by grind⟩
  have hn : ¬ P ∣ z := fun h => hz (Int.natCast_dvd_natCast.2 h)
  have hl := hP.little hn
  rw [show P - 1 = k + 1 by omega, Nat.pow_succ] at hl
  have hc : Cg (P : Int) ((z : Int) * iv) 1 := by
    have h3 : (iv * z) % P = 1 := by rw [hi, Nat.mod_mul_mod]; exact hl
    have h4 := (cgM P iv z).swap
    rw [h3, Int.mul_comm] at h4
    exact h4
  have hX := cgM P x iv
  generalize (x * iv % P : Nat) = U at *
  generalize (iv : Int) = w at *
  have hU : Cg (P : Int) ((U : Int) * z) x := by
    refine (hX.mul (Cg.refl _)).trans ?_
    have := (Cg.refl (P := (P : Int)) (x : Int)).mul hc
    rw [show (x : Int) * w * z = x * (z * w) by grind]
    rwa [Int.mul_one] at this
  refine ⟨fun hd => r.nz (((Cg.add hU (Cg.refl (z : Int)))).dvd ?_), ?_⟩
  · rw [show (U : Int) * z + z = (U + 1) * z by grind]
    exact Int.dvd_trans hd (Int.dvd_mul_right _ _)
  · refine cancel hP hz ?_
    have c1 := (hU.sub (Cg.refl (z : Int))).trans r.hu
    have c2 := c1.trans ((Cg.refl p.y).mul (Cg.add hU (Cg.refl (z : Int))).swap)
    rw [show (U : Int) * z - z = (U - 1) * z by grind, show p.y * ((U : Int) * z + z) = p.y * (U + 1) * z by grind] at c2
    exact c2
/-- A point's u-coordinate is one number below p. -/
theorem rep_one {P : Nat} (hP : Pr P) {d : Int} {p : Pt P d} {U V : Nat} (rU : RepU p U 1) (rV : RepU p V 1) (hy : ¬ (P : Int) ∣ 1 - p.y) (hU : U < P) (hV : V < P) : U = V := by
  obtain ⟨-, ⟨a, ha⟩⟩ := rU
  obtain ⟨-, ⟨b, hb⟩⟩ := rV
  have h1 : (P : Int) ∣ ((U : Int) - V) * (1 - p.y) := ⟨a - b, by
    rw [Int.mul_sub (P : Int), ← ha, ← hb]
    generalize p.y = y
    grind⟩
  obtain ⟨q, hq⟩ := (hP.int h1).resolve_right hy
  have h2 : q = 0 := by
    rcases Int.lt_trichotomy q 0 with h | h | h
    · have := Int.mul_le_mul_of_nonneg_left (show q ≤ -1 by omega) (show (0 : Int) ≤ P by omega)
      omega
    · exact h
    · have := Int.mul_le_mul_of_nonneg_left (show 1 ≤ q by omega) (show (0 : Int) ≤ P by omega)
      omega
  subst h2
  omega
/-- A clamped number: no multiple of the order. -/
theorem clamped_apart {m : Nat} (h1 : 0 < m) (h2 : m < 7237005577332262213973186563042994240829374041602535252466099000494570602496) : ¬ LL ∣ 8 * m := fun h => by
  rcases pr_L.euclid h with h3 | h3
  · exact absurd h3 (by decide +kernel)
  · have := Nat.le_of_dvd h1 h3
    simp only [LL] at this
    omega
theorem apart_mul {m n : Nat} (h1 : ¬ LL ∣ m) (h2 : ¬ LL ∣ n) : ¬ LL ∣ m * n := fun h => by
  rcases pr_L.euclid h with h3 | h3
  · exact h1 h3
  · exact h2 h3
/-- What the ladder makes of a multiple of the base point. -/
theorem mult_rep {m A : Nat} (hm : ¬ LL ∣ m) (hA : ¬ LL ∣ A) (hl : A < 57896044618658097711785492504343953926634992332820282019728792003956564819968) {b : Nat → Bool} (hb : ∀ i, i < 255 → b i = decide (A / 2 ^ i % 2 = 1)) {U : Nat} (hU : U < pp) (rb : RepU (edw.mul bE m) U 1) : RepU (edw.mul bE (m * A)) (multN b U) 1 := by
  have h := (lad_rep hm hU rb b 255).1
  rw [preN_is hl hb 255 0 rfl, Nat.pow_zero, Nat.div_one, edw.mul_mul] at h
  have hk : pp - 2 + 2 = PP := by decide
  exact fin_rep pr_P hk rfl h (base_y_one (apart_mul hm hA))
/-- Both ways come to the same, which isn't nought. -/
theorem meets {A B : Nat} (hA : ¬ LL ∣ A) (lA : A < 57896044618658097711785492504343953926634992332820282019728792003956564819968) (hB : ¬ LL ∣ B) (lB : B < 57896044618658097711785492504343953926634992332820282019728792003956564819968)
    {a b : Nat → Bool} (ha : ∀ i, i < 255 → a i = decide (A / 2 ^ i % 2 = 1)) (hb : ∀ i, i < 255 → b i = decide (B / 2 ^ i % 2 = 1)) : multN a (multN b 9) = multN b (multN a 9) ∧ multN a (multN b 9) ≠ 0 := by
  have r9 : RepU (edw.mul bE 1) ((9 : Nat) : Int) 1 := by rw [edw.mul_one]; exact bE_u
  have h1 : ¬ LL ∣ 1 := by decide +kernel
  have rA := mult_rep h1 hA lA ha (by decide) r9
  have rB := mult_rep h1 hB lB hb (by decide) r9
  rw [Nat.one_mul] at rA rB
  have rAB := mult_rep hB hA lA ha (multN_lt _ _) rB
  have rBA := mult_rep hA hB lB hb (multN_lt _ _) rA
  rw [Nat.mul_comm] at rBA
  have hn := apart_mul hB hA
  refine ⟨rep_one pr_P rAB rBA (base_y_one hn) (multN_lt _ _) (multN_lt _ _), fun h0 => ?_⟩
  have h2 := base_u hn rAB
  rw [h0] at h2
  exact h2 ⟨0, rfl⟩
end NP
end Go.Proofs.YtlhgabhjbnckkaaDoor
namespace Go.Proofs.YtlhgabhjbnckkaaDoor
open Go.RowKit
def noughtVs1 (g_base : Nat) (one : List Nat) (n : List Nat) : List Value :=
  (.pointer (some ⟨g_base, 0, none⟩)) :: (numVal one) :: (numVal n) :: []
set_option maxRecDepth 100000 in
set_option maxHeartbeats 1000000 in
theorem nought_over (one n : List Nat) (w : World)
    (Hn : Hid (n.length = 10))
    (CS : Hid (∀ W, Calls Tryd.prog 37 #[.int .i64 1] W fun e w' => e = .returned (numVal one) ∧ Below W.heap.size W w'))
    (BN : ∀ w, (Instr.build 51 #[(0, numVal one)]).run Tryd.prog w = .ok (numVal n) w) :
    Calls Tryd.prog 22 #[] w fun e w' => e = .returned (numVal n) ∧ Below w.heap.size w w' := by
  go_enter Tryd.func22, Tryd.ntmps22
  go_upto_region 1 with (first
    | (refine vzero_step (o := ⟨some 0, _, _, _, _, _⟩) rfl 51 rfl (nzeros 10) zero_pt ?_
       intro w1 hb1 hvr1
       have hB1 := hb1
       have hger : w.heap.size ≤ w.heap.size := Nat.le_refl _
       clear  hb1
       try simp only [Act.put, List.setIfInBounds_toArray, List.set_cons_zero]
       skip))
  refine wp_region_flat (md := .any) (by kernel_rfl) ?_
  refine wpAny_flatM (L := [0, 1]) (by kernel_rfl) _ _ (noughtVs1 w.heap.size one n) [] 48 (nzeros 5) [0] (by kernel_rfl) (by kernel_rfl) ?_ zero_elem ?_ (by rfl) ?_ 1 (by kernel_rfl) ?_
  · intro p hp
    exact absurd hp List.not_mem_nil
  · exact all_cons rfl (all_nil)
  · refine all_cons (.inr (mStep _ 1 rfl rfl rfl rfl (by kernel_rfl) (fun a hv => wanted_all rfl _) (fun a w K hb hv hK => mCall (numVal one) 37 _ _ rfl [.int .i64 1] (cons_eq (by rfl) (rfl)) (enters Tryd.func37 rfl rfl) (CS.out w) hK))) ?_
    refine all_cons (.inr (mStep _ 2 rfl rfl rfl rfl (by kernel_rfl) (fun a hv => wanted_all rfl _) (fun a w K hb hv hK => mPure (numVal n) (exec_build _ _ _ [(0, .tmp 1)] rfl [(0, numVal one)] (cons_eq (congrArg (Prod.mk 0) (hv 1 (by kernel_rfl) rfl)) (rfl)) _ w (BN w)) hK))) ?_
    exact all_nil
  intro w2 g hb2 hN2 hap2
  clear hN2 hap2
  have hB2 := below_then hB1 hb2
  have hvr2 := hvr1.on hb2
  clear hB1 hvr1 hb2
  refine wpAny_rest 2 rfl (by kernel_rfl) ?_
  refine vset_step rfl 51 (.tmp 0) (.tmp 2) rfl w.heap.size 10 (nzeros 10) (n.map ncell) rfl rfl hvr2 rfl size_pt (by rw [List.length_map, Hn.out]) (ncells_one _) ?_
  intro w3 hb3 hvr3 hz3
  have hB3 : Below w.heap.size w w3 := hB2.trans (hb3.below hger hB2.size)
  clear hB2 hvr2 hb3 hz3
  rename_i K hKK
  show Exit.then K _ Exit.normal (⟨(noughtVs1 w.heap.size one n).toArray, []⟩ : Act) w3
  simp only [Exit.then]
  refine hKK _ _ ?_
  clear hKK K g
  simp only [noughtVs1]
  go_wp2
  exact sret Tryd.results22 (w.heap.size) (n.map ncell) rfl hvr3 Tryd.underlying51 rfl size_pt (by rw [List.length_map, Hn.out]) rfl ⟨rfl, hB3⟩
def atVs1 (u : List Nat) (g_base : Nat) (gr : Nat) (one : List Nat) (n : List Nat) : List Value :=
  (numVal u) :: (.pointer (some ⟨g_base, 0, none⟩)) :: (.pointer (some ⟨gr, 0, none⟩)) :: (numVal u) :: (numVal one) :: (numVal n) :: []
set_option maxRecDepth 100000 in
set_option maxHeartbeats 1000000 in
theorem at_over (u one n : List Nat) (w : World)
    (Hu : Hid (u.length = 5))
    (Hn : Hid (n.length = 10))
    (CS : Hid (∀ W, Calls Tryd.prog 37 #[.int .i64 1] W fun e w' => e = .returned (numVal one) ∧ Below W.heap.size W w'))
    (BN : ∀ w, (Instr.build 51 #[(0, numVal u), (1, numVal one)]).run Tryd.prog w = .ok (numVal n) w) :
    Calls Tryd.prog 23 #[numVal u] w fun e w' => e = .returned (numVal n) ∧ Below w.heap.size w w' := by
  go_enter Tryd.func23, Tryd.ntmps23
  go_wp2_with (first
    | (refine vtake_step rfl 48 (.tmp 0) rfl (u.map ncell) rfl ?_
       intro w1 hb1 hvu1
       have hB1 := hb1
       have hgeu : w.heap.size ≤ w.heap.size := Nat.le_refl _
       clear  hb1
       try simp only [Act.put, List.setIfInBounds_toArray, List.set_cons_zero, List.set_cons_succ]
       skip)
    | (refine vzero_step (o := ⟨some 2, _, _, _, _, _⟩) rfl 51 rfl (nzeros 10) zero_pt ?_
       intro w2 hb2 hvr2
       have hB2 := below_then hB1 hb2
       have hger : w.heap.size ≤ w1.heap.size := hB1.size
       have hvu2 := hvu1.on hb2
       have hneur := Nat.ne_of_lt hvu1.lt
       clear hB1 hvu1 hb2
       try simp only [Act.put, List.setIfInBounds_toArray, List.set_cons_zero, List.set_cons_succ]
       skip))
  generalize hqr : w1.heap.size = gr at *
  clear hqr
  replace hvu2 := hvu2.drew
  replace hvr2 := hvr2.drew
  refine wp_region_any (by kernel_rfl) ?_
  refine wpAny_flatM (L := [0, 1, 2]) (by kernel_rfl) _ _ (atVs1 u w.heap.size gr one n) [] 48 (nzeros 5) [0, 1, 2] (by kernel_rfl) (by kernel_rfl) ?_ zero_elem ?_ (by rfl) ?_ 1 (by kernel_rfl) ?_
  · intro p hp
    exact absurd hp List.not_mem_nil
  · exact all_cons rfl (all_cons rfl (all_cons rfl (all_nil)))
  · refine all_cons (.inr (mStep _ 3 rfl rfl rfl rfl (by kernel_rfl) (fun a hv => wanted_all rfl _) (fun a w K hb hv hK => mPure (numVal u) (exec_load _ _ _ _ rfl _ _ (hv 1 (by kernel_rfl) rfl) w (elem_run (hvu2.on hb) Hu.out)) hK))) ?_
    refine all_cons (.inr (mStep _ 4 rfl rfl rfl rfl (by kernel_rfl) (fun a hv => wanted_all rfl _) (fun a w K hb hv hK => mCall (numVal one) 37 _ _ rfl [.int .i64 1] (cons_eq (by rfl) (rfl)) (enters Tryd.func37 rfl rfl) (CS.out w) hK))) ?_
    refine all_cons (.inr (mStep _ 5 rfl rfl rfl rfl (by kernel_rfl) (fun a hv => wanted_all rfl _) (fun a w K hb hv hK => mPure (numVal n) (exec_build _ _ _ [(0, .tmp 3), (1, .tmp 4)] rfl [(0, numVal u), (1, numVal one)] (cons_eq (congrArg (Prod.mk 0) (hv 3 (by kernel_rfl) rfl)) (cons_eq (congrArg (Prod.mk 1) (hv 4 (by kernel_rfl) rfl)) (rfl))) _ w (BN w)) hK))) ?_
    exact all_nil
  intro w3 g hb3 hN3 hap3
  clear hN3 hap3
  have hB3 := below_then (show Below w.heap.size w w2.drew from hB2.drew) hb3
  have hvu3 := hvu2.on hb3
  have hvr3 := hvr2.on hb3
  clear hB2 hvu2 hvr2 hb3
  refine wpAny_rest 3 rfl (by kernel_rfl) ?_
  refine vset_step rfl 51 (.tmp 2) (.tmp 5) rfl gr 10 (nzeros 10) (n.map ncell) rfl rfl hvr3 rfl size_pt (by rw [List.length_map, Hn.out]) (ncells_one _) ?_
  intro w4 hb4 hvr4 hz4
  have hB4 : Below w.heap.size w w4 := hB3.trans (hb4.below hger hB3.size)
  have hvu4 := hvu3.but hb4 hneur
  clear hB3 hvr3 hb4 hz4 hvu3
  rename_i K hKK
  show Exit.then K _ Exit.normal (⟨(atVs1 u w.heap.size gr one n).toArray, []⟩ : Act) w4
  simp only [Exit.then]
  refine hKK _ _ ?_
  clear hKK K g
  simp only [atVs1]
  go_wp2
  exact sret Tryd.results23 gr (n.map ncell) rfl hvr4 Tryd.underlying51 rfl size_pt (by rw [List.length_map, Hn.out]) rfl ⟨rfl, hB4⟩
def twiceVs1 (p : List Nat) (g_base : Nat) (gr : Nat) (x : List Nat) (z : List Nat) (a1 : List Nat) (s : List Nat) : List Value :=
  (numVal p) :: (.pointer (some ⟨g_base, 0, none⟩)) :: (.pointer (some ⟨gr, 0, none⟩)) :: undef :: undef :: undef :: (.pointer (some ⟨g_base, 0, none⟩)) :: (numVal x) :: (.pointer (some ⟨g_base, 5, none⟩)) :: (numVal z) :: (numVal a1) :: (numVal s) :: undef :: undef :: undef :: undef :: undef :: undef :: undef :: undef :: undef :: undef :: undef :: undef :: undef :: undef :: undef :: undef :: undef :: undef :: undef :: undef :: []
def twiceVs1N (p : List Nat) (g_base : Nat) (gr : Nat) (x : List Nat) (z : List Nat) (a1 : List Nat) (s : List Nat) (n3 : Nat) : List Value :=
  (numVal p) :: (.pointer (some ⟨g_base, 0, none⟩)) :: (.pointer (some ⟨gr, 0, none⟩)) :: (.pointer (some ⟨n3, 0, none⟩)) :: undef :: undef :: (.pointer (some ⟨g_base, 0, none⟩)) :: (numVal x) :: (.pointer (some ⟨g_base, 5, none⟩)) :: (numVal z) :: (numVal a1) :: (numVal s) :: undef :: undef :: undef :: undef :: undef :: undef :: undef :: undef :: undef :: undef :: undef :: undef :: undef :: undef :: undef :: undef :: undef :: undef :: undef :: undef :: []
def twiceVs2_1 (p : List Nat) (g_base : Nat) (gr : Nat) (gs : Nat) (x : List Nat) (z : List Nat) (a1 : List Nat) (s : List Nat) (d1 : List Nat) (le : List Nat) : List Value :=
  (numVal p) :: (.pointer (some ⟨g_base, 0, none⟩)) :: (.pointer (some ⟨gr, 0, none⟩)) :: (.pointer (some ⟨gs, 0, none⟩)) :: undef :: undef :: (.pointer (some ⟨g_base, 0, none⟩)) :: (numVal x) :: (.pointer (some ⟨g_base, 5, none⟩)) :: (numVal z) :: (numVal a1) :: (numVal s) :: (.pointer (some ⟨g_base, 0, none⟩)) :: (numVal x) :: (.pointer (some ⟨g_base, 5, none⟩)) :: (numVal z) :: (numVal d1) :: (numVal le) :: undef :: undef :: undef :: undef :: undef :: undef :: undef :: undef :: undef :: undef :: undef :: undef :: undef :: undef :: []
def twiceVs2_1N (p : List Nat) (g_base : Nat) (gr : Nat) (gs : Nat) (x : List Nat) (z : List Nat) (a1 : List Nat) (s : List Nat) (d1 : List Nat) (le : List Nat) (n4 : Nat) : List Value :=
  (numVal p) :: (.pointer (some ⟨g_base, 0, none⟩)) :: (.pointer (some ⟨gr, 0, none⟩)) :: (.pointer (some ⟨gs, 0, none⟩)) :: (.pointer (some ⟨n4, 0, none⟩)) :: undef :: (.pointer (some ⟨g_base, 0, none⟩)) :: (numVal x) :: (.pointer (some ⟨g_base, 5, none⟩)) :: (numVal z) :: (numVal a1) :: (numVal s) :: (.pointer (some ⟨g_base, 0, none⟩)) :: (numVal x) :: (.pointer (some ⟨g_base, 5, none⟩)) :: (numVal z) :: (numVal d1) :: (numVal le) :: undef :: undef :: undef :: undef :: undef :: undef :: undef :: undef :: undef :: undef :: undef :: undef :: undef :: undef :: []
def twiceVs3_2 (p : List Nat) (g_base : Nat) (gr : Nat) (gs : Nat) (gl : Nat) (x : List Nat) (z : List Nat) (a1 : List Nat) (s : List Nat) (d1 : List Nat) (le : List Nat) (bt : List Nat) : List Value :=
  (numVal p) :: (.pointer (some ⟨g_base, 0, none⟩)) :: (.pointer (some ⟨gr, 0, none⟩)) :: (.pointer (some ⟨gs, 0, none⟩)) :: (.pointer (some ⟨gl, 0, none⟩)) :: undef :: (.pointer (some ⟨g_base, 0, none⟩)) :: (numVal x) :: (.pointer (some ⟨g_base, 5, none⟩)) :: (numVal z) :: (numVal a1) :: (numVal s) :: (.pointer (some ⟨g_base, 0, none⟩)) :: (numVal x) :: (.pointer (some ⟨g_base, 5, none⟩)) :: (numVal z) :: (numVal d1) :: (numVal le) :: (numVal s) :: (numVal le) :: (numVal bt) :: undef :: undef :: undef :: undef :: undef :: undef :: undef :: undef :: undef :: undef :: undef :: []
def twiceVs3_2N (p : List Nat) (g_base : Nat) (gr : Nat) (gs : Nat) (gl : Nat) (x : List Nat) (z : List Nat) (a1 : List Nat) (s : List Nat) (d1 : List Nat) (le : List Nat) (bt : List Nat) (n5 : Nat) : List Value :=
  (numVal p) :: (.pointer (some ⟨g_base, 0, none⟩)) :: (.pointer (some ⟨gr, 0, none⟩)) :: (.pointer (some ⟨gs, 0, none⟩)) :: (.pointer (some ⟨gl, 0, none⟩)) :: (.pointer (some ⟨n5, 0, none⟩)) :: (.pointer (some ⟨g_base, 0, none⟩)) :: (numVal x) :: (.pointer (some ⟨g_base, 5, none⟩)) :: (numVal z) :: (numVal a1) :: (numVal s) :: (.pointer (some ⟨g_base, 0, none⟩)) :: (numVal x) :: (.pointer (some ⟨g_base, 5, none⟩)) :: (numVal z) :: (numVal d1) :: (numVal le) :: (numVal s) :: (numVal le) :: (numVal bt) :: undef :: undef :: undef :: undef :: undef :: undef :: undef :: undef :: undef :: undef :: undef :: []
def twiceVs4_3 (p : List Nat) (g_base : Nat) (gr : Nat) (gs : Nat) (gl : Nat) (gb : Nat) (x : List Nat) (z : List Nat) (a1 : List Nat) (s : List Nat) (d1 : List Nat) (le : List Nat) (bt : List Nat) (nx : List Nat) (q : List Nat) (m1 : List Nat) (a2 : List Nat) (nz : List Nat) (r : List Nat) : List Value :=
  (numVal p) :: (.pointer (some ⟨g_base, 0, none⟩)) :: (.pointer (some ⟨gr, 0, none⟩)) :: (.pointer (some ⟨gs, 0, none⟩)) :: (.pointer (some ⟨gl, 0, none⟩)) :: (.pointer (some ⟨gb, 0, none⟩)) :: (.pointer (some ⟨g_base, 0, none⟩)) :: (numVal x) :: (.pointer (some ⟨g_base, 5, none⟩)) :: (numVal z) :: (numVal a1) :: (numVal s) :: (.pointer (some ⟨g_base, 0, none⟩)) :: (numVal x) :: (.pointer (some ⟨g_base, 5, none⟩)) :: (numVal z) :: (numVal d1) :: (numVal le) :: (numVal s) :: (numVal le) :: (numVal bt) :: (numVal s) :: (numVal le) :: (numVal nx) :: (numVal bt) :: (numVal s) :: (numVal bt) :: (numVal q) :: (numVal m1) :: (numVal a2) :: (numVal nz) :: (numVal r) :: []
set_option maxRecDepth 100000 in
set_option maxHeartbeats 1000000 in
theorem twice_over (p x z a1 s d1 le bt nx q m1 a2 nz r : List Nat) (w : World)
    (Hx : Hid (x.length = 5))
    (Hz : Hid (z.length = 5))
    (Hs : Hid (s.length = 5))
    (Hle : Hid (le.length = 5))
    (Hbt : Hid (bt.length = 5))
    (Hr : Hid (r.length = 10))
    (Fp : Hid (p = x ++ z))
    (C1 : Hid (∀ W, Calls Tryd.prog 38 #[numVal x, numVal z] W fun e w' => e = .returned (numVal a1) ∧ Below W.heap.size W w'))
    (C2 : Hid (∀ W, Calls Tryd.prog 41 #[numVal a1] W fun e w' => e = .returned (numVal s) ∧ Below W.heap.size W w'))
    (C3 : Hid (∀ W, Calls Tryd.prog 40 #[numVal x, numVal z] W fun e w' => e = .returned (numVal d1) ∧ Below W.heap.size W w'))
    (C4 : Hid (∀ W, Calls Tryd.prog 41 #[numVal d1] W fun e w' => e = .returned (numVal le) ∧ Below W.heap.size W w'))
    (C5 : Hid (∀ W, Calls Tryd.prog 40 #[numVal s, numVal le] W fun e w' => e = .returned (numVal bt) ∧ Below W.heap.size W w'))
    (C6 : Hid (∀ W, Calls Tryd.prog 39 #[numVal s, numVal le] W fun e w' => e = .returned (numVal nx) ∧ Below W.heap.size W w'))
    (C7 : Hid (∀ W, Calls Tryd.prog 37 #[.int .i64 121665] W fun e w' => e = .returned (numVal q) ∧ Below W.heap.size W w'))
    (C8 : Hid (∀ W, Calls Tryd.prog 39 #[numVal bt, numVal q] W fun e w' => e = .returned (numVal m1) ∧ Below W.heap.size W w'))
    (C9 : Hid (∀ W, Calls Tryd.prog 38 #[numVal s, numVal m1] W fun e w' => e = .returned (numVal a2) ∧ Below W.heap.size W w'))
    (C10 : Hid (∀ W, Calls Tryd.prog 39 #[numVal bt, numVal a2] W fun e w' => e = .returned (numVal nz) ∧ Below W.heap.size W w'))
    (BR : ∀ w, (Instr.build 51 #[(0, numVal nx), (1, numVal nz)]).run Tryd.prog w = .ok (numVal r) w) :
    Calls Tryd.prog 26 #[numVal p] w fun e w' => e = .returned (numVal r) ∧ Below w.heap.size w w' := by
  go_enter Tryd.func26, Tryd.ntmps26
  go_upto_region 1 with (first
    | (refine vtake_step rfl 51 (.tmp 0) rfl (p.map ncell) rfl ?_
       intro w1 hb1 hvp1
       have hB1 := hb1
       have hgep : w.heap.size ≤ w.heap.size := Nat.le_refl _
       clear  hb1
       try simp only [Act.put, List.setIfInBounds_toArray, List.set_cons_zero, List.set_cons_succ]
       skip)
    | (refine vzero_step (o := ⟨some 2, _, _, _, _, _⟩) rfl 51 rfl (nzeros 10) zero_pt ?_
       intro w2 hb2 hvr2
       have hB2 := below_then hB1 hb2
       have hger : w.heap.size ≤ w1.heap.size := hB1.size
       have hvp2 := hvp1.on hb2
       have hnepr := Nat.ne_of_lt hvp1.lt
       clear hB1 hvp1 hb2
       try simp only [Act.put, List.setIfInBounds_toArray, List.set_cons_zero, List.set_cons_succ]
       skip))
  generalize hqr : w1.heap.size = gr at *
  clear hqr
  refine wp_region_flat (md := .any) (by kernel_rfl) ?_
  refine wpAny_flatM (L := [0, 1, 2, 3, 4, 5, 6]) (by kernel_rfl) _ _ (twiceVs1 p w.heap.size gr x z a1 s) [(6, 3)] 48 (nzeros 5) [0, 1, 2, 4, 5, 12, 13, 14, 15, 16, 17, 18, 19, 20, 21, 22, 23, 24, 25, 26, 27, 28, 29, 30, 31] (by kernel_rfl) (by kernel_rfl) ?_ zero_elem ?_ (by rfl) ?_ 1 (by kernel_rfl) ?_
  · intro p hp
    rcases List.mem_cons.1 hp with rfl | hp
    · exact ⟨⟨_, rfl, rfl, rfl, rfl, by kernel_rfl, by kernel_rfl⟩⟩
    exact absurd hp List.not_mem_nil
  · exact all_cons rfl (all_cons rfl (all_cons rfl (all_cons rfl (all_cons rfl (all_cons rfl (all_cons rfl (all_cons rfl (all_cons rfl (all_cons rfl (all_cons rfl (all_cons rfl (all_cons rfl (all_cons rfl (all_cons rfl (all_cons rfl (all_cons rfl (all_cons rfl (all_cons rfl (all_cons rfl (all_cons rfl (all_cons rfl (all_cons rfl (all_cons rfl (all_cons rfl (all_nil)))))))))))))))))))))))))
  · refine all_cons (.inr (mStep _ 6 rfl rfl rfl rfl (by kernel_rfl) (fun a hv => wanted_all rfl _) (fun a w K hb hv hK => mPure _ (exec_field _ _ _ _ 0 rfl _ _ (hv 1 (by kernel_rfl) rfl) w (field_x _ w)) hK))) ?_
    refine all_cons (.inr (mStep _ 7 rfl rfl rfl rfl (by kernel_rfl) (fun a hv => wanted_all rfl _) (fun a w K hb hv hK => mPure (numVal x) (exec_load _ _ _ _ rfl _ _ (hv 6 (by kernel_rfl) rfl) w (load_x (hvp2.on hb) Fp.out Hx.out)) hK))) ?_
    refine all_cons (.inr (mStep _ 8 rfl rfl rfl rfl (by kernel_rfl) (fun a hv => wanted_all rfl _) (fun a w K hb hv hK => mPure _ (exec_field _ _ _ _ 1 rfl _ _ (hv 1 (by kernel_rfl) rfl) w (field_z _ w)) hK))) ?_
    refine all_cons (.inr (mStep _ 9 rfl rfl rfl rfl (by kernel_rfl) (fun a hv => wanted_all rfl _) (fun a w K hb hv hK => mPure (numVal z) (exec_load _ _ _ _ rfl _ _ (hv 8 (by kernel_rfl) rfl) w (load_z (hvp2.on hb) Fp.out Hx.out Hz.out)) hK))) ?_
    refine all_cons (.inr (mStep _ 10 rfl rfl rfl rfl (by kernel_rfl) (fun a hv => wanted_all rfl _) (fun a w K hb hv hK => mCall (numVal a1) 38 _ _ rfl [numVal x, numVal z] (cons_eq (hv 7 (by kernel_rfl) rfl) (cons_eq (hv 9 (by kernel_rfl) rfl) (rfl))) (enters Tryd.func38 rfl rfl) (C1.out w) hK))) ?_
    refine all_cons (.inr (mStep _ 11 rfl rfl rfl rfl (by kernel_rfl) (fun a hv => wanted_all rfl _) (fun a w K hb hv hK => mCall (numVal s) 41 _ _ rfl [numVal a1] (cons_eq (hv 10 (by kernel_rfl) rfl) (rfl)) (enters Tryd.func41 rfl rfl) (C2.out w) hK))) ?_
    refine all_cons (.inl ⟨(6, 3), by simp, rfl⟩) ?_
    exact all_nil
  intro w3 g hb3 hN3 hap3
  obtain ⟨hges, hvs3⟩ := hN3 (6, 3) (by simp)
  clear hN3 hap3
  have hB3 := below_then hB2 hb3
  have hltp : w.heap.size < w2.heap.size := hvp2.lt
  have hltr : gr < w2.heap.size := hvr2.lt
  have hvp3 := hvp2.on hb3
  have hvr3 := hvr2.on hb3
  rw [show withNew g [(6, 3)] (twiceVs1 p w.heap.size gr x z a1 s) = twiceVs1N p w.heap.size gr x z a1 s (g 3) from rfl]
  replace hges : w2.heap.size ≤ g 3 := hges
  replace hvs3 : Cells w3 (g 3) (nzeros 5) 48 := hvs3
  have hneps : w.heap.size ≠ g 3 := Nat.ne_of_lt (Nat.lt_of_lt_of_le hltp hges)
  have hners : gr ≠ g 3 := Nat.ne_of_lt (Nat.lt_of_lt_of_le hltr hges)
  replace hges : w.heap.size ≤ g 3 := Nat.le_trans (show w.heap.size ≤ w2.heap.size from hB2.size) hges
  clear hltp hltr
  generalize g 3 = gs at *
  clear hB2 hvp2 hvr2 hb3
  refine wpAny_rest 7 rfl (by kernel_rfl) ?_
  refine vset_step rfl 48 (.tmp 3) (.tmp 11) rfl gs 5 (nzeros 5) (s.map ncell) rfl rfl hvs3 rfl size_elem (by rw [List.length_map, Hs.out]) (ncells_one _) ?_
  intro w4 hb4 hvs4 hz4
  have hB4 : Below w.heap.size w w4 := hB3.trans (hb4.below hges hB3.size)
  have hvp4 := hvp3.but hb4 hneps
  have hvr4 := hvr3.but hb4 hners
  clear hB3 hvs3 hb4 hz4 hvp3 hvr3
  rename_i K hKK
  show Exit.then K _ Exit.normal (⟨(twiceVs1N p w.heap.size gr x z a1 s gs).toArray, []⟩ : Act) w4
  simp only [Exit.then]
  refine hKK _ _ ?_
  clear hKK K g
  simp only [twiceVs1N]
  go_upto_region 2 with fail
  refine wp_region_flat (md := .any) (by kernel_rfl) ?_
  refine wpAny_flatM (L := [0, 1, 2, 3, 4, 5, 6]) (by kernel_rfl) _ _ (twiceVs2_1 p w.heap.size gr gs x z a1 s d1 le) [(6, 4)] 48 (nzeros 5) [0, 1, 2, 3, 5, 6, 7, 8, 9, 10, 11, 18, 19, 20, 21, 22, 23, 24, 25, 26, 27, 28, 29, 30, 31] (by kernel_rfl) (by kernel_rfl) ?_ zero_elem ?_ (by rfl) ?_ 1 (by kernel_rfl) ?_
  · intro p hp
    rcases List.mem_cons.1 hp with rfl | hp
    · exact ⟨⟨_, rfl, rfl, rfl, rfl, by kernel_rfl, by kernel_rfl⟩⟩
    exact absurd hp List.not_mem_nil
  · exact all_cons rfl (all_cons rfl (all_cons rfl (all_cons rfl (all_cons rfl (all_cons rfl (all_cons rfl (all_cons rfl (all_cons rfl (all_cons rfl (all_cons rfl (all_cons rfl (all_cons rfl (all_cons rfl (all_cons rfl (all_cons rfl (all_cons rfl (all_cons rfl (all_cons rfl (all_cons rfl (all_cons rfl (all_cons rfl (all_cons rfl (all_cons rfl (all_cons rfl (all_nil)))))))))))))))))))))))))
  · refine all_cons (.inr (mStep _ 12 rfl rfl rfl rfl (by kernel_rfl) (fun a hv => wanted_all rfl _) (fun a w K hb hv hK => mPure _ (exec_field _ _ _ _ 0 rfl _ _ (hv 1 (by kernel_rfl) rfl) w (field_x _ w)) hK))) ?_
    refine all_cons (.inr (mStep _ 13 rfl rfl rfl rfl (by kernel_rfl) (fun a hv => wanted_all rfl _) (fun a w K hb hv hK => mPure (numVal x) (exec_load _ _ _ _ rfl _ _ (hv 12 (by kernel_rfl) rfl) w (load_x (hvp4.on hb) Fp.out Hx.out)) hK))) ?_
    refine all_cons (.inr (mStep _ 14 rfl rfl rfl rfl (by kernel_rfl) (fun a hv => wanted_all rfl _) (fun a w K hb hv hK => mPure _ (exec_field _ _ _ _ 1 rfl _ _ (hv 1 (by kernel_rfl) rfl) w (field_z _ w)) hK))) ?_
    refine all_cons (.inr (mStep _ 15 rfl rfl rfl rfl (by kernel_rfl) (fun a hv => wanted_all rfl _) (fun a w K hb hv hK => mPure (numVal z) (exec_load _ _ _ _ rfl _ _ (hv 14 (by kernel_rfl) rfl) w (load_z (hvp4.on hb) Fp.out Hx.out Hz.out)) hK))) ?_
    refine all_cons (.inr (mStep _ 16 rfl rfl rfl rfl (by kernel_rfl) (fun a hv => wanted_all rfl _) (fun a w K hb hv hK => mCall (numVal d1) 40 _ _ rfl [numVal x, numVal z] (cons_eq (hv 13 (by kernel_rfl) rfl) (cons_eq (hv 15 (by kernel_rfl) rfl) (rfl))) (enters Tryd.func40 rfl rfl) (C3.out w) hK))) ?_
    refine all_cons (.inr (mStep _ 17 rfl rfl rfl rfl (by kernel_rfl) (fun a hv => wanted_all rfl _) (fun a w K hb hv hK => mCall (numVal le) 41 _ _ rfl [numVal d1] (cons_eq (hv 16 (by kernel_rfl) rfl) (rfl)) (enters Tryd.func41 rfl rfl) (C4.out w) hK))) ?_
    refine all_cons (.inl ⟨(6, 4), by simp, rfl⟩) ?_
    exact all_nil
  intro w5 g hb5 hN5 hap5
  obtain ⟨hgel, hvl5⟩ := hN5 (6, 4) (by simp)
  clear hN5 hap5
  have hB5 := below_then hB4 hb5
  have hltp : w.heap.size < w4.heap.size := hvp4.lt
  have hltr : gr < w4.heap.size := hvr4.lt
  have hlts : gs < w4.heap.size := hvs4.lt
  have hvp5 := hvp4.on hb5
  have hvr5 := hvr4.on hb5
  have hvs5 := hvs4.on hb5
  rw [show withNew g [(6, 4)] (twiceVs2_1 p w.heap.size gr gs x z a1 s d1 le) = twiceVs2_1N p w.heap.size gr gs x z a1 s d1 le (g 4) from rfl]
  replace hgel : w4.heap.size ≤ g 4 := hgel
  replace hvl5 : Cells w5 (g 4) (nzeros 5) 48 := hvl5
  have hnepl : w.heap.size ≠ g 4 := Nat.ne_of_lt (Nat.lt_of_lt_of_le hltp hgel)
  have hnerl : gr ≠ g 4 := Nat.ne_of_lt (Nat.lt_of_lt_of_le hltr hgel)
  have hnesl : gs ≠ g 4 := Nat.ne_of_lt (Nat.lt_of_lt_of_le hlts hgel)
  replace hgel : w.heap.size ≤ g 4 := Nat.le_trans (show w.heap.size ≤ w4.heap.size from hB4.size) hgel
  clear hltp hltr hlts
  generalize g 4 = gl at *
  clear hB4 hvp4 hvr4 hvs4 hb5
  refine wpAny_rest 7 rfl (by kernel_rfl) ?_
  refine vset_step rfl 48 (.tmp 4) (.tmp 17) rfl gl 5 (nzeros 5) (le.map ncell) rfl rfl hvl5 rfl size_elem (by rw [List.length_map, Hle.out]) (ncells_one _) ?_
  intro w6 hb6 hvl6 hz6
  have hB6 : Below w.heap.size w w6 := hB5.trans (hb6.below hgel hB5.size)
  have hvp6 := hvp5.but hb6 hnepl
  have hvr6 := hvr5.but hb6 hnerl
  have hvs6 := hvs5.but hb6 hnesl
  clear hB5 hvl5 hb6 hz6 hvp5 hvr5 hvs5
  rename_i K hKK
  show Exit.then K _ Exit.normal (⟨(twiceVs2_1N p w.heap.size gr gs x z a1 s d1 le gl).toArray, []⟩ : Act) w6
  simp only [Exit.then]
  refine hKK _ _ ?_
  clear hKK K g
  simp only [twiceVs2_1N]
  go_upto_region 3 with fail
  refine wp_region_flat (md := .any) (by kernel_rfl) ?_
  refine wpAny_flatM (L := [0, 1, 2, 3]) (by kernel_rfl) _ _ (twiceVs3_2 p w.heap.size gr gs gl x z a1 s d1 le bt) [(3, 5)] 48 (nzeros 5) [0, 1, 2, 3, 4, 6, 7, 8, 9, 10, 11, 12, 13, 14, 15, 16, 17, 21, 22, 23, 24, 25, 26, 27, 28, 29, 30, 31] (by kernel_rfl) (by kernel_rfl) ?_ zero_elem ?_ (by rfl) ?_ 1 (by kernel_rfl) ?_
  · intro p hp
    rcases List.mem_cons.1 hp with rfl | hp
    · exact ⟨⟨_, rfl, rfl, rfl, rfl, by kernel_rfl, by kernel_rfl⟩⟩
    exact absurd hp List.not_mem_nil
  · exact all_cons rfl (all_cons rfl (all_cons rfl (all_cons rfl (all_cons rfl (all_cons rfl (all_cons rfl (all_cons rfl (all_cons rfl (all_cons rfl (all_cons rfl (all_cons rfl (all_cons rfl (all_cons rfl (all_cons rfl (all_cons rfl (all_cons rfl (all_cons rfl (all_cons rfl (all_cons rfl (all_cons rfl (all_cons rfl (all_cons rfl (all_cons rfl (all_cons rfl (all_cons rfl (all_cons rfl (all_cons rfl (all_nil))))))))))))))))))))))))))))
  · refine all_cons (.inr (mStep _ 18 rfl rfl rfl rfl (by kernel_rfl) (fun a hv => wanted_all rfl _) (fun a w K hb hv hK => mPure (numVal s) (exec_load _ _ _ _ rfl _ _ (hv 3 (by kernel_rfl) rfl) w (elem_run (hvs6.on hb) Hs.out)) hK))) ?_
    refine all_cons (.inr (mStep _ 19 rfl rfl rfl rfl (by kernel_rfl) (fun a hv => wanted_all rfl _) (fun a w K hb hv hK => mPure (numVal le) (exec_load _ _ _ _ rfl _ _ (hv 4 (by kernel_rfl) rfl) w (elem_run (hvl6.on hb) Hle.out)) hK))) ?_
    refine all_cons (.inr (mStep _ 20 rfl rfl rfl rfl (by kernel_rfl) (fun a hv => wanted_all rfl _) (fun a w K hb hv hK => mCall (numVal bt) 40 _ _ rfl [numVal s, numVal le] (cons_eq (hv 18 (by kernel_rfl) rfl) (cons_eq (hv 19 (by kernel_rfl) rfl) (rfl))) (enters Tryd.func40 rfl rfl) (C5.out w) hK))) ?_
    refine all_cons (.inl ⟨(3, 5), by simp, rfl⟩) ?_
    exact all_nil
  intro w7 g hb7 hN7 hap7
  obtain ⟨hgeb, hvb7⟩ := hN7 (3, 5) (by simp)
  clear hN7 hap7
  have hB7 := below_then hB6 hb7
  have hltp : w.heap.size < w6.heap.size := hvp6.lt
  have hltr : gr < w6.heap.size := hvr6.lt
  have hlts : gs < w6.heap.size := hvs6.lt
  have hltl : gl < w6.heap.size := hvl6.lt
  have hvp7 := hvp6.on hb7
  have hvr7 := hvr6.on hb7
  have hvs7 := hvs6.on hb7
  have hvl7 := hvl6.on hb7
  rw [show withNew g [(3, 5)] (twiceVs3_2 p w.heap.size gr gs gl x z a1 s d1 le bt) = twiceVs3_2N p w.heap.size gr gs gl x z a1 s d1 le bt (g 5) from rfl]
  replace hgeb : w6.heap.size ≤ g 5 := hgeb
  replace hvb7 : Cells w7 (g 5) (nzeros 5) 48 := hvb7
  have hnepb : w.heap.size ≠ g 5 := Nat.ne_of_lt (Nat.lt_of_lt_of_le hltp hgeb)
  have hnerb : gr ≠ g 5 := Nat.ne_of_lt (Nat.lt_of_lt_of_le hltr hgeb)
  have hnesb : gs ≠ g 5 := Nat.ne_of_lt (Nat.lt_of_lt_of_le hlts hgeb)
  have hnelb : gl ≠ g 5 := Nat.ne_of_lt (Nat.lt_of_lt_of_le hltl hgeb)
  replace hgeb : w.heap.size ≤ g 5 := Nat.le_trans (show w.heap.size ≤ w6.heap.size from hB6.size) hgeb
  clear hltp hltr hlts hltl
  generalize g 5 = gb at *
  clear hB6 hvp6 hvr6 hvs6 hvl6 hb7
  refine wpAny_rest 4 rfl (by kernel_rfl) ?_
  refine vset_step rfl 48 (.tmp 5) (.tmp 20) rfl gb 5 (nzeros 5) (bt.map ncell) rfl rfl hvb7 rfl size_elem (by rw [List.length_map, Hbt.out]) (ncells_one _) ?_
  intro w8 hb8 hvb8 hz8
  have hB8 : Below w.heap.size w w8 := hB7.trans (hb8.below hgeb hB7.size)
  have hvp8 := hvp7.but hb8 hnepb
  have hvr8 := hvr7.but hb8 hnerb
  have hvs8 := hvs7.but hb8 hnesb
  have hvl8 := hvl7.but hb8 hnelb
  clear hB7 hvb7 hb8 hz8 hvp7 hvr7 hvs7 hvl7
  rename_i K hKK
  show Exit.then K _ Exit.normal (⟨(twiceVs3_2N p w.heap.size gr gs gl x z a1 s d1 le bt gb).toArray, []⟩ : Act) w8
  simp only [Exit.then]
  refine hKK _ _ ?_
  clear hKK K g
  simp only [twiceVs3_2N]
  go_wp2_with fail
  replace hvp8 := hvp8.drew
  replace hvr8 := hvr8.drew
  replace hvs8 := hvs8.drew
  replace hvl8 := hvl8.drew
  replace hvb8 := hvb8.drew
  refine wp_region_any (by kernel_rfl) ?_
  refine wpAny_flatM (L := [0, 1, 2, 3, 4, 5, 6, 7, 8, 9, 10]) (by kernel_rfl) _ _ (twiceVs4_3 p w.heap.size gr gs gl gb x z a1 s d1 le bt nx q m1 a2 nz r) [] 48 (nzeros 5) [0, 1, 2, 3, 4, 5, 6, 7, 8, 9, 10, 11, 12, 13, 14, 15, 16, 17, 18, 19, 20] (by kernel_rfl) (by kernel_rfl) ?_ zero_elem ?_ (by rfl) ?_ 1 (by kernel_rfl) ?_
  · intro p hp
    exact absurd hp List.not_mem_nil
  · exact all_cons rfl (all_cons rfl (all_cons rfl (all_cons rfl (all_cons rfl (all_cons rfl (all_cons rfl (all_cons rfl (all_cons rfl (all_cons rfl (all_cons rfl (all_cons rfl (all_cons rfl (all_cons rfl (all_cons rfl (all_cons rfl (all_cons rfl (all_cons rfl (all_cons rfl (all_cons rfl (all_cons rfl (all_nil)))))))))))))))))))))
  · refine all_cons (.inr (mStep _ 21 rfl rfl rfl rfl (by kernel_rfl) (fun a hv => wanted_all rfl _) (fun a w K hb hv hK => mPure (numVal s) (exec_load _ _ _ _ rfl _ _ (hv 3 (by kernel_rfl) rfl) w (elem_run (hvs8.on hb) Hs.out)) hK))) ?_
    refine all_cons (.inr (mStep _ 22 rfl rfl rfl rfl (by kernel_rfl) (fun a hv => wanted_all rfl _) (fun a w K hb hv hK => mPure (numVal le) (exec_load _ _ _ _ rfl _ _ (hv 4 (by kernel_rfl) rfl) w (elem_run (hvl8.on hb) Hle.out)) hK))) ?_
    refine all_cons (.inr (mStep _ 23 rfl rfl rfl rfl (by kernel_rfl) (fun a hv => wanted_all rfl _) (fun a w K hb hv hK => mCall (numVal nx) 39 _ _ rfl [numVal s, numVal le] (cons_eq (hv 21 (by kernel_rfl) rfl) (cons_eq (hv 22 (by kernel_rfl) rfl) (rfl))) (enters Tryd.func39 rfl rfl) (C6.out w) hK))) ?_
    refine all_cons (.inr (mStep _ 24 rfl rfl rfl rfl (by kernel_rfl) (fun a hv => wanted_all rfl _) (fun a w K hb hv hK => mPure (numVal bt) (exec_load _ _ _ _ rfl _ _ (hv 5 (by kernel_rfl) rfl) w (elem_run (hvb8.on hb) Hbt.out)) hK))) ?_
    refine all_cons (.inr (mStep _ 25 rfl rfl rfl rfl (by kernel_rfl) (fun a hv => wanted_all rfl _) (fun a w K hb hv hK => mPure (numVal s) (exec_load _ _ _ _ rfl _ _ (hv 3 (by kernel_rfl) rfl) w (elem_run (hvs8.on hb) Hs.out)) hK))) ?_
    refine all_cons (.inr (mStep _ 26 rfl rfl rfl rfl (by kernel_rfl) (fun a hv => wanted_all rfl _) (fun a w K hb hv hK => mPure (numVal bt) (exec_load _ _ _ _ rfl _ _ (hv 5 (by kernel_rfl) rfl) w (elem_run (hvb8.on hb) Hbt.out)) hK))) ?_
    refine all_cons (.inr (mStep _ 27 rfl rfl rfl rfl (by kernel_rfl) (fun a hv => wanted_all rfl _) (fun a w K hb hv hK => mCall (numVal q) 37 _ _ rfl [.int .i64 121665] (cons_eq (by rfl) (rfl)) (enters Tryd.func37 rfl rfl) (C7.out w) hK))) ?_
    refine all_cons (.inr (mStep _ 28 rfl rfl rfl rfl (by kernel_rfl) (fun a hv => wanted_all rfl _) (fun a w K hb hv hK => mCall (numVal m1) 39 _ _ rfl [numVal bt, numVal q] (cons_eq (hv 26 (by kernel_rfl) rfl) (cons_eq (hv 27 (by kernel_rfl) rfl) (rfl))) (enters Tryd.func39 rfl rfl) (C8.out w) hK))) ?_
    refine all_cons (.inr (mStep _ 29 rfl rfl rfl rfl (by kernel_rfl) (fun a hv => wanted_all rfl _) (fun a w K hb hv hK => mCall (numVal a2) 38 _ _ rfl [numVal s, numVal m1] (cons_eq (hv 25 (by kernel_rfl) rfl) (cons_eq (hv 28 (by kernel_rfl) rfl) (rfl))) (enters Tryd.func38 rfl rfl) (C9.out w) hK))) ?_
    refine all_cons (.inr (mStep _ 30 rfl rfl rfl rfl (by kernel_rfl) (fun a hv => wanted_all rfl _) (fun a w K hb hv hK => mCall (numVal nz) 39 _ _ rfl [numVal bt, numVal a2] (cons_eq (hv 24 (by kernel_rfl) rfl) (cons_eq (hv 29 (by kernel_rfl) rfl) (rfl))) (enters Tryd.func39 rfl rfl) (C10.out w) hK))) ?_
    refine all_cons (.inr (mStep _ 31 rfl rfl rfl rfl (by kernel_rfl) (fun a hv => wanted_all rfl _) (fun a w K hb hv hK => mPure (numVal r) (exec_build _ _ _ [(0, .tmp 23), (1, .tmp 30)] rfl [(0, numVal nx), (1, numVal nz)] (cons_eq (congrArg (Prod.mk 0) (hv 23 (by kernel_rfl) rfl)) (cons_eq (congrArg (Prod.mk 1) (hv 30 (by kernel_rfl) rfl)) (rfl))) _ w (BR w)) hK))) ?_
    exact all_nil
  intro w9 g hb9 hN9 hap9
  clear hN9 hap9
  have hB9 := below_then (show Below w.heap.size w w8.drew from hB8.drew) hb9
  have hvp9 := hvp8.on hb9
  have hvr9 := hvr8.on hb9
  have hvs9 := hvs8.on hb9
  have hvl9 := hvl8.on hb9
  have hvb9 := hvb8.on hb9
  clear hB8 hvp8 hvr8 hvs8 hvl8 hvb8 hb9
  refine wpAny_rest 11 rfl (by kernel_rfl) ?_
  refine vset_step rfl 51 (.tmp 2) (.tmp 31) rfl gr 10 (nzeros 10) (r.map ncell) rfl rfl hvr9 rfl size_pt (by rw [List.length_map, Hr.out]) (ncells_one _) ?_
  intro w10 hb10 hvr10 hz10
  have hB10 : Below w.heap.size w w10 := hB9.trans (hb10.below hger hB9.size)
  have hvp10 := hvp9.but hb10 hnepr
  have hvs10 := hvs9.but hb10 (Ne.symm hners)
  have hvl10 := hvl9.but hb10 (Ne.symm hnerl)
  have hvb10 := hvb9.but hb10 (Ne.symm hnerb)
  clear hB9 hvr9 hb10 hz10 hvp9 hvs9 hvl9 hvb9
  rename_i K hKK
  show Exit.then K _ Exit.normal (⟨(twiceVs4_3 p w.heap.size gr gs gl gb x z a1 s d1 le bt nx q m1 a2 nz r).toArray, []⟩ : Act) w10
  simp only [Exit.then]
  refine hKK _ _ ?_
  clear hKK K g
  simp only [twiceVs4_3]
  go_wp2
  exact sret Tryd.results26 gr (r.map ncell) rfl hvr10 Tryd.underlying51 rfl size_pt (by rw [List.length_map, Hr.out]) rfl ⟨rfl, hB10⟩
theorem small_one (w : World) : Calls Tryd.prog 37 #[.int .i64 1] w fun e w' => e = .returned (numVal (limb5 1)) ∧ Below w.heap.size w w' := by
  have h := smallE_any 1 w (by decide) (by decide)
  rw [show smallN 1 = 1 by decide +kernel] at h
  exact h
theorem small_quarter (w : World) : Calls Tryd.prog 37 #[.int .i64 121665] w fun e w' => e = .returned (numVal (limb5 121665)) ∧ Below w.heap.size w w' := by
  have h := smallE_any 121665 w (by decide) (by decide)
  rw [show smallN 121665 = 121665 by decide +kernel] at h
  exact h
theorem nought_any (w : World) : Calls Tryd.prog 22 #[] w fun e w' => e = .returned (numVal (ptL (1, 0))) ∧ Below w.heap.size w w' :=
  nought_over (limb5 1) (ptL (1, 0)) w rfl small_one (build_pt1 (limb5 1) rfl)
theorem at_any (u : Nat) (w : World) : Calls Tryd.prog 23 #[numVal (limb5 u)] w fun e w' => e = .returned (numVal (ptL (u, 1))) ∧ Below w.heap.size w w' :=
  at_over (limb5 u) (limb5 1) (ptL (u, 1)) w rfl rfl small_one (build_pt (limb5 u) (limb5 1) rfl rfl)
theorem twice_any (a : Nat × Nat) (w : World) (h1 : a.1 < pp) (h2 : a.2 < pp) : Calls Tryd.prog 26 #[numVal (ptL a)] w fun e w' => e = .returned (numVal (ptL (dblP a))) ∧ Below w.heap.size w w' :=
  twice_over (ptL a) (limb5 a.1) (limb5 a.2) (limb5 (fA a.1 a.2)) (limb5 (smP a)) (limb5 (fS a.1 a.2)) (limb5 (lesP a)) (limb5 (btwP a)) (limb5 (fM (smP a) (lesP a))) (limb5 121665) (limb5 (fM (btwP a) 121665)) (limb5 (fA (smP a) (fM (btwP a) 121665))) (limb5 (fM (btwP a) (fA (smP a) (fM (btwP a) 121665)))) (ptL (dblP a)) w rfl rfl rfl rfl rfl rfl rfl
    (fun W => eAdd_any a.1 a.2 W h1 h2) (fun W => eSquare_any _ W (fA_lt _ _)) (fun W => eSub_any a.1 a.2 W h1 h2) (fun W => eSquare_any _ W (fS_lt _ _)) (fun W => eSub_any (smP a) (lesP a) W (fM_lt _ _) (fM_lt _ _)) (fun W => eTimes_any (smP a) (lesP a) W (fM_lt _ _) (fM_lt _ _)) small_quarter
    (fun W => eTimes_any (btwP a) 121665 W (fS_lt _ _) (by decide)) (fun W => eAdd_any (smP a) _ W (fM_lt _ _) (fM_lt _ _)) (fun W => eTimes_any (btwP a) _ W (fS_lt _ _) (fA_lt _ _)) (build_pt _ _ rfl rfl)
end Go.Proofs.YtlhgabhjbnckkaaDoor
