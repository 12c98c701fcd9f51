/- Part 12 of what the laws of this seat share: NRep, NBase, NLadder, NMeet, JMath, BMath, UPoint. -/
import Derived.Deep.MidRow
import Derived.Test.YtagjbdhelfickaaDoorPart11
namespace Go.Proofs.YtagjbdhelfickaaDoor.NP
/-- The same modulo P. -/
def Cg (P a b : Int) : Prop := P ∣ a - b
theorem Cg.refl {P : Int} (a : Int) : Cg P a a := ⟨0, by omega⟩
theorem Cg.add {P a b a' b' : Int} (h : Cg P a a') (k : Cg P b b') : Cg P (a + b) (a' + b') := by
  obtain ⟨u, hu⟩ := h
  obtain ⟨v, hv⟩ := k
  exact ⟨u + v, by rw [Int.mul_add, ← hu, ← hv]; omega⟩
theorem Cg.sub {P a b a' b' : Int} (h : Cg P a a') (k : Cg P b b') : Cg P (a - b) (a' - b') := by
  obtain ⟨u, hu⟩ := h
  obtain ⟨v, hv⟩ := k
  exact ⟨u - v, by rw [Int.mul_sub, ← hu, ← hv]; omega⟩
theorem Cg.mul {P a b a' b' : Int} (h : Cg P a a') (k : Cg P b b') : Cg P (a * b) (a' * b') := by
  obtain ⟨u, hu⟩ := h
  obtain ⟨v, hv⟩ := k
  exact ⟨u * b + a' * v, by grind⟩
theorem Cg.trans {P a b c : Int} (h : Cg P a b) (k : Cg P b c) : Cg P a c := by
  have := Int.dvd_add h k
  rwa [show a - b + (b - c) = a - c by omega] at this
theorem Cg.dvd {P a b : Int} (h : Cg P a b) (hd : P ∣ a) : P ∣ b := by
  have := Int.dvd_sub hd h
  rwa [show a - (a - b) = b by omega] at this
theorem Cg.least (P a : Int) : Cg P (a % P) a := ⟨-(a / P), by have := Int.mul_ediv_add_emod a P; rw [Int.mul_neg]; omega⟩
theorem Cg.swap {P a b : Int} (h : Cg P a b) : Cg P b a := by
  obtain ⟨u, hu⟩ := h
  exact ⟨-u, by rw [Int.mul_neg, ← hu]; omega⟩
/-- A point over one denominator. -/
structure Rep {P : Nat} {d : Int} (p : Pt P d) (X Y Z : Int) : Prop where
  nz : ¬ (P : Int) ∣ Z
  hx : Cg P X (p.x * Z)
  hy : Cg P Y (p.y * Z)
theorem Rep.of {P : Nat} {d : Int} {p : Pt P d} {X Y Z X' Y' Z' : Int} (h : Rep p X Y Z) (hX : Cg P X' X) (hY : Cg P Y' Y) (hZ : Cg P Z' Z) : Rep p X' Y' Z' :=
  ⟨fun hd => h.nz (hZ.dvd hd), (hX.trans h.hx).trans ((Cg.refl _).mul hZ.swap), (hY.trans h.hy).trans ((Cg.refl _).mul hZ.swap)⟩
/-- The sum over one denominator. -/
def sumX (d X1 Y1 Z1 X2 Y2 Z2 : Int) : Int := Z1 * Z2 * (Z1 * Z2 * (Z1 * Z2) - d * (X1 * X2) * (Y1 * Y2)) * ((X1 + Y1) * (X2 + Y2) - X1 * X2 - Y1 * Y2)
def sumY (d X1 Y1 Z1 X2 Y2 Z2 : Int) : Int := Z1 * Z2 * (Z1 * Z2 * (Z1 * Z2) + d * (X1 * X2) * (Y1 * Y2)) * (Y1 * Y2 + X1 * X2)
def sumZ (d X1 Y1 Z1 X2 Y2 Z2 : Int) : Int := (Z1 * Z2 * (Z1 * Z2) - d * (X1 * X2) * (Y1 * Y2)) * (Z1 * Z2 * (Z1 * Z2) + d * (X1 * X2) * (Y1 * Y2))
theorem Rep.add {P : Nat} {d i : Int} (h : Edw P d i) {p q : Pt P d} {X1 Y1 Z1 X2 Y2 Z2 : Int} (r1 : Rep p X1 Y1 Z1) (r2 : Rep q X2 Y2 Z2) : Rep (h.add p q) (sumX d X1 Y1 Z1 X2 Y2 Z2) (sumY d X1 Y1 Z1 X2 Y2 Z2) (sumZ d X1 Y1 Z1 X2 Y2 Z2) := by
  obtain ⟨⟨a, ha⟩, ⟨b, hb⟩⟩ := h.add_is p q
  have hp := h.plus p.on q.on
  have hm := h.less p.on q.on
  obtain ⟨n1, cx1, cy1⟩ := r1
  obtain ⟨n2, cx2, cy2⟩ := r2
  have cC := cx1.mul cx2
  have cD := cy1.mul cy2
  have cE := ((Cg.refl (P := P) d).mul cC).mul cD
  have cF := (Cg.refl (P := P) (Z1 * Z2 * (Z1 * Z2))).sub cE
  have cG := (Cg.refl (P := P) (Z1 * Z2 * (Z1 * Z2))).add cE
  have cS := (((cx1.add cy1).mul (cx2.add cy2)).sub cC).sub cD
  have cW := Cg.refl (P := P) (Z1 * Z2)
  have cX := (cW.mul cF).mul cS
  have cY := (cW.mul cG).mul (cD.add cC)
  have cZ := cF.mul cG
  obtain ⟨s, hs⟩ : ∃ s, (h.add p q).x = s := ⟨_, rfl⟩
  obtain ⟨t, ht⟩ : ∃ t, (h.add p q).y = t := ⟨_, rfl⟩
  rw [hs] at ha
  rw [ht] at hb
  generalize p.x = x1 at *
  generalize p.y = y1 at *
  generalize q.x = x2 at *
  generalize q.y = y2 at *
  have eZ : (Z1 * Z2 * (Z1 * Z2) - d * (x1 * Z1 * (x2 * Z2)) * (y1 * Z1 * (y2 * Z2))) * (Z1 * Z2 * (Z1 * Z2) + d * (x1 * Z1 * (x2 * Z2)) * (y1 * Z1 * (y2 * Z2))) = Z1 * Z2 * (Z1 * Z2) * (Z1 * Z2 * (Z1 * Z2)) * ((1 + d*x1*x2*y1*y2) * (1 - d*x1*x2*y1*y2)) := by grind
  have two : ∀ {x y : Int}, ¬ (P : Int) ∣ x → ¬ (P : Int) ∣ y → ¬ (P : Int) ∣ x * y := fun hx hy hd => by
    rcases h.prime.int hd with h8 | h8
    · exact hx h8
    · exact hy h8
  have hW := two n1 n2
  refine ⟨fun hd => ?_, ?_, ?_⟩
  · have h9 := cZ.dvd hd
    rw [eZ] at h9
    exact two (two (two hW hW) (two hW hW)) (two hp hm) h9
  · rw [hs]
    refine (cX.trans ?_).trans ((Cg.refl s).mul cZ.swap)
    exact ⟨-(a * (Z1 * Z2 * (Z1 * Z2)) * (Z1 * Z2 * (Z1 * Z2)) * (1 - d*x1*x2*y1*y2)), by grind⟩
  · rw [ht]
    refine (cY.trans ?_).trans ((Cg.refl t).mul cZ.swap)
    exact ⟨-(b * (Z1 * Z2 * (Z1 * Z2)) * (Z1 * Z2 * (Z1 * Z2)) * (1 + d*x1*x2*y1*y2)), by grind⟩
/-- A multiple, by doubling, all modulo P. -/
def addR (P d : Int) (p q : Int × Int × Int) : Int × Int × Int := (sumX d p.1 p.2.1 p.2.2 q.1 q.2.1 q.2.2 % P, sumY d p.1 p.2.1 p.2.2 q.1 q.2.1 q.2.2 % P, sumZ d p.1 p.2.1 p.2.2 q.1 q.2.1 q.2.2 % P)
def mulR (P d : Int) (b : Int × Int × Int) : Nat → Nat → Int × Int × Int
  | 0, _ => (0, 1, 1)
  | f + 1, n => bif Nat.beq n 0 then (0, 1, 1) else bif Nat.beq (n % 2) 1 then addR P d (addR P d (mulR P d b f (n / 2)) (mulR P d b f (n / 2))) b else addR P d (mulR P d b f (n / 2)) (mulR P d b f (n / 2))
theorem Rep.addR {P : Nat} {d i : Int} (h : Edw P d i) {p q : Pt P d} {u v : Int × Int × Int} (r1 : Rep p u.1 u.2.1 u.2.2) (r2 : Rep q v.1 v.2.1 v.2.2) : Rep (h.add p q) (addR P d u v).1 (addR P d u v).2.1 (addR P d u v).2.2 :=
  (Rep.add h r1 r2).of (Cg.least _ _) (Cg.least _ _) (Cg.least _ _)
theorem Rep.zero {P : Nat} {d i : Int} (h : Edw P d i) : Rep h.zero 0 1 1 := ⟨h.prime.not_one, by show Cg P 0 (0 * 1); exact Cg.refl _, by show Cg P 1 (1 * 1); exact Cg.refl _⟩
theorem Rep.mulR {P : Nat} {d i : Int} (h : Edw P d i) {p : Pt P d} {b : Int × Int × Int} (r : Rep p b.1 b.2.1 b.2.2) : ∀ f n, n < 2 ^ f → Rep (h.mul p n) (mulR P d b f n).1 (mulR P d b f n).2.1 (mulR P d b f n).2.2
  | 0, n, hn => by
    obtain rfl : n = 0 := by simpa using hn
    exact Rep.zero h
  | f + 1, n, hn => by
    rw [Nat.pow_succ] at hn
    have ih := Rep.mulR h r f (n / 2) (by omega)
    have i2 := Rep.addR h ih ih
    rw [← h.mul_add] at i2
    unfold NP.mulR
    by_cases h0 : n = 0
    · subst h0
      exact Rep.zero h
    · rw [show Nat.beq n 0 = false from Bool.eq_false_iff.2 (fun c => h0 (Nat.eq_of_beq_eq_true c))]
      rcases Nat.mod_two_eq_zero_or_one n with h3 | h3
      · rw [h3, cond_false, show Nat.beq 0 1 = false from rfl, cond_false]
        rw [show n / 2 + n / 2 = n by omega] at i2
        exact i2
      · rw [h3, cond_false, show Nat.beq 1 1 = true from rfl, cond_true]
        have i3 := Rep.addR h i2 r
        have e : h.add (h.mul p (n / 2 + n / 2)) p = h.mul p n := by
          show h.mul p (n / 2 + n / 2 + 1) = h.mul p n
          rw [show n / 2 + n / 2 + 1 = n by omega]
        rw [e] at i3
        exact i3
end Go.Proofs.YtagjbdhelfickaaDoor.NP
namespace Go.Proofs.YtagjbdhelfickaaDoor.NP
def bxE : Int := 15112221349535400772501151409588531511454012693041857206046113283949847762202
def byE : Int := 46316835694926478169428394003475163141307993866256225615783033603165251855960
/-- The base point. -/
def bE : Pt PP dE where
  x := bxE
  y := byE
  on := by unfold On; decide +kernel
  xl := by decide +kernel
  yl := by decide +kernel
theorem bE_rep : Rep bE bxE byE 1 := ⟨pr_P.not_one, by show Cg _ bxE (bxE * 1); rw [Int.mul_one]; exact Cg.refl _, by show Cg _ byE (byE * 1); rw [Int.mul_one]; exact Cg.refl _⟩
set_option maxRecDepth 100000 in
theorem order_run : (mulR PP dE (bxE, byE, 1) 253 LL).1 = 0 ∧ (mulR PP dE (bxE, byE, 1) 253 LL).2.1 = (mulR PP dE (bxE, byE, 1) 253 LL).2.2 := by decide +kernel
theorem order_zero : edw.mul bE LL = edw.zero := by
  have r := Rep.mulR edw (b := (bxE, byE, 1)) bE_rep 253 LL (by decide +kernel)
  obtain ⟨h1, h2⟩ := order_run
  rw [h1, h2] at r
  generalize (mulR PP dE (bxE, byE, 1) 253 LL).2.2 = Z at *
  generalize edw.mul bE LL = q at *
  obtain ⟨nz, ⟨a, ha⟩, ⟨b, hb⟩⟩ := r
  refine Pt.same ?_ ?_
  · show ((PP : Nat) : Int) ∣ q.x - 0
    refine (edw.prime.int (show ((PP : Nat) : Int) ∣ (q.x - 0) * Z from ⟨-a, ?_⟩)).resolve_right nz
    rw [Int.mul_neg, ← ha, Int.sub_zero]
    omega
  · show ((PP : Nat) : Int) ∣ q.y - 1
    refine (edw.prime.int (show ((PP : Nat) : Int) ∣ (q.y - 1) * Z from ⟨-b, ?_⟩)).resolve_right nz
    rw [Int.mul_neg, ← hb, Int.sub_mul]
    omega
theorem Edw.mul_zero {P : Nat} {d i : Int} (h : Edw P d i) : ∀ n, h.mul h.zero n = h.zero
  | 0 => rfl
  | n + 1 => by
    show h.add (h.mul h.zero n) h.zero = h.zero
    rw [h.mul_zero n, h.zero_add]
end Go.Proofs.YtagjbdhelfickaaDoor.NP
namespace Go.Proofs.YtagjbdhelfickaaDoor.NP
/-- X : Z is the point's u-coordinate. -/
structure RepU {P : Nat} {d : Int} (p : Pt P d) (X Z : Int) : Prop where
  nz : ¬ (P : Int) ∣ X + Z
  hu : Cg P (X - Z) (p.y * (X + Z))
end Go.Proofs.YtagjbdhelfickaaDoor.NP
namespace Go.Proofs.YtagjbdhelfickaaDoor.NP
end Go.Proofs.YtagjbdhelfickaaDoor.NP
namespace Go.Proofs.YtagjbdhelfickaaDoor
open Go.RowKit
def fA (n m : Nat) : Nat := (n + m) % pp
def fS (n m : Nat) : Nat := (n + (pp - m)) % pp
def fM (n m : Nat) : Nat := n * m % pp
theorem fA_lt (n m : Nat) : fA n m < pp := Nat.mod_lt _ (by decide)
theorem fS_lt (n m : Nat) : fS n m < pp := Nat.mod_lt _ (by decide)
theorem fM_lt (n m : Nat) : fM n m < pp := Nat.mod_lt _ (by decide)
/-- n modulo p, to the power p - 2. -/
def ivN (n : Nat) : Nat := n ^ (pp - 2) % pp
namespace NP
theorem cgA (P n m : Nat) : Cg (P : Int) (((n + m) % P : Nat) : Int) ((n : Int) + m) := by rw [Int.natCast_emod, Int.natCast_add]; exact Cg.least _ _
theorem cgM (P n m : Nat) : Cg (P : Int) ((n * m % P : Nat) : Int) ((n : Int) * m) := by rw [Int.natCast_emod, Int.natCast_mul]; exact Cg.least _ _
theorem cgS (P n m : Nat) (hm : m < P) : Cg (P : Int) (((n + (P - m)) % P : Nat) : Int) ((n : Int) - m) := by
  rw [Int.natCast_emod]
  refine (Cg.least _ _).trans ⟨1, ?_⟩
  omega
theorem RepU.of {P : Nat} {d : Int} {p : Pt P d} {X Z X' Z' : Int} (r : RepU p X Z) (hX : Cg P X' X) (hZ : Cg P Z' Z) : RepU p X' Z' :=
  ⟨fun h => r.nz ((hX.add hZ).dvd h), ((hX.sub hZ).trans r.hu).trans ((Cg.refl _).mul (hX.add hZ).swap)⟩
theorem cg_A (n m : Nat) : Cg ((PP : Nat) : Int) ((fA n m : Nat) : Int) ((n : Int) + m) := cgA PP n m
theorem cg_M (n m : Nat) : Cg ((PP : Nat) : Int) ((fM n m : Nat) : Int) ((n : Int) * m) := cgM PP n m
theorem cg_S (n m : Nat) (hm : m < pp) : Cg ((PP : Nat) : Int) ((fS n m : Nat) : Int) ((n : Int) - m) := cgS PP n m hm
end NP
end Go.Proofs.YtagjbdhelfickaaDoor
namespace Go.Proofs.YtagjbdhelfickaaDoor
open Go.RowKit
/-- The curve's d. -/
def dNat : Nat := 37095705934669439343138083508754565189542113879843219016388785533085940283555
abbrev Tri := Nat × Nat × Nat
/-- The sum, as the document has it. -/
def triZ (p q : Tri) : Nat := fM p.2.2 q.2.2
def triZZ (p q : Tri) : Nat := fM (triZ p q) (triZ p q)
def triXX (p q : Tri) : Nat := fM p.1 q.1
def triYY (p q : Tri) : Nat := fM p.2.1 q.2.1
def triE (p q : Tri) : Nat := fM dNat (fM (triXX p q) (triYY p q))
def triMore (p q : Tri) : Nat := fA (triZZ p q) (triE p q)
def triLess (p q : Tri) : Nat := fS (triZZ p q) (triE p q)
def triCross (p q : Tri) : Nat := fA (fM p.1 q.2.1) (fM q.1 p.2.1)
def sumT (p q : Tri) : Tri := (fM (fM (triZ p q) (triCross p q)) (triLess p q), fM (fM (triZ p q) (fA (triYY p q) (triXX p q))) (triMore p q), fM (triMore p q) (triLess p q))
def TriLt (t : Tri) : Prop := t.1 < pp ∧ t.2.1 < pp ∧ t.2.2 < pp
theorem sumT_lt (p q : Tri) : TriLt (sumT p q) := ⟨fM_lt _ _, fM_lt _ _, fM_lt _ _⟩
namespace NP
theorem dNat_is : (dNat : Int) = dE := by decide +kernel
/-- These three numbers stand for the point. -/
structure RepN (p : Pt PP dE) (t : Tri) : Prop where
  rep : Rep p t.1 t.2.1 t.2.2
  lt : TriLt t
theorem ring_x (X1 Y1 Z1 X2 Y2 Z2 d : Int) : Z1 * Z2 * (X1 * Y2 + X2 * Y1) * (Z1 * Z2 * (Z1 * Z2) - d * (X1 * X2 * (Y1 * Y2))) = sumX d X1 Y1 Z1 X2 Y2 Z2 := by
  unfold sumX
  grind
theorem ring_y (X1 Y1 Z1 X2 Y2 Z2 d : Int) : Z1 * Z2 * (Y1 * Y2 + X1 * X2) * (Z1 * Z2 * (Z1 * Z2) + d * (X1 * X2 * (Y1 * Y2))) = sumY d X1 Y1 Z1 X2 Y2 Z2 := by
  unfold sumY
  grind
theorem ring_z (X1 Y1 Z1 X2 Y2 Z2 d : Int) : (Z1 * Z2 * (Z1 * Z2) + d * (X1 * X2 * (Y1 * Y2))) * (Z1 * Z2 * (Z1 * Z2) - d * (X1 * X2 * (Y1 * Y2))) = sumZ d X1 Y1 Z1 X2 Y2 Z2 := by
  unfold sumZ
  grind
theorem sumT_rep {p q : Pt PP dE} {s t : Tri} (r1 : RepN p s) (r2 : RepN q t) : RepN (edw.add p q) (sumT s t) := by
  refine ⟨?_, sumT_lt _ _⟩
  have h := Rep.add edw r1.rep r2.rep
  have hz := cg_M s.2.2 t.2.2
  have hzz := (cg_M (triZ s t) (triZ s t)).trans (hz.mul hz)
  have hxx := cg_M s.1 t.1
  have hyy := cg_M s.2.1 t.2.1
  have he := (cg_M dNat _).trans ((Cg.refl (dNat : Int)).mul ((cg_M (triXX s t) (triYY s t)).trans (hxx.mul hyy)))
  rw [dNat_is] at he
  have hm := (cg_A (triZZ s t) (triE s t)).trans (hzz.add he)
  have hl := (cg_S (triZZ s t) (triE s t) (fM_lt _ _)).trans (hzz.sub he)
  have hc := (cg_A (fM s.1 t.2.1) (fM t.1 s.2.1)).trans ((cg_M s.1 t.2.1).add (cg_M t.1 s.2.1))
  have hx := (cg_M (fM (triZ s t) (triCross s t)) (triLess s t)).trans (((cg_M (triZ s t) (triCross s t)).trans (hz.mul hc)).mul hl)
  have hy := (cg_M (fM (triZ s t) (fA (triYY s t) (triXX s t))) (triMore s t)).trans (((cg_M (triZ s t) (fA (triYY s t) (triXX s t))).trans (hz.mul ((cg_A (triYY s t) (triXX s t)).trans (hyy.add hxx)))).mul hm)
  have hw := (cg_M (triMore s t) (triLess s t)).trans (hm.mul hl)
  rw [ring_x] at hx
  rw [ring_y] at hy
  rw [ring_z] at hw
  exact h.of hx hy hw
/-- The neutral point, and the base point. -/
theorem zeroT_rep : RepN edw.zero (0, 1, 1) := ⟨Rep.zero edw, by show 0 < pp; decide, by show 1 < pp; decide, by show 1 < pp; decide⟩
theorem baseT_rep : RepN bE (15112221349535400772501151409588531511454012693041857206046113283949847762202, 46316835694926478169428394003475163141307993866256225615783033603165251855960, 1) := ⟨bE_rep, by show _ < pp; decide, by show _ < pp; decide, by show 1 < pp; decide⟩
/-- A point turned round. -/
theorem negT_rep {p : Pt PP dE} {t : Tri} (r : RepN p t) : RepN p.neg (fS 0 t.1, t.2.1, t.2.2) := by
  obtain ⟨⟨nz, hx, hy⟩, h1, h2, h3⟩ := r
  refine ⟨⟨nz, ?_, hy⟩, fS_lt _ _, h2, h3⟩
  have h := (cg_S 0 t.1 h1).trans ((Cg.refl ((0 : Nat) : Int)).sub hx)
  refine h.trans ?_
  have e : Cg ((PP : Nat) : Int) p.neg.x (-p.x) := Cg.least _ _
  refine Cg.trans ?_ (e.swap.mul (Cg.refl _))
  rw [show ((0 : Nat) : Int) - p.x * (t.2.2 : Int) = -p.x * (t.2.2 : Int) by rw [Int.neg_mul]; omega]
  exact Cg.refl _
/-- A point's own numbers. -/
def Pt.X (p : Pt PP dE) : Nat := p.x.toNat
def Pt.Y (p : Pt PP dE) : Nat := p.y.toNat
theorem least_nat {P : Nat} (hP : 0 < P) {x : Int} (h : x % (P : Int) = x) : 0 ≤ x ∧ x < P := by
  have h1 := Int.emod_nonneg x (show (P : Int) ≠ 0 by omega)
  have h2 := Int.emod_lt_of_pos x (show (0 : Int) < P by omega)
  omega
theorem Pt.X_is (p : Pt PP dE) : ((Pt.X p : Nat) : Int) = p.x ∧ Pt.X p < pp := by
  have h := least_nat (show 0 < PP by decide) p.xl
  have h2 : p.x < ((pp : Nat) : Int) := h.2
  unfold Pt.X
  omega
theorem Pt.Y_is (p : Pt PP dE) : ((Pt.Y p : Nat) : Int) = p.y ∧ Pt.Y p < pp := by
  have h := least_nat (show 0 < PP by decide) p.yl
  have h2 : p.y < ((pp : Nat) : Int) := h.2
  unfold Pt.Y
  omega
/-- A number below P that is a point's coordinate times Z, over Z. -/
theorem over_is {P : Nat} (hP : Pr P) {x z k iv u : Nat} (hk : k + 2 = P) (hi : iv = z ^ k % P) (hz : ¬ (P : Int) ∣ (z : Int)) (hx : Cg P (x : Int) ((u : Int) * z)) (hu : u < P) : x * iv % P = u := by
  have hn : ¬ P ∣ z := fun h => hz (Int.natCast_dvd_natCast.2 h)
  have hl := hP.little hn
  rw [show P - 1 = k + 1 by omega, Nat.pow_succ] at hl
  have h3 : (iv * z) % P = 1 := by rw [hi, Nat.mod_mul_mod]; exact hl
  have h4 := (cgM P iv z).swap
  rw [h3, Int.mul_comm] at h4
  have h5 := (cgM P x iv).trans (hx.mul (Cg.refl (iv : Int)))
  rw [Int.mul_assoc] at h5
  have h6 := h5.trans ((Cg.refl (u : Int)).mul h4)
  have h7 : Cg (P : Int) ((x * iv % P : Nat) : Int) (u : Int) := by
    have : ((1 : Nat) : Int) = 1 := rfl
    rw [this, Int.mul_one] at h6
    exact h6
  obtain ⟨q, hq⟩ := h7
  have hlt := Nat.mod_lt (x * iv) (show 0 < P by have := hP.1; omega)
  generalize x * iv % P = v at *
  have h2 : q = 0 := by
    rcases Int.lt_trichotomy q 0 with h | h | h
    · have := Int.mul_le_mul_of_nonneg_left (show q ≤ -1 by omega) (show (0 : Int) ≤ P by omega)
      omega
    · exact h
    · have := Int.mul_le_mul_of_nonneg_left (show 1 ≤ q by omega) (show (0 : Int) ≤ P by omega)
      omega
  subst h2
  omega
/-- The quotients are the point's own numbers. -/
theorem RepN.over {p : Pt PP dE} {t : Tri} (r : RepN p t) : fM t.1 (ivN t.2.2) = Pt.X p ∧ fM t.2.1 (ivN t.2.2) = Pt.Y p := by
  obtain ⟨⟨nz, hx, hy⟩, -, -, -⟩ := r
  have hk : pp - 2 + 2 = PP := by decide
  rw [← (Pt.X_is p).1] at hx
  rw [← (Pt.Y_is p).1] at hy
  exact ⟨over_is pr_P hk rfl nz hx (Pt.X_is p).2, over_is pr_P hk rfl nz hy (Pt.Y_is p).2⟩
theorem Pt.eq_of {p q : Pt PP dE} (hx : Pt.X p = Pt.X q) (hy : Pt.Y p = Pt.Y q) : p = q := by
  refine Pt.same ?_ ?_
  · rw [← (Pt.X_is p).1, ← (Pt.X_is q).1, hx, Int.sub_self]; exact ⟨0, (Int.mul_zero _).symm⟩
  · rw [← (Pt.Y_is p).1, ← (Pt.Y_is q).1, hy, Int.sub_self]; exact ⟨0, (Int.mul_zero _).symm⟩
end NP
/-- So many times a point: the bits from the high one on. -/
def mulT (b : Nat → Bool) (p : Tri) : Nat → Tri
  | 0 => (0, 1, 1)
  | j + 1 => bif b (255 - j) then sumT (sumT (mulT b p j) (mulT b p j)) p else sumT (mulT b p j) (mulT b p j)
/-- h times a point and s times another, whose sum is both. -/
def withT (h s : Nat → Bool) (p q both : Tri) : Nat → Tri
  | 0 => (0, 1, 1)
  | j + 1 => bif h (255 - j) then (bif s (255 - j) then sumT (sumT (withT h s p q both j) (withT h s p q both j)) both else sumT (sumT (withT h s p q both j) (withT h s p q both j)) p)
    else (bif s (255 - j) then sumT (sumT (withT h s p q both j) (withT h s p q both j)) q else sumT (withT h s p q both j) (withT h s p q both j))
namespace NP
/-- The number that the bits from 255 on make. -/
def topN (b : Nat → Bool) : Nat → Nat
  | 0 => 0
  | j + 1 => 2 * topN b j + (b (255 - j)).toNat
theorem topN_is {A : Nat} (hA : A < 115792089237316195423570985008687907853269984665640564039457584007913129639936) {b : Nat → Bool} (hb : ∀ i, i < 256 → b i = decide (A / 2 ^ i % 2 = 1)) : ∀ j k, j + k = 256 → topN b j = A / 2 ^ k
  | 0, k, h => by
    obtain rfl : k = 256 := by omega
    exact (Nat.div_eq_of_lt (by rw [show (2 : Nat) ^ 256 = 115792089237316195423570985008687907853269984665640564039457584007913129639936 from by decide +kernel]; exact hA)).symm
  | j + 1, k, h => by
    have ih := topN_is hA hb j (k + 1) (by omega)
    rw [Nat.pow_succ, ← Nat.div_div_eq_div_mul] at ih
    show 2 * topN b j + (b (255 - j)).toNat = _
    rw [ih, show 255 - j = k by omega, hb k (by omega)]
    generalize A / 2 ^ k = q
    by_cases h1 : q % 2 = 1
    · rw [decide_eq_true h1, Bool.toNat_true]; omega
    · rw [decide_eq_false h1, Bool.toNat_false]; omega
theorem mul_two {p : Pt PP dE} (n : Nat) : edw.add (edw.mul p n) (edw.mul p n) = edw.mul p (2 * n) := by
  rw [← edw.mul_add]
  congr 1
  omega
theorem mulT_rep {p : Pt PP dE} {t : Tri} (r : RepN p t) (b : Nat → Bool) : ∀ j, RepN (edw.mul p (topN b j)) (mulT b t j)
  | 0 => zeroT_rep
  | j + 1 => by
    have ih := mulT_rep r b j
    have h2 := sumT_rep ih ih
    rw [mul_two] at h2
    show RepN (edw.mul p (2 * topN b j + (b (255 - j)).toNat)) (bif b (255 - j) then _ else _)
    cases b (255 - j)
    · exact h2
    · exact sumT_rep h2 r
theorem four_sum (a b c d : Pt PP dE) : edw.add (edw.add a b) (edw.add c d) = edw.add (edw.add a c) (edw.add b d) := by
  rw [edw.add_assoc, ← edw.add_assoc b c d, edw.add_comm b c, edw.add_assoc c b d, ← edw.add_assoc]
theorem withT_rep {p q : Pt PP dE} {t u v : Tri} (r1 : RepN p t) (r2 : RepN q u) (r3 : RepN (edw.add p q) v) (h s : Nat → Bool) : ∀ j, RepN (edw.add (edw.mul p (topN h j)) (edw.mul q (topN s j))) (withT h s t u v j)
  | 0 => by
    show RepN (edw.add edw.zero edw.zero) _
    rw [edw.zero_add]
    exact zeroT_rep
  | j + 1 => by
    have ih := withT_rep r1 r2 r3 h s j
    have h2 := sumT_rep ih ih
    rw [four_sum, mul_two, mul_two] at h2
    show RepN (edw.add (edw.mul p (2 * topN h j + (h (255 - j)).toNat)) (edw.mul q (2 * topN s j + (s (255 - j)).toNat))) (bif h (255 - j) then (bif s (255 - j) then _ else _) else (bif s (255 - j) then _ else _))
    generalize topN h j = m at *
    generalize topN s j = n at *
    cases h (255 - j) <;> cases s (255 - j)
    · exact h2
    · have h3 := sumT_rep h2 r2
      rw [edw.add_assoc] at h3
      exact h3
    · have h3 := sumT_rep h2 r1
      rw [edw.add_assoc, edw.add_comm (edw.mul q (2 * n)) p, ← edw.add_assoc] at h3
      exact h3
    · have h3 := sumT_rep h2 r3
      rw [four_sum] at h3
      exact h3
/-- So many times the point, of a number of 256 bits. -/
theorem mulT_all {p : Pt PP dE} {t : Tri} (r : RepN p t) {A : Nat} (hA : A < 115792089237316195423570985008687907853269984665640564039457584007913129639936) {b : Nat → Bool} (hb : ∀ i, i < 256 → b i = decide (A / 2 ^ i % 2 = 1)) : RepN (edw.mul p A) (mulT b t 256) := by
  have h := mulT_rep r b 256
  rw [topN_is hA hb 256 0 rfl, Nat.pow_zero, Nat.div_one] at h
  exact h
theorem withT_all {p q : Pt PP dE} {t u v : Tri} (r1 : RepN p t) (r2 : RepN q u) (r3 : RepN (edw.add p q) v) {A B : Nat} (hA : A < 115792089237316195423570985008687907853269984665640564039457584007913129639936) (hB : B < 115792089237316195423570985008687907853269984665640564039457584007913129639936) {a b : Nat → Bool} (ha : ∀ i, i < 256 → a i = decide (A / 2 ^ i % 2 = 1)) (hb : ∀ i, i < 256 → b i = decide (B / 2 ^ i % 2 = 1)) :
    RepN (edw.add (edw.mul p A) (edw.mul q B)) (withT a b t u v 256) := by
  have h := withT_rep r1 r2 r3 a b 256
  rw [topN_is hA ha 256 0 rfl, topN_is hB hb 256 0 rfl, Nat.pow_zero, Nat.div_one, Nat.div_one] at h
  exact h
end NP
end Go.Proofs.YtagjbdhelfickaaDoor
namespace Go.Proofs.YtagjbdhelfickaaDoor
open Go.RowKit
theorem zero_up : ∀ w, (zeroValue 31).run Tryd.prog w = .ok (.agg (nzeros 15).toArray) w := (zero_of_info (P := Tryd.prog) (t := 31) (v := .agg (nzeros 15).toArray) (n := 15) (by kernel_rfl)).1
theorem size_up : (Tryd.prog.info? 31).map (·.size) = some 15 := by kernel_rfl
theorem build_up (a b c : List Nat) (ha : a.length = 5) (hb : b.length = 5) (hc : c.length = 5) (w : World) : (Instr.build 31 #[(0, numVal a), (1, numVal b), (2, numVal c)]).run Tryd.prog w = .ok (numVal (a ++ b ++ c)) w := by
  obtain ⟨a0, a1, a2, a3, a4, rfl⟩ := list5 ha
  obtain ⟨b0, b1, b2, b3, b4, rfl⟩ := list5 hb
  obtain ⟨c0, c1, c2, c3, c4, rfl⟩ := list5 hc
  kernel_rfl
theorem field_u0 (g : Nat) (w : World) : (Instr.fieldAt 31 (.pointer (some ⟨g, 0, none⟩)) 0).run Tryd.prog w = .ok (.pointer (some ⟨g, 0, none⟩)) w := by kernel_rfl
theorem field_u1 (g : Nat) (w : World) : (Instr.fieldAt 31 (.pointer (some ⟨g, 0, none⟩)) 1).run Tryd.prog w = .ok (.pointer (some ⟨g, 5, none⟩)) w := by kernel_rfl
theorem field_u2 (g : Nat) (w : World) : (Instr.fieldAt 31 (.pointer (some ⟨g, 0, none⟩)) 2).run Tryd.prog w = .ok (.pointer (some ⟨g, 10, none⟩)) w := by kernel_rfl
theorem up_run {w : World} {g : Nat} {l : List Nat} {t' : TypeId} (hC : Cells w g (l.map ncell) t') (hl : l.length = 15) : (Instr.loadAt 31 (.pointer (some ⟨g, 0, none⟩))).run Tryd.prog w = .ok (numVal l) w := by
  have h := run_loadVar_row (P := Tryd.prog) w g t' 31 (l.map ncell).toArray (0, 0) _ hC Tryd.underlying31 rfl (by rw [List.size_toArray, List.length_map, hl]; exact size_up)
  simp only [Instr.loadAt, Instr.sureAddr, Sem.run_bind, Sem.run_pure, Result.andThen_ok]
  exact h
theorem load_u0 {w : World} {g : Nat} {p x y z : List Nat} {t' : TypeId} (hC : Cells w g (p.map ncell) t') (hp : p = x ++ y ++ z) (hx : x.length = 5) : (Instr.loadAt 29 (.pointer (some ⟨g, 0, none⟩))).run Tryd.prog w = .ok (numVal x) w :=
  load_part hC 0 x (by rw [hp, List.drop_zero, List.append_assoc, List.take_append_of_le_length (by omega), List.take_of_length_le (by omega)]) hx
theorem load_u1 {w : World} {g : Nat} {p x y z : List Nat} {t' : TypeId} (hC : Cells w g (p.map ncell) t') (hp : p = x ++ y ++ z) (hx : x.length = 5) (hy : y.length = 5) : (Instr.loadAt 29 (.pointer (some ⟨g, 5, none⟩))).run Tryd.prog w = .ok (numVal y) w :=
  load_part hC 5 y (by rw [hp, List.append_assoc, List.drop_append_of_le_length (by omega), List.drop_of_length_le (by omega), List.nil_append, List.take_append_of_le_length (by omega), List.take_of_length_le (by omega)]) hy
theorem load_u2 {w : World} {g : Nat} {p x y z : List Nat} {t' : TypeId} (hC : Cells w g (p.map ncell) t') (hp : p = x ++ y ++ z) (hx : x.length = 5) (hy : y.length = 5) (hz : z.length = 5) : (Instr.loadAt 29 (.pointer (some ⟨g, 10, none⟩))).run Tryd.prog w = .ok (numVal z) w :=
  load_part hC 10 z (by rw [hp, List.drop_append_of_le_length (by rw [List.length_append]; omega), List.drop_of_length_le (by rw [List.length_append]; omega), List.nil_append, List.take_of_length_le (by omega)]) hz
/-- A point's value: the limbs of X, of Y, of Z. -/
def triU (t : Tri) : List Nat := limb5 t.1 ++ limb5 t.2.1 ++ limb5 t.2.2
theorem triU_length (t : Tri) : (triU t).length = 15 := rfl
theorem build_up0 (w : World) : (Instr.build 31 #[]).run Tryd.prog w = .ok (numVal (triU (0, 0, 0))) w := by kernel_rfl
section
variable {P : Program} {w : World} {ops : Array Oper} {rest : List Oper} {o : Oper} {a : Act} {Q : Exit → Act → World → Prop}
/-- A value stored into the middle of a variable. -/
theorem smid_step (hgd : o.guard = none) (t : TypeId) (x y : Operand) (ho : o.op = .store t x y) (g off n : Nat) (us vs new : List Value) {t' : TypeId} (hx : a.eval x = .pointer (some ⟨g, off, none⟩)) (hy : a.eval y = .agg vs.toArray) (hC : Cells w g us t') (hv : off + n ≤ us.length)
    (hs : (P.info? t).map (·.size) = some n) (hl : vs.length = n) (h1c : vs.toArray.all (·.oneCell') = true) (hnew : splice us off vs = new) (h : ∀ w', But g w w' → Cells w' g new t' → w'.heap.size = w.heap.size → wpList P ops Q rest (a.put o.dst undef) w') : wpList P ops Q (o :: rest) a w := by
  have hsz : vs.toArray.size = n := by rw [List.size_toArray, hl]
  refine wpList_store_mid hgd t x y ho g off vs.toArray hx hy (by rw [hsz]; exact hC.there off n hv) (by rw [hsz]; exact hs) h1c ?_
  have hC2 := hC.setCells (cs := vs) (o := off) (by omega)
  rw [hnew] at hC2
  exact h _ ((But.refl g w).setCells _ _) hC2 (heap_setCells _ _ _ _).2.2.2.1
end
theorem splice_head (n x y z : List Nat) (h : n.length = x.length) : splice ((x ++ y ++ z).map ncell) 0 (n.map ncell) = (n ++ y ++ z).map ncell := by
  rw [splice, List.take_zero, List.nil_append, List.length_map, h, Nat.zero_add, List.append_assoc, List.map_append, List.drop_left' (List.length_map _), ← List.map_append, List.append_assoc]
/-- An element's address in an array, and in a slice. -/
theorem index_run {P : Program} {t e : TypeId} {n s : Nat} {ik : IntKind} (hu : P.underlying t = some (.array n e)) (hs : (P.info? e).map (·.size) = some s) (g o k : Nat) (hk : k < n) (w : World) :
    (Instr.indexAt t (.pointer (some ⟨g, o, none⟩)) (.int ik (k : Int))).run P w = .ok (.pointer (some ⟨g, o + k * s, none⟩)) w := by
  obtain ⟨i0, hi0, hs0⟩ := Option.map_eq_some_iff.1 hs
  have h2 : (0 : Int) ≤ (k : Int) := by omega
  simp [Instr.indexAt, asIntOf, underlying, Instr.sureAddr, sizeOf, typeInfo, hu, hi0, hs0, h2, hk, Addr.add, Result.andThen]
theorem index_slice {P : Program} {t e : TypeId} {n c s : Nat} {ik : IntKind} (hu : P.underlying t = some (.slice e)) (hs : (P.info? e).map (·.size) = some s) (g o k : Nat) (hk : k < n) (w : World) :
    (Instr.indexAt t (.slice (some ⟨g, o, none⟩) n c) (.int ik (k : Int))).run P w = .ok (.pointer (some ⟨g, o + k * s, none⟩)) w := by
  obtain ⟨i0, hi0, hs0⟩ := Option.map_eq_some_iff.1 hs
  have h2 : (0 : Int) ≤ (k : Int) := by omega
  simp [Instr.indexAt, asIntOf, underlying, sizeOf, typeInfo, hu, hi0, hs0, h2, hk, Addr.add, Result.andThen]
end Go.Proofs.YtagjbdhelfickaaDoor
