/- Part 14 of what the laws of this seat share: NGroup, NEdw, NPoints, NRep, NBase, NLadder, NMeet, JMath, BMath, UPoint, GRoot, GRooted, UTabs, USmall. -/
import Derived.Deep.MidRow
import Derived.Deep.Cut
import Derived.Test.YtoggkhjaghkpnaaDoorPart13
namespace Go.Proofs.YtoggkhjaghkpnaaDoor.NP
theorem sum_letters {P d nx ny dp dm x3 y3 a b w : Int} (hx : x3 * dp - nx = P * a) (hy : y3 * dm - ny = P * b) (hs : ny*ny*(dp*dp) - nx*nx*(dm*dm) - dp*dp*(dm*dm) - d*(nx*nx)*(ny*ny) = P * w) :
    (y3*y3 - x3*x3 - 1 - d*x3*x3*y3*y3) * (dp*dp*(dm*dm)) = P * (w + dp*dp*b*(ny + y3*dm) - dm*dm*a*(nx + x3*dp) - d*(a*(nx + x3*dp)*(y3*dm)*(y3*dm) + nx*nx*b*(ny + y3*dm))) := by
  obtain rfl : nx = x3 * dp - P * a := by omega
  obtain rfl : ny = y3 * dm - P * b := by omega
  grind
theorem Edw.on {P : Nat} {d i : Int} (h : Edw P d i) {x1 y1 x2 y2 x3 y3 : Int} (h1 : On P d x1 y1) (h2 : On P d x2 y2) (h3 : Sum P d x1 y1 x2 y2 x3 y3) : On P d x3 y3 := by
  have hp := h.plus h1 h2
  have hm := h.less h1 h2
  obtain ⟨⟨a, ha⟩, ⟨b, hb⟩⟩ := h3
  have hs := sum_on d x1 y1 x2 y2
  have hw : ∃ w, (y1*y2 + x1*x2)*(y1*y2 + x1*x2)*((1 + d*x1*x2*y1*y2)*(1 + d*x1*x2*y1*y2)) - (x1*y2 + x2*y1)*(x1*y2 + x2*y1)*((1 - d*x1*x2*y1*y2)*(1 - d*x1*x2*y1*y2)) - (1 + d*x1*x2*y1*y2)*(1 + d*x1*x2*y1*y2)*((1 - d*x1*x2*y1*y2)*(1 - d*x1*x2*y1*y2)) - d*((x1*y2 + x2*y1)*(x1*y2 + x2*y1))*((y1*y2 + x1*x2)*(y1*y2 + x1*x2)) = (P : Int) * w := by
    rw [hs]
    exact Int.dvd_add (Int.dvd_mul_of_dvd_right h1) (Int.dvd_mul_of_dvd_right h2)
  obtain ⟨w, hw⟩ := hw
  have h4 := sum_letters ha hb hw
  rcases h.prime.int (show (P : Int) ∣ _ from ⟨_, h4⟩) with h5 | h5
  · exact h5
  · rcases h.prime.int h5 with h6 | h6
    · rcases h.prime.int h6 with h7 | h7 <;> exact absurd h7 hp
    · rcases h.prime.int h6 with h7 | h7 <;> exact absurd h7 hm
/-- A sum of a sum, over one denominator. -/
theorem twice_letters {P d nx ny dp dm x3 y3 x4 y4 x5 a b c : Int} (hx : x4 * dp - nx = P * a) (hy : y4 * dm - ny = P * b) (h5 : x5 * (1 + d*x4*x3*y4*y3) - (x4*y3 + x3*y4) = P * c) :
    x5 * (dp*dm + d*nx*ny*x3*y3) - (nx*dm*y3 + ny*dp*x3) = P * (c*dp*dm - x5*d*x3*y3*(a*(y4*dm) + nx*b) + a*dm*y3 + b*dp*x3) := by
  obtain rfl : nx = x4 * dp - P * a := by omega
  obtain rfl : ny = y4 * dm - P * b := by omega
  grind
theorem twice_letters' {P d nx ny dp dm x3 y3 x4 y4 y5 a b c : Int} (hx : x4 * dp - nx = P * a) (hy : y4 * dm - ny = P * b) (h5 : y5 * (1 - d*x4*x3*y4*y3) - (y4*y3 + x4*x3) = P * c) :
    y5 * (dp*dm - d*nx*ny*x3*y3) - (ny*dp*y3 + nx*dm*x3) = P * (c*dp*dm + y5*d*x3*y3*(a*(y4*dm) + nx*b) + b*dp*y3 + a*dm*x3) := by
  obtain rfl : nx = x4 * dp - P * a := by omega
  obtain rfl : ny = y4 * dm - P * b := by omega
  grind
theorem den_letters {P d nx ny dp dm x3 y3 x4 y4 a b : Int} (hx : x4 * dp - nx = P * a) (hy : y4 * dm - ny = P * b) :
    dp*dm*(1 + d*x4*x3*y4*y3) = (dp*dm + d*nx*ny*x3*y3) + P * (d*x3*y3*(a*(y4*dm) + nx*b)) := by
  obtain rfl : nx = x4 * dp - P * a := by omega
  obtain rfl : ny = y4 * dm - P * b := by omega
  grind
theorem den_letters' {P d nx ny dp dm x3 y3 x4 y4 a b : Int} (hx : x4 * dp - nx = P * a) (hy : y4 * dm - ny = P * b) :
    dp*dm*(1 - d*x4*x3*y4*y3) = (dp*dm - d*nx*ny*x3*y3) - P * (d*x3*y3*(a*(y4*dm) + nx*b)) := by
  obtain rfl : nx = x4 * dp - P * a := by omega
  obtain rfl : ny = y4 * dm - P * b := by omega
  grind
theorem meet_letters {P s t na da nb db u v w : Int} (h1 : s * da - na = P * u) (h2 : t * db - nb = P * v) (h3 : na * db - nb * da = P * w) : (s - t) * (da * db) = P * (u * db - v * da + w) := by
  obtain rfl : na = s * da - P * u := by omega
  obtain rfl : nb = t * db - P * v := by omega
  grind
theorem three {P l c1 e1 c2 e2 c3 e3 : Int} (h : l = c1 * e1 + c2 * e2 + c3 * e3) (h1 : P ∣ e1) (h2 : P ∣ e2) (h3 : P ∣ e3) : ∃ w, l = P * w := by
  rw [h]
  exact Int.dvd_add (Int.dvd_add (Int.dvd_mul_of_dvd_right h1) (Int.dvd_mul_of_dvd_right h2)) (Int.dvd_mul_of_dvd_right h3)
/-- Sums go together: (1 + 2) + 3 is (2 + 3) + 1. -/
theorem Edw.goes {P : Nat} {d i : Int} (h : Edw P d i) {x1 y1 x2 y2 x3 y3 x4 y4 x5 y5 x6 y6 x7 y7 : Int} (h1 : On P d x1 y1) (h2 : On P d x2 y2) (h3 : On P d x3 y3)
    (s4 : Sum P d x1 y1 x2 y2 x4 y4) (s5 : Sum P d x4 y4 x3 y3 x5 y5) (s6 : Sum P d x2 y2 x3 y3 x6 y6) (s7 : Sum P d x6 y6 x1 y1 x7 y7) : (P : Int) ∣ x5 - x7 ∧ (P : Int) ∣ y5 - y7 := by
  have h4 := h.on h1 h2 s4
  have h6 := h.on h2 h3 s6
  have p12 := h.plus h1 h2
  have m12 := h.less h1 h2
  have p23 := h.plus h2 h3
  have m23 := h.less h2 h3
  have p43 := h.plus h4 h3
  have m43 := h.less h4 h3
  have p61 := h.plus h6 h1
  have m61 := h.less h6 h1
  obtain ⟨⟨a, ha⟩, ⟨b, hb⟩⟩ := s4
  obtain ⟨⟨a', ha'⟩, ⟨b', hb'⟩⟩ := s6
  obtain ⟨⟨c, hc⟩, ⟨e, he⟩⟩ := s5
  obtain ⟨⟨c', hc'⟩, ⟨e', he'⟩⟩ := s7
  have two : ∀ {x y z : Int}, ¬ (P : Int) ∣ x → ¬ (P : Int) ∣ y → ¬ (P : Int) ∣ z → ¬ (P : Int) ∣ x * y * z := fun hx hy hz hd => by
    rcases h.prime.int hd with h8 | h8
    · rcases h.prime.int h8 with h9 | h9
      · exact hx h9
      · exact hy h9
    · exact hz h8
  have nz : ∀ {x y z : Int}, ¬ (P : Int) ∣ x → x = y + P * z → ¬ (P : Int) ∣ y := fun hx e hd => hx (e ▸ Int.dvd_add hd ⟨_, rfl⟩)
  have nz' : ∀ {x y z : Int}, ¬ (P : Int) ∣ x → x = y - P * z → ¬ (P : Int) ∣ y := fun hx e hd => hx (e ▸ Int.dvd_sub hd ⟨_, rfl⟩)
  have fin : ∀ {s t x y z : Int}, ¬ (P : Int) ∣ x → ¬ (P : Int) ∣ y → (s - t) * (x * y) = P * z → (P : Int) ∣ s - t := fun hx hy e => by
    rcases h.prime.int (show (P : Int) ∣ _ from ⟨_, e⟩) with h8 | h8
    · exact h8
    · rcases h.prime.int h8 with h9 | h9
      · exact absurd h9 hx
      · exact absurd h9 hy
  obtain ⟨wx, hwx⟩ := three (assoc_x d x1 y1 x2 y2 x3 y3) h1 h2 h3
  obtain ⟨wy, hwy⟩ := three (assoc_y d x1 y1 x2 y2 x3 y3) h1 h2 h3
  exact ⟨fin (nz (two p12 m12 p43) (den_letters ha hb)) (nz (two p23 m23 p61) (den_letters ha' hb')) (meet_letters (twice_letters ha hb hc) (twice_letters ha' hb' hc') hwx),
    fin (nz' (two p12 m12 m43) (den_letters' ha hb)) (nz' (two p23 m23 m61) (den_letters' ha' hb')) (meet_letters (twice_letters' ha hb he) (twice_letters' ha' hb' he') hwy)⟩
/-- The curve's d, and a root of less 1. -/
def dE : Nat := 37095705934669439343138083508754565189542113879843219016388785533085940283555
def iE : Nat := 19681161376707505956807079304988542015446066515923890162744021073123829784752
theorem euler_not {P k D : Nat} (hP : Pr P) (hk : P = 2 * k + 1) (h2 : ¬ (P : Int) ∣ 2) (hD : (D ^ k + 1) % P = 0) {a b : Nat} (h : a * a % P = D * (b * b) % P) (hb : ¬ P ∣ b) : False := by
  have hb1 := hP.little hb
  rw [show P - 1 = 2 * k by omega] at hb1
  have e1 : a ^ (2 * k) % P = D ^ k * b ^ (2 * k) % P := by
    rw [Nat.pow_mul, Nat.pow_two, Nat.pow_mod, h, ← Nat.pow_mod, Nat.mul_pow, Nat.pow_mul, Nat.pow_two]
  rw [Nat.mul_mod, hb1, Nat.mul_one, Nat.mod_mod] at e1
  by_cases ha : P ∣ a
  · by_cases hk0 : k = 0
    · have := hP.1; omega
    · have h4 : P ∣ a ^ (2 * k) := Nat.dvd_trans ha (dvd_pow_self a (by omega))
      rw [Nat.mod_eq_zero_of_dvd h4] at e1
      rw [Nat.add_mod, ← e1, Nat.zero_add, Nat.mod_mod] at hD
      have := hP.1
      rw [Nat.mod_eq_of_lt (by omega)] at hD
      omega
  · have ha1 := hP.little ha
    rw [show P - 1 = 2 * k by omega, e1] at ha1
    rw [Nat.add_mod, ha1] at hD
    refine h2 ?_
    have := hP.1
    have h5 : P ∣ 1 + 1 := by
      have h6 : (1 + 1 % P) % P = 0 := hD
      rw [Nat.mod_eq_of_lt (show 1 < P by omega)] at h6
      exact Nat.dvd_of_mod_eq_zero h6
    exact Int.natCast_dvd_natCast.2 h5
theorem no_square {P k D : Nat} (hP : Pr P) (hk : P = 2 * k + 1) (h2 : ¬ (P : Int) ∣ 2) (hD : (D ^ k + 1) % P = 0) (s t : Int) (h : (P : Int) ∣ s * s - (D : Int) * (t * t)) : (P : Int) ∣ t := by
  refine Classical.byContradiction fun ht => ?_
  have e : ((s.natAbs * s.natAbs : Nat) : Int) = s * s := Int.natAbs_mul_self
  have e2 : ((t.natAbs * t.natAbs : Nat) : Int) = t * t := Int.natAbs_mul_self
  refine euler_not hP hk h2 hD (a := s.natAbs) (b := t.natAbs) ?_ (fun hb => ht ?_)
  · rw [cg, e, Int.natCast_mul, e2]
    exact h
  · exact Int.natAbs_dvd_natAbs.1 (by simpa using hb)
theorem d_power (k : Nat) (hk : 2 * k + 1 = PP) : (dE ^ k + 1) % PP = 0 := by
  have hl : k < 2 ^ 256 := by simp only [PP] at hk; omega
  have h := pw_eq PP 256 dE k hl
  rw [Nat.add_mod, ← h]
  obtain rfl : k = 28948022309329048855892746252171976963317496166410141009864396001978282409974 := by simp only [PP] at hk; omega
  decide +kernel
theorem odd_P : ¬ ((PP : Nat) : Int) ∣ 2 := by decide +kernel
/-- The curve modulo p. -/
theorem edw : Edw PP dE iE where
  prime := pr_P
  odd := odd_P
  root := by decide +kernel
  non := fun s t h => by
    obtain ⟨k, hk⟩ : ∃ k, 2 * k + 1 = PP := ⟨28948022309329048855892746252171976963317496166410141009864396001978282409974, by decide⟩
    exact no_square pr_P hk.symm odd_P (d_power k hk) s t h
/-- What isn't nought modulo a prime has an inverse. -/
theorem inv_int {P : Nat} (hP : Pr P) (x : Int) (hx : ¬ (P : Int) ∣ x) : ∃ y : Int, (P : Int) ∣ x * y - 1 := by
  have hn : ¬ P ∣ x.natAbs := fun h => hx (Int.natAbs_dvd_natAbs.1 (by simpa using h))
  have h := hP.little hn
  have h2 := hP.1
  obtain ⟨q, hq⟩ : ∃ q, P - 1 = q + 1 := ⟨P - 2, by omega⟩
  rw [hq, Nat.pow_succ] at h
  have h3 := (cg (x.natAbs ^ q * x.natAbs) 1 P).1 (by rw [h, Nat.mod_eq_of_lt (by omega)])
  rw [Int.natCast_mul] at h3
  rcases Int.natAbs_eq x with e | e
  · refine ⟨((x.natAbs ^ q : Nat) : Int), ?_⟩
    rw [← e, Int.mul_comm] at h3
    exact h3
  · refine ⟨-((x.natAbs ^ q : Nat) : Int), ?_⟩
    have e2 : ((x.natAbs : Nat) : Int) = -x := by omega
    rw [e2, Int.mul_neg, Int.mul_comm, ← Int.mul_neg] at h3
    exact h3
/-- A sum is there. -/
theorem Edw.there {P : Nat} {d i : Int} (h : Edw P d i) {x1 y1 x2 y2 : Int} (h1 : On P d x1 y1) (h2 : On P d x2 y2) : ∃ x3 y3, Sum P d x1 y1 x2 y2 x3 y3 := by
  obtain ⟨u, v, hu⟩ := inv_int h.prime _ (h.plus h1 h2)
  obtain ⟨u', v', hu'⟩ := inv_int h.prime _ (h.less h1 h2)
  refine ⟨(x1*y2 + x2*y1) * u, (y1*y2 + x1*x2) * u', ⟨(x1*y2 + x2*y1) * v, ?_⟩, ⟨(y1*y2 + x1*x2) * v', ?_⟩⟩
  · generalize 1 + d*x1*x2*y1*y2 = q at *
    generalize x1*y2 + x2*y1 = r at *
    grind
  · generalize 1 - d*x1*x2*y1*y2 = q at *
    generalize y1*y2 + x1*x2 = r at *
    grind
/-- A point, its numbers least. -/
structure Pt (P : Nat) (d : Int) where
  x : Int
  y : Int
  on : On P d x y
  xl : x % (P : Int) = x
  yl : y % (P : Int) = y
theorem Pt.same {P : Nat} {d : Int} {p q : Pt P d} (hx : (P : Int) ∣ p.x - q.x) (hy : (P : Int) ∣ p.y - q.y) : p = q := by
  have h1 := Int.emod_emod_of_dvd
  have ex : p.x = q.x := by rw [← p.xl, ← q.xl]; exact Int.emod_eq_emod_iff_emod_sub_eq_zero.2 (Int.emod_eq_zero_of_dvd hx)
  have ey : p.y = q.y := by rw [← p.yl, ← q.yl]; exact Int.emod_eq_emod_iff_emod_sub_eq_zero.2 (Int.emod_eq_zero_of_dvd hy)
  cases p
  cases q
  cases ex
  cases ey
  rfl
theorem Sum.least {P : Nat} {d x1 y1 x2 y2 x3 y3 : Int} (h : Sum P d x1 y1 x2 y2 x3 y3) : Sum P d x1 y1 x2 y2 (x3 % P) (y3 % P) := by
  obtain ⟨⟨a, ha⟩, ⟨b, hb⟩⟩ := h
  have e1 : x3 = x3 % (P : Int) + (P : Int) * (x3 / P) := by rw [Int.add_comm]; exact (Int.mul_ediv_add_emod x3 P).symm
  have e2 : y3 = y3 % (P : Int) + (P : Int) * (y3 / P) := by rw [Int.add_comm]; exact (Int.mul_ediv_add_emod y3 P).symm
  generalize x3 % (P : Int) = x at *
  generalize y3 % (P : Int) = y at *
  generalize x3 / (P : Int) = u at *
  generalize y3 / (P : Int) = v at *
  subst e1
  subst e2
  exact ⟨⟨a - u * (1 + d*x1*x2*y1*y2), by grind⟩, ⟨b - v * (1 - d*x1*x2*y1*y2), by grind⟩⟩
theorem Edw.pt {P : Nat} {d i : Int} (h : Edw P d i) (p q : Pt P d) : ∃ r : Pt P d, Sum P d p.x p.y q.x q.y r.x r.y := by
  obtain ⟨x, y, hs⟩ := h.there p.on q.on
  have hs2 := hs.least
  exact ⟨⟨_, _, h.on p.on q.on hs2, Int.emod_emod _ _, Int.emod_emod _ _⟩, hs2⟩
/-- The sum of two points. -/
noncomputable def Edw.add {P : Nat} {d i : Int} (h : Edw P d i) (p q : Pt P d) : Pt P d := Classical.choose (h.pt p q)
theorem Edw.add_is {P : Nat} {d i : Int} (h : Edw P d i) (p q : Pt P d) : Sum P d p.x p.y q.x q.y (h.add p q).x (h.add p q).y := Classical.choose_spec (h.pt p q)
theorem Edw.add_of {P : Nat} {d i : Int} (h : Edw P d i) {p q r : Pt P d} (hs : Sum P d p.x p.y q.x q.y r.x r.y) : h.add p q = r := by
  obtain ⟨hx, hy⟩ := h.one p.on q.on (h.add_is p q) hs
  exact Pt.same hx hy
theorem Edw.add_comm {P : Nat} {d i : Int} (h : Edw P d i) (p q : Pt P d) : h.add p q = h.add q p := h.add_of (h.add_is q p).swap
theorem Edw.add_assoc {P : Nat} {d i : Int} (h : Edw P d i) (p q r : Pt P d) : h.add (h.add p q) r = h.add p (h.add q r) := by
  rw [h.add_comm p (h.add q r)]
  obtain ⟨hx, hy⟩ := h.goes p.on q.on r.on (h.add_is p q) (h.add_is (h.add p q) r) (h.add_is q r) (h.add_is (h.add q r) p)
  exact Pt.same hx hy
/-- The neutral point. -/
def Edw.zero {P : Nat} {d i : Int} (h : Edw P d i) : Pt P d where
  x := 0
  y := 1
  on := ⟨0, by grind⟩
  xl := Int.zero_emod _
  yl := by
    have := h.prime.1
    exact Int.emod_eq_of_lt (by omega) (by omega)
theorem Edw.zero_add {P : Nat} {d i : Int} (h : Edw P d i) (p : Pt P d) : h.add h.zero p = p := h.add_of ⟨⟨0, by show p.x * (1 + d*0*p.x*1*p.y) - (0*p.y + p.x*1) = _; grind⟩, ⟨0, by show p.y * (1 - d*0*p.x*1*p.y) - (1*p.y + 0*p.x) = _; grind⟩⟩
theorem Edw.add_zero {P : Nat} {d i : Int} (h : Edw P d i) (p : Pt P d) : h.add p h.zero = p := by rw [h.add_comm, h.zero_add]
/-- A point turned round. -/
def Pt.neg {P : Nat} {d : Int} (p : Pt P d) : Pt P d where
  x := (-p.x) % P
  y := p.y
  on := by
    obtain ⟨a, ha⟩ := p.on
    have e : -p.x = (-p.x) % (P : Int) + (P : Int) * ((-p.x) / P) := by rw [Int.add_comm]; exact (Int.mul_ediv_add_emod _ _).symm
    generalize (-p.x) % (P : Int) = x at *
    generalize (-p.x) / (P : Int) = u at *
    have e2 : p.x = -(x + (P : Int) * u) := by omega
    rw [e2] at ha
    exact ⟨a + u*(2*x + (P : Int)*u)*(1 + d*p.y*p.y), by grind⟩
  xl := Int.emod_emod _ _
  yl := p.yl
theorem Edw.neg_add {P : Nat} {d i : Int} (h : Edw P d i) (p : Pt P d) : h.add p.neg p = h.zero := by
  obtain ⟨a, ha⟩ := p.on
  have e : -p.x = (-p.x) % (P : Int) + (P : Int) * ((-p.x) / P) := by rw [Int.add_comm]; exact (Int.mul_ediv_add_emod _ _).symm
  refine h.add_of ⟨?_, ?_⟩
  · show (P : Int) ∣ 0 * (1 + d*((-p.x) % P)*p.x*p.y*p.y) - (((-p.x) % P)*p.y + p.x*p.y)
    generalize (-p.x) % (P : Int) = x at *
    generalize (-p.x) / (P : Int) = u at *
    obtain rfl : x = -p.x - (P : Int) * u := by omega
    exact ⟨u * p.y, by grind⟩
  · show (P : Int) ∣ 1 * (1 - d*((-p.x) % P)*p.x*p.y*p.y) - (p.y*p.y + ((-p.x) % P)*p.x)
    generalize (-p.x) % (P : Int) = x at *
    generalize (-p.x) / (P : Int) = u at *
    obtain rfl : x = -p.x - (P : Int) * u := by omega
    exact ⟨u * p.x * (1 + d*p.y*p.y) - a, by grind⟩
/-- A point so often. -/
noncomputable def Edw.mul {P : Nat} {d i : Int} (h : Edw P d i) (p : Pt P d) : Nat → Pt P d
  | 0 => h.zero
  | n + 1 => h.add (h.mul p n) p
theorem Edw.mul_one {P : Nat} {d i : Int} (h : Edw P d i) (p : Pt P d) : h.mul p 1 = p := h.zero_add p
theorem Edw.mul_add {P : Nat} {d i : Int} (h : Edw P d i) (p : Pt P d) (m : Nat) : ∀ n, h.mul p (m + n) = h.add (h.mul p m) (h.mul p n)
  | 0 => (h.add_zero _).symm
  | n + 1 => by
    show h.add (h.mul p (m + n)) p = h.add (h.mul p m) (h.add (h.mul p n) p)
    rw [h.mul_add p m n, h.add_assoc]
theorem Edw.mul_mul {P : Nat} {d i : Int} (h : Edw P d i) (p : Pt P d) (m : Nat) : ∀ n, h.mul (h.mul p m) n = h.mul p (m * n)
  | 0 => rfl
  | n + 1 => by
    show h.add (h.mul (h.mul p m) n) (h.mul p m) = h.mul p (m * n + m)
    rw [h.mul_mul p m n, h.mul_add]
/-- The same modulo P. -/
def Cg (P a b : Int) : Prop := P ∣ a - b
theorem Cg.refl {P : Int} (a : Int) : Cg P a a := ⟨0, by omega⟩
theorem Cg.add {P a b a' b' : Int} (h : Cg P a a') (k : Cg P b b') : Cg P (a + b) (a' + b') := by
  obtain ⟨u, hu⟩ := h
  obtain ⟨v, hv⟩ := k
  exact ⟨u + v, by rw [Int.mul_add, ← hu, ← hv]; omega⟩
theorem Cg.sub {P a b a' b' : Int} (h : Cg P a a') (k : Cg P b b') : Cg P (a - b) (a' - b') := by
  obtain ⟨u, hu⟩ := h
  obtain ⟨v, hv⟩ := k
  exact ⟨u - v, by rw [Int.mul_sub, ← hu, ← hv]; omega⟩
theorem Cg.mul {P a b a' b' : Int} (h : Cg P a a') (k : Cg P b b') : Cg P (a * b) (a' * b') := by
  obtain ⟨u, hu⟩ := h
  obtain ⟨v, hv⟩ := k
  exact ⟨u * b + a' * v, by grind⟩
theorem Cg.trans {P a b c : Int} (h : Cg P a b) (k : Cg P b c) : Cg P a c := by
  have := Int.dvd_add h k
  rwa [show a - b + (b - c) = a - c by omega] at this
theorem Cg.dvd {P a b : Int} (h : Cg P a b) (hd : P ∣ a) : P ∣ b := by
  have := Int.dvd_sub hd h
  rwa [show a - (a - b) = b by omega] at this
theorem Cg.least (P a : Int) : Cg P (a % P) a := ⟨-(a / P), by have := Int.mul_ediv_add_emod a P; rw [Int.mul_neg]; omega⟩
theorem Cg.swap {P a b : Int} (h : Cg P a b) : Cg P b a := by
  obtain ⟨u, hu⟩ := h
  exact ⟨-u, by rw [Int.mul_neg, ← hu]; omega⟩
/-- A point over one denominator. -/
structure Rep {P : Nat} {d : Int} (p : Pt P d) (X Y Z : Int) : Prop where
  nz : ¬ (P : Int) ∣ Z
  hx : Cg P X (p.x * Z)
  hy : Cg P Y (p.y * Z)
theorem Rep.of {P : Nat} {d : Int} {p : Pt P d} {X Y Z X' Y' Z' : Int} (h : Rep p X Y Z) (hX : Cg P X' X) (hY : Cg P Y' Y) (hZ : Cg P Z' Z) : Rep p X' Y' Z' :=
  ⟨fun hd => h.nz (hZ.dvd hd), (hX.trans h.hx).trans ((Cg.refl _).mul hZ.swap), (hY.trans h.hy).trans ((Cg.refl _).mul hZ.swap)⟩
/-- The sum over one denominator. -/
def sumX (d X1 Y1 Z1 X2 Y2 Z2 : Int) : Int := Z1 * Z2 * (Z1 * Z2 * (Z1 * Z2) - d * (X1 * X2) * (Y1 * Y2)) * ((X1 + Y1) * (X2 + Y2) - X1 * X2 - Y1 * Y2)
def sumY (d X1 Y1 Z1 X2 Y2 Z2 : Int) : Int := Z1 * Z2 * (Z1 * Z2 * (Z1 * Z2) + d * (X1 * X2) * (Y1 * Y2)) * (Y1 * Y2 + X1 * X2)
def sumZ (d X1 Y1 Z1 X2 Y2 Z2 : Int) : Int := (Z1 * Z2 * (Z1 * Z2) - d * (X1 * X2) * (Y1 * Y2)) * (Z1 * Z2 * (Z1 * Z2) + d * (X1 * X2) * (Y1 * Y2))
theorem Rep.add {P : Nat} {d i : Int} (h : Edw P d i) {p q : Pt P d} {X1 Y1 Z1 X2 Y2 Z2 : Int} (r1 : Rep p X1 Y1 Z1) (r2 : Rep q X2 Y2 Z2) : Rep (h.add p q) (sumX d X1 Y1 Z1 X2 Y2 Z2) (sumY d X1 Y1 Z1 X2 Y2 Z2) (sumZ d X1 Y1 Z1 X2 Y2 Z2) := by
  obtain ⟨⟨a, ha⟩, ⟨b, hb⟩⟩ := h.add_is p q
  have hp := h.plus p.on q.on
  have hm := h.less p.on q.on
  obtain ⟨n1, cx1, cy1⟩ := r1
  obtain ⟨n2, cx2, cy2⟩ := r2
  have cC := cx1.mul cx2
  have cD := cy1.mul cy2
  have cE := ((Cg.refl (P := P) d).mul cC).mul cD
  have cF := (Cg.refl (P := P) (Z1 * Z2 * (Z1 * Z2))).sub cE
  have cG := (Cg.refl (P := P) (Z1 * Z2 * (Z1 * Z2))).add cE
  have cS := (((cx1.add cy1).mul (cx2.add cy2)).sub cC).sub cD
  have cW := Cg.refl (P := P) (Z1 * Z2)
  have cX := (cW.mul cF).mul cS
  have cY := (cW.mul cG).mul (cD.add cC)
  have cZ := cF.mul cG
  obtain ⟨s, hs⟩ : ∃ s, (h.add p q).x = s := ⟨_, rfl⟩
  obtain ⟨t, ht⟩ : ∃ t, (h.add p q).y = t := ⟨_, rfl⟩
  rw [hs] at ha
  rw [ht] at hb
  generalize p.x = x1 at *
  generalize p.y = y1 at *
  generalize q.x = x2 at *
  generalize q.y = y2 at *
  have eZ : (Z1 * Z2 * (Z1 * Z2) - d * (x1 * Z1 * (x2 * Z2)) * (y1 * Z1 * (y2 * Z2))) * (Z1 * Z2 * (Z1 * Z2) + d * (x1 * Z1 * (x2 * Z2)) * (y1 * Z1 * (y2 * Z2))) = Z1 * Z2 * (Z1 * Z2) * (Z1 * Z2 * (Z1 * Z2)) * ((1 + d*x1*x2*y1*y2) * (1 - d*x1*x2*y1*y2)) := by grind
  have two : ∀ {x y : Int}, ¬ (P : Int) ∣ x → ¬ (P : Int) ∣ y → ¬ (P : Int) ∣ x * y := fun hx hy hd => by
    rcases h.prime.int hd with h8 | h8
    · exact hx h8
    · exact hy h8
  have hW := two n1 n2
  refine ⟨fun hd => ?_, ?_, ?_⟩
  · have h9 := cZ.dvd hd
    rw [eZ] at h9
    exact two (two (two hW hW) (two hW hW)) (two hp hm) h9
  · rw [hs]
    refine (cX.trans ?_).trans ((Cg.refl s).mul cZ.swap)
    exact ⟨-(a * (Z1 * Z2 * (Z1 * Z2)) * (Z1 * Z2 * (Z1 * Z2)) * (1 - d*x1*x2*y1*y2)), by grind⟩
  · rw [ht]
    refine (cY.trans ?_).trans ((Cg.refl t).mul cZ.swap)
    exact ⟨-(b * (Z1 * Z2 * (Z1 * Z2)) * (Z1 * Z2 * (Z1 * Z2)) * (1 + d*x1*x2*y1*y2)), by grind⟩
/-- A multiple, by doubling, all modulo P. -/
def addR (P d : Int) (p q : Int × Int × Int) : Int × Int × Int := (sumX d p.1 p.2.1 p.2.2 q.1 q.2.1 q.2.2 % P, sumY d p.1 p.2.1 p.2.2 q.1 q.2.1 q.2.2 % P, sumZ d p.1 p.2.1 p.2.2 q.1 q.2.1 q.2.2 % P)
def mulR (P d : Int) (b : Int × Int × Int) : Nat → Nat → Int × Int × Int
  | 0, _ => (0, 1, 1)
  | f + 1, n => bif Nat.beq n 0 then (0, 1, 1) else bif Nat.beq (n % 2) 1 then addR P d (addR P d (mulR P d b f (n / 2)) (mulR P d b f (n / 2))) b else addR P d (mulR P d b f (n / 2)) (mulR P d b f (n / 2))
theorem Rep.addR {P : Nat} {d i : Int} (h : Edw P d i) {p q : Pt P d} {u v : Int × Int × Int} (r1 : Rep p u.1 u.2.1 u.2.2) (r2 : Rep q v.1 v.2.1 v.2.2) : Rep (h.add p q) (addR P d u v).1 (addR P d u v).2.1 (addR P d u v).2.2 :=
  (Rep.add h r1 r2).of (Cg.least _ _) (Cg.least _ _) (Cg.least _ _)
theorem Rep.zero {P : Nat} {d i : Int} (h : Edw P d i) : Rep h.zero 0 1 1 := ⟨h.prime.not_one, by show Cg P 0 (0 * 1); exact Cg.refl _, by show Cg P 1 (1 * 1); exact Cg.refl _⟩
theorem Rep.mulR {P : Nat} {d i : Int} (h : Edw P d i) {p : Pt P d} {b : Int × Int × Int} (r : Rep p b.1 b.2.1 b.2.2) : ∀ f n, n < 2 ^ f → Rep (h.mul p n) (mulR P d b f n).1 (mulR P d b f n).2.1 (mulR P d b f n).2.2
  | 0, n, hn => by
    obtain rfl : n = 0 := by simpa using hn
    exact Rep.zero h
  | f + 1, n, hn => by
    rw [Nat.pow_succ] at hn
    have ih := Rep.mulR h r f (n / 2) (by omega)
    have i2 := Rep.addR h ih ih
    rw [← h.mul_add] at i2
    unfold NP.mulR
    by_cases h0 : n = 0
    · subst h0
      exact Rep.zero h
    · rw [show Nat.beq n 0 = false from Bool.eq_false_iff.2 (fun c => h0 (Nat.eq_of_beq_eq_true c))]
      rcases Nat.mod_two_eq_zero_or_one n with h3 | h3
      · rw [h3, cond_false, show Nat.beq 0 1 = false from rfl, cond_false]
        rw [show n / 2 + n / 2 = n by omega] at i2
        exact i2
      · rw [h3, cond_false, show Nat.beq 1 1 = true from rfl, cond_true]
        have i3 := Rep.addR h i2 r
        have e : h.add (h.mul p (n / 2 + n / 2)) p = h.mul p n := by
          show h.mul p (n / 2 + n / 2 + 1) = h.mul p n
          rw [show n / 2 + n / 2 + 1 = n by omega]
        rw [e] at i3
        exact i3
def bxE : Int := 15112221349535400772501151409588531511454012693041857206046113283949847762202
def byE : Int := 46316835694926478169428394003475163141307993866256225615783033603165251855960
/-- The base point. -/
def bE : Pt PP dE where
  x := bxE
  y := byE
  on := by unfold On; decide +kernel
  xl := by decide +kernel
  yl := by decide +kernel
theorem bE_rep : Rep bE bxE byE 1 := ⟨pr_P.not_one, by show Cg _ bxE (bxE * 1); rw [Int.mul_one]; exact Cg.refl _, by show Cg _ byE (byE * 1); rw [Int.mul_one]; exact Cg.refl _⟩
set_option maxRecDepth 100000 in
theorem order_run : (mulR PP dE (bxE, byE, 1) 253 LL).1 = 0 ∧ (mulR PP dE (bxE, byE, 1) 253 LL).2.1 = (mulR PP dE (bxE, byE, 1) 253 LL).2.2 := by decide +kernel
theorem order_zero : edw.mul bE LL = edw.zero := by
  have r := Rep.mulR edw (b := (bxE, byE, 1)) bE_rep 253 LL (by decide +kernel)
  obtain ⟨h1, h2⟩ := order_run
  rw [h1, h2] at r
  generalize (mulR PP dE (bxE, byE, 1) 253 LL).2.2 = Z at *
  generalize edw.mul bE LL = q at *
  obtain ⟨nz, ⟨a, ha⟩, ⟨b, hb⟩⟩ := r
  refine Pt.same ?_ ?_
  · show ((PP : Nat) : Int) ∣ q.x - 0
    refine (edw.prime.int (show ((PP : Nat) : Int) ∣ (q.x - 0) * Z from ⟨-a, ?_⟩)).resolve_right nz
    rw [Int.mul_neg, ← ha, Int.sub_zero]
    omega
  · show ((PP : Nat) : Int) ∣ q.y - 1
    refine (edw.prime.int (show ((PP : Nat) : Int) ∣ (q.y - 1) * Z from ⟨-b, ?_⟩)).resolve_right nz
    rw [Int.mul_neg, ← hb, Int.sub_mul]
    omega
theorem Edw.mul_zero {P : Nat} {d i : Int} (h : Edw P d i) : ∀ n, h.mul h.zero n = h.zero
  | 0 => rfl
  | n + 1 => by
    show h.add (h.mul h.zero n) h.zero = h.zero
    rw [h.mul_zero n, h.zero_add]
theorem base_not_zero : bE ≠ edw.zero := fun h => by
  have h2 : bE.x = edw.zero.x := by rw [h]
  exact absurd (show bxE = 0 from h2) (by decide)
theorem mul_over {P : Nat} {d i : Int} (h : Edw P d i) (b : Pt P d) (L n : Nat) (hL : Pr L) (ho : h.mul b L = h.zero) (hb : b ≠ h.zero) (hn : ¬ L ∣ n) : h.mul b n ≠ h.zero := fun hz => by
  have h1 := hL.little hn
  have h2 := hL.1
  obtain ⟨q, hq⟩ : ∃ q, L - 1 = q + 1 := ⟨L - 2, by omega⟩
  rw [hq, Nat.pow_succ, Nat.mul_comm] at h1
  have e1 : h.mul b (n * n ^ q) = h.zero := by rw [← h.mul_mul, hz, h.mul_zero]
  have e2 := Nat.div_add_mod (n * n ^ q) L
  rw [h1] at e2
  rw [← e2, h.mul_add, ← h.mul_mul, ho, h.mul_zero, h.mul_one, h.zero_add] at e1
  exact hb e1
/-- A multiple of the base point is the neutral one just where the order divides it. -/
theorem base_mul (n : Nat) (hn : ¬ LL ∣ n) : edw.mul bE n ≠ edw.zero := mul_over edw bE LL n pr_L order_zero base_not_zero hn
/-- X : Z is the point's u-coordinate. -/
structure RepU {P : Nat} {d : Int} (p : Pt P d) (X Z : Int) : Prop where
  nz : ¬ (P : Int) ∣ X + Z
  hu : Cg P (X - Z) (p.y * (X + Z))
end Go.Proofs.YtoggkhjaghkpnaaDoor.NP
namespace Go.Proofs.YtoggkhjaghkpnaaDoor
open Go.RowKit
def fA (n m : Nat) : Nat := (n + m) % pp
def fS (n m : Nat) : Nat := (n + (pp - m)) % pp
def fM (n m : Nat) : Nat := n * m % pp
theorem fA_lt (n m : Nat) : fA n m < pp := Nat.mod_lt _ (by decide)
theorem fS_lt (n m : Nat) : fS n m < pp := Nat.mod_lt _ (by decide)
theorem fM_lt (n m : Nat) : fM n m < pp := Nat.mod_lt _ (by decide)
/-- n modulo p, to the power p - 2. -/
def ivN (n : Nat) : Nat := n ^ (pp - 2) % pp
namespace NP
theorem cgA (P n m : Nat) : Cg (P : Int) (((n + m) % P : Nat) : Int) ((n : Int) + m) := by rw [Int.natCast_emod, Int.natCast_add]; exact Cg.least _ _
theorem cgM (P n m : Nat) : Cg (P : Int) ((n * m % P : Nat) : Int) ((n : Int) * m) := by rw [Int.natCast_emod, Int.natCast_mul]; exact Cg.least _ _
theorem cgS (P n m : Nat) (hm : m < P) : Cg (P : Int) (((n + (P - m)) % P : Nat) : Int) ((n : Int) - m) := by
  rw [Int.natCast_emod]
  refine (Cg.least _ _).trans ⟨1, ?_⟩
  omega
theorem RepU.of {P : Nat} {d : Int} {p : Pt P d} {X Z X' Z' : Int} (r : RepU p X Z) (hX : Cg P X' X) (hZ : Cg P Z' Z) : RepU p X' Z' :=
  ⟨fun h => r.nz ((hX.add hZ).dvd h), ((hX.sub hZ).trans r.hu).trans ((Cg.refl _).mul (hX.add hZ).swap)⟩
theorem cg_A (n m : Nat) : Cg ((PP : Nat) : Int) ((fA n m : Nat) : Int) ((n : Int) + m) := cgA PP n m
theorem cg_M (n m : Nat) : Cg ((PP : Nat) : Int) ((fM n m : Nat) : Int) ((n : Int) * m) := cgM PP n m
theorem cg_S (n m : Nat) (hm : m < pp) : Cg ((PP : Nat) : Int) ((fS n m : Nat) : Int) ((n : Int) - m) := cgS PP n m hm
end NP
/-- The curve's d. -/
def dNat : Nat := 37095705934669439343138083508754565189542113879843219016388785533085940283555
abbrev Tri := Nat × Nat × Nat
def TriLt (t : Tri) : Prop := t.1 < pp ∧ t.2.1 < pp ∧ t.2.2 < pp
namespace NP
theorem dNat_is : (dNat : Int) = dE := by decide +kernel
/-- These three numbers stand for the point. -/
structure RepN (p : Pt PP dE) (t : Tri) : Prop where
  rep : Rep p t.1 t.2.1 t.2.2
  lt : TriLt t
/-- The neutral point, and the base point. -/
theorem zeroT_rep : RepN edw.zero (0, 1, 1) := ⟨Rep.zero edw, by show 0 < pp; decide, by show 1 < pp; decide, by show 1 < pp; decide⟩
theorem baseT_rep : RepN bE (15112221349535400772501151409588531511454012693041857206046113283949847762202, 46316835694926478169428394003475163141307993866256225615783033603165251855960, 1) := ⟨bE_rep, by show _ < pp; decide, by show _ < pp; decide, by show 1 < pp; decide⟩
/-- A point turned round. -/
theorem negT_rep {p : Pt PP dE} {t : Tri} (r : RepN p t) : RepN p.neg (fS 0 t.1, t.2.1, t.2.2) := by
  obtain ⟨⟨nz, hx, hy⟩, h1, h2, h3⟩ := r
  refine ⟨⟨nz, ?_, hy⟩, fS_lt _ _, h2, h3⟩
  have h := (cg_S 0 t.1 h1).trans ((Cg.refl ((0 : Nat) : Int)).sub hx)
  refine h.trans ?_
  have e : Cg ((PP : Nat) : Int) p.neg.x (-p.x) := Cg.least _ _
  refine Cg.trans ?_ (e.swap.mul (Cg.refl _))
  rw [show ((0 : Nat) : Int) - p.x * (t.2.2 : Int) = -p.x * (t.2.2 : Int) by rw [Int.neg_mul]; omega]
  exact Cg.refl _
/-- A point's own numbers. -/
def Pt.X (p : Pt PP dE) : Nat := p.x.toNat
def Pt.Y (p : Pt PP dE) : Nat := p.y.toNat
theorem least_nat {P : Nat} (hP : 0 < P) {x : Int} (h : x % (P : Int) = x) : 0 ≤ x ∧ x < P := by
  have h1 := Int.emod_nonneg x (show (P : Int) ≠ 0 by omega)
  have h2 := Int.emod_lt_of_pos x (show (0 : Int) < P by omega)
  omega
theorem Pt.X_is (p : Pt PP dE) : ((Pt.X p : Nat) : Int) = p.x ∧ Pt.X p < pp := by
  have h := least_nat (show 0 < PP by decide) p.xl
  have h2 : p.x < ((pp : Nat) : Int) := h.2
  unfold Pt.X
  omega
theorem Pt.Y_is (p : Pt PP dE) : ((Pt.Y p : Nat) : Int) = p.y ∧ Pt.Y p < pp := by
  have h := least_nat (show 0 < PP by decide) p.yl
  have h2 : p.y < ((pp : Nat) : Int) := h.2
  unfold Pt.Y
  omega
/-- A number below P that is a point's coordinate times Z, over Z. -/
theorem over_is {P : Nat} (hP : Pr P) {x z k iv u : Nat} (hk : k + 2 = P) (hi : iv = z ^ k % P) (hz : ¬ (P : Int) ∣ (z : Int)) (hx : Cg P (x : Int) ((u : Int) * z)) (hu : u < P) : x * iv % P = u := by
  have hn : ¬ P ∣ z := fun h => hz (Int.natCast_dvd_natCast.2 h)
  have hl := hP.little hn
  rw [show P - 1 = k + 1 by omega, Nat.pow_succ] at hl
  have h3 : (iv * z) % P = 1 := by rw [hi, Nat.mod_mul_mod]; exact hl
  have h4 := (cgM P iv z).swap
  rw [h3, Int.mul_comm] at h4
  have h5 := (cgM P x iv).trans (hx.mul (Cg.refl (iv : Int)))
  rw [Int.mul_assoc] at h5
  have h6 := h5.trans ((Cg.refl (u : Int)).mul h4)
  have h7 : Cg (P : Int) ((x * iv % P : Nat) : Int) (u : Int) := by
    have : ((1 : Nat) : Int) = 1 := rfl
    rw [this, Int.mul_one] at h6
    exact h6
  obtain ⟨q, hq⟩ := h7
  have hlt := Nat.mod_lt (x * iv) (show 0 < P by have := hP.1; omega)
  generalize x * iv % P = v at *
  have h2 : q = 0 := by
    rcases Int.lt_trichotomy q 0 with h | h | h
    · have := Int.mul_le_mul_of_nonneg_left (show q ≤ -1 by omega) (show (0 : Int) ≤ P by omega)
      omega
    · exact h
    · have := Int.mul_le_mul_of_nonneg_left (show 1 ≤ q by omega) (show (0 : Int) ≤ P by omega)
      omega
  subst h2
  omega
/-- The quotients are the point's own numbers. -/
theorem RepN.over {p : Pt PP dE} {t : Tri} (r : RepN p t) : fM t.1 (ivN t.2.2) = Pt.X p ∧ fM t.2.1 (ivN t.2.2) = Pt.Y p := by
  obtain ⟨⟨nz, hx, hy⟩, -, -, -⟩ := r
  have hk : pp - 2 + 2 = PP := by decide
  rw [← (Pt.X_is p).1] at hx
  rw [← (Pt.Y_is p).1] at hy
  exact ⟨over_is pr_P hk rfl nz hx (Pt.X_is p).2, over_is pr_P hk rfl nz hy (Pt.Y_is p).2⟩
theorem Pt.eq_of {p q : Pt PP dE} (hx : Pt.X p = Pt.X q) (hy : Pt.Y p = Pt.Y q) : p = q := by
  refine Pt.same ?_ ?_
  · rw [← (Pt.X_is p).1, ← (Pt.X_is q).1, hx, Int.sub_self]; exact ⟨0, (Int.mul_zero _).symm⟩
  · rw [← (Pt.Y_is p).1, ← (Pt.Y_is q).1, hy, Int.sub_self]; exact ⟨0, (Int.mul_zero _).symm⟩
end NP
namespace NP
theorem mul_two {p : Pt PP dE} (n : Nat) : edw.add (edw.mul p n) (edw.mul p n) = edw.mul p (2 * n) := by
  rw [← edw.mul_add]
  congr 1
  omega
theorem four_sum (a b c d : Pt PP dE) : edw.add (edw.add a b) (edw.add c d) = edw.add (edw.add a c) (edw.add b d) := by
  rw [edw.add_assoc, ← edw.add_assoc b c d, edw.add_comm b c, edw.add_assoc c b d, ← edw.add_assoc]
end NP
theorem zero_up : ∀ w, (zeroValue 46).run Tryd.prog w = .ok (.agg (nzeros 15).toArray) w := (zero_of_info (P := Tryd.prog) (t := 46) (v := .agg (nzeros 15).toArray) (n := 15) (by kernel_rfl)).1
theorem size_up : (Tryd.prog.info? 46).map (·.size) = some 15 := by kernel_rfl
theorem build_up (a b c : List Nat) (ha : a.length = 5) (hb : b.length = 5) (hc : c.length = 5) (w : World) : (Instr.build 46 #[(0, numVal a), (1, numVal b), (2, numVal c)]).run Tryd.prog w = .ok (numVal (a ++ b ++ c)) w := by
  obtain ⟨a0, a1, a2, a3, a4, rfl⟩ := list5 ha
  obtain ⟨b0, b1, b2, b3, b4, rfl⟩ := list5 hb
  obtain ⟨c0, c1, c2, c3, c4, rfl⟩ := list5 hc
  kernel_rfl
theorem field_u0 (g : Nat) (w : World) : (Instr.fieldAt 46 (.pointer (some ⟨g, 0, none⟩)) 0).run Tryd.prog w = .ok (.pointer (some ⟨g, 0, none⟩)) w := by kernel_rfl
theorem field_u1 (g : Nat) (w : World) : (Instr.fieldAt 46 (.pointer (some ⟨g, 0, none⟩)) 1).run Tryd.prog w = .ok (.pointer (some ⟨g, 5, none⟩)) w := by kernel_rfl
theorem field_u2 (g : Nat) (w : World) : (Instr.fieldAt 46 (.pointer (some ⟨g, 0, none⟩)) 2).run Tryd.prog w = .ok (.pointer (some ⟨g, 10, none⟩)) w := by kernel_rfl
theorem up_run {w : World} {g : Nat} {l : List Nat} {t' : TypeId} (hC : Cells w g (l.map ncell) t') (hl : l.length = 15) : (Instr.loadAt 46 (.pointer (some ⟨g, 0, none⟩))).run Tryd.prog w = .ok (numVal l) w := by
  have h := run_loadVar_row (P := Tryd.prog) w g t' 46 (l.map ncell).toArray (0, 0) _ hC Tryd.underlying46 rfl (by rw [List.size_toArray, List.length_map, hl]; exact size_up)
  simp only [Instr.loadAt, Instr.sureAddr, Sem.run_bind, Sem.run_pure, Result.andThen_ok]
  exact h
theorem load_u0 {w : World} {g : Nat} {p x y z : List Nat} {t' : TypeId} (hC : Cells w g (p.map ncell) t') (hp : p = x ++ y ++ z) (hx : x.length = 5) : (Instr.loadAt 44 (.pointer (some ⟨g, 0, none⟩))).run Tryd.prog w = .ok (numVal x) w :=
  load_part hC 0 x (by rw [hp, List.drop_zero, List.append_assoc, List.take_append_of_le_length (by omega), List.take_of_length_le (by omega)]) hx
theorem load_u1 {w : World} {g : Nat} {p x y z : List Nat} {t' : TypeId} (hC : Cells w g (p.map ncell) t') (hp : p = x ++ y ++ z) (hx : x.length = 5) (hy : y.length = 5) : (Instr.loadAt 44 (.pointer (some ⟨g, 5, none⟩))).run Tryd.prog w = .ok (numVal y) w :=
  load_part hC 5 y (by rw [hp, List.append_assoc, List.drop_append_of_le_length (by omega), List.drop_of_length_le (by omega), List.nil_append, List.take_append_of_le_length (by omega), List.take_of_length_le (by omega)]) hy
theorem load_u2 {w : World} {g : Nat} {p x y z : List Nat} {t' : TypeId} (hC : Cells w g (p.map ncell) t') (hp : p = x ++ y ++ z) (hx : x.length = 5) (hy : y.length = 5) (hz : z.length = 5) : (Instr.loadAt 44 (.pointer (some ⟨g, 10, none⟩))).run Tryd.prog w = .ok (numVal z) w :=
  load_part hC 10 z (by rw [hp, List.drop_append_of_le_length (by rw [List.length_append]; omega), List.drop_of_length_le (by rw [List.length_append]; omega), List.nil_append, List.take_of_length_le (by omega)]) hz
/-- A point's value: the limbs of X, of Y, of Z. -/
def triU (t : Tri) : List Nat := limb5 t.1 ++ limb5 t.2.1 ++ limb5 t.2.2
theorem triU_length (t : Tri) : (triU t).length = 15 := rfl
theorem build_up0 (w : World) : (Instr.build 46 #[]).run Tryd.prog w = .ok (numVal (triU (0, 0, 0))) w := by kernel_rfl
section
variable {P : Program} {w : World} {ops : Array Oper} {rest : List Oper} {o : Oper} {a : Act} {Q : Exit → Act → World → Prop}
/-- A value stored into the middle of a variable. -/
theorem smid_step (hgd : o.guard = none) (t : TypeId) (x y : Operand) (ho : o.op = .store t x y) (g off n : Nat) (us vs new : List Value) {t' : TypeId} (hx : a.eval x = .pointer (some ⟨g, off, none⟩)) (hy : a.eval y = .agg vs.toArray) (hC : Cells w g us t') (hv : off + n ≤ us.length)
    (hs : (P.info? t).map (·.size) = some n) (hl : vs.length = n) (h1c : vs.toArray.all (·.oneCell') = true) (hnew : splice us off vs = new) (h : ∀ w', But g w w' → Cells w' g new t' → w'.heap.size = w.heap.size → wpList P ops Q rest (a.put o.dst undef) w') : wpList P ops Q (o :: rest) a w := by
  have hsz : vs.toArray.size = n := by rw [List.size_toArray, hl]
  refine wpList_store_mid hgd t x y ho g off vs.toArray hx hy (by rw [hsz]; exact hC.there off n hv) (by rw [hsz]; exact hs) h1c ?_
  have hC2 := hC.setCells (cs := vs) (o := off) (by omega)
  rw [hnew] at hC2
  exact h _ ((But.refl g w).setCells _ _) hC2 (heap_setCells _ _ _ _).2.2.2.1
end
theorem splice_head5 (n x y z : List Nat) (h : n.length = x.length) : splice ((x ++ y ++ z).map ncell) 0 (n.map ncell) = (n ++ y ++ z).map ncell := by
  rw [splice, List.take_zero, List.nil_append, List.length_map, h, Nat.zero_add, List.append_assoc, List.map_append, List.drop_left' (List.length_map _), ← List.map_append, List.append_assoc]
/-- An element's address in an array, and in a slice. -/
theorem index_run {P : Program} {t e : TypeId} {n s : Nat} {ik : IntKind} (hu : P.underlying t = some (.array n e)) (hs : (P.info? e).map (·.size) = some s) (g o k : Nat) (hk : k < n) (w : World) :
    (Instr.indexAt t (.pointer (some ⟨g, o, none⟩)) (.int ik (k : Int))).run P w = .ok (.pointer (some ⟨g, o + k * s, none⟩)) w := by
  obtain ⟨i0, hi0, hs0⟩ := Option.map_eq_some_iff.1 hs
  have h2 : (0 : Int) ≤ (k : Int) := by omega
  simp [Instr.indexAt, asIntOf, underlying, Instr.sureAddr, sizeOf, typeInfo, hu, hi0, hs0, h2, hk, Addr.add, Result.andThen]
theorem index_slice {P : Program} {t e : TypeId} {n c s : Nat} {ik : IntKind} (hu : P.underlying t = some (.slice e)) (hs : (P.info? e).map (·.size) = some s) (g o k : Nat) (hk : k < n) (w : World) :
    (Instr.indexAt t (.slice (some ⟨g, o, none⟩) n c) (.int ik (k : Int))).run P w = .ok (.pointer (some ⟨g, o + k * s, none⟩)) w := by
  obtain ⟨i0, hi0, hs0⟩ := Option.map_eq_some_iff.1 hs
  have h2 : (0 : Int) ≤ (k : Int) := by omega
  simp [Instr.indexAt, asIntOf, underlying, sizeOf, typeInfo, hu, hi0, hs0, h2, hk, Addr.add, Result.andThen]
end Go.Proofs.YtoggkhjaghkpnaaDoor
namespace Go.Proofs.YtoggkhjaghkpnaaDoor
open Go.RowKit
theorem rtN_is (k : Nat) (hk : k + 1 = 7237005577332262213973186563042994240829374041602535252466099000494570602494) (n : Nat) : rtN n = NP.rt pp k ttN n := by
  have e : ∀ q, pwN n q = n ^ q % pp := fun _ => rfl
  rw [NP.rt, hk, rtN, e]
theorem isSN_is (k : Nat) (hk : k + 1 = 7237005577332262213973186563042994240829374041602535252466099000494570602494) (n : Nat) : isSN n = NP.isS pp k ttN n := by
  rw [isSN, NP.isS, rtN_is k hk]
theorem turn_divides : ((pp : Nat) : Int) ∣ ((ttN : Nat) : Int) * ttN + 1 := by decide +kernel
/-- What Root answers. -/
def rootN (n : Nat) : Nat := if isSN n = true then evenN (rtN n) else 0
theorem rootN_lt (n : Nat) : rootN n < pp := by
  rw [rootN]
  split
  · rw [evenN]
    split
    · exact Nat.mod_lt _ (by decide)
    · exact rtN_lt n
  · decide
theorem rootE_any (n : Nat) (w : World) (hn : n < pp) (hU : Tab w 10 ((limb5 ttN).map ncell)) :
    Calls Tryd.prog 63 #[elV n] w (gvn (.tuple #[elV (rootN n), .bool (isSN n)]) w) := by
  refine (root_any n w hn hU).mono fun e w' ⟨h1, h2⟩ => ?_
  cases h : isSN n
  · rw [rootN, if_neg (by rw [h]; decide)]; exact h2 h
  · rw [rootN, if_pos h]; exact h1 h
def TabsU (E : Value) (w : World) : Prop := Tab w 9 ((limb5 dNat).map ncell) ∧ Tab w 4 ((limb5 baseXN).map ncell) ∧ Tab w 5 ((limb5 baseYN).map ncell) ∧ Tab w 10 ((limb5 ttN).map ncell) ∧ w.cell? ⟨1, 0, none⟩ = some E
theorem TabsU.below {E : Value} {w w' : World} (h : TabsU E w) (hb : Below w.heap.size w w') : TabsU E w' :=
  ⟨h.1.on hb, h.2.1.on hb, h.2.2.1.on hb, h.2.2.2.1.on hb, (hb.cell (block_lt_of_cell h.2.2.2.2)).trans h.2.2.2.2⟩
theorem curveU_any (E : Value) (w : World) (h : TabsU E w) : Calls Tryd.prog 61 #[] w (gvn (numVal (limb5 dNat)) w) := curveE_any _ w rfl h.1 (build_elV dNat)
theorem baseXU_any (E : Value) (w : World) (h : TabsU E w) : Calls Tryd.prog 52 #[] w (gvn (numVal (limb5 baseXN)) w) := baseXE_any _ w rfl h.2.1 (build_elV baseXN)
theorem baseYU_any (E : Value) (w : World) (h : TabsU E w) : Calls Tryd.prog 53 #[] w (gvn (numVal (limb5 baseYN)) w) := baseYE_any _ w rfl h.2.2.1 (build_elV baseYN)
theorem oneU_any (w : World) : Calls Tryd.prog 59 #[.int .i64 1] w (gvn (numVal (limb5 1)) w) := by
  have h := smallE_any 1 w (by decide) (by decide)
  rw [show smallN 1 = 1 by decide +kernel] at h
  exact h
def uatVs1 (x : List Nat) (y : List Nat) (g_base : Nat) (gy : Nat) (gr : Nat) (o : List Nat) (n : List Nat) : List Value :=
  (numVal x) :: (numVal y) :: ptr g_base :: ptr gy :: ptr gr :: (numVal x) :: (numVal y) :: (numVal o) :: (numVal n) :: []
set_option maxRecDepth 100000 in
set_option maxHeartbeats 1000000 in
theorem uat_over (x y o n : List Nat) (w : World)
    (Hx : Hid (x.length = 5))
    (Hy : Hid (y.length = 5))
    (Hn : Hid (n.length = 15))
    (CS : Hid (∀ W, Calls Tryd.prog 59 #[.int .i64 1] W (gvn (numVal o) W)))
    (BN : ∀ w, (Instr.build 46 #[(0, numVal x), (1, numVal y), (2, numVal o)]).run Tryd.prog w = .ok (numVal n) w) :
    Calls Tryd.prog 38 #[numVal x, numVal y] w (gvn (numVal n) w) := by
  go_enter Tryd.func38, Tryd.ntmps38
  go_wp2_with (first
    | (refine vtake_step rfl 44 (.tmp 0) rfl (x.map ncell) rfl ?_
       intro w1 hb1 hvx1
       have hB1 := hb1
       have hgex : w.heap.size ≤ w.heap.size := Nat.le_refl _
       clear  hb1
       try simp only [putS]
       skip)
    | (refine vtake_step rfl 44 (.tmp 1) rfl (y.map ncell) rfl ?_
       intro w2 hb2 hvy2
       have hB2 := below_then hB1 hb2
       have hgey : w.heap.size ≤ w1.heap.size := hB1.size
       have hvx2 := hvx1.on hb2
       have hnexy := Nat.ne_of_lt hvx1.lt
       clear hB1 hvx1 hb2
       try simp only [putS]
       skip)
    | (refine vzero_step (o := ⟨some 4, _, _, _, _, _⟩) rfl 46 rfl (nzeros 15) zero_up ?_
       intro w3 hb3 hvr3
       have hB3 := below_then hB2 hb3
       have hger : w.heap.size ≤ w2.heap.size := hB2.size
       have hvx3 := hvx2.on hb3
       have hnexr := Nat.ne_of_lt hvx2.lt
       have hvy3 := hvy2.on hb3
       have hneyr := Nat.ne_of_lt hvy2.lt
       clear hB2 hvx2 hvy2 hb3
       try simp only [putS]
       skip))
  generalize hqy : w1.heap.size = gy at *
  clear hqy
  generalize hqr : w2.heap.size = gr at *
  clear hqr
  replace hvx3 := hvx3.drew
  replace hvy3 := hvy3.drew
  replace hvr3 := hvr3.drew
  refine wp_region_any (by kernel_rfl) ?_
  refine wpAny_flatM (L := [0, 1, 2, 3]) (by kernel_rfl) _ _ (uatVs1 x y w.heap.size gy gr o n) [] 44 (nzeros 5) [0, 1, 2, 3, 4] (by kernel_rfl) (by kernel_rfl) ?_ zero_elem ?_ (by rfl) ?_ 1 (by kernel_rfl) ?_
  · intro p hp
    exact absurd hp List.not_mem_nil
  · repeat refine all_cons rfl ?_
    exact all_nil
  · refine all_cons (.inr (mL 5 rfl fun w hb => elem_run (hvx3.on hb) Hx.out)) ?_
    refine all_cons (.inr (mL 6 rfl fun w hb => elem_run (hvy3.on hb) Hy.out)) ?_
    refine all_cons (.inr (mC 7 rfl Tryd.func59 fun w hb => CS.out w)) ?_
    refine all_cons (.inr (mU 8 rfl BN)) ?_
    exact all_nil
  intro w4 g hb4 hN4 hap4
  clear hN4 hap4
  have hB4 := below_then (show Below w.heap.size w w3.drew from hB3.drew) hb4
  have hvx4 := hvx3.on hb4
  have hvy4 := hvy3.on hb4
  have hvr4 := hvr3.on hb4
  clear hB3 hvx3 hvy3 hvr3 hb4
  refine wpAny_rest 4 rfl (by kernel_rfl) ?_
  refine vset_step rfl 46 (.tmp 4) (.tmp 8) rfl gr 15 (nzeros 15) (n.map ncell) rfl rfl hvr4 rfl size_up (by rw [List.length_map, Hn.out]) (ncells_one _) ?_
  intro w5 hb5 hvr5 hz5
  have hB5 : Below w.heap.size w w5 := hB4.trans (hb5.below hger hB4.size)
  have hvx5 := hvx4.but hb5 hnexr
  have hvy5 := hvy4.but hb5 hneyr
  clear hB4 hvr4 hb5 hz5 hvx4 hvy4
  rename_i K hKK
  show Exit.then K _ Exit.normal (⟨(uatVs1 x y w.heap.size gy gr o n).toArray, []⟩ : Act) w5
  simp only [Exit.then]
  refine hKK _ _ ?_
  clear hKK K g
  simp only [uatVs1, ptr]
  go_wp2
  exact sret Tryd.results38 gr (n.map ncell) rfl hvr5 Tryd.underlying46 rfl size_up (by rw [List.length_map, Hn.out]) rfl ⟨rfl, hB5⟩
def uzeroVs1 (g_base : Nat) (z : List Nat) (o : List Nat) (r : List Nat) : List Value :=
  ptr g_base :: (numVal z) :: (numVal o) :: (numVal r) :: []
set_option maxRecDepth 100000 in
set_option maxHeartbeats 1000000 in
theorem uzero_over (z o r : List Nat) (w : World)
    (Hr : Hid (r.length = 15))
    (CS : Hid (∀ W, Calls Tryd.prog 59 #[.int .i64 1] W (gvn (numVal o) W)))
    (CA : Hid (∀ W, Calls Tryd.prog 38 #[numVal z, numVal o] W (gvn (numVal r) W)))
    (BZ : ∀ w, (Instr.build 44 #[]).run Tryd.prog w = .ok (numVal z) w) :
    Calls Tryd.prog 66 #[] w (gvn (numVal r) w) := by
  go_enter Tryd.func66, Tryd.ntmps66
  go_upto_region 1 with (first
    | (refine vzero_step (o := ⟨some 0, _, _, _, _, _⟩) rfl 46 rfl (nzeros 15) zero_up ?_
       intro w1 hb1 hvr1
       have hB1 := hb1
       have hger : w.heap.size ≤ w.heap.size := Nat.le_refl _
       clear  hb1
       try simp only [Act.put, List.setIfInBounds_toArray, List.set_cons_zero]
       skip))
  refine wp_region_flat (md := .any) (by kernel_rfl) ?_
  refine wpAny_flatM (L := [0, 1, 2]) (by kernel_rfl) _ _ (uzeroVs1 w.heap.size z o r) [] 46 (nzeros 15) [0] (by kernel_rfl) (by kernel_rfl) ?_ zero_up ?_ (by rfl) ?_ 1 (by kernel_rfl) ?_
  · intro p hp
    exact absurd hp List.not_mem_nil
  · exact all_cons rfl (all_nil)
  · refine all_cons (.inr (mU 1 rfl BZ)) ?_
    refine all_cons (.inr (mC 2 rfl Tryd.func59 fun w hb => CS.out w)) ?_
    refine all_cons (.inr (mC 3 rfl Tryd.func38 fun w hb => CA.out w)) ?_
    exact all_nil
  intro w2 g hb2 hN2 hap2
  clear hN2 hap2
  have hB2 := below_then hB1 hb2
  have hvr2 := hvr1.on hb2
  clear hB1 hvr1 hb2
  refine wpAny_rest 3 rfl (by kernel_rfl) ?_
  refine vset_step rfl 46 (.tmp 0) (.tmp 3) rfl w.heap.size 15 (nzeros 15) (r.map ncell) rfl rfl hvr2 rfl size_up (by rw [List.length_map, Hr.out]) (ncells_one _) ?_
  intro w3 hb3 hvr3 hz3
  have hB3 : Below w.heap.size w w3 := hB2.trans (hb3.below hger hB2.size)
  clear hB2 hvr2 hb3 hz3
  rename_i K hKK
  show Exit.then K _ Exit.normal (⟨(uzeroVs1 w.heap.size z o r).toArray, []⟩ : Act) w3
  simp only [Exit.then]
  refine hKK _ _ ?_
  clear hKK K g
  simp only [uzeroVs1, ptr]
  go_wp2
  exact sret Tryd.results66 (w.heap.size) (r.map ncell) rfl hvr3 Tryd.underlying46 rfl size_up (by rw [List.length_map, Hr.out]) rfl ⟨rfl, hB3⟩
set_option maxRecDepth 100000 in
set_option maxHeartbeats 1000000 in
theorem ubase_over (x y r : List Nat) (E : Value) (w : World)
    (Hr : Hid (r.length = 15))
    (CX : Hid (∀ W, TabsU E W → Calls Tryd.prog 52 #[] W (gvn (numVal x) W)))
    (CY : Hid (∀ W, TabsU E W → Calls Tryd.prog 53 #[] W (gvn (numVal y) W)))
    (CA : Hid (∀ W, Calls Tryd.prog 38 #[numVal x, numVal y] W (gvn (numVal r) W)))
    (hS : TabsU E w) :
    Calls Tryd.prog 24 #[] w (gvn (numVal r) w) := by
  go_enter Tryd.func24, Tryd.ntmps24
  go_wp2_with (first
    | (refine vzero_step (o := ⟨some 0, _, _, _, _, _⟩) rfl 46 rfl (nzeros 15) zero_up ?_
       intro w1 hb1 hvr1
       have hB1 := hb1
       have hger : w.heap.size ≤ w.heap.size := Nat.le_refl _
       clear  hb1
       try simp only [Act.put, List.setIfInBounds_toArray, List.set_cons_zero]
       skip))
  refine (CX.out w1 (hS.below hB1)).mono ?_
  rintro e w2 ⟨rfl, hb2⟩
  have hB2 := below_then hB1 hb2
  have hvr2 := hvr1.on hb2
  clear hB1 hvr1 hb2
  go_wp2_with fail
  refine (CY.out w2 (hS.below hB2)).mono ?_
  rintro e w3 ⟨rfl, hb3⟩
  have hB3 := below_then hB2 hb3
  have hvr3 := hvr2.on hb3
  clear hB2 hvr2 hb3
  go_wp2_with fail
  refine (CA.out w3).mono ?_
  rintro e w4 ⟨rfl, hb4⟩
  have hB4 := below_then hB3 hb4
  have hvr4 := hvr3.on hb4
  clear hB3 hvr3 hb4
  go_wp2_with (first
    | (refine vset_step rfl 46 (.tmp 0) (.tmp 3) rfl w.heap.size 15 (nzeros 15) (r.map ncell) rfl rfl hvr4 rfl size_up (by rw [List.length_map, Hr.out]) (ncells_one _) ?_
       intro w5 hb5 hvr5 hz5
       have hB5 : Below w.heap.size w w5 := hB4.trans (hb5.below hger hB4.size)
       clear hB4 hvr4 hb5 hz5
       skip))
  exact sret Tryd.results24 (w.heap.size) (r.map ncell) rfl hvr5 Tryd.underlying46 rfl size_up (by rw [List.length_map, Hr.out]) rfl ⟨rfl, hB5⟩
def uquoVs1 (la : List Nat) (lb : List Nat) (lc : List Nat) (ld : List Nat) (g_base : Nat) (gb : Nat) (gc : Nat) (gd : Nat) (gr : Nat) (ad : List Nat) (cb : List Nat) (bd : List Nat) (r : List Nat) : List Value :=
  (numVal la) :: (numVal lb) :: (numVal lc) :: (numVal ld) :: ptr g_base :: ptr gb :: ptr gc :: ptr gd :: ptr gr :: (numVal la) :: (numVal ld) :: (numVal ad) :: (numVal lc) :: (numVal lb) :: (numVal cb) :: (numVal lb) :: (numVal ld) :: (numVal bd) :: (numVal r) :: []
set_option maxRecDepth 100000 in
set_option maxHeartbeats 1000000 in
theorem uquo_over (la lb lc ld ad cb bd r : List Nat) (w : World)
    (Hla : Hid (la.length = 5))
    (Hlb : Hid (lb.length = 5))
    (Hlc : Hid (lc.length = 5))
    (Hld : Hid (ld.length = 5))
    (Hr : Hid (r.length = 15))
    (C1 : Hid (∀ W, Calls Tryd.prog 43 #[numVal la, numVal ld] W (gvn (numVal ad) W)))
    (C2 : Hid (∀ W, Calls Tryd.prog 43 #[numVal lc, numVal lb] W (gvn (numVal cb) W)))
    (C3 : Hid (∀ W, Calls Tryd.prog 43 #[numVal lb, numVal ld] W (gvn (numVal bd) W)))
    (BR : ∀ w, (Instr.build 46 #[(0, numVal ad), (1, numVal cb), (2, numVal bd)]).run Tryd.prog w = .ok (numVal r) w) :
    Calls Tryd.prog 87 #[numVal la, numVal lb, numVal lc, numVal ld] w (gvn (numVal r) w) := by
  go_enter Tryd.func87, Tryd.ntmps87
  go_wp2_with (first
    | (refine vtake_step rfl 44 (.tmp 0) rfl (la.map ncell) rfl ?_
       intro w1 hb1 hva1
       have hB1 := hb1
       have hgea : w.heap.size ≤ w.heap.size := Nat.le_refl _
       clear  hb1
       try simp only [putS]
       skip)
    | (refine vtake_step rfl 44 (.tmp 1) rfl (lb.map ncell) rfl ?_
       intro w2 hb2 hvb2
       have hB2 := below_then hB1 hb2
       have hgeb : w.heap.size ≤ w1.heap.size := hB1.size
       have hva2 := hva1.on hb2
       have hneab := Nat.ne_of_lt hva1.lt
       clear hB1 hva1 hb2
       try simp only [putS]
       skip)
    | (refine vtake_step rfl 44 (.tmp 2) rfl (lc.map ncell) rfl ?_
       intro w3 hb3 hvc3
       have hB3 := below_then hB2 hb3
       have hgec : w.heap.size ≤ w2.heap.size := hB2.size
       have hva3 := hva2.on hb3
       have hneac := Nat.ne_of_lt hva2.lt
       have hvb3 := hvb2.on hb3
       have hnebc := Nat.ne_of_lt hvb2.lt
       clear hB2 hva2 hvb2 hb3
       try simp only [putS]
       skip)
    | (refine vtake_step rfl 44 (.tmp 3) rfl (ld.map ncell) rfl ?_
       intro w4 hb4 hvd4
       have hB4 := below_then hB3 hb4
       have hged : w.heap.size ≤ w3.heap.size := hB3.size
       have hva4 := hva3.on hb4
       have hnead := Nat.ne_of_lt hva3.lt
       have hvb4 := hvb3.on hb4
       have hnebd := Nat.ne_of_lt hvb3.lt
       have hvc4 := hvc3.on hb4
       have hnecd := Nat.ne_of_lt hvc3.lt
       clear hB3 hva3 hvb3 hvc3 hb4
       try simp only [putS]
       skip)
    | (refine vzero_step (o := ⟨some 8, _, _, _, _, _⟩) rfl 46 rfl (nzeros 15) zero_up ?_
       intro w5 hb5 hvr5
       have hB5 := below_then hB4 hb5
       have hger : w.heap.size ≤ w4.heap.size := hB4.size
       have hva5 := hva4.on hb5
       have hnear := Nat.ne_of_lt hva4.lt
       have hvb5 := hvb4.on hb5
       have hnebr := Nat.ne_of_lt hvb4.lt
       have hvc5 := hvc4.on hb5
       have hnecr := Nat.ne_of_lt hvc4.lt
       have hvd5 := hvd4.on hb5
       have hnedr := Nat.ne_of_lt hvd4.lt
       clear hB4 hva4 hvb4 hvc4 hvd4 hb5
       try simp only [putS]
       skip))
  generalize hqb : w1.heap.size = gb at *
  clear hqb
  generalize hqc : w2.heap.size = gc at *
  clear hqc
  generalize hqd : w3.heap.size = gd at *
  clear hqd
  generalize hqr : w4.heap.size = gr at *
  clear hqr
  replace hva5 := hva5.drew
  replace hvb5 := hvb5.drew
  replace hvc5 := hvc5.drew
  replace hvd5 := hvd5.drew
  replace hvr5 := hvr5.drew
  refine wp_region_any (by kernel_rfl) ?_
  refine wpAny_flatM (L := [0, 1, 2, 3, 4, 5, 6, 7, 8, 9]) (by kernel_rfl) _ _ (uquoVs1 la lb lc ld w.heap.size gb gc gd gr ad cb bd r) [] 44 (nzeros 5) [0, 1, 2, 3, 4, 5, 6, 7, 8] (by kernel_rfl) (by kernel_rfl) ?_ zero_elem ?_ (by rfl) ?_ 1 (by kernel_rfl) ?_
  · intro p hp
    exact absurd hp List.not_mem_nil
  · repeat refine all_cons rfl ?_
    exact all_nil
  · refine all_cons (.inr (mL 9 rfl fun w hb => elem_run (hva5.on hb) Hla.out)) ?_
    refine all_cons (.inr (mL 10 rfl fun w hb => elem_run (hvd5.on hb) Hld.out)) ?_
    refine all_cons (.inr (mC 11 rfl Tryd.func43 fun w hb => C1.out w)) ?_
    refine all_cons (.inr (mL 12 rfl fun w hb => elem_run (hvc5.on hb) Hlc.out)) ?_
    refine all_cons (.inr (mL 13 rfl fun w hb => elem_run (hvb5.on hb) Hlb.out)) ?_
    refine all_cons (.inr (mC 14 rfl Tryd.func43 fun w hb => C2.out w)) ?_
    refine all_cons (.inr (mL 15 rfl fun w hb => elem_run (hvb5.on hb) Hlb.out)) ?_
    refine all_cons (.inr (mL 16 rfl fun w hb => elem_run (hvd5.on hb) Hld.out)) ?_
    refine all_cons (.inr (mC 17 rfl Tryd.func43 fun w hb => C3.out w)) ?_
    refine all_cons (.inr (mU 18 rfl BR)) ?_
    exact all_nil
  intro w6 g hb6 hN6 hap6
  clear hN6 hap6
  have hB6 := below_then (show Below w.heap.size w w5.drew from hB5.drew) hb6
  have hva6 := hva5.on hb6
  have hvb6 := hvb5.on hb6
  have hvc6 := hvc5.on hb6
  have hvd6 := hvd5.on hb6
  have hvr6 := hvr5.on hb6
  clear hB5 hva5 hvb5 hvc5 hvd5 hvr5 hb6
  refine wpAny_rest 10 rfl (by kernel_rfl) ?_
  refine vset_step rfl 46 (.tmp 8) (.tmp 18) rfl gr 15 (nzeros 15) (r.map ncell) rfl rfl hvr6 rfl size_up (by rw [List.length_map, Hr.out]) (ncells_one _) ?_
  intro w7 hb7 hvr7 hz7
  have hB7 : Below w.heap.size w w7 := hB6.trans (hb7.below hger hB6.size)
  have hva7 := hva6.but hb7 hnear
  have hvb7 := hvb6.but hb7 hnebr
  have hvc7 := hvc6.but hb7 hnecr
  have hvd7 := hvd6.but hb7 hnedr
  clear hB6 hvr6 hb7 hz7 hva6 hvb6 hvc6 hvd6
  rename_i K hKK
  show Exit.then K _ Exit.normal (⟨(uquoVs1 la lb lc ld w.heap.size gb gc gd gr ad cb bd r).toArray, []⟩ : Act) w7
  simp only [Exit.then]
  refine hKK _ _ ?_
  clear hKK K g
  simp only [uquoVs1, ptr]
  go_wp2
  exact sret Tryd.results87 gr (r.map ncell) rfl hvr7 Tryd.underlying46 rfl size_up (by rw [List.length_map, Hr.out]) rfl ⟨rfl, hB7⟩
end Go.Proofs.YtoggkhjaghkpnaaDoor
