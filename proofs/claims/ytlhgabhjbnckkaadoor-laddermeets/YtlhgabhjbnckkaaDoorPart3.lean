/- Part 3 of what the laws of this seat share: NPrime, NRoot, FMath, WCells, WCopy. -/
import Derived.Deep.MidRow
import Derived.StillTailTactics
import Derived.Laws.CopyOwn
import Derived.Test.YtlhgabhjbnckkaaDoorPart2
namespace Go.Proofs.YtlhgabhjbnckkaaDoor.NP
/-- A prime number. -/
def Pr (p : Nat) : Prop := 2 ≤ p ∧ ∀ d, d ∣ p → d = 1 ∨ d = p
theorem Pr.pos {p : Nat} (h : Pr p) : 0 < p := by have := h.1; omega
theorem Pr.coprime {p a : Nat} (h : Pr p) (ha : ¬ p ∣ a) : Nat.Coprime p a := by
  rcases h.2 (Nat.gcd p a) (Nat.gcd_dvd_left p a) with h1 | h1
  · exact h1
  · exact absurd (h1 ▸ Nat.gcd_dvd_right p a) ha
theorem Pr.euclid {p a b : Nat} (h : Pr p) (hd : p ∣ a * b) : p ∣ a ∨ p ∣ b := by
  by_cases ha : p ∣ a
  · exact Or.inl ha
  · exact Or.inr (Nat.Coprime.dvd_of_dvd_mul_left (h.coprime ha) hd)
/-- How many sets of so many there are. -/
def ch : Nat → Nat → Nat
  | _, 0 => 1
  | 0, _ + 1 => 0
  | n + 1, k + 1 => ch n k + ch n (k + 1)
theorem ch_zero (n : Nat) : ch n 0 = 1 := by cases n <;> rfl
theorem ch_over (n : Nat) : ∀ k, n < k → ch n k = 0 := by
  induction n with
  | zero => intro k hk; cases k with
    | zero => omega
    | succ k => rfl
  | succ n ih => intro k hk; cases k with
    | zero => omega
    | succ k => show ch n k + ch n (k + 1) = 0; rw [ih k (by omega), ih (k + 1) (by omega)]
theorem ch_self (n : Nat) : ch n n = 1 := by
  induction n with
  | zero => rfl
  | succ n ih => show ch n n + ch n (n + 1) = 1; rw [ih, ch_over n (n + 1) (by omega)]
theorem ch_absorb (n : Nat) : ∀ k, (k + 1) * ch (n + 1) (k + 1) = (n + 1) * ch n k := by
  induction n with
  | zero => intro k; cases k with
    | zero => rfl
    | succ k => show (k + 1 + 1) * (ch 0 (k + 1) + ch 0 (k + 1 + 1)) = 1 * ch 0 (k + 1); rw [ch_over 0 (k + 1) (by omega), ch_over 0 (k + 1 + 1) (by omega)]; rfl
  | succ n ih => intro k; cases k with
    | zero =>
      have h := ih 0
      rw [ch_zero] at h
      show (0 + 1) * (ch (n + 1) 0 + ch (n + 1) (0 + 1)) = _
      rw [ch_zero]; omega
    | succ j =>
      have h1 := ih j
      have h2 := ih (j + 1)
      have h3 : ch (n + 1) (j + 1) = ch n j + ch n (j + 1) := rfl
      show (j + 1 + 1) * (ch (n + 1) (j + 1) + ch (n + 1) (j + 1 + 1)) = _
      rw [Nat.mul_add, h2]
      have h4 : (j + 1 + 1) * ch (n + 1) (j + 1) = (n + 1) * ch n j + ch (n + 1) (j + 1) := by rw [Nat.add_mul (j + 1) 1, h1]; omega
      rw [h4, h3, Nat.add_mul (n + 1) 1, Nat.mul_add (n + 1)]; omega
/-- The first terms of (a + 1)^n. -/
def bs (n a : Nat) : Nat → Nat
  | 0 => 0
  | m + 1 => bs n a m + ch n m * a ^ m
theorem bs_step (n a : Nat) : ∀ m, bs (n + 1) a (m + 1) = bs n a (m + 1) + a * bs n a m := by
  intro m
  induction m with
  | zero => simp [bs, ch_zero]
  | succ m ih =>
    rw [bs, ih]
    show _ + (ch n m + ch n (m + 1)) * a ^ (m + 1) = (bs n a (m + 1) + ch n (m + 1) * a ^ (m + 1)) + a * (bs n a m + ch n m * a ^ m)
    rw [Nat.add_mul, Nat.mul_add, Nat.pow_succ]
    have : a * (ch n m * a ^ m) = ch n m * (a ^ m * a) := by rw [Nat.mul_left_comm, Nat.mul_comm a]
    omega
theorem bs_all (n a : Nat) : bs n a (n + 1) = (a + 1) ^ n := by
  induction n with
  | zero => simp [bs, ch]
  | succ n ih =>
    rw [bs_step, bs, ih, ch_over n (n + 1) (by omega), Nat.pow_succ (a + 1), Nat.mul_add, Nat.mul_comm a]; omega
theorem Pr.dvd_ch {p : Nat} (h : Pr p) (k : Nat) (hk : k + 1 < p) : p ∣ ch p (k + 1) := by
  obtain ⟨q, rfl⟩ : ∃ q, p = q + 1 := ⟨p - 1, by have := h.1; omega⟩
  rcases h.euclid (⟨_, ch_absorb q k⟩ : q + 1 ∣ (k + 1) * ch (q + 1) (k + 1)) with h1 | h1
  · exact absurd (Nat.le_of_dvd (by omega) h1) (by omega)
  · exact h1
theorem Pr.bs_mod {p : Nat} (h : Pr p) (a : Nat) : ∀ m, m + 1 ≤ p → bs p a (m + 1) % p = 1 := by
  intro m
  induction m with
  | zero => intro _; simp [bs, ch_zero]; exact Nat.mod_eq_of_lt h.1
  | succ m ih =>
    intro hm
    rw [bs, Nat.add_mod, ih (by omega), Nat.mod_eq_zero_of_dvd (Nat.dvd_trans (h.dvd_ch m (by omega)) (Nat.dvd_mul_right _ _))]
    exact Nat.mod_eq_of_lt h.1
theorem Pr.step {p : Nat} (h : Pr p) (a : Nat) : (a + 1) ^ p % p = (a ^ p + 1) % p := by
  have h1 := h.1
  rw [← bs_all, bs, ch_self, Nat.one_mul, Nat.add_mod]
  obtain ⟨q, rfl⟩ : ∃ q, p = q + 1 := ⟨p - 1, by omega⟩
  rw [h.bs_mod a q (by omega), Nat.add_comm, Nat.mod_add_mod]
theorem Pr.fermat {p : Nat} (h : Pr p) (a : Nat) : a ^ p % p = a % p := by
  induction a with
  | zero => rw [Nat.zero_pow h.pos]
  | succ a ih => rw [h.step, Nat.add_mod, ih, ← Nat.add_mod]
theorem dvd_sub_of_mod {a b p : Nat} (h : a % p = b % p) : p ∣ a - b := by
  rcases Nat.lt_or_ge a b with hl | hl
  · rw [Nat.sub_eq_zero_of_le (by omega)]; exact Nat.dvd_zero p
  · refine ⟨a / p - b / p, ?_⟩
    have h1 := Nat.div_add_mod a p
    have h2 := Nat.div_add_mod b p
    rw [Nat.mul_sub]; omega
theorem mod_of_dvd_sub {a b p : Nat} (hl : b ≤ a) (h : p ∣ a - b) : a % p = b % p := by
  obtain ⟨c, hc⟩ := h
  rw [show a = b + p * c by omega, Nat.add_mul_mod_self_left]
/-- What is not divisible has 1 as its power p - 1. -/
theorem Pr.little {p : Nat} (h : Pr p) {a : Nat} (ha : ¬ p ∣ a) : a ^ (p - 1) % p = 1 := by
  have h1 := h.1
  have h2 := dvd_sub_of_mod (h.fermat a)
  have h3 : a ^ p - a = a * (a ^ (p - 1) - 1) := by
    rw [Nat.mul_sub, Nat.mul_one, ← Nat.pow_succ']
    rw [show (p - 1).succ = p by omega]
  rw [h3] at h2
  have ha0 : 0 < a := Nat.pos_of_ne_zero (fun e => ha (e ▸ Nat.dvd_zero p))
  have h4 := mod_of_dvd_sub (Nat.pow_pos (n := p - 1) ha0) ((h.euclid h2).resolve_left ha)
  rw [h4]; exact Nat.mod_eq_of_lt h1
theorem pow_one_mod {b r : Nat} (m k : Nat) (h : b ^ m % r = 1 % r) : b ^ (m * k) % r = 1 % r := by
  rw [Nat.pow_mul, Nat.pow_mod, h, ← Nat.pow_mod, Nat.one_pow]
theorem pow_gcd {b r : Nat} (m n : Nat) : b ^ m % r = 1 % r → b ^ n % r = 1 % r → b ^ (Nat.gcd m n) % r = 1 % r := by
  induction m, n using Nat.gcd.induction with
  | H0 n => intro _ h; rw [Nat.gcd_zero_left]; exact h
  | H1 m n hm ih =>
    intro h1 h2
    rw [Nat.gcd_rec]
    refine ih ?_ h1
    have h3 := pow_one_mod m (n / m) h1
    rw [← Nat.div_add_mod n m, Nat.pow_add, Nat.mul_mod, h3, ← Nat.mul_mod, Nat.one_mul] at h2
    exact h2
/-- Every number from 2 on has a prime divisor. -/
theorem has_prime (n : Nat) : 2 ≤ n → ∃ r, Pr r ∧ r ∣ n := by
  induction n using Nat.strongRecOn with
  | _ n ih =>
    intro hn
    by_cases h : Pr n
    · exact ⟨n, h, Nat.dvd_refl n⟩
    · have : ∃ d, d ∣ n ∧ d ≠ 1 ∧ d ≠ n := by
        refine Classical.byContradiction fun hc => h ⟨hn, fun d hd => ?_⟩
        refine Classical.byContradiction fun hc2 => hc ⟨d, hd, fun e => hc2 (Or.inl e), fun e => hc2 (Or.inr e)⟩
      obtain ⟨d, hd, h1, h2⟩ := this
      have hle := Nat.le_of_dvd (by omega) hd
      have hpos := Nat.pos_of_dvd_of_pos hd (by omega)
      obtain ⟨r, hr, hrd⟩ := ih d (by omega) (by omega)
      exact ⟨r, hr, Nat.dvd_trans hrd hd⟩
/-- A number without a prime divisor whose square is as little as it is prime. -/
theorem pr_of (n : Nat) (hn : 2 ≤ n) (h : ∀ r, Pr r → r ∣ n → n < r * r) : Pr n := by
  refine ⟨hn, fun d hd => ?_⟩
  refine Classical.byContradiction fun hc => ?_
  have hpos := Nat.pos_of_dvd_of_pos hd (by omega)
  obtain ⟨e, he⟩ := hd
  have h1 : d ≠ 1 := fun x => hc (Or.inl x)
  have h2 : e ≠ 1 := fun x => hc (Or.inr (by rw [he, x, Nat.mul_one]))
  have h0 : e ≠ 0 := fun x => by rw [x] at he; omega
  have key : ∀ a b, n = a * b → 2 ≤ a → a ≤ b → False := by
    intro a b hab ha hle
    obtain ⟨r, hr, hrd⟩ := has_prime a ha
    have h3 := h r hr (Nat.dvd_trans hrd ⟨b, hab⟩)
    have h4 := Nat.le_of_dvd (by omega) hrd
    have h5 : r * r ≤ a * b := Nat.mul_le_mul h4 (by omega)
    omega
  rcases Nat.le_total d e with hle | hle
  · exact key d e he (by omega) hle
  · exact key e d (by rw [he, Nat.mul_comm]) (by omega) hle
theorem dvd_pow_self (b : Nat) {q : Nat} (h : 0 < q) : b ∣ b ^ q := ⟨b ^ (q - 1), by rw [← Nat.pow_succ', show (q - 1).succ = q by omega]⟩
/-- Pocklington: a prime q of n - 1 is one of r - 1 too, for a prime divisor r of n. -/
theorem pock {n q a r : Nat} (hq : Pr q) (hr : Pr r) (hrn : r ∣ n) (hqn : q ∣ n - 1) (h1 : a ^ (n - 1) % n = 1 % n) (h2 : Nat.gcd (a ^ ((n - 1) / q) % n + (n - 1)) n = 1) (hn : 2 ≤ n) : q ∣ r - 1 := by
  have hr1 := hr.1
  have e1 : (a ^ ((n - 1) / q)) ^ q % r = 1 % r := by
    rw [← Nat.pow_mul, Nat.div_mul_cancel hqn]
    have := Nat.mod_mod_of_dvd (a ^ (n - 1)) hrn
    rw [h1, Nat.mod_mod_of_dvd 1 hrn] at this
    exact this.symm
  have e2 : a ^ ((n - 1) / q) % r ≠ 1 % r := by
    intro e
    have e3 : r ∣ a ^ ((n - 1) / q) % n + (n - 1) := by
      refine Nat.dvd_of_mod_eq_zero ?_
      obtain ⟨c, hc⟩ := hrn
      have e5 : (a ^ ((n - 1) / q) % n) % r = 1 % r := by rw [Nat.mod_mod_of_dvd _ ⟨c, hc⟩, e]
      rw [Nat.add_mod, e5, ← Nat.add_mod, show 1 + (n - 1) = r * c by omega]
      exact Nat.mul_mod_right r c
    have e4 := Nat.dvd_gcd e3 hrn
    rw [h2] at e4
    have := Nat.le_of_dvd (by omega) e4
    omega
  generalize a ^ ((n - 1) / q) = b at *
  have e6 : ¬ r ∣ b := by
    intro h
    have : b ^ q % r = 0 := Nat.mod_eq_zero_of_dvd (Nat.dvd_trans h (dvd_pow_self b (by have := hq.1; omega)))
    rw [this, Nat.mod_eq_of_lt hr1] at e1; omega
  have e7 := hr.little e6
  rw [← Nat.mod_eq_of_lt (show 1 < r by omega)] at e7
  rw [show (1 % r) = 1 % r from rfl] at e7
  have e8 := pow_gcd q (r - 1) e1 (by rw [Nat.mod_eq_of_lt (show 1 < r by omega)]; rw [Nat.mod_eq_of_lt (show 1 < r by omega)] at e7; exact e7)
  rcases hq.2 _ (Nat.gcd_dvd_left q (r - 1)) with h3 | h3
  · rw [h3, Nat.pow_one] at e8; exact absurd e8 e2
  · rw [← h3]; exact Nat.gcd_dvd_right q (r - 1)
/-- A power modulo m, by squares. -/
def pw : Nat → Nat → Nat → Nat → Nat
  | 0, _, _, m => 1 % m
  | f + 1, a, e, m => bif Nat.beq e 0 then 1 % m else bif Nat.beq (e % 2) 1 then (a * pw f (a * a % m) (e / 2) m) % m else pw f (a * a % m) (e / 2) m
theorem pw_eq (m : Nat) : ∀ f a e, e < 2 ^ f → pw f a e m = a ^ e % m := by
  intro f
  induction f with
  | zero => intro a e h; rw [show e = 0 by omega]; rfl
  | succ f ih =>
    intro a e h
    rw [Nat.pow_succ] at h
    have h1 := ih (a * a % m) (e / 2) (by omega)
    have h2 : (a * a % m) ^ (e / 2) % m = a ^ (2 * (e / 2)) % m := by
      rw [← Nat.pow_mod, Nat.pow_mul, Nat.pow_two]
    rw [h2] at h1
    rw [pw, h1]
    rcases Nat.eq_zero_or_pos e with h0 | h0
    · subst h0; rfl
    · have hb : Nat.beq e 0 = false := Bool.eq_false_iff.2 (fun c => by have := Nat.eq_of_beq_eq_true c; omega)
      rw [hb]
      rcases Nat.mod_two_eq_zero_or_one e with h3 | h3
      · rw [h3]
        show a ^ (2 * (e / 2)) % m = _
        rw [show 2 * (e / 2) = e by omega]
      · rw [h3]
        show a * (a ^ (2 * (e / 2)) % m) % m = _
        rw [Nat.mul_mod_mod, ← Nat.pow_succ', show (2 * (e / 2)).succ = e by omega]
/-- No number from d on, so many of them, divides n. -/
def none_from (n : Nat) : Nat → Nat → Bool
  | 0, _ => true
  | f + 1, d => bif Nat.beq (n % d) 0 then false else none_from n f (d + 1)
theorem none_from_is (n : Nat) : ∀ f d, none_from n f d = true → ∀ k, d ≤ k → k < d + f → ¬ k ∣ n := by
  intro f
  induction f with
  | zero => intro d _ k h1 h2; omega
  | succ f ih =>
    intro d h k h1 h2 hk
    rw [none_from] at h
    cases hb : Nat.beq (n % d) 0 with
    | true => rw [hb] at h; cases h
    | false =>
      rw [hb] at h
      by_cases e : k = d
      · subst e
        rw [Nat.mod_eq_zero_of_dvd hk] at hb; cases hb
      · exact ih (d + 1) h k (by omega) (by omega) hk
theorem pr_small (n f : Nat) (hn : 2 ≤ n) (h : none_from n f 2 = true) (hf : n < (f + 2) * (f + 2)) : Pr n := by
  refine pr_of n hn fun r hr hd => ?_
  refine Classical.byContradiction fun hc => none_from_is n f 2 h r hr.1 ?_ hd
  rcases Nat.lt_or_ge r (2 + f) with hl | hl
  · exact hl
  · have := Nat.mul_le_mul (show f + 2 ≤ r by omega) (show f + 2 ≤ r by omega)
    omega
/-- One prime of n - 1 that is great enough. -/
theorem pr_one {n q : Nat} (a f : Nat) (hq : Pr q) (hn : 2 ≤ n) (hqn : (n - 1) % q = 0) (h1 : pw f a (n - 1) n = 1 % n) (h2 : Nat.gcd (pw f a ((n - 1) / q) n + (n - 1)) n = 1) (hf : n ≤ 2 ^ f) (hl : n < (q + 1) * (q + 1)) : Pr n := by
  rw [pw_eq _ _ _ _ (by omega)] at h1
  rw [pw_eq _ _ _ _ (Nat.lt_of_le_of_lt (Nat.div_le_self _ _) (by omega))] at h2
  refine pr_of n hn fun r hr hd => ?_
  have h3 := pock hq hr hd (Nat.dvd_of_mod_eq_zero hqn) h1 h2 hn
  have h4 := Nat.le_of_dvd (by have := hr.1; omega) h3
  have := hr.1
  exact Nat.lt_of_lt_of_le hl (Nat.mul_le_mul (by omega) (by omega))
/-- Two primes of n - 1 whose product is great enough. -/
theorem pr_two {n q u : Nat} (a b f : Nat) (hq : Pr q) (hu : Pr u) (hqu : Nat.gcd q u = 1) (hn : 2 ≤ n) (hqn : (n - 1) % q = 0) (hun : (n - 1) % u = 0) (h1 : pw f a (n - 1) n = 1 % n) (h2 : Nat.gcd (pw f a ((n - 1) / q) n + (n - 1)) n = 1) (g1 : pw f b (n - 1) n = 1 % n) (g2 : Nat.gcd (pw f b ((n - 1) / u) n + (n - 1)) n = 1) (hf : n ≤ 2 ^ f) (hl : n < (q * u + 1) * (q * u + 1)) : Pr n := by
  rw [pw_eq _ _ _ _ (by omega)] at h1 g1
  rw [pw_eq _ _ _ _ (Nat.lt_of_le_of_lt (Nat.div_le_self _ _) (by omega))] at h2 g2
  refine pr_of n hn fun r hr hd => ?_
  have h3 := pock hq hr hd (Nat.dvd_of_mod_eq_zero hqn) h1 h2 hn
  have g3 := pock hu hr hd (Nat.dvd_of_mod_eq_zero hun) g1 g2 hn
  have h4 := Nat.le_of_dvd (by have := hr.1; omega) (Nat.Coprime.mul_dvd_of_dvd_of_dvd hqu h3 g3)
  have := hr.1
  exact Nat.lt_of_lt_of_le hl (Nat.mul_le_mul (by omega) (by omega))
def pT : Nat := 8574133
def pS : Nat := 1919519569386763
def pR : Nat := 75445702479781427272750846543864801
def pQ : Nat := 74058212732561358302231226437062788676166966415465897661863160754340907
/-- The number p of the chapter. -/
def PP : Nat := 57896044618658097711785492504343953926634992332820282019728792003956564819949
set_option maxRecDepth 100000 in
theorem pr_127 : Pr 127 := pr_small 127 10 (by decide) (by decide +kernel) (by decide)
set_option maxRecDepth 100000 in
theorem pr_353 : Pr 353 := pr_small 353 17 (by decide) (by decide +kernel) (by decide)
set_option maxRecDepth 100000 in
theorem pr_75707 : Pr 75707 := pr_small 75707 280 (by decide) (by decide +kernel) (by decide)
set_option maxRecDepth 100000 in
theorem pr_T : Pr pT := pr_small pT 2930 (by decide +kernel) (by decide +kernel) (by decide +kernel)
set_option maxRecDepth 100000 in
theorem pr_S : Pr pS := pr_two (q := pT) (u := 127) 2 2 51 pr_T pr_127 (by decide +kernel) (by decide +kernel) (by decide +kernel) (by decide +kernel) (by decide +kernel) (by decide +kernel) (by decide +kernel) (by decide +kernel) (by decide +kernel) (by decide +kernel)
set_option maxRecDepth 100000 in
theorem pr_R : Pr pR := pr_two (q := pS) (u := 75707) 2 2 116 pr_S pr_75707 (by decide +kernel) (by decide +kernel) (by decide +kernel) (by decide +kernel) (by decide +kernel) (by decide +kernel) (by decide +kernel) (by decide +kernel) (by decide +kernel) (by decide +kernel)
set_option maxRecDepth 100000 in
theorem pr_Q : Pr pQ := pr_two (q := pR) (u := 353) 2 2 236 pr_R pr_353 (by decide +kernel) (by decide +kernel) (by decide +kernel) (by decide +kernel) (by decide +kernel) (by decide +kernel) (by decide +kernel) (by decide +kernel) (by decide +kernel) (by decide +kernel)
set_option maxRecDepth 100000 in
theorem pr_P : Pr PP := pr_one (q := pQ) 2 255 pr_Q (by decide +kernel) (by decide +kernel) (by decide +kernel) (by decide +kernel) (by decide +kernel) (by decide +kernel)
end Go.Proofs.YtlhgabhjbnckkaaDoor.NP
namespace Go.Proofs.YtlhgabhjbnckkaaDoor.NP
theorem cg (x y P : Nat) : (x % P = y % P) ↔ ((P : Int) ∣ (x : Int) - (y : Int)) := by
  constructor
  · intro h
    have h1 : (x : Int) % (P : Int) = (y : Int) % (P : Int) := by rw [← Int.natCast_emod, ← Int.natCast_emod, h]
    exact Int.dvd_of_emod_eq_zero (Int.emod_eq_emod_iff_emod_sub_eq_zero.1 h1)
  · intro h
    have h1 := Int.emod_eq_emod_iff_emod_sub_eq_zero.2 (Int.emod_eq_zero_of_dvd h)
    rw [← Int.natCast_emod, ← Int.natCast_emod] at h1
    exact Int.ofNat.inj h1
theorem Pr.int {P : Nat} (h : Pr P) {x y : Int} (hd : (P : Int) ∣ x * y) : (P : Int) ∣ x ∨ (P : Int) ∣ y := by
  rw [← Int.natAbs_dvd_natAbs, Int.natAbs_mul] at hd
  rcases h.euclid hd with h1 | h1
  · exact Or.inl (Int.natAbs_dvd_natAbs.1 h1)
  · exact Or.inr (Int.natAbs_dvd_natAbs.1 h1)
theorem not_dvd {P a : Nat} (h : a < P) (h0 : a ≠ 0) : ¬ (P : Int) ∣ (a : Int) := by
  rw [Int.natCast_dvd_natCast]
  intro hd
  have := Nat.le_of_dvd (by omega) hd
  omega
/-- What a root of a would be. -/
def rt (P k t a : Nat) : Nat := if (a ^ (k + 1) % P) * (a ^ (k + 1) % P) % P = a then a ^ (k + 1) % P else (a ^ (k + 1) % P) * t % P
/-- Whether it is one. -/
def isS (P k t a : Nat) : Bool := decide (rt P k t a * rt P k t a % P = a)
theorem four (P k a : Nat) : (a ^ (k + 1) % P) * (a ^ (k + 1) % P) * ((a ^ (k + 1) % P) * (a ^ (k + 1) % P)) % P = a ^ (4 * k + 2) * (a * a) % P := by
  have h : ∀ x : Nat, x * x * (x * x) = x ^ 4 := fun x => by grind
  rw [h, ← Nat.pow_mod, ← Nat.pow_mul, ← Nat.pow_two, ← Nat.pow_add]
  rw [show (k + 1) * 4 = 4 * k + 2 + 2 by omega]
theorem isS_iff {P k t a : Nat} (hP : Pr P) (ht : (P : Int) ∣ (t : Int) * t + 1) (ha : a < P) : isS P k t a = true ↔ a = 0 ∨ a ^ (4 * k + 2) % P = 1 := by
  have h4 := (cg _ _ P).1 (four P k a)
  have h2 := hP.1
  rw [isS, decide_eq_true_eq, rt]
  by_cases h0 : a = 0
  · subst h0
    simp
  have hna := not_dvd ha h0
  have hc1 : a ^ (4 * k + 2) % P = 1 ↔ (P : Int) ∣ ((a ^ (4 * k + 2) : Nat) : Int) - ((1 : Nat) : Int) := by rw [← cg, Nat.mod_eq_of_lt h2]
  rw [or_iff_right h0, hc1]
  generalize a ^ (k + 1) % P = r at *
  generalize a ^ (4 * k + 2) = c at *
  simp only [Int.natCast_mul, Int.natCast_one] at *
  have cancel : (P : Int) ∣ ((c : Int) - 1) * (a * a) → (P : Int) ∣ (c : Int) - 1 := by
    intro h
    rcases hP.int h with h | h
    · exact h
    · rcases hP.int h with h | h <;> exact absurd h hna
  by_cases hr : r * r % P = a
  · rw [if_pos hr]
    have h5 : (P : Int) ∣ (r : Int) * r - a := by
      have := (cg (r * r) a P).1 (by rw [hr, Nat.mod_eq_of_lt ha])
      simpa using this
    refine ⟨fun _ => cancel ?_, fun _ => hr⟩
    obtain ⟨u, hu⟩ := h4
    obtain ⟨v, hv⟩ := h5
    exact ⟨v * (r * r + a) - u, by grind⟩
  · rw [if_neg hr]
    have e1 : (r * t % P) * (r * t % P) % P = a ↔ (P : Int) ∣ (r : Int) * t * (r * t) - a := by
      rw [← Nat.mul_mod]
      have := cg (r * t * (r * t)) a P
      rw [Nat.mod_eq_of_lt ha] at this
      simpa using this
    rw [e1]
    obtain ⟨u, hu⟩ := h4
    obtain ⟨w, hw⟩ := ht
    constructor
    · rintro ⟨v, hv⟩
      refine cancel ⟨v * (r * t * (r * t) + a) - (r * r * (r * r)) * w * (t * t - 1) - u, by grind⟩
    · rintro ⟨z, hz⟩
      have h6 : (P : Int) ∣ ((r : Int) * r - a) * (r * r + a) := ⟨u + z * a * a, by grind⟩
      rcases hP.int h6 with ⟨y, hy⟩ | ⟨y, hy⟩
      · refine absurd ?_ hr
        have := (cg (r * r) a P).2 (by simp only [Int.natCast_mul]; exact ⟨y, hy⟩)
        rw [this, Nat.mod_eq_of_lt ha]
      · exact ⟨w * r * r - y, by grind⟩
/-- Euler: the half power of what is not nought is 1 or less 1. -/
theorem half {P k a : Nat} (hP : Pr P) (hk : P = 8 * k + 5) (ha : a < P) (h0 : a ≠ 0) : (P : Int) ∣ ((a ^ (4 * k + 2) : Nat) : Int) - 1 ∨ (P : Int) ∣ ((a ^ (4 * k + 2) : Nat) : Int) + 1 := by
  have h := hP.little (a := a) (fun h => not_dvd ha h0 (Int.natCast_dvd_natCast.2 h))
  rw [show P - 1 = (4 * k + 2) * 2 by omega, Nat.pow_mul, Nat.pow_two] at h
  have h1 := (cg _ 1 P).1 (h.trans (Nat.mod_eq_of_lt hP.1).symm)
  generalize a ^ (4 * k + 2) = c at *
  refine hP.int ?_
  obtain ⟨u, hu⟩ := h1
  simp only [Int.natCast_mul] at hu
  exact ⟨u, by grind⟩
theorem one_iff {P c : Nat} (hP : Pr P) : c % P = 1 ↔ (P : Int) ∣ (c : Int) - 1 := by
  have := cg c 1 P
  rw [Nat.mod_eq_of_lt hP.1] at this
  exact this
/-- Of two that are not nought the product has a root just where both have one, or neither has. -/
theorem isS_mul {P k t a b : Nat} (hP : Pr P) (hk : P = 8 * k + 5) (ht : (P : Int) ∣ (t : Int) * t + 1) (ha : a < P) (hb : b < P) (ha0 : a ≠ 0) (hb0 : b ≠ 0) : isS P k t (a * b % P) = (isS P k t a == isS P k t b) := by
  have hp := hP.pos
  have h5 : (5 : Int) ≤ P := by omega
  have hab : ¬ (P : Int) ∣ (a : Int) * b := fun h => by
    rcases hP.int h with h | h
    · exact not_dvd ha ha0 h
    · exact not_dvd hb hb0 h
  have hab0 : a * b % P ≠ 0 := fun h => hab (by rw [← Int.natCast_mul, Int.natCast_dvd_natCast]; exact Nat.dvd_of_mod_eq_zero h)
  have ia := isS_iff (k := k) hP ht ha
  have ib := isS_iff (k := k) hP ht hb
  have ic := isS_iff (k := k) (a := a * b % P) hP ht (Nat.mod_lt _ hp)
  rw [or_iff_right ha0, one_iff hP] at ia
  rw [or_iff_right hb0, one_iff hP] at ib
  rw [or_iff_right hab0, ← Nat.pow_mod, Nat.mul_pow, one_iff hP, Int.natCast_mul] at ic
  have xa := half hP hk ha ha0
  have xb := half hP hk hb hb0
  generalize isS P k t (a * b % P) = p at *
  generalize isS P k t a = q at *
  generalize isS P k t b = r at *
  generalize ((a ^ (4 * k + 2) : Nat) : Int) = c at *
  generalize ((b ^ (4 * k + 2) : Nat) : Int) = d at *
  have no2 : ∀ x : Int, (P : Int) ∣ x - 1 → (P : Int) ∣ x + 1 → False := by
    rintro x ⟨u, hu⟩ ⟨v, hv⟩
    have h : (P : Int) ∣ ((2 : Nat) : Int) := ⟨v - u, by grind⟩
    exact not_dvd (by omega) (by omega) h
  rcases xa with hA | hA <;> rcases xb with hB | hB
  · rw [ia.2 hA, ib.2 hB, ic.2 (by obtain ⟨u, hu⟩ := hA; obtain ⟨v, hv⟩ := hB; exact ⟨u * d + v, by grind⟩)]; rfl
  · have e1 : r = false := Bool.eq_false_iff.2 (fun e => no2 d (ib.1 e) hB)
    have e2 : p = false := Bool.eq_false_iff.2 (fun e => no2 (c * d) (ic.1 e) (by obtain ⟨u, hu⟩ := hA; obtain ⟨v, hv⟩ := hB; exact ⟨u * d + v, by grind⟩))
    rw [ia.2 hA, e1, e2]; rfl
  · have e1 : q = false := Bool.eq_false_iff.2 (fun e => no2 c (ia.1 e) hA)
    have e2 : p = false := Bool.eq_false_iff.2 (fun e => no2 (c * d) (ic.1 e) (by obtain ⟨u, hu⟩ := hA; obtain ⟨v, hv⟩ := hB; exact ⟨u * d - v, by grind⟩))
    rw [ib.2 hB, e1, e2]; rfl
  · have e1 : q = false := Bool.eq_false_iff.2 (fun e => no2 c (ia.1 e) hA)
    have e2 : r = false := Bool.eq_false_iff.2 (fun e => no2 d (ib.1 e) hB)
    rw [e1, e2, ic.2 (by obtain ⟨u, hu⟩ := hA; obtain ⟨v, hv⟩ := hB; exact ⟨u * d - v, by grind⟩)]; rfl
/-- A square has a root. -/
theorem isS_square {P k t x : Nat} (hP : Pr P) (hk : P = 8 * k + 5) (ht : (P : Int) ∣ (t : Int) * t + 1) (hx : x < P) : isS P k t (x * x % P) = true := by
  by_cases h0 : x = 0
  · subst h0
    rw [isS_iff hP ht (Nat.mod_lt _ hP.pos)]; simp
  · rw [isS_mul hP hk ht hx hx h0 h0]; simp
/-- Two numbers with one square. -/
theorem same_square {P x y : Nat} (hP : Pr P) (hx : x < P) (hy : y < P) (h : x * x % P = y * y % P) : x = y ∨ (x + y) % P = 0 := by
  have h1 := (cg _ _ P).1 h
  rw [Int.natCast_mul, Int.natCast_mul, show (x : Int) * x - y * y = (x - y) * (x + y) by grind] at h1
  rcases hP.int h1 with h2 | h2
  · left
    have := (cg _ _ P).2 h2
    rw [Nat.mod_eq_of_lt hx, Nat.mod_eq_of_lt hy] at this
    exact this
  · right
    rw [← Int.natCast_add, Int.natCast_dvd_natCast] at h2
    exact Nat.mod_eq_zero_of_dvd h2
end Go.Proofs.YtlhgabhjbnckkaaDoor.NP
namespace Go.Proofs.YtlhgabhjbnckkaaDoor
open Go.RowKit
/-- The number p, written out. -/
abbrev pp : Nat := 57896044618658097711785492504343953926634992332820282019728792003956564819949
/-- A number's five limbs. -/
def limb5 (n : Nat) : List Nat := [n % 2251799813685248, n / 2251799813685248 % 2251799813685248, n / 2251799813685248 / 2251799813685248 % 2251799813685248, n / 2251799813685248 / 2251799813685248 / 2251799813685248 % 2251799813685248, n / 2251799813685248 / 2251799813685248 / 2251799813685248 / 2251799813685248 % 2251799813685248]
theorem limb5_length (n : Nat) : (limb5 n).length = 5 := rfl
/-- The number of five limbs, which may be greater than their bits. -/
def val5 (a b c d e : Nat) : Nat := a + 2251799813685248 * (b + 2251799813685248 * (c + 2251799813685248 * (d + 2251799813685248 * e)))
theorem div51 (x y : Nat) : (x + 2251799813685248 * y) / 2251799813685248 = x / 2251799813685248 + y := Nat.add_mul_div_left x y (by decide)
theorem mod51 (x y : Nat) : (x + 2251799813685248 * y) % 2251799813685248 = x % 2251799813685248 := Nat.add_mul_mod_self_left x 2251799813685248 y
/-- Carries, one behind the other. -/
theorem val5_1 (a b c d e : Nat) : val5 a b c d e / 2251799813685248 = (b + a / 2251799813685248) + 2251799813685248 * (c + 2251799813685248 * (d + 2251799813685248 * e)) := by rw [val5, div51]; omega
theorem val5_2 (a b c d e : Nat) : val5 a b c d e / 2251799813685248 / 2251799813685248 = (c + (b + a / 2251799813685248) / 2251799813685248) + 2251799813685248 * (d + 2251799813685248 * e) := by rw [val5_1, div51]; omega
theorem val5_3 (a b c d e : Nat) : val5 a b c d e / 2251799813685248 / 2251799813685248 / 2251799813685248 = (d + (c + (b + a / 2251799813685248) / 2251799813685248) / 2251799813685248) + 2251799813685248 * e := by rw [val5_2, div51]; omega
theorem val5_4 (a b c d e : Nat) : val5 a b c d e / 2251799813685248 / 2251799813685248 / 2251799813685248 / 2251799813685248 = e + (d + (c + (b + a / 2251799813685248) / 2251799813685248) / 2251799813685248) / 2251799813685248 := by rw [val5_3, div51]; omega
theorem div5_all (n : Nat) : n / 2251799813685248 / 2251799813685248 / 2251799813685248 / 2251799813685248 / 2251799813685248 = n / 57896044618658097711785492504343953926634992332820282019728792003956564819968 := by
  rw [Nat.div_div_eq_div_mul, Nat.div_div_eq_div_mul, Nat.div_div_eq_div_mul, Nat.div_div_eq_div_mul]
theorem val5_limbs (n : Nat) (h : n < 57896044618658097711785492504343953926634992332820282019728792003956564819968) : val5 (n % 2251799813685248) (n / 2251799813685248 % 2251799813685248) (n / 2251799813685248 / 2251799813685248 % 2251799813685248) (n / 2251799813685248 / 2251799813685248 / 2251799813685248 % 2251799813685248) (n / 2251799813685248 / 2251799813685248 / 2251799813685248 / 2251799813685248 % 2251799813685248) = n := by
  rw [val5]; omega
theorem limb5_mod (n : Nat) : limb5 (n % 57896044618658097711785492504343953926634992332820282019728792003956564819968) = limb5 n := by
  simp only [limb5]
  have e := Nat.div_add_mod n 57896044618658097711785492504343953926634992332820282019728792003956564819968
  generalize n % 57896044618658097711785492504343953926634992332820282019728792003956564819968 = r at *
  generalize n / 57896044618658097711785492504343953926634992332820282019728792003956564819968 = q at *
  subst e
  have e1 : 57896044618658097711785492504343953926634992332820282019728792003956564819968 * q + r = r + 2251799813685248 * (2251799813685248 * (2251799813685248 * (2251799813685248 * (2251799813685248 * q)))) := by omega
  rw [e1, mod51, div51]
  have e2 : ∀ x y : Nat, (x + 2251799813685248 * y) % 2251799813685248 = x % 2251799813685248 := mod51
  rw [mod51, div51, mod51, div51, mod51, div51, mod51]
/-- The rest modulo p, of limbs up to 2^60: the three carries. -/
theorem least_val (a b c d e n o q r : Nat) (hn : n = val5 a b c d e) (hs : n < 1024 * 57896044618658097711785492504343953926634992332820282019728792003956564819968) (ho : o = n / 2251799813685248 / 2251799813685248 / 2251799813685248 / 2251799813685248 / 2251799813685248)
    (hq : q = val5 (n % 2251799813685248 + 19 * o + 19) (n / 2251799813685248 % 2251799813685248) (n / 2251799813685248 / 2251799813685248 % 2251799813685248) (n / 2251799813685248 / 2251799813685248 / 2251799813685248 % 2251799813685248) (n / 2251799813685248 / 2251799813685248 / 2251799813685248 / 2251799813685248 % 2251799813685248) / 2251799813685248 / 2251799813685248 / 2251799813685248 / 2251799813685248 / 2251799813685248)
    (hr : r = val5 (n % 2251799813685248 + 19 * o + 19 * q) (n / 2251799813685248 % 2251799813685248) (n / 2251799813685248 / 2251799813685248 % 2251799813685248) (n / 2251799813685248 / 2251799813685248 / 2251799813685248 % 2251799813685248) (n / 2251799813685248 / 2251799813685248 / 2251799813685248 / 2251799813685248 % 2251799813685248)) : limb5 r = limb5 (n % pp) := by
  rw [div5_all] at ho hq
  have e1 : val5 (n % 2251799813685248) (n / 2251799813685248 % 2251799813685248) (n / 2251799813685248 / 2251799813685248 % 2251799813685248) (n / 2251799813685248 / 2251799813685248 / 2251799813685248 % 2251799813685248) (n / 2251799813685248 / 2251799813685248 / 2251799813685248 / 2251799813685248 % 2251799813685248) = n % 57896044618658097711785492504343953926634992332820282019728792003956564819968 := by
    have h1 := limb5_mod n
    have h2 := val5_limbs (n % 57896044618658097711785492504343953926634992332820282019728792003956564819968) (Nat.mod_lt _ (by decide))
    simp only [limb5, List.cons.injEq, and_true] at h1
    obtain ⟨g0, g1, g2, g3, g4⟩ := h1
    rw [g0, g1, g2, g3, g4] at h2
    exact h2
  have e2 : ∀ x b c d e y : Nat, val5 (x + y) b c d e = val5 x b c d e + y := by intros; simp only [val5]; omega
  rw [Nat.add_assoc, e2, e1] at hq
  rw [Nat.add_assoc, e2, e1] at hr
  rw [← limb5_mod r]
  have h3 := Nat.mod_lt n (show 0 < 57896044618658097711785492504343953926634992332820282019728792003956564819968 by decide)
  have h4 := Nat.div_add_mod n 57896044618658097711785492504343953926634992332820282019728792003956564819968
  congr 1
  rw [hr]
  generalize n % 57896044618658097711785492504343953926634992332820282019728792003956564819968 = u at *
  rw [← ho] at h4
  show _ = n % 57896044618658097711785492504343953926634992332820282019728792003956564819949
  rw [show n = (u + 19 * o) + 57896044618658097711785492504343953926634992332820282019728792003956564819949 * o by omega, Nat.add_mul_mod_self_left]
  have h5 : o < 1024 := by omega
  clear hr ho h4 hn e1 e2
  rcases (show q = 0 ∨ q = 1 by omega) with rfl | rfl
  · rw [Nat.mod_eq_of_lt (show u + 19 * o < 57896044618658097711785492504343953926634992332820282019728792003956564819949 by omega), Nat.mod_eq_of_lt (by omega)]; omega
  · have h6 : 57896044618658097711785492504343953926634992332820282019728792003956564819949 ≤ u + 19 * o := by omega
    rw [Nat.mod_eq_sub_mod h6, Nat.mod_eq_of_lt (show u + 19 * o - 57896044618658097711785492504343953926634992332820282019728792003956564819949 < 57896044618658097711785492504343953926634992332820282019728792003956564819949 by omega)]
    rw [Nat.mod_eq_sub_mod (by omega), Nat.mod_eq_of_lt (by omega)]; omega
end Go.Proofs.YtlhgabhjbnckkaaDoor
namespace Go.Proofs.YtlhgabhjbnckkaaDoor
open Go.RowKit
/-- Block g is just these cells. -/
def Cells (w : World) (g : Nat) (vs : List Value) (t : TypeId) : Prop := w.heap[g]? = some (.cells vs.toArray t (0, 0))
/-- Of all blocks that there were only g may have turned. -/
structure But (g : Nat) (w w' : World) : Prop where
  os : w'.os = w.os
  tape : w'.tape = w.tape
  output : w'.output = w.output
  size : w.heap.size ≤ w'.heap.size
  block : ∀ k, k < w.heap.size → k ≠ g → w'.heap[k]? = w.heap[k]?
theorem heap_setCells (b : Nat) : ∀ (vs : List Value) (o : Nat) (w : World), (w.setCells b o vs).os = w.os ∧ (w.setCells b o vs).tape = w.tape ∧ (w.setCells b o vs).output = w.output ∧ (w.setCells b o vs).heap.size = w.heap.size ∧ ∀ k, k ≠ b → (w.setCells b o vs).heap[k]? = w.heap[k]?
  | [], _, _ => ⟨rfl, rfl, rfl, rfl, fun _ _ => rfl⟩
  | v :: r, o, w => by
    obtain ⟨h1, h2, h3, h4, h5⟩ := heap_setCells b r (o + 1) (w.setCell ⟨b, o, none⟩ v)
    refine ⟨h1, h2, h3, h4.trans (by simp [World.setCell]), fun k hk => (h5 k hk).trans (Below.heap_setCell _ _ _ _ hk)⟩
theorem heap_lt {w : World} {b : Nat} {o : Obj} (h : w.heap[b]? = some o) : b < w.heap.size := by
  rcases Nat.lt_or_ge b w.heap.size with hlt | hge
  · exact hlt
  · rw [Array.getElem?_eq_none hge] at h; cases h
section
variable {w w' w'' : World} {g B : Nat} {vs : List Value} {t : TypeId}
theorem Cells.cell (h : Cells w g vs t) (j : Nat) (hj : j < vs.length) : w.cell? ⟨g, j, none⟩ = some vs[j] := by
  rw [cell_of_row w g j _ _ _ h]
  simp [hj]
theorem Cells.get (h : Cells w g vs t) {j : Nat} {v : Value} (hj : vs[j]? = some v) : w.cell? ⟨g, j, none⟩ = some v := by
  rw [cell_of_row w g j _ _ _ h, List.getElem?_toArray, hj]
theorem Cells.lt (h : Cells w g vs t) : g < w.heap.size := heap_lt h
theorem Cells.below (h : Cells w g vs t) (hb : Below B w w') (hg : g < B) : Cells w' g vs t := (hb.block g hg).trans h
theorem Cells.frozen (h : Cells w g vs t) (j : Nat) : w.frozen? ⟨g, j, none⟩ = false := by
  unfold Cells at h
  simp [World.frozen?, h]
theorem Cells.set (h : Cells w g vs t) (j : Nat) (u : Value) : Cells (w.setCell ⟨g, j, none⟩ u) g (vs.set j u) t := by
  unfold Cells at h ⊢
  simp [World.setCell, Array.getElem?_modify, h]
theorem Cells.other (h : Cells w g vs t) {p : Addr} (hp : g ≠ p.block) (u : Value) : Cells (w.setCell p u) g vs t := (Below.heap_setCell _ _ _ _ hp).trans h
theorem Cells.drewN (h : Cells w g vs t) (n : Nat) : Cells (w.drewN n) g vs t := h
theorem Cells.drew (h : Cells w g vs t) : Cells w.drew g vs t := h
theorem Cells.alloc (h : Cells w g vs t) (o : Obj) : Cells (w.alloc o) g vs t := (Below.heap_alloc _ _ _ h.lt).trans h
theorem Cells.new (w : World) (vs : Array Value) (t : TypeId) : Cells (w.alloc (.cells vs t)) w.heap.size vs.toList t := by
  have := heap_alloc_new w (.cells vs t)
  unfold Cells
  rw [this]
theorem Cells.range (h : Cells w g vs t) (o n : Nat) : w.rangeAt g o ((vs.drop o).take n) := by
  intro j v hj
  rw [List.getElem?_take] at hj
  split at hj
  · rw [List.getElem?_drop] at hj
    exact h.get hj
  · cases hj
theorem Cells.there (h : Cells w g vs t) (o n : Nat) (hn : o + n ≤ vs.length) : w.there g o n := fun j hj =>
  ⟨by rw [h.cell (o + j) (by omega)]; rfl, h.frozen _⟩
/-- A piece of a list, written anew. -/
def splice (vs : List Value) (o : Nat) (cs : List Value) : List Value := vs.take o ++ cs ++ vs.drop (o + cs.length)
theorem splice_length (vs cs : List Value) (o : Nat) (h : o + cs.length ≤ vs.length) : (splice vs o cs).length = vs.length := by
  simp [splice]; omega
theorem set_splice (vs : List Value) (o : Nat) (u : Value) (cs : List Value) (h : o + 1 + cs.length ≤ vs.length) : splice (vs.set o u) (o + 1) cs = splice vs o (u :: cs) := by
  have e1 : (vs.set o u).take (o + 1) = vs.take o ++ [u] := by
    rw [List.take_succ_eq_append_getElem (by simp; omega), List.take_set_of_le (Nat.le_refl _)]
    simp
  have e2 : (vs.set o u).drop (o + 1 + cs.length) = vs.drop (o + (cs.length + 1)) := by
    rw [List.drop_set_of_lt (by omega)]
    congr 1; omega
  simp [splice, e1, e2]
theorem Cells.setCells : ∀ {cs : List Value} {w : World} {vs : List Value} {o : Nat}, Cells w g vs t → o + cs.length ≤ vs.length → Cells (w.setCells g o cs) g (splice vs o cs) t
  | [], w, vs, o, h, _ => by
    have e : splice vs o [] = vs := by simp [splice]
    rw [e]; exact h
  | u :: cs, w, vs, o, h, hl => by
    rw [← set_splice vs o u cs (by simp at hl; omega)]
    exact Cells.setCells (h.set o u) (by simp at hl ⊢; omega)
theorem Cells.otherCells (h : Cells w g vs t) {b : Nat} (hp : g ≠ b) (o : Nat) (cs : List Value) : Cells (w.setCells b o cs) g vs t := ((heap_setCells b cs o w).2.2.2.2 g hp).trans h
theorem But.refl (g : Nat) (w : World) : But g w w := ⟨rfl, rfl, rfl, Nat.le_refl _, fun _ _ _ => rfl⟩
theorem But.trans (h : But g w w') (k : But g w' w'') : But g w w'' :=
  ⟨k.os.trans h.os, k.tape.trans h.tape, k.output.trans h.output, Nat.le_trans h.size k.size, fun i hi hg => (k.block i (Nat.lt_of_lt_of_le hi h.size) hg).trans (h.block i hi hg)⟩
theorem But.of_below (h : Below w.heap.size w w') : But g w w' := ⟨h.os, h.tape, h.output, h.size, fun k hk _ => h.block k hk⟩
theorem But.below (h : But g w w') (hB : B ≤ g) (hw : B ≤ w.heap.size) : Below B w w' := ⟨h.os, h.tape, h.output, h.size, fun k hk => h.block k (by omega) (by omega)⟩
theorem But.drew (h : But g w w') : But g w w'.drew := ⟨h.os, h.tape, h.output, h.size, h.block⟩
theorem But.drewN (h : But g w w') (n : Nat) : But g w (w'.drewN n) := ⟨h.os, h.tape, h.output, h.size, h.block⟩
theorem But.setCell (h : But g w w') (j : Nat) (u : Value) : But g w (w'.setCell ⟨g, j, none⟩ u) :=
  h.trans ⟨rfl, rfl, rfl, by simp [World.setCell], fun k _ hk => Below.heap_setCell _ _ _ _ hk⟩
theorem But.alloc (h : But g w w') (o : Obj) : But g w (w'.alloc o) := h.trans ⟨rfl, rfl, rfl, by simp, fun k hk _ => Below.heap_alloc _ _ _ hk⟩
theorem But.setCells (h : But g w w') (o : Nat) (cs : List Value) : But g w (w'.setCells g o cs) := by
  obtain ⟨h1, h2, h3, h4, h5⟩ := heap_setCells g cs o w'
  exact h.trans ⟨h1, h2, h3, by rw [h4]; exact Nat.le_refl _, fun k _ hk => h5 k hk⟩
theorem below_setCells {B b : Nat} (h : Below B w w') (hb : B ≤ b) (o : Nat) (cs : List Value) : Below B w (w'.setCells b o cs) := by
  obtain ⟨h1, h2, h3, h4, h5⟩ := heap_setCells b cs o w'
  exact h.trans ⟨h1, h2, h3, by rw [h4]; exact Nat.le_refl _, fun k hk => h5 k (by omega)⟩
/-- A change of block b as well, where b is new. -/
theorem But.new (h : But g w w') {b : Nat} (hb : w.heap.size ≤ b) (k : But b w' w'') : But g w w'' :=
  ⟨k.os.trans h.os, k.tape.trans h.tape, k.output.trans h.output, Nat.le_trans h.size k.size, fun i hi hg => (k.block i (Nat.lt_of_lt_of_le hi h.size) (by omega)).trans (h.block i hi hg)⟩
theorem Cells.but (h : Cells w g vs t) {b : Nat} (hb : But b w w') (hg : g ≠ b) : Cells w' g vs t := (hb.block g h.lt hg).trans h
theorem Row.but {A : Option Addr} {bs : List UInt8} {b : Nat} (h : Row w w.heap.size A bs) (hb : But b w w') (hg : bs ≠ [] → ∀ p, A = some p → p.block ≠ b) : Row w' w'.heap.size A bs := by
  rcases h with rfl | ⟨b', off, rfl, hb', hc⟩
  · exact .inl rfl
  · refine .inr ⟨b', off, rfl, Nat.lt_of_lt_of_le hb' hb.size, fun j u hu => ?_⟩
    have hne : bs ≠ [] := fun e => by subst e; simp at hu
    rw [World.cell?_of_block (w := w) (hb.block b' hb' (hg hne _ rfl))]
    exact hc j u hu
/-- A region whose head only reads and calls quietly, and whose tail comes in the text's order: the drawn world under a name. -/
theorem wp_region_tail {P : Program} {id : Nat} {Q : Exit → Act → World → Prop} {a : Act} {w : World} {l : List Oper} (n : Nat) (hm : P.follows .mixedOrders = true) (hB : Region.lexTailB .any l.toArray n = true)
    (h : ∀ w1, w1 = w.drew → wpStill P l.toArray w1 (fun a' => wpList P l.toArray Q (l.drop n) a' w1) (l.take n) a) : (Code.region id l.toArray true).wp P Q a w := wp_region_still_tail n hm hB (h _ rfl)
end
section
variable {P : Program} {w : World} {ops : Array Oper} {rest : List Oper} {o : Oper} {a : Act} {Q : Exit → Act → World → Prop}
/-- A literal of a struct or an array. -/
theorem build_step (hgd : o.guard = none) (t : TypeId) (parts : List (Nat × Operand)) (ho : o.op = .build t parts.toArray) (ps : List (Nat × Value)) (hp : (parts.map fun (i, x) => (i, a.eval x)) = ps) (v : Value) (hr : ∀ w, (Instr.build t ps.toArray).run P w = .ok v w)
    (h : wpList P ops Q rest (a.put o.dst v) w) : wpList P ops Q (o :: rest) a w := by
  refine wpList_plain hgd fun K hK => ?_
  unfold Oper.wp
  simp only [execOp, ho, List.map_toArray, hp, hr, Sem.run_bind, Sem.run_pure, Result.andThen_ok]
  exact hK _ _ h
/-- A literal of a slice. -/
theorem slice_step (hgd : o.guard = none) (t : TypeId) (n : Nat) (parts : List (Nat × Operand)) (ho : o.op = .buildSlice t n parts.toArray) (ps : List (Nat × Value)) (hp : (parts.map fun (i, x) => (i, a.eval x)) = ps) (e : TypeId) (vs : Array Value)
    (hr : ∀ w, (Instr.buildSlice t n ps.toArray).run P w = .ok (.slice (some ⟨w.heap.size, 0, none⟩) n n) (w.alloc (.cells vs e)))
    (h : ∀ w', w' = w.alloc (.cells vs e) → wpList P ops Q rest (a.put o.dst (.slice (some ⟨w.heap.size, 0, none⟩) n n)) w') : wpList P ops Q (o :: rest) a w := by
  refine wpList_plain hgd fun K hK => ?_
  unfold Oper.wp
  simp only [execOp, ho, List.map_toArray, hp, hr, Sem.run_bind, Sem.run_pure, Result.andThen_ok]
  exact hK _ _ (h _ rfl)
/-- A new variable of a type whose zero value is known whole. -/
theorem alloc_step (hgd : o.guard = none) (t : TypeId) (ho : o.op = .alloc t) (vs : Array Value) (hz : ∀ w, (zeroValue t).run P w = .ok (.agg vs) w)
    (h : ∀ w', w' = w.alloc (.cells vs t) → wpList P ops Q rest (a.put o.dst (.pointer (some ⟨w.heap.size, 0, none⟩))) w') : wpList P ops Q (o :: rest) a w := by
  refine wpList_plain hgd fun K hK => ?_
  unfold Oper.wp
  simp only [execOp, ho, Instr.alloc, hz, newVar, Value.cells, Sem.run_bind, Sem.run_pure, Result.andThen_ok, go_sem]
  exact hK _ _ (h _ rfl)
/-- An integer stored into one cell. -/
theorem store_step (hgd : o.guard = none) (t : TypeId) (x y : Operand) (ho : o.op = .store t x y) (g j : Nat) (ik : IntKind) (z : Int) (hx : a.eval x = .pointer (some ⟨g, j, none⟩)) (hy : a.eval y = .int ik z) (hs : (P.info? t).map (·.size) = some 1) (ht : w.there g j 1)
    (h : ∀ w', w' = w.setCell ⟨g, j, none⟩ (.int ik z) → wpList P ops Q rest (a.put o.dst undef) w') : wpList P ops Q (o :: rest) a w := by
  refine wpList_plain hgd fun K hK => ?_
  obtain ⟨i0, hi0, hs0⟩ := Option.map_eq_some_iff.1 hs
  have hst := run_storeCells_cells (P := P) g j [.int ik z] 0 w (fun i hi => by simpa using (ht i hi).1) (fun i hi => by simpa using (ht i hi).2) (by intro v hv; cases List.mem_singleton.1 hv; rfl)
  have hrun : (Instr.storeAt t (.pointer (some ⟨g, j, none⟩)) (.int ik z)).run P w = .ok () (w.setCell ⟨g, j, none⟩ (.int ik z)) := by
    simp only [Instr.storeAt, Instr.sureAddr, Sem.run_bind, Sem.run_pure, Result.andThen_ok]
    simp [storeVar, sizeOf, typeInfo, hi0, hs0, Value.cells, hst, World.setCells]
  unfold Oper.wp
  simp only [execOp, ho, hx, hy, hrun, Sem.run_bind, Sem.run_pure, Result.andThen_ok]
  exact hK _ _ (h _ rfl)
/-- A value laid into a new variable. -/
theorem box_step (hgd : o.guard = none) (t : TypeId) (x : Operand) (ho : o.op = .box t x) (vs : Array Value) (hx : a.eval x = .agg vs)
    (h : ∀ w', w' = w.alloc (.cells vs t) → wpList P ops Q rest (a.put o.dst (.pointer (some ⟨w.heap.size, 0, none⟩))) w') : wpList P ops Q (o :: rest) a w := by
  refine wpList_plain hgd fun K hK => ?_
  unfold Oper.wp
  simp only [execOp, ho, hx, Instr.box]
  simp only [newVar, Value.cells, Sem.run_bind, Sem.run_pure, Result.andThen_ok, go_sem]
  exact hK _ _ (h _ rfl)
end
/-- 'a[i]' of an array of integers by value. -/
theorem run_index_int {P : Program} {t e : TypeId} {n : Nat} {ik : IntKind} (vs : List Value) (k : Nat) (v : Value) (w : World) (hu : P.underlying t = some (.array n e)) (he : P.underlying e = some (.int ik)) (hs : (P.info? e).map (·.size) = some 1) (hk : k < n) (hv : vs[k]? = some v) :
    (Instr.index t (.agg vs.toArray) (.int .i64 (k : Int))).run P w = .ok v w := by
  cases hq : P.info? e with
  | none => simp [hq] at hs
  | some i =>
    have hs1 : i.size = 1 := by simpa [hq] using hs
    simp [Instr.index, run_underlying hu, asIntOf, hk, part, isAgg, run_underlying he, sizeOf, typeInfo, hq, hs1, hv, go_sem]
theorem Row.butB {w w' : World} {B g : Nat} {A : Option Addr} {bs : List UInt8} (h : Row w B A bs) (hb : But g w w') (hg : B ≤ g) (hw : B ≤ w.heap.size) : Row w' B A bs :=
  h.keep fun p hp => World.cell?_of_block (w := w) (hb.block p.block (by omega) (by omega))
/-- A row below B lies in no block from B on. -/
theorem Row.apart {w : World} {B g : Nat} {A : Option Addr} {bs : List UInt8} (h : Row w B A bs) (hg : B ≤ g) : bs ≠ [] → ∀ p, A = some p → p.block ≠ g := by
  intro hne p hp
  rcases h with rfl | ⟨b, off, rfl, hb, _⟩
  · exact absurd rfl hne
  · cases hp; show b ≠ g; omega
theorem splice_all (vs cs : List Value) (h : cs.length = vs.length) : splice vs 0 cs = cs := by simp [splice, h]
/-- A function whose result lies in a block of its own, a whole array or struct. -/
theorem ret_block {P : Program} {fn : Func} {R : Ending → World → Prop} {a : Act} {w : World} {p : Tmp} {ty : TypeId} {d : TypeDesc} (hres : fn.results = #[.cell p ty]) (g : Nat) (vs : List Value) (t : TypeId)
    (hp : a.tmps.getD p undef = .pointer (some ⟨g, 0, none⟩)) (hg : Cells w g vs t) (hu : P.underlying ty = some d) (hd : (match d with | .struct _ | .array _ _ => true | _ => false) = true) (hi : (P.info? ty).map (·.size) = some vs.length)
    (hdf : a.defers = []) (hR : R (.returned (.agg vs.toArray)) w) : bodyPost P fn R .ret a w :=
  bodyPost_ret (results_cell_row hres a.tmps w g t vs.toArray (0, 0) d hp hg hu hd (by simpa using hi)) hdf hR
theorem set_nextV {α : Type} (l : List α) (k n : Nat) (u z : α) (hl : l.length = k) (hk : k < n) : (l ++ List.replicate (n - k) z).set k u = l ++ [u] ++ List.replicate (n - (k + 1)) z := by
  obtain ⟨m, hm⟩ : ∃ m, n - k = m + 1 := ⟨n - k - 1, by omega⟩
  rw [hm, show n - (k + 1) = m by omega, List.set_append_right _ _ (by omega), hl, Nat.sub_self, List.replicate_succ]
  simp
theorem Row.piece {w : World} {B b off : Nat} {bs : List UInt8} (h : Row w B (some ⟨b, off, none⟩) bs) (i n : Nat) : Row w B (some ⟨b, off + i, none⟩) ((bs.drop i).take n) := by
  rcases h with rfl | ⟨b', off', hA, hb, hc⟩
  · exact .inl (by simp)
  · cases hA
    refine .inr ⟨b, off + i, rfl, hb, fun j u hu => ?_⟩
    rw [List.getElem?_take] at hu
    split at hu
    · rw [List.getElem?_drop] at hu
      rw [Nat.add_assoc]
      exact hc (i + j) u hu
    · cases hu
end Go.Proofs.YtlhgabhjbnckkaaDoor
namespace Go.Proofs.YtlhgabhjbnckkaaDoor
open Go.RowKit
theorem size_u8 : (Tryd.prog.info? 5).map (·.size) = some 1 := by kernel_rfl
theorem cells8_one (us : List UInt8) : ∀ v ∈ us.map cellOf, v.oneCell' = true := by
  intro v hv
  obtain ⟨x, _, rfl⟩ := List.mem_map.1 hv
  rfl
/-- 'copy(dst, src)', both rows of bytes, dst's room known. -/
theorem copy_row {w : World} {ops : Array Oper} {rest : List Oper} {o : Oper} {a : Act} {Q : Exit → Act → World → Prop} (hgd : o.guard = none) (d s : Operand)
    (ho : o.op = .call { callee := .builtin .copy, args := #[d, s], argTypes := #[76, 76] }) (g off dLen dCap sLen sCap B m : Nat) (A : Option Addr) (us : List UInt8) (hd : a.eval d = .slice (some ⟨g, off, none⟩) dLen dCap) (hs : a.eval s = .slice A sLen sCap)
    (hl : us.length = sLen) (hm : min sLen dLen = m) (hr : Row w B A us) (ht : w.there g off m) (h : ∀ w', w' = w.setCells g off ((us.take dLen).map cellOf) → wpList Tryd.prog ops Q rest (a.put o.dst (.int .i64 (m : Int))) w') : wpList Tryd.prog ops Q (o :: rest) a w := by
  subst hm
  replace h := h _ rfl
  have hlen : ((us.take dLen).map cellOf).length = Nat.min sLen dLen := by rw [List.length_map, List.length_take, hl, Nat.min_comm]
  by_cases h0 : Nat.min sLen dLen = 0
  · have e : (us.take dLen).map cellOf = [] := List.eq_nil_of_length_eq_zero (hlen.trans h0)
    refine wpList_copy_nothing hgd d s _ _ ho 5 Tryd.underlying76 size_u8 _ _ _ _ _ _ hd hs h0 ?_
    rw [e] at h
    have e2 : (min sLen dLen : Nat) = 0 := h0
    rw [e2] at h
    exact h
  · have hpos : us ≠ [] := by
      intro e
      subst e
      simp at hl
      subst hl
      simp at h0
    rcases hr with e | ⟨b, bo, rfl, hb, hc⟩
    · exact absurd e hpos
    · refine wpList_plain hgd fun K hK => ?_
      have hrun := run_copy_cells (P := Tryd.prog) w 76 76 o.type 5 g off dLen dCap ⟨b, bo, none⟩ sLen sCap ((us.take dLen).map cellOf) Tryd.underlying76 size_u8 hlen (fun j v hj => by
        rw [Addr.add_mid]
        rw [List.getElem?_map] at hj
        cases hu : (us.take dLen)[j]? with
        | none => rw [hu] at hj; cases hj
        | some u =>
          rw [hu] at hj
          cases hj
          refine hc j u ?_
          rw [List.getElem?_take] at hu
          split at hu
          · exact hu
          · cases hu) (fun j hj => (ht j (by rw [hlen] at hj; exact hj)).1) (fun j hj => (ht j (by rw [hlen] at hj; exact hj)).2) (cells8_one _)
      unfold Oper.wp
      simp only [execOp, ho, resolve, invoke, builtin, Sem.run_bind, Sem.run_pure, Result.andThen_ok, List.map_toArray, List.map_cons, List.map_nil, hd, hs, hrun]
      have e3 : goInt (((us.take dLen).map cellOf).length : Int) = .int .i64 ((min sLen dLen : Nat) : Int) := by rw [hlen]; rfl
      rw [e3]
      exact hK _ _ h
/-- Where a slice lies that is cut at l: at its room's end the address stays. -/
def cutA (A : Option Addr) (l cap : Nat) : Option Addr := if cap = l then A else A.map (·.add l)
theorem Row.cut {w : World} {B : Nat} {A : Option Addr} {us : List UInt8} (h : Row w B A us) (l cap : Nat) (hl : us.length ≤ cap) : Row w B (cutA A l cap) (us.drop l) := by
  unfold cutA
  split
  · exact .inl (List.drop_eq_nil_of_le (by omega))
  · rcases h with rfl | ⟨b, off, rfl, hb, hc⟩
    · exact .inl (by simp)
    · refine .inr ⟨b, off + l, by simp [Addr.add_mid], hb, fun j u hu => ?_⟩
      rw [List.getElem?_drop] at hu
      rw [Nat.add_assoc]
      exact hc (l + j) u hu
theorem cutA_block {A : Option Addr} {l cap : Nat} {p : Addr} (h : cutA A l cap = some p) : ∃ q, A = some q ∧ p.block = q.block := by
  unfold cutA at h
  split at h
  · exact ⟨p, h, rfl⟩
  · cases A with
    | none => cases h
    | some q =>
      simp only [Option.map_some, Option.some.injEq] at h
      refine ⟨q, rfl, ?_⟩
      rw [← h]
      unfold Addr.add
      split <;> rfl
theorem cutA_none {A : Option Addr} {l cap : Nat} (h : cutA A l cap = none) : A = none := by
  unfold cutA at h
  split at h
  · exact h
  · cases A with
    | none => rfl
    | some q => cases h
/-- 'b[l:]'. -/
theorem cut_from {w : World} {ops : Array Oper} {rest : List Oper} {o : Oper} {a : Act} {Q : Exit → Act → World → Prop} (hgd : o.guard = none) (x y : Operand) (ho : o.op = .slice 76 x (some y) none none)
    (A : Option Addr) (len cap l : Nat) (hx : a.eval x = .slice A len cap) (hy : a.eval y = .int .i64 (l : Int)) (hl : l ≤ len)
    (h : wpList Tryd.prog ops Q rest (a.put o.dst (.slice (cutA A l cap) (len - l) (cap - l))) w) : wpList Tryd.prog ops Q (o :: rest) a w := by
  refine wpList_plain hgd fun K hK => ?_
  obtain ⟨i0, hi0, hs0⟩ := Option.map_eq_some_iff.1 size_u8
  have hrun : (Instr.sliceAt 76 (.slice A len cap) (some (.int .i64 (l : Int))) none none).run Tryd.prog w = .ok (.slice (cutA A l cap) (len - l) (cap - l)) w := by
    have hu : Tryd.prog.underlying 76 = some (.slice 5) := Tryd.underlying76
    have h1 : (Instr.sliceAt 76 (.slice A len cap) (some (.int .i64 (l : Int))) none none).run Tryd.prog w = (Instr.slice 76 (.slice A len cap) (some (.int .i64 (l : Int))) none none).run Tryd.prog w := by
      simp [Instr.sliceAt, run_underlying hu]
    rw [h1]
    have hl' : (l : Int) ≤ (len : Int) := by omega
    simp [Instr.slice, run_underlying hu, Instr.sliceBounds, run_sliceBound, hl, sizeOf, typeInfo, hi0, hs0, cutA]
  unfold Oper.wp
  simp only [execOp, ho, hx, hy, Option.map_some, Option.map_none, hrun, Sem.run_bind, Sem.run_pure, Result.andThen_ok]
  exact hK _ _ h
end Go.Proofs.YtlhgabhjbnckkaaDoor
