/- Part 6 of what the laws of this seat share: OMath, OMath2, NPrime, NRoot, FMath, WWords, WVals, OCells, FSteps, FLeast. -/
import Derived.Deep.WholeRow
import Derived.Laws.Externs
import Derived.Test.YtoggkhjaghkpnaaDoorPart5
namespace Go.Proofs.YtoggkhjaghkpnaaDoor
open Go.RowKit
/-- The number of a row of limbs (which may be 2^26 and above). -/
def lval : List Nat → Nat
  | [] => 0
  | x :: l => x + 67108864 * lval l
theorem lval_five (a b c d e : Nat) : lval [a, b, c, d, e] = a + 67108864 * (b + 67108864 * (c + 67108864 * (d + 67108864 * (e + 67108864 * 0)))) := rfl
theorem five_of {α : Type} (n : List α) (h : n.length = 5) : ∃ a b c d e, n = [a, b, c, d, e] := by
  match n, h with
  | [a, b, c, d, e], _ => exact ⟨a, b, c, d, e, rfl⟩
/-- Sums and products of words of 64 bits. -/
def addW (x y : Nat) : Nat := (x + y) % 18446744073709551616
theorem addW_in (x y : Nat) (h : x + y < 18446744073709551616) : addW x y = x + y := Nat.mod_eq_of_lt h
/-- Two numbers, limb by limb. -/
def plusTo (a b : List Nat) : Nat → List Nat
  | 0 => a
  | k + 1 => (plusTo a b k).set k (addW ((plusTo a b k).getD k 0) (b.getD k 0))
theorem plusTo_length (a b : List Nat) : ∀ k, (plusTo a b k).length = a.length
  | 0 => rfl
  | k + 1 => by rw [plusTo, List.length_set, plusTo_length]
def plusN (a b : List Nat) : List Nat := plusTo a b 5
/-- Limbs below their bound. -/
def Below5 (B : Nat) (n : List Nat) : Prop := ∀ x ∈ n, x < B
theorem below5_five (B a b c d e : Nat) : Below5 B [a, b, c, d, e] ↔ a < B ∧ b < B ∧ c < B ∧ d < B ∧ e < B := by
  simp [Below5]
theorem polyP_is : polyP = 1361129467683753853853498429727072845819 := rfl
/-- Behind two folds the limbs have no more than their bits, but for the first, which is at most 5 beyond them. -/
def Fine (n : List Nat) : Prop := n.length = 5 ∧ n.getD 0 0 < 67108869 ∧ ∀ i, 0 < i → n.getD i 0 < 67108864
theorem fine_five (a b c d e : Nat) (h : Fine [a, b, c, d, e]) : a < 67108869 ∧ b < 67108864 ∧ c < 67108864 ∧ d < 67108864 ∧ e < 67108864 := by
  obtain ⟨_, h0, h1⟩ := h
  exact ⟨h0, h1 1 (by omega), h1 2 (by omega), h1 3 (by omega), h1 4 (by omega)⟩
theorem Fine.below {n : List Nat} (h : Fine n) : Below5 67108869 n := by
  obtain ⟨a, b, c, d, e, rfl⟩ := five_of n h.1
  have := fine_five _ _ _ _ _ h
  rw [below5_five]
  omega
theorem mul_mod (a0 a1 a2 a3 a4 b0 b1 b2 b3 b4 : Nat) :
    lval [a0 * b0 + a1 * b4 * 5 + a2 * b3 * 5 + a3 * b2 * 5 + a4 * b1 * 5, a0 * b1 + a1 * b0 + a2 * b4 * 5 + a3 * b3 * 5 + a4 * b2 * 5, a0 * b2 + a1 * b1 + a2 * b0 + a3 * b4 * 5 + a4 * b3 * 5, a0 * b3 + a1 * b2 + a2 * b1 + a3 * b0 + a4 * b4 * 5, a0 * b4 + a1 * b3 + a2 * b2 + a3 * b1 + a4 * b0] % polyP = lval [a0, a1, a2, a3, a4] * lval [b0, b1, b2, b3, b4] % polyP := by
  have e : lval [a0, a1, a2, a3, a4] * lval [b0, b1, b2, b3, b4] = lval [a0 * b0 + a1 * b4 * 5 + a2 * b3 * 5 + a3 * b2 * 5 + a4 * b1 * 5, a0 * b1 + a1 * b0 + a2 * b4 * 5 + a3 * b3 * 5 + a4 * b2 * 5, a0 * b2 + a1 * b1 + a2 * b0 + a3 * b4 * 5 + a4 * b3 * 5, a0 * b3 + a1 * b2 + a2 * b1 + a3 * b0 + a4 * b4 * 5, a0 * b4 + a1 * b3 + a2 * b2 + a3 * b1 + a4 * b0] + polyP * (a1 * b4 + a2 * b3 + a3 * b2 + a4 * b1 + 67108864 * (a2 * b4 + a3 * b3 + a4 * b2 + 67108864 * (a3 * b4 + a4 * b3 + 67108864 * (a4 * b4)))) := by
    rw [lval_five, lval_five, lval_five, polyP_is]
    grind
  rw [e, Nat.add_mul_mod_self_left]
theorem lev_cons (u : UInt8) (l : List UInt8) : lev (u :: l) = u.toNat + 256 * lev l := rfl
theorem lev_rev (l : List UInt8) : bigN l.reverse = lev l := by
  induction l with
  | nil => rfl
  | cons u l ih => rw [List.reverse_cons, bigN_snoc, ih, lev_cons]; omega
theorem lev_drop (b : List UInt8) (f : Nat) (hf : f ≤ b.length) : lev (b.drop f) = lev b / 256 ^ f := by
  have h := lev_append (b.take f) (b.drop f)
  rw [List.take_append_drop] at h
  have hl : (b.take f).length = f := by rw [List.length_take]; omega
  have h2 := lev_lt (b.take f)
  rw [hl] at h h2
  rw [h, Nat.add_mul_div_left _ _ (Nat.pow_pos (by omega)), Nat.div_eq_of_lt h2, Nat.zero_add]
theorem lev_take (b : List UInt8) (f : Nat) (hf : f ≤ b.length) : lev (b.take f) = lev b % 256 ^ f := by
  have h := lev_append (b.take f) (b.drop f)
  rw [List.take_append_drop] at h
  have hl : (b.take f).length = f := by rw [List.length_take]; omega
  have h2 := lev_lt (b.take f)
  rw [hl] at h h2
  rw [h, Nat.add_mul_mod_self_left, Nat.mod_eq_of_lt h2]
end Go.Proofs.YtoggkhjaghkpnaaDoor
namespace Go.Proofs.YtoggkhjaghkpnaaDoor.NP
/-- A prime number. -/
def Pr (p : Nat) : Prop := 2 ≤ p ∧ ∀ d, d ∣ p → d = 1 ∨ d = p
theorem Pr.pos {p : Nat} (h : Pr p) : 0 < p := by have := h.1; omega
theorem Pr.coprime {p a : Nat} (h : Pr p) (ha : ¬ p ∣ a) : Nat.Coprime p a := by
  rcases h.2 (Nat.gcd p a) (Nat.gcd_dvd_left p a) with h1 | h1
  · exact h1
  · exact absurd (h1 ▸ Nat.gcd_dvd_right p a) ha
theorem Pr.euclid {p a b : Nat} (h : Pr p) (hd : p ∣ a * b) : p ∣ a ∨ p ∣ b := by
  by_cases ha : p ∣ a
  · exact Or.inl ha
  · exact Or.inr (Nat.Coprime.dvd_of_dvd_mul_left (h.coprime ha) hd)
/-- How many sets of so many there are. -/
def ch : Nat → Nat → Nat
  | _, 0 => 1
  | 0, _ + 1 => 0
  | n + 1, k + 1 => ch n k + ch n (k + 1)
theorem ch_zero (n : Nat) : ch n 0 = 1 := by cases n <;> rfl
theorem ch_over (n : Nat) : ∀ k, n < k → ch n k = 0 := by
  induction n with
  | zero => intro k hk; cases k with
    | zero => omega
    | succ k => rfl
  | succ n ih => intro k hk; cases k with
    | zero => omega
    | succ k => show ch n k + ch n (k + 1) = 0; rw [ih k (by omega), ih (k + 1) (by omega)]
theorem ch_self (n : Nat) : ch n n = 1 := by
  induction n with
  | zero => rfl
  | succ n ih => show ch n n + ch n (n + 1) = 1; rw [ih, ch_over n (n + 1) (by omega)]
theorem ch_absorb (n : Nat) : ∀ k, (k + 1) * ch (n + 1) (k + 1) = (n + 1) * ch n k := by
  induction n with
  | zero => intro k; cases k with
    | zero => rfl
    | succ k => show (k + 1 + 1) * (ch 0 (k + 1) + ch 0 (k + 1 + 1)) = 1 * ch 0 (k + 1); rw [ch_over 0 (k + 1) (by omega), ch_over 0 (k + 1 + 1) (by omega)]; rfl
  | succ n ih => intro k; cases k with
    | zero =>
      have h := ih 0
      rw [ch_zero] at h
      show (0 + 1) * (ch (n + 1) 0 + ch (n + 1) (0 + 1)) = _
      rw [ch_zero]; omega
    | succ j =>
      have h1 := ih j
      have h2 := ih (j + 1)
      have h3 : ch (n + 1) (j + 1) = ch n j + ch n (j + 1) := rfl
      show (j + 1 + 1) * (ch (n + 1) (j + 1) + ch (n + 1) (j + 1 + 1)) = _
      rw [Nat.mul_add, h2]
      have h4 : (j + 1 + 1) * ch (n + 1) (j + 1) = (n + 1) * ch n j + ch (n + 1) (j + 1) := by rw [Nat.add_mul (j + 1) 1, h1]; omega
      rw [h4, h3, Nat.add_mul (n + 1) 1, Nat.mul_add (n + 1)]; omega
/-- The first terms of (a + 1)^n. -/
def bs (n a : Nat) : Nat → Nat
  | 0 => 0
  | m + 1 => bs n a m + ch n m * a ^ m
theorem bs_step (n a : Nat) : ∀ m, bs (n + 1) a (m + 1) = bs n a (m + 1) + a * bs n a m := by
  intro m
  induction m with
  | zero => simp [bs, ch_zero]
  | succ m ih =>
    rw [bs, ih]
    show _ + (ch n m + ch n (m + 1)) * a ^ (m + 1) = (bs n a (m + 1) + ch n (m + 1) * a ^ (m + 1)) + a * (bs n a m + ch n m * a ^ m)
    rw [Nat.add_mul, Nat.mul_add, Nat.pow_succ]
    have : a * (ch n m * a ^ m) = ch n m * (a ^ m * a) := by rw [Nat.mul_left_comm, Nat.mul_comm a]
    omega
theorem bs_all (n a : Nat) : bs n a (n + 1) = (a + 1) ^ n := by
  induction n with
  | zero => simp [bs, ch]
  | succ n ih =>
    rw [bs_step, bs, ih, ch_over n (n + 1) (by omega), Nat.pow_succ (a + 1), Nat.mul_add, Nat.mul_comm a]; omega
theorem Pr.dvd_ch {p : Nat} (h : Pr p) (k : Nat) (hk : k + 1 < p) : p ∣ ch p (k + 1) := by
  obtain ⟨q, rfl⟩ : ∃ q, p = q + 1 := ⟨p - 1, by have := h.1; omega⟩
  rcases h.euclid (⟨_, ch_absorb q k⟩ : q + 1 ∣ (k + 1) * ch (q + 1) (k + 1)) with h1 | h1
  · exact absurd (Nat.le_of_dvd (by omega) h1) (by omega)
  · exact h1
theorem Pr.bs_mod {p : Nat} (h : Pr p) (a : Nat) : ∀ m, m + 1 ≤ p → bs p a (m + 1) % p = 1 := by
  intro m
  induction m with
  | zero => intro _; simp [bs, ch_zero]; exact Nat.mod_eq_of_lt h.1
  | succ m ih =>
    intro hm
    rw [bs, Nat.add_mod, ih (by omega), Nat.mod_eq_zero_of_dvd (Nat.dvd_trans (h.dvd_ch m (by omega)) (Nat.dvd_mul_right _ _))]
    exact Nat.mod_eq_of_lt h.1
theorem Pr.step {p : Nat} (h : Pr p) (a : Nat) : (a + 1) ^ p % p = (a ^ p + 1) % p := by
  have h1 := h.1
  rw [← bs_all, bs, ch_self, Nat.one_mul, Nat.add_mod]
  obtain ⟨q, rfl⟩ : ∃ q, p = q + 1 := ⟨p - 1, by omega⟩
  rw [h.bs_mod a q (by omega), Nat.add_comm, Nat.mod_add_mod]
theorem Pr.fermat {p : Nat} (h : Pr p) (a : Nat) : a ^ p % p = a % p := by
  induction a with
  | zero => rw [Nat.zero_pow h.pos]
  | succ a ih => rw [h.step, Nat.add_mod, ih, ← Nat.add_mod]
theorem dvd_sub_of_mod {a b p : Nat} (h : a % p = b % p) : p ∣ a - b := by
  rcases Nat.lt_or_ge a b with hl | hl
  · rw [Nat.sub_eq_zero_of_le (by omega)]; exact Nat.dvd_zero p
  · refine ⟨a / p - b / p, ?_⟩
    have h1 := Nat.div_add_mod a p
    have h2 := Nat.div_add_mod b p
    rw [Nat.mul_sub]; omega
theorem mod_of_dvd_sub {a b p : Nat} (hl : b ≤ a) (h : p ∣ a - b) : a % p = b % p := by
  obtain ⟨c, hc⟩ := h
  rw [show a = b + p * c by omega, Nat.add_mul_mod_self_left]
/-- What is not divisible has 1 as its power p - 1. -/
theorem Pr.little {p : Nat} (h : Pr p) {a : Nat} (ha : ¬ p ∣ a) : a ^ (p - 1) % p = 1 := by
  have h1 := h.1
  have h2 := dvd_sub_of_mod (h.fermat a)
  have h3 : a ^ p - a = a * (a ^ (p - 1) - 1) := by
    rw [Nat.mul_sub, Nat.mul_one, ← Nat.pow_succ']
    rw [show (p - 1).succ = p by omega]
  rw [h3] at h2
  have ha0 : 0 < a := Nat.pos_of_ne_zero (fun e => ha (e ▸ Nat.dvd_zero p))
  have h4 := mod_of_dvd_sub (Nat.pow_pos (n := p - 1) ha0) ((h.euclid h2).resolve_left ha)
  rw [h4]; exact Nat.mod_eq_of_lt h1
theorem pow_one_mod {b r : Nat} (m k : Nat) (h : b ^ m % r = 1 % r) : b ^ (m * k) % r = 1 % r := by
  rw [Nat.pow_mul, Nat.pow_mod, h, ← Nat.pow_mod, Nat.one_pow]
theorem pow_gcd {b r : Nat} (m n : Nat) : b ^ m % r = 1 % r → b ^ n % r = 1 % r → b ^ (Nat.gcd m n) % r = 1 % r := by
  induction m, n using Nat.gcd.induction with
  | H0 n => intro _ h; rw [Nat.gcd_zero_left]; exact h
  | H1 m n hm ih =>
    intro h1 h2
    rw [Nat.gcd_rec]
    refine ih ?_ h1
    have h3 := pow_one_mod m (n / m) h1
    rw [← Nat.div_add_mod n m, Nat.pow_add, Nat.mul_mod, h3, ← Nat.mul_mod, Nat.one_mul] at h2
    exact h2
/-- Every number from 2 on has a prime divisor. -/
theorem has_prime (n : Nat) : 2 ≤ n → ∃ r, Pr r ∧ r ∣ n := by
  induction n using Nat.strongRecOn with
  | _ n ih =>
    intro hn
    by_cases h : Pr n
    · exact ⟨n, h, Nat.dvd_refl n⟩
    · have : ∃ d, d ∣ n ∧ d ≠ 1 ∧ d ≠ n := by
        refine Classical.byContradiction fun hc => h ⟨hn, fun d hd => ?_⟩
        refine Classical.byContradiction fun hc2 => hc ⟨d, hd, fun e => hc2 (Or.inl e), fun e => hc2 (Or.inr e)⟩
      obtain ⟨d, hd, h1, h2⟩ := this
      have hle := Nat.le_of_dvd (by omega) hd
      have hpos := Nat.pos_of_dvd_of_pos hd (by omega)
      obtain ⟨r, hr, hrd⟩ := ih d (by omega) (by omega)
      exact ⟨r, hr, Nat.dvd_trans hrd hd⟩
/-- A number without a prime divisor whose square is as little as it is prime. -/
theorem pr_of (n : Nat) (hn : 2 ≤ n) (h : ∀ r, Pr r → r ∣ n → n < r * r) : Pr n := by
  refine ⟨hn, fun d hd => ?_⟩
  refine Classical.byContradiction fun hc => ?_
  have hpos := Nat.pos_of_dvd_of_pos hd (by omega)
  obtain ⟨e, he⟩ := hd
  have h1 : d ≠ 1 := fun x => hc (Or.inl x)
  have h2 : e ≠ 1 := fun x => hc (Or.inr (by rw [he, x, Nat.mul_one]))
  have h0 : e ≠ 0 := fun x => by rw [x] at he; omega
  have key : ∀ a b, n = a * b → 2 ≤ a → a ≤ b → False := by
    intro a b hab ha hle
    obtain ⟨r, hr, hrd⟩ := has_prime a ha
    have h3 := h r hr (Nat.dvd_trans hrd ⟨b, hab⟩)
    have h4 := Nat.le_of_dvd (by omega) hrd
    have h5 : r * r ≤ a * b := Nat.mul_le_mul h4 (by omega)
    omega
  rcases Nat.le_total d e with hle | hle
  · exact key d e he (by omega) hle
  · exact key e d (by rw [he, Nat.mul_comm]) (by omega) hle
theorem dvd_pow_self (b : Nat) {q : Nat} (h : 0 < q) : b ∣ b ^ q := ⟨b ^ (q - 1), by rw [← Nat.pow_succ', show (q - 1).succ = q by omega]⟩
/-- Pocklington: a prime q of n - 1 is one of r - 1 too, for a prime divisor r of n. -/
theorem pock {n q a r : Nat} (hq : Pr q) (hr : Pr r) (hrn : r ∣ n) (hqn : q ∣ n - 1) (h1 : a ^ (n - 1) % n = 1 % n) (h2 : Nat.gcd (a ^ ((n - 1) / q) % n + (n - 1)) n = 1) (hn : 2 ≤ n) : q ∣ r - 1 := by
  have hr1 := hr.1
  have e1 : (a ^ ((n - 1) / q)) ^ q % r = 1 % r := by
    rw [← Nat.pow_mul, Nat.div_mul_cancel hqn]
    have := Nat.mod_mod_of_dvd (a ^ (n - 1)) hrn
    rw [h1, Nat.mod_mod_of_dvd 1 hrn] at this
    exact this.symm
  have e2 : a ^ ((n - 1) / q) % r ≠ 1 % r := by
    intro e
    have e3 : r ∣ a ^ ((n - 1) / q) % n + (n - 1) := by
      refine Nat.dvd_of_mod_eq_zero ?_
      obtain ⟨c, hc⟩ := hrn
      have e5 : (a ^ ((n - 1) / q) % n) % r = 1 % r := by rw [Nat.mod_mod_of_dvd _ ⟨c, hc⟩, e]
      rw [Nat.add_mod, e5, ← Nat.add_mod, show 1 + (n - 1) = r * c by omega]
      exact Nat.mul_mod_right r c
    have e4 := Nat.dvd_gcd e3 hrn
    rw [h2] at e4
    have := Nat.le_of_dvd (by omega) e4
    omega
  generalize a ^ ((n - 1) / q) = b at *
  have e6 : ¬ r ∣ b := by
    intro h
    have : b ^ q % r = 0 := Nat.mod_eq_zero_of_dvd (Nat.dvd_trans h (dvd_pow_self b (by have := hq.1; omega)))
    rw [this, Nat.mod_eq_of_lt hr1] at e1; omega
  have e7 := hr.little e6
  rw [← Nat.mod_eq_of_lt (show 1 < r by omega)] at e7
  rw [show (1 % r) = 1 % r from rfl] at e7
  have e8 := pow_gcd q (r - 1) e1 (by rw [Nat.mod_eq_of_lt (show 1 < r by omega)]; rw [Nat.mod_eq_of_lt (show 1 < r by omega)] at e7; exact e7)
  rcases hq.2 _ (Nat.gcd_dvd_left q (r - 1)) with h3 | h3
  · rw [h3, Nat.pow_one] at e8; exact absurd e8 e2
  · rw [← h3]; exact Nat.gcd_dvd_right q (r - 1)
/-- A power modulo m, by squares. -/
def pw : Nat → Nat → Nat → Nat → Nat
  | 0, _, _, m => 1 % m
  | f + 1, a, e, m => bif Nat.beq e 0 then 1 % m else bif Nat.beq (e % 2) 1 then (a * pw f (a * a % m) (e / 2) m) % m else pw f (a * a % m) (e / 2) m
theorem pw_eq (m : Nat) : ∀ f a e, e < 2 ^ f → pw f a e m = a ^ e % m := by
  intro f
  induction f with
  | zero => intro a e h; rw [show e = 0 by omega]; rfl
  | succ f ih =>
    intro a e h
    rw [Nat.pow_succ] at h
    have h1 := ih (a * a % m) (e / 2) (by omega)
    have h2 : (a * a % m) ^ (e / 2) % m = a ^ (2 * (e / 2)) % m := by
      rw [← Nat.pow_mod, Nat.pow_mul, Nat.pow_two]
    rw [h2] at h1
    rw [pw, h1]
    rcases Nat.eq_zero_or_pos e with h0 | h0
    · subst h0; rfl
    · have hb : Nat.beq e 0 = false := Bool.eq_false_iff.2 (fun c => by have := Nat.eq_of_beq_eq_true c; omega)
      rw [hb]
      rcases Nat.mod_two_eq_zero_or_one e with h3 | h3
      · rw [h3]
        show a ^ (2 * (e / 2)) % m = _
        rw [show 2 * (e / 2) = e by omega]
      · rw [h3]
        show a * (a ^ (2 * (e / 2)) % m) % m = _
        rw [Nat.mul_mod_mod, ← Nat.pow_succ', show (2 * (e / 2)).succ = e by omega]
/-- No number from d on, so many of them, divides n. -/
def none_from (n : Nat) : Nat → Nat → Bool
  | 0, _ => true
  | f + 1, d => bif Nat.beq (n % d) 0 then false else none_from n f (d + 1)
theorem none_from_is (n : Nat) : ∀ f d, none_from n f d = true → ∀ k, d ≤ k → k < d + f → ¬ k ∣ n := by
  intro f
  induction f with
  | zero => intro d _ k h1 h2; omega
  | succ f ih =>
    intro d h k h1 h2 hk
    rw [none_from] at h
    cases hb : Nat.beq (n % d) 0 with
    | true => rw [hb] at h; cases h
    | false =>
      rw [hb] at h
      by_cases e : k = d
      · subst e
        rw [Nat.mod_eq_zero_of_dvd hk] at hb; cases hb
      · exact ih (d + 1) h k (by omega) (by omega) hk
theorem pr_small (n f : Nat) (hn : 2 ≤ n) (h : none_from n f 2 = true) (hf : n < (f + 2) * (f + 2)) : Pr n := by
  refine pr_of n hn fun r hr hd => ?_
  refine Classical.byContradiction fun hc => none_from_is n f 2 h r hr.1 ?_ hd
  rcases Nat.lt_or_ge r (2 + f) with hl | hl
  · exact hl
  · have := Nat.mul_le_mul (show f + 2 ≤ r by omega) (show f + 2 ≤ r by omega)
    omega
/-- One prime of n - 1 that is great enough. -/
theorem pr_one {n q : Nat} (a f : Nat) (hq : Pr q) (hn : 2 ≤ n) (hqn : (n - 1) % q = 0) (h1 : pw f a (n - 1) n = 1 % n) (h2 : Nat.gcd (pw f a ((n - 1) / q) n + (n - 1)) n = 1) (hf : n ≤ 2 ^ f) (hl : n < (q + 1) * (q + 1)) : Pr n := by
  rw [pw_eq _ _ _ _ (by omega)] at h1
  rw [pw_eq _ _ _ _ (Nat.lt_of_le_of_lt (Nat.div_le_self _ _) (by omega))] at h2
  refine pr_of n hn fun r hr hd => ?_
  have h3 := pock hq hr hd (Nat.dvd_of_mod_eq_zero hqn) h1 h2 hn
  have h4 := Nat.le_of_dvd (by have := hr.1; omega) h3
  have := hr.1
  exact Nat.lt_of_lt_of_le hl (Nat.mul_le_mul (by omega) (by omega))
/-- Two primes of n - 1 whose product is great enough. -/
theorem pr_two {n q u : Nat} (a b f : Nat) (hq : Pr q) (hu : Pr u) (hqu : Nat.gcd q u = 1) (hn : 2 ≤ n) (hqn : (n - 1) % q = 0) (hun : (n - 1) % u = 0) (h1 : pw f a (n - 1) n = 1 % n) (h2 : Nat.gcd (pw f a ((n - 1) / q) n + (n - 1)) n = 1) (g1 : pw f b (n - 1) n = 1 % n) (g2 : Nat.gcd (pw f b ((n - 1) / u) n + (n - 1)) n = 1) (hf : n ≤ 2 ^ f) (hl : n < (q * u + 1) * (q * u + 1)) : Pr n := by
  rw [pw_eq _ _ _ _ (by omega)] at h1 g1
  rw [pw_eq _ _ _ _ (Nat.lt_of_le_of_lt (Nat.div_le_self _ _) (by omega))] at h2 g2
  refine pr_of n hn fun r hr hd => ?_
  have h3 := pock hq hr hd (Nat.dvd_of_mod_eq_zero hqn) h1 h2 hn
  have g3 := pock hu hr hd (Nat.dvd_of_mod_eq_zero hun) g1 g2 hn
  have h4 := Nat.le_of_dvd (by have := hr.1; omega) (Nat.Coprime.mul_dvd_of_dvd_of_dvd hqu h3 g3)
  have := hr.1
  exact Nat.lt_of_lt_of_le hl (Nat.mul_le_mul (by omega) (by omega))
def pT : Nat := 8574133
def pS : Nat := 1919519569386763
def pR : Nat := 75445702479781427272750846543864801
def pQ : Nat := 74058212732561358302231226437062788676166966415465897661863160754340907
/-- The number p of the chapter. -/
def PP : Nat := 57896044618658097711785492504343953926634992332820282019728792003956564819949
set_option maxRecDepth 100000 in
theorem pr_127 : Pr 127 := pr_small 127 10 (by decide) (by decide +kernel) (by decide)
set_option maxRecDepth 100000 in
theorem pr_353 : Pr 353 := pr_small 353 17 (by decide) (by decide +kernel) (by decide)
set_option maxRecDepth 100000 in
theorem pr_75707 : Pr 75707 := pr_small 75707 280 (by decide) (by decide +kernel) (by decide)
set_option maxRecDepth 100000 in
theorem pr_T : Pr pT := pr_small pT 2930 (by decide +kernel) (by decide +kernel) (by decide +kernel)
set_option maxRecDepth 100000 in
theorem pr_S : Pr pS := pr_two (q := pT) (u := 127) 2 2 51 pr_T pr_127 (by decide +kernel) (by decide +kernel) (by decide +kernel) (by decide +kernel) (by decide +kernel) (by decide +kernel) (by decide +kernel) (by decide +kernel) (by decide +kernel) (by decide +kernel)
set_option maxRecDepth 100000 in
theorem pr_R : Pr pR := pr_two (q := pS) (u := 75707) 2 2 116 pr_S pr_75707 (by decide +kernel) (by decide +kernel) (by decide +kernel) (by decide +kernel) (by decide +kernel) (by decide +kernel) (by decide +kernel) (by decide +kernel) (by decide +kernel) (by decide +kernel)
set_option maxRecDepth 100000 in
theorem pr_Q : Pr pQ := pr_two (q := pR) (u := 353) 2 2 236 pr_R pr_353 (by decide +kernel) (by decide +kernel) (by decide +kernel) (by decide +kernel) (by decide +kernel) (by decide +kernel) (by decide +kernel) (by decide +kernel) (by decide +kernel) (by decide +kernel)
set_option maxRecDepth 100000 in
theorem pr_P : Pr PP := pr_one (q := pQ) 2 255 pr_Q (by decide +kernel) (by decide +kernel) (by decide +kernel) (by decide +kernel) (by decide +kernel) (by decide +kernel)
theorem cg (x y P : Nat) : (x % P = y % P) ↔ ((P : Int) ∣ (x : Int) - (y : Int)) := by
  constructor
  · intro h
    have h1 : (x : Int) % (P : Int) = (y : Int) % (P : Int) := by rw [← Int.natCast_emod, ← Int.natCast_emod, h]
    exact Int.dvd_of_emod_eq_zero (Int.emod_eq_emod_iff_emod_sub_eq_zero.1 h1)
  · intro h
    have h1 := Int.emod_eq_emod_iff_emod_sub_eq_zero.2 (Int.emod_eq_zero_of_dvd h)
    rw [← Int.natCast_emod, ← Int.natCast_emod] at h1
    exact Int.ofNat.inj h1
theorem Pr.int {P : Nat} (h : Pr P) {x y : Int} (hd : (P : Int) ∣ x * y) : (P : Int) ∣ x ∨ (P : Int) ∣ y := by
  rw [← Int.natAbs_dvd_natAbs, Int.natAbs_mul] at hd
  rcases h.euclid hd with h1 | h1
  · exact Or.inl (Int.natAbs_dvd_natAbs.1 h1)
  · exact Or.inr (Int.natAbs_dvd_natAbs.1 h1)
theorem not_dvd {P a : Nat} (h : a < P) (h0 : a ≠ 0) : ¬ (P : Int) ∣ (a : Int) := by
  rw [Int.natCast_dvd_natCast]
  intro hd
  have := Nat.le_of_dvd (by omega) hd
  omega
/-- What a root of a would be. -/
def rt (P k t a : Nat) : Nat := if (a ^ (k + 1) % P) * (a ^ (k + 1) % P) % P = a then a ^ (k + 1) % P else (a ^ (k + 1) % P) * t % P
/-- Whether it is one. -/
def isS (P k t a : Nat) : Bool := decide (rt P k t a * rt P k t a % P = a)
theorem four (P k a : Nat) : (a ^ (k + 1) % P) * (a ^ (k + 1) % P) * ((a ^ (k + 1) % P) * (a ^ (k + 1) % P)) % P = a ^ (4 * k + 2) * (a * a) % P := by
  have h : ∀ x : Nat, x * x * (x * x) = x ^ 4 := fun x => by grind
  rw [h, ← Nat.pow_mod, ← Nat.pow_mul, ← Nat.pow_two, ← Nat.pow_add]
  rw [show (k + 1) * 4 = 4 * k + 2 + 2 by omega]
theorem isS_iff {P k t a : Nat} (hP : Pr P) (ht : (P : Int) ∣ (t : Int) * t + 1) (ha : a < P) : isS P k t a = true ↔ a = 0 ∨ a ^ (4 * k + 2) % P = 1 := by
  have h4 := (cg _ _ P).1 (four P k a)
  have h2 := hP.1
  rw [isS, decide_eq_true_eq, rt]
  by_cases h0 : a = 0
  · subst h0
    simp
  have hna := not_dvd ha h0
  have hc1 : a ^ (4 * k + 2) % P = 1 ↔ (P : Int) ∣ ((a ^ (4 * k + 2) : Nat) : Int) - ((1 : Nat) : Int) := by rw [← cg, Nat.mod_eq_of_lt h2]
  rw [or_iff_right h0, hc1]
  generalize a ^ (k + 1) % P = r at *
  generalize a ^ (4 * k + 2) = c at *
  simp only [Int.natCast_mul, Int.natCast_one] at *
  have cancel : (P : Int) ∣ ((c : Int) - 1) * (a * a) → (P : Int) ∣ (c : Int) - 1 := by
    intro h
    rcases hP.int h with h | h
    · exact h
    · rcases hP.int h with h | h <;> exact absurd h hna
  by_cases hr : r * r % P = a
  · rw [if_pos hr]
    have h5 : (P : Int) ∣ (r : Int) * r - a := by
      have := (cg (r * r) a P).1 (by rw [hr, Nat.mod_eq_of_lt ha])
      simpa using this
    refine ⟨fun _ => cancel ?_, fun _ => hr⟩
    obtain ⟨u, hu⟩ := h4
    obtain ⟨v, hv⟩ := h5
    exact ⟨v * (r * r + a) - u, by grind⟩
  · rw [if_neg hr]
    have e1 : (r * t % P) * (r * t % P) % P = a ↔ (P : Int) ∣ (r : Int) * t * (r * t) - a := by
      rw [← Nat.mul_mod]
      have := cg (r * t * (r * t)) a P
      rw [Nat.mod_eq_of_lt ha] at this
      simpa using this
    rw [e1]
    obtain ⟨u, hu⟩ := h4
    obtain ⟨w, hw⟩ := ht
    constructor
    · rintro ⟨v, hv⟩
      refine cancel ⟨v * (r * t * (r * t) + a) - (r * r * (r * r)) * w * (t * t - 1) - u, by grind⟩
    · rintro ⟨z, hz⟩
      have h6 : (P : Int) ∣ ((r : Int) * r - a) * (r * r + a) := ⟨u + z * a * a, by grind⟩
      rcases hP.int h6 with ⟨y, hy⟩ | ⟨y, hy⟩
      · refine absurd ?_ hr
        have := (cg (r * r) a P).2 (by simp only [Int.natCast_mul]; exact ⟨y, hy⟩)
        rw [this, Nat.mod_eq_of_lt ha]
      · exact ⟨w * r * r - y, by grind⟩
/-- Euler: the half power of what is not nought is 1 or less 1. -/
theorem half {P k a : Nat} (hP : Pr P) (hk : P = 8 * k + 5) (ha : a < P) (h0 : a ≠ 0) : (P : Int) ∣ ((a ^ (4 * k + 2) : Nat) : Int) - 1 ∨ (P : Int) ∣ ((a ^ (4 * k + 2) : Nat) : Int) + 1 := by
  have h := hP.little (a := a) (fun h => not_dvd ha h0 (Int.natCast_dvd_natCast.2 h))
  rw [show P - 1 = (4 * k + 2) * 2 by omega, Nat.pow_mul, Nat.pow_two] at h
  have h1 := (cg _ 1 P).1 (h.trans (Nat.mod_eq_of_lt hP.1).symm)
  generalize a ^ (4 * k + 2) = c at *
  refine hP.int ?_
  obtain ⟨u, hu⟩ := h1
  simp only [Int.natCast_mul] at hu
  exact ⟨u, by grind⟩
theorem one_iff {P c : Nat} (hP : Pr P) : c % P = 1 ↔ (P : Int) ∣ (c : Int) - 1 := by
  have := cg c 1 P
  rw [Nat.mod_eq_of_lt hP.1] at this
  exact this
/-- Of two that are not nought the product has a root just where both have one, or neither has. -/
theorem isS_mul {P k t a b : Nat} (hP : Pr P) (hk : P = 8 * k + 5) (ht : (P : Int) ∣ (t : Int) * t + 1) (ha : a < P) (hb : b < P) (ha0 : a ≠ 0) (hb0 : b ≠ 0) : isS P k t (a * b % P) = (isS P k t a == isS P k t b) := by
  have hp := hP.pos
  have h5 : (5 : Int) ≤ P := by omega
  have hab : ¬ (P : Int) ∣ (a : Int) * b := fun h => by
    rcases hP.int h with h | h
    · exact not_dvd ha ha0 h
    · exact not_dvd hb hb0 h
  have hab0 : a * b % P ≠ 0 := fun h => hab (by rw [← Int.natCast_mul, Int.natCast_dvd_natCast]; exact Nat.dvd_of_mod_eq_zero h)
  have ia := isS_iff (k := k) hP ht ha
  have ib := isS_iff (k := k) hP ht hb
  have ic := isS_iff (k := k) (a := a * b % P) hP ht (Nat.mod_lt _ hp)
  rw [or_iff_right ha0, one_iff hP] at ia
  rw [or_iff_right hb0, one_iff hP] at ib
  rw [or_iff_right hab0, ← Nat.pow_mod, Nat.mul_pow, one_iff hP, Int.natCast_mul] at ic
  have xa := half hP hk ha ha0
  have xb := half hP hk hb hb0
  generalize isS P k t (a * b % P) = p at *
  generalize isS P k t a = q at *
  generalize isS P k t b = r at *
  generalize ((a ^ (4 * k + 2) : Nat) : Int) = c at *
  generalize ((b ^ (4 * k + 2) : Nat) : Int) = d at *
  have no2 : ∀ x : Int, (P : Int) ∣ x - 1 → (P : Int) ∣ x + 1 → False := by
    rintro x ⟨u, hu⟩ ⟨v, hv⟩
    have h : (P : Int) ∣ ((2 : Nat) : Int) := ⟨v - u, by grind⟩
    exact not_dvd (by omega) (by omega) h
  rcases xa with hA | hA <;> rcases xb with hB | hB
  · rw [ia.2 hA, ib.2 hB, ic.2 (by obtain ⟨u, hu⟩ := hA; obtain ⟨v, hv⟩ := hB; exact ⟨u * d + v, by grind⟩)]; rfl
  · have e1 : r = false := Bool.eq_false_iff.2 (fun e => no2 d (ib.1 e) hB)
    have e2 : p = false := Bool.eq_false_iff.2 (fun e => no2 (c * d) (ic.1 e) (by obtain ⟨u, hu⟩ := hA; obtain ⟨v, hv⟩ := hB; exact ⟨u * d + v, by grind⟩))
    rw [ia.2 hA, e1, e2]; rfl
  · have e1 : q = false := Bool.eq_false_iff.2 (fun e => no2 c (ia.1 e) hA)
    have e2 : p = false := Bool.eq_false_iff.2 (fun e => no2 (c * d) (ic.1 e) (by obtain ⟨u, hu⟩ := hA; obtain ⟨v, hv⟩ := hB; exact ⟨u * d - v, by grind⟩))
    rw [ib.2 hB, e1, e2]; rfl
  · have e1 : q = false := Bool.eq_false_iff.2 (fun e => no2 c (ia.1 e) hA)
    have e2 : r = false := Bool.eq_false_iff.2 (fun e => no2 d (ib.1 e) hB)
    rw [e1, e2, ic.2 (by obtain ⟨u, hu⟩ := hA; obtain ⟨v, hv⟩ := hB; exact ⟨u * d - v, by grind⟩)]; rfl
/-- A square has a root. -/
theorem isS_square {P k t x : Nat} (hP : Pr P) (hk : P = 8 * k + 5) (ht : (P : Int) ∣ (t : Int) * t + 1) (hx : x < P) : isS P k t (x * x % P) = true := by
  by_cases h0 : x = 0
  · subst h0
    rw [isS_iff hP ht (Nat.mod_lt _ hP.pos)]; simp
  · rw [isS_mul hP hk ht hx hx h0 h0]; simp
/-- Two numbers with one square. -/
theorem same_square {P x y : Nat} (hP : Pr P) (hx : x < P) (hy : y < P) (h : x * x % P = y * y % P) : x = y ∨ (x + y) % P = 0 := by
  have h1 := (cg _ _ P).1 h
  rw [Int.natCast_mul, Int.natCast_mul, show (x : Int) * x - y * y = (x - y) * (x + y) by grind] at h1
  rcases hP.int h1 with h2 | h2
  · left
    have := (cg _ _ P).2 h2
    rw [Nat.mod_eq_of_lt hx, Nat.mod_eq_of_lt hy] at this
    exact this
  · right
    rw [← Int.natCast_add, Int.natCast_dvd_natCast] at h2
    exact Nat.mod_eq_zero_of_dvd h2
end Go.Proofs.YtoggkhjaghkpnaaDoor.NP
namespace Go.Proofs.YtoggkhjaghkpnaaDoor
open Go.RowKit
/-- The number p, written out. -/
abbrev pp : Nat := 57896044618658097711785492504343953926634992332820282019728792003956564819949
/-- A number's five limbs. -/
def limb5 (n : Nat) : List Nat := [n % 2251799813685248, n / 2251799813685248 % 2251799813685248, n / 2251799813685248 / 2251799813685248 % 2251799813685248, n / 2251799813685248 / 2251799813685248 / 2251799813685248 % 2251799813685248, n / 2251799813685248 / 2251799813685248 / 2251799813685248 / 2251799813685248 % 2251799813685248]
theorem limb5_length (n : Nat) : (limb5 n).length = 5 := rfl
/-- The number of five limbs, which may be greater than their bits. -/
def val5 (a b c d e : Nat) : Nat := a + 2251799813685248 * (b + 2251799813685248 * (c + 2251799813685248 * (d + 2251799813685248 * e)))
theorem div51 (x y : Nat) : (x + 2251799813685248 * y) / 2251799813685248 = x / 2251799813685248 + y := Nat.add_mul_div_left x y (by decide)
theorem mod51 (x y : Nat) : (x + 2251799813685248 * y) % 2251799813685248 = x % 2251799813685248 := Nat.add_mul_mod_self_left x 2251799813685248 y
/-- Carries, one behind the other. -/
theorem val5_1 (a b c d e : Nat) : val5 a b c d e / 2251799813685248 = (b + a / 2251799813685248) + 2251799813685248 * (c + 2251799813685248 * (d + 2251799813685248 * e)) := by rw [val5, div51]; omega
theorem val5_2 (a b c d e : Nat) : val5 a b c d e / 2251799813685248 / 2251799813685248 = (c + (b + a / 2251799813685248) / 2251799813685248) + 2251799813685248 * (d + 2251799813685248 * e) := by rw [val5_1, div51]; omega
theorem val5_3 (a b c d e : Nat) : val5 a b c d e / 2251799813685248 / 2251799813685248 / 2251799813685248 = (d + (c + (b + a / 2251799813685248) / 2251799813685248) / 2251799813685248) + 2251799813685248 * e := by rw [val5_2, div51]; omega
theorem val5_4 (a b c d e : Nat) : val5 a b c d e / 2251799813685248 / 2251799813685248 / 2251799813685248 / 2251799813685248 = e + (d + (c + (b + a / 2251799813685248) / 2251799813685248) / 2251799813685248) / 2251799813685248 := by rw [val5_3, div51]; omega
theorem div5_all (n : Nat) : n / 2251799813685248 / 2251799813685248 / 2251799813685248 / 2251799813685248 / 2251799813685248 = n / 57896044618658097711785492504343953926634992332820282019728792003956564819968 := by
  rw [Nat.div_div_eq_div_mul, Nat.div_div_eq_div_mul, Nat.div_div_eq_div_mul, Nat.div_div_eq_div_mul]
theorem val5_limbs (n : Nat) (h : n < 57896044618658097711785492504343953926634992332820282019728792003956564819968) : val5 (n % 2251799813685248) (n / 2251799813685248 % 2251799813685248) (n / 2251799813685248 / 2251799813685248 % 2251799813685248) (n / 2251799813685248 / 2251799813685248 / 2251799813685248 % 2251799813685248) (n / 2251799813685248 / 2251799813685248 / 2251799813685248 / 2251799813685248 % 2251799813685248) = n := by
  rw [val5]; omega
theorem limb5_mod (n : Nat) : limb5 (n % 57896044618658097711785492504343953926634992332820282019728792003956564819968) = limb5 n := by
  simp only [limb5]
  have e := Nat.div_add_mod n 57896044618658097711785492504343953926634992332820282019728792003956564819968
  generalize n % 57896044618658097711785492504343953926634992332820282019728792003956564819968 = r at *
  generalize n / 57896044618658097711785492504343953926634992332820282019728792003956564819968 = q at *
  subst e
  have e1 : 57896044618658097711785492504343953926634992332820282019728792003956564819968 * q + r = r + 2251799813685248 * (2251799813685248 * (2251799813685248 * (2251799813685248 * (2251799813685248 * q)))) := by omega
  rw [e1, mod51, div51]
  have e2 : ∀ x y : Nat, (x + 2251799813685248 * y) % 2251799813685248 = x % 2251799813685248 := mod51
  rw [mod51, div51, mod51, div51, mod51, div51, mod51]
/-- The rest modulo p, of limbs up to 2^60: the three carries. -/
theorem least_val (a b c d e n o q r : Nat) (hn : n = val5 a b c d e) (hs : n < 1024 * 57896044618658097711785492504343953926634992332820282019728792003956564819968) (ho : o = n / 2251799813685248 / 2251799813685248 / 2251799813685248 / 2251799813685248 / 2251799813685248)
    (hq : q = val5 (n % 2251799813685248 + 19 * o + 19) (n / 2251799813685248 % 2251799813685248) (n / 2251799813685248 / 2251799813685248 % 2251799813685248) (n / 2251799813685248 / 2251799813685248 / 2251799813685248 % 2251799813685248) (n / 2251799813685248 / 2251799813685248 / 2251799813685248 / 2251799813685248 % 2251799813685248) / 2251799813685248 / 2251799813685248 / 2251799813685248 / 2251799813685248 / 2251799813685248)
    (hr : r = val5 (n % 2251799813685248 + 19 * o + 19 * q) (n / 2251799813685248 % 2251799813685248) (n / 2251799813685248 / 2251799813685248 % 2251799813685248) (n / 2251799813685248 / 2251799813685248 / 2251799813685248 % 2251799813685248) (n / 2251799813685248 / 2251799813685248 / 2251799813685248 / 2251799813685248 % 2251799813685248)) : limb5 r = limb5 (n % pp) := by
  rw [div5_all] at ho hq
  have e1 : val5 (n % 2251799813685248) (n / 2251799813685248 % 2251799813685248) (n / 2251799813685248 / 2251799813685248 % 2251799813685248) (n / 2251799813685248 / 2251799813685248 / 2251799813685248 % 2251799813685248) (n / 2251799813685248 / 2251799813685248 / 2251799813685248 / 2251799813685248 % 2251799813685248) = n % 57896044618658097711785492504343953926634992332820282019728792003956564819968 := by
    have h1 := limb5_mod n
    have h2 := val5_limbs (n % 57896044618658097711785492504343953926634992332820282019728792003956564819968) (Nat.mod_lt _ (by decide))
    simp only [limb5, List.cons.injEq, and_true] at h1
    obtain ⟨g0, g1, g2, g3, g4⟩ := h1
    rw [g0, g1, g2, g3, g4] at h2
    exact h2
  have e2 : ∀ x b c d e y : Nat, val5 (x + y) b c d e = val5 x b c d e + y := by intros; simp only [val5]; omega
  rw [Nat.add_assoc, e2, e1] at hq
  rw [Nat.add_assoc, e2, e1] at hr
  rw [← limb5_mod r]
  have h3 := Nat.mod_lt n (show 0 < 57896044618658097711785492504343953926634992332820282019728792003956564819968 by decide)
  have h4 := Nat.div_add_mod n 57896044618658097711785492504343953926634992332820282019728792003956564819968
  congr 1
  rw [hr]
  generalize n % 57896044618658097711785492504343953926634992332820282019728792003956564819968 = u at *
  rw [← ho] at h4
  show _ = n % 57896044618658097711785492504343953926634992332820282019728792003956564819949
  rw [show n = (u + 19 * o) + 57896044618658097711785492504343953926634992332820282019728792003956564819949 * o by omega, Nat.add_mul_mod_self_left]
  have h5 : o < 1024 := by omega
  clear hr ho h4 hn e1 e2
  rcases (show q = 0 ∨ q = 1 by omega) with rfl | rfl
  · rw [Nat.mod_eq_of_lt (show u + 19 * o < 57896044618658097711785492504343953926634992332820282019728792003956564819949 by omega), Nat.mod_eq_of_lt (by omega)]; omega
  · have h6 : 57896044618658097711785492504343953926634992332820282019728792003956564819949 ≤ u + 19 * o := by omega
    rw [Nat.mod_eq_sub_mod h6, Nat.mod_eq_of_lt (show u + 19 * o - 57896044618658097711785492504343953926634992332820282019728792003956564819949 < 57896044618658097711785492504343953926634992332820282019728792003956564819949 by omega)]
    rw [Nat.mod_eq_sub_mod (by omega), Nat.mod_eq_of_lt (by omega)]; omega
/- Go's operations on words of 32 bits. -/
section
variable {P : Program} {w : World} {ops : Array Oper} {rest : List Oper} {o o1 o2 : Oper} {a : Act} {Q : Exit → Act → World → Prop}
/-- 'x := f(..)', x an array: a new variable, and the value stored into it. -/
theorem vput_step (hg1 : o1.guard = none) (hg2 : o2.guard = none) (t : TypeId) (x y : Operand) (h1 : o1.op = .alloc t) (h2 : o2.op = .store t x y) (n : Nat) (zs vs : List Value)
    (hx : (a.put o1.dst (.pointer (some ⟨w.heap.size, 0, none⟩))).eval x = .pointer (some ⟨w.heap.size, 0, none⟩)) (hy : (a.put o1.dst (.pointer (some ⟨w.heap.size, 0, none⟩))).eval y = .agg vs.toArray)
    (hz : ∀ w, (zeroValue t).run P w = .ok (.agg zs.toArray) w) (hzl : zs.length = n) (hs : (P.info? t).map (·.size) = some n) (hl : vs.length = n) (h1c : vs.toArray.all (·.oneCell') = true)
    (h : ∀ w', Below w.heap.size w w' → Cells w' w.heap.size vs t → wpList P ops Q rest ((a.put o1.dst (.pointer (some ⟨w.heap.size, 0, none⟩))).put o2.dst undef) w') : wpList P ops Q (o1 :: o2 :: rest) a w := by
  refine alloc_step hg1 t h1 _ hz ?_
  intro w1 hw1
  have hB1 : Below w.heap.size w w1 := by rw [hw1]; exact (Below.refl _ _).alloc (Nat.le_refl _) _
  have hC1 : Cells w1 w.heap.size zs t := by rw [hw1]; exact Cells.new w _ _
  clear hw1
  have hsz : vs.toArray.size = n := by rw [List.size_toArray, hl]
  refine wpList_store_mid hg2 t x y h2 w.heap.size 0 vs.toArray hx hy (by rw [hsz]; exact hC1.there 0 n (by omega)) (by rw [hsz]; exact hs) h1c ?_
  have hC2 := hC1.setCells (cs := vs) (o := 0) (by omega)
  rw [splice_all _ _ (by omega)] at hC2
  exact h _ (below_setCells hB1 (Nat.le_refl _) _ _) hC2
/-- A variable that is an array, as a value. -/
theorem vget_step (hgd : o.guard = none) (t : TypeId) (x : Operand) (ho : o.op = .load t x) (g n : Nat) (vs : List Value) (e : TypeId) (hx : a.eval x = .pointer (some ⟨g, 0, none⟩)) (hC : Cells w g vs t) (hu : P.underlying t = some (.array n e))
    (hs : (P.info? t).map (·.size) = some n) (hl : vs.length = n) (h : wpList P ops Q rest (a.put o.dst (.agg vs.toArray)) w) : wpList P ops Q (o :: rest) a w :=
  wpList_load_row hgd t x ho g hx t vs.toArray (0, 0) _ hC hu rfl (by rw [List.size_toArray, hl]; exact hs) h
/-- An array stored over a variable. -/
theorem vset_step (hgd : o.guard = none) (t : TypeId) (x y : Operand) (ho : o.op = .store t x y) (g n : Nat) (us vs : List Value) (hx : a.eval x = .pointer (some ⟨g, 0, none⟩)) (hy : a.eval y = .agg vs.toArray) (hC : Cells w g us t) (hv : us.length = n)
    (hs : (P.info? t).map (·.size) = some n) (hl : vs.length = n) (h1c : vs.toArray.all (·.oneCell') = true) (h : ∀ w', But g w w' → Cells w' g vs t → w'.heap.size = w.heap.size → wpList P ops Q rest (a.put o.dst undef) w') : wpList P ops Q (o :: rest) a w := by
  have hsz : vs.toArray.size = n := by rw [List.size_toArray, hl]
  refine wpList_store_mid hgd t x y ho g 0 vs.toArray hx hy (by rw [hsz]; exact hC.there 0 n (by omega)) (by rw [hsz]; exact hs) h1c ?_
  have hC2 := hC.setCells (cs := vs) (o := 0) (by omega)
  rw [splice_all _ _ (by omega)] at hC2
  exact h _ ((But.refl g w).setCells _ _) hC2 (heap_setCells _ _ _ _).2.2.2.1
/-- A new variable of a type whose zero value is known. -/
theorem vzero_step (hgd : o.guard = none) (t : TypeId) (ho : o.op = .alloc t) (zs : List Value) (hz : ∀ w, (zeroValue t).run P w = .ok (.agg zs.toArray) w)
    (h : ∀ w', Below w.heap.size w w' → Cells w' w.heap.size zs t → wpList P ops Q rest (a.put o.dst (.pointer (some ⟨w.heap.size, 0, none⟩))) w') : wpList P ops Q (o :: rest) a w := by
  refine alloc_step hgd t ho _ hz ?_
  intro w1 hw1
  exact h w1 (by rw [hw1]; exact (Below.refl _ _).alloc (Nat.le_refl _) _) (by rw [hw1]; exact Cells.new w _ _)
/-- An array that comes as a value, laid into a new variable. -/
theorem vtake_step (hgd : o.guard = none) (t : TypeId) (x : Operand) (ho : o.op = .box t x) (vs : List Value) (hx : a.eval x = .agg vs.toArray)
    (h : ∀ w', Below w.heap.size w w' → Cells w' w.heap.size vs t → wpList P ops Q rest (a.put o.dst (.pointer (some ⟨w.heap.size, 0, none⟩))) w') : wpList P ops Q (o :: rest) a w := by
  refine box_step hgd t x ho _ hx ?_
  intro w1 hw1
  exact h w1 (by rw [hw1]; exact (Below.refl _ _).alloc (Nat.le_refl _) _) (by rw [hw1]; exact Cells.new w _ _)
end
/-- A function whose result is an array in a block of its own. -/
theorem vret {P : Program} {fn : Func} {R : Ending → World → Prop} {a : Act} {w : World} {p : Tmp} {ty e : TypeId} {n : Nat} (hres : fn.results = #[.cell p ty]) (g : Nat) (vs : List Value)
    (hp : a.tmps.getD p undef = .pointer (some ⟨g, 0, none⟩)) (hg : Cells w g vs ty) (hu : P.underlying ty = some (.array n e)) (hi : (P.info? ty).map (·.size) = some n) (hl : vs.length = n)
    (hdf : a.defers = []) (hR : R (.returned (.agg vs.toArray)) w) : bodyPost P fn R .ret a w :=
  ret_block hres g vs ty hp hg hu rfl (by rw [hl]; exact hi) hdf hR
end Go.Proofs.YtoggkhjaghkpnaaDoor
namespace Go.Proofs.YtoggkhjaghkpnaaDoor
open Go.RowKit
/-- A limb as a cell holds it. -/
abbrev ncell (x : Nat) : Value := .int .u64 (x : Int)
/-- A number as a value. -/
def numVal (n : List Nat) : Value := .agg (n.map ncell).toArray
theorem add64n (x y : Nat) : IntKind.u64.wrap ((x : Int) + (y : Int)) = ((addW x y : Nat) : Int) := by
  rw [IntKind.wrap_u64, addW]; omega
theorem ncells_one (l : List Nat) : (l.map ncell).toArray.all (·.oneCell') = true := all_oneCell_toArray (by intro v hv; obtain ⟨x, _, rfl⟩ := List.mem_map.1 hv; rfl)
theorem nat_at (l : List Nat) (k : Nat) (hk : k < l.length) : (l.map ncell)[k]? = some (ncell (l.getD k 0)) := by
  rw [List.getElem?_map, List.getD_eq_getElem?_getD, List.getElem?_eq_getElem hk]
  rfl
/-- So many limbs of nought. (Named, so that a walk leaves them whole.) -/
def nzeros (n : Nat) : List Value := List.replicate n (ncell 0)
theorem nset_map (l : List Nat) (k : Nat) (x : Nat) : (l.map ncell).set k (ncell x) = (l.set k x).map ncell := by rw [List.map_set]
theorem size_u64 : (Tryd.prog.info? 40).map (·.size) = some 1 := by kernel_rfl
/-- A function whose results are an array in a block of its own, and a plain value. -/
theorem vret2 {P : Program} {fn : Func} {R : Ending → World → Prop} {a : Act} {w : World} {p u : Tmp} {ty e : TypeId} {n : Nat} (hres : fn.results = #[.cell p ty, .tmp u]) (g : Nat) (vs : List Value) (v : Value)
    (hp : a.tmps.getD p undef = .pointer (some ⟨g, 0, none⟩)) (hv : a.tmps.getD u undef = v) (hg : Cells w g vs ty) (hu : P.underlying ty = some (.array n e)) (hi : (P.info? ty).map (·.size) = some n) (hl : vs.length = n)
    (hdf : a.defers = []) (hR : R (.returned (.tuple #[.agg vs.toArray, v])) w) : bodyPost P fn R .ret a w := by
  have hp' : a.tmps[p]?.getD undef = .pointer (some ⟨g, 0, none⟩) := by simpa using hp
  have hv' : a.tmps[u]?.getD undef = v := by simpa using hv
  have hrun : (results fn a.tmps).run P w = .ok (.tuple #[.agg vs.toArray, v]) w := by
    simp [results, hres, hp', hv', asAddr, run_loadVar_row w g ty ty vs.toArray (0, 0) _ hg hu rfl (by rw [List.size_toArray, hl]; exact hi)]
  exact bodyPost_ret hrun hdf hR
/-- A number modulo p, as the program holds it. -/
def elV (n : Nat) : Value := numVal (limb5 n)
/-- A sum of products. -/
def wideV (x : Nat) : Value := numVal [x / 18446744073709551616, x % 18446744073709551616]
theorem zero_numF : ∀ w, (zeroValue 42).run Tryd.prog w = .ok (.agg (nzeros 5).toArray) w := (zero_of_info (P := Tryd.prog) (t := 42) (v := .agg (nzeros 5).toArray) (n := 5) (by kernel_rfl)).1
theorem zero_arrF : ∀ w, (zeroValue 41).run Tryd.prog w = .ok (.agg (nzeros 5).toArray) w := (zero_of_info (P := Tryd.prog) (t := 41) (v := .agg (nzeros 5).toArray) (n := 5) (by kernel_rfl)).1
theorem zero_elem : ∀ w, (zeroValue 44).run Tryd.prog w = .ok (.agg (nzeros 5).toArray) w := (zero_of_info (P := Tryd.prog) (t := 44) (v := .agg (nzeros 5).toArray) (n := 5) (by kernel_rfl)).1
theorem zero_wide : ∀ w, (zeroValue 129).run Tryd.prog w = .ok (.agg (nzeros 2).toArray) w := (zero_of_info (P := Tryd.prog) (t := 129) (v := .agg (nzeros 2).toArray) (n := 2) (by kernel_rfl)).1
theorem size_numF : (Tryd.prog.info? 42).map (·.size) = some 5 := by kernel_rfl
theorem size_elem : (Tryd.prog.info? 44).map (·.size) = some 5 := by kernel_rfl
theorem size_wide : (Tryd.prog.info? 129).map (·.size) = some 2 := by kernel_rfl
theorem build_elem (a b c d e : Nat) (w : World) : (Instr.build 44 #[(0, numVal [a, b, c, d, e])]).run Tryd.prog w = .ok (numVal [a, b, c, d, e]) w := by kernel_rfl
theorem build_elV (n : Nat) (w : World) : (Instr.build 44 #[(0, elV n)]).run Tryd.prog w = .ok (elV n) w := build_elem _ _ _ _ _ w
theorem build_num (a b c d e : Nat) (w : World) : (Instr.build 42 #[(0, ncell a), (1, ncell b), (2, ncell c), (3, ncell d), (4, ncell e)]).run Tryd.prog w = .ok (numVal [a, b, c, d, e]) w := by kernel_rfl
theorem build_two (a b : Nat) (w : World) : (Instr.build 42 #[(0, ncell a), (1, ncell b)]).run Tryd.prog w = .ok (numVal [a, b, 0, 0, 0]) w := by kernel_rfl
theorem build_none (w : World) : (Instr.build 44 #[]).run Tryd.prog w = .ok (elV 0) w := by kernel_rfl
theorem build_wide (a b : Nat) (w : World) : (Instr.build 129 #[(0, ncell a), (1, ncell b)]).run Tryd.prog w = .ok (numVal [a, b]) w := by kernel_rfl
theorem build_wide0 (w : World) : (Instr.build 129 #[]).run Tryd.prog w = .ok (wideV 0) w := by kernel_rfl
theorem namedF {α : Type} (a : α) : ∃ z, Hid (a = z) := ⟨a, rfl⟩
section
variable {P : Program} {w : World} {ops : Array Oper} {rest : List Oper} {o : Oper} {a : Act} {Q : Exit → Act → World → Prop}
/-- A variable that is a struct or an array, as a value. -/
theorem sget_step (hgd : o.guard = none) (t : TypeId) (x : Operand) (ho : o.op = .load t x) (g n : Nat) (vs : List Value) {d : TypeDesc} {t' : TypeId} (hx : a.eval x = .pointer (some ⟨g, 0, none⟩)) (hC : Cells w g vs t') (hu : P.underlying t = some d)
    (hd : (match d with | .struct _ | .array _ _ => true | _ => false) = true) (hs : (P.info? t).map (·.size) = some n) (hl : vs.length = n) (h : wpList P ops Q rest (a.put o.dst (.agg vs.toArray)) w) : wpList P ops Q (o :: rest) a w :=
  wpList_load_row hgd t x ho g hx t' vs.toArray (0, 0) _ hC hu hd (by rw [List.size_toArray, hl]; exact hs) h
end
/-- A function whose result is a struct or an array in a block of its own. -/
theorem sret {P : Program} {fn : Func} {R : Ending → World → Prop} {a : Act} {w : World} {p : Tmp} {ty : TypeId} {d : TypeDesc} {n : Nat} (hres : fn.results = #[.cell p ty]) (g : Nat) (vs : List Value)
    (hp : a.tmps.getD p undef = .pointer (some ⟨g, 0, none⟩)) (hg : Cells w g vs ty) (hu : P.underlying ty = some d) (hd : (match d with | .struct _ | .array _ _ => true | _ => false) = true) (hi : (P.info? ty).map (·.size) = some n) (hl : vs.length = n)
    (hdf : a.defers = []) (hR : R (.returned (.agg vs.toArray)) w) : bodyPost P fn R .ret a w :=
  ret_block hres g vs ty hp hg hu hd (by rw [hl]; exact hi) hdf hR
theorem and51 (x : Nat) (h : x < 18446744073709551616) : bits .and .u64 (x : Int) 2251799813685247 = ((x % 2251799813685248 : Nat) : Int) := by
  rw [show (2251799813685247 : Int) = ((2251799813685247 : Nat) : Int) from rfl, u64_and_nat _ _ h (by omega)]
  have := Nat.and_two_pow_sub_one_eq_mod x 51
  simp only [Nat.reducePow, Nat.reduceSub] at this
  rw [this]
theorem wadd (x y : Nat) (h : x + y < 18446744073709551616) : IntKind.u64.wrap ((x : Int) + (y : Int)) = ((x + y : Nat) : Int) := by
  rw [IntKind.wrap_u64]; omega
theorem wmul (x y : Nat) (h : x * y < 18446744073709551616) : IntKind.u64.wrap ((x : Int) * (y : Int)) = ((x * y : Nat) : Int) := by
  rw [IntKind.wrap_u64, ← Int.natCast_mul]; omega
theorem wadd_div (x y : Nat) (h : x + y / 2251799813685248 < 18446744073709551616) : IntKind.u64.wrap ((x : Int) + (y : Int) / 2251799813685248) = ((x + y / 2251799813685248 : Nat) : Int) := wadd x (y / 2251799813685248) h
theorem results_tmp6 {fn : Func} {t u v x y z : Tmp} (h : fn.results = #[.tmp t, .tmp u, .tmp v, .tmp x, .tmp y, .tmp z]) (tmps : Array Value) (P : Program) (w : World) :
    (results fn tmps).run P w = .ok (.tuple #[tmps.getD t undef, tmps.getD u undef, tmps.getD v undef, tmps.getD x undef, tmps.getD y undef, tmps.getD z undef]) w := by
  simp [results, h]
set_option maxRecDepth 100000 in
theorem carried_over5 (a b c d e b1 c1 d1 e1 : Nat) (w : World) (ha : Hid (a < 9223372036854775808)) (hb : Hid (b1 = b + a / 2251799813685248 ∧ b1 < 18446744073709551616)) (hc : Hid (c1 = c + b1 / 2251799813685248 ∧ c1 < 18446744073709551616)) (hd : Hid (d1 = d + c1 / 2251799813685248 ∧ d1 < 18446744073709551616)) (he : Hid (e1 = e + d1 / 2251799813685248 ∧ e1 < 18446744073709551616)) :
    Calls Tryd.prog 85 #[ncell a, ncell b, ncell c, ncell d, ncell e] w fun r w' => r = .returned (.tuple #[ncell (a % 2251799813685248), ncell (b1 % 2251799813685248), ncell (c1 % 2251799813685248), ncell (d1 % 2251799813685248), ncell (e1 % 2251799813685248), ncell (e1 / 2251799813685248)]) ∧ w = w' := by
  have eb : IntKind.u64.wrap ((b : Int) + (a : Int) / 2251799813685248) = (b1 : Int) := by rw [wadd_div _ _ (by rw [← hb.out.1]; exact hb.out.2), ← hb.out.1]
  have ec : IntKind.u64.wrap ((c : Int) + (b1 : Int) / 2251799813685248) = (c1 : Int) := by rw [wadd_div _ _ (by rw [← hc.out.1]; exact hc.out.2), ← hc.out.1]
  have ed : IntKind.u64.wrap ((d : Int) + (c1 : Int) / 2251799813685248) = (d1 : Int) := by rw [wadd_div _ _ (by rw [← hd.out.1]; exact hd.out.2), ← hd.out.1]
  have ee : IntKind.u64.wrap ((e : Int) + (d1 : Int) / 2251799813685248) = (e1 : Int) := by rw [wadd_div _ _ (by rw [← he.out.1]; exact he.out.2), ← he.out.1]
  have fa := and51 a (by have := ha.out; omega)
  have fb := and51 b1 hb.out.2
  have fc := and51 c1 hc.out.2
  have fd := and51 d1 hd.out.2
  have fe := and51 e1 he.out.2
  go_enter Tryd.func85, Tryd.ntmps85
  go_wp2
  try simp only [Exit.inBlock, Exit.then]
  refine bodyPost_ret (results_tmp6 rfl _ _ _) rfl ?_
  exact ⟨rfl, rfl⟩
/-- Five limbs carried, told by their number. -/
theorem carried_any (a b c d e : Nat) (w : World) (ha : a < 4611686018427387904) (hb : b < 4611686018427387904) (hc : c < 4611686018427387904) (hd : d < 4611686018427387904) (he : e < 4611686018427387904) (n : Nat) (hn : n = val5 a b c d e) :
    Calls Tryd.prog 85 #[ncell a, ncell b, ncell c, ncell d, ncell e] w fun r w' => r = .returned (.tuple #[ncell (n % 2251799813685248), ncell (n / 2251799813685248 % 2251799813685248), ncell (n / 2251799813685248 / 2251799813685248 % 2251799813685248), ncell (n / 2251799813685248 / 2251799813685248 / 2251799813685248 % 2251799813685248), ncell (n / 2251799813685248 / 2251799813685248 / 2251799813685248 / 2251799813685248 % 2251799813685248), ncell (n / 2251799813685248 / 2251799813685248 / 2251799813685248 / 2251799813685248 / 2251799813685248)]) ∧ w = w' := by
  subst hn
  have h0 : val5 a b c d e % 2251799813685248 = a % 2251799813685248 := by rw [val5, mod51]
  rw [val5_4, val5_3, val5_2, val5_1, mod51, mod51, mod51, h0]
  exact carried_over5 a b c d e _ _ _ _ w (by show _ < _; omega) ⟨rfl, by omega⟩ ⟨rfl, by omega⟩ ⟨rfl, by omega⟩ ⟨rfl, by omega⟩
set_option maxRecDepth 100000 in
set_option maxHeartbeats 1000000 in
theorem least_over5 (a b c d e o q : Nat) (x0 x1 x2 x3 x4 y0 y1 y2 y3 y4 z0 z1 z2 z3 z4 u v t : Nat) (w : World)
    (HT : Hid (t < 576460752303423488 ∧ o < 1024 ∧ q < 1024 ∧ x0 < 2251799813685248)) (Ht : Hid (t = x0 + 19 * o)) (Hu : Hid (u = t + 19)) (Hv : Hid (v = t + 19 * q))
    (C1 : Hid (∀ W, Calls Tryd.prog 85 #[ncell a, ncell b, ncell c, ncell d, ncell e] W fun r w' => r = .returned (.tuple #[ncell x0, ncell x1, ncell x2, ncell x3, ncell x4, ncell o]) ∧ W = w'))
    (C2 : Hid (∀ W, Calls Tryd.prog 85 #[ncell u, ncell x1, ncell x2, ncell x3, ncell x4] W fun r w' => r = .returned (.tuple #[ncell y0, ncell y1, ncell y2, ncell y3, ncell y4, ncell q]) ∧ W = w'))
    (C3 : Hid (∀ W, Calls Tryd.prog 85 #[ncell v, ncell x1, ncell x2, ncell x3, ncell x4] W fun r w' => ∃ p : Nat, r = .returned (.tuple #[ncell z0, ncell z1, ncell z2, ncell z3, ncell z4, ncell p]) ∧ W = w')) :
    Calls Tryd.prog 64 #[numVal [a, b, c, d, e]] w fun r w' => r = .returned (numVal [z0, z1, z2, z3, z4]) ∧ Below w.heap.size w w' := by
  have M1 : IntKind.u64.wrap (19 * (o : Int)) = 19 * (o : Int) := wmul 19 o (by have := HT.out; omega)
  have M2 : IntKind.u64.wrap ((x0 : Int) + 19 * (o : Int)) = (t : Int) := by have h := wadd x0 (19 * o) (by have := HT.out; omega); rw [Ht.out]; exact h
  have M3 : IntKind.u64.wrap ((t : Int) + 19) = (u : Int) := by rw [show (19 : Int) = ((19 : Nat) : Int) from rfl, wadd _ _ (by have := HT.out; omega), ← Hu.out]
  have M4 : IntKind.u64.wrap (19 * (q : Int)) = 19 * (q : Int) := wmul 19 q (by have := HT.out; omega)
  have M5 : IntKind.u64.wrap ((t : Int) + 19 * (q : Int)) = (v : Int) := by have h := wadd t (19 * q) (by have := HT.out; omega); rw [Hv.out]; exact h
  clear HT Ht Hu Hv
  go_enter Tryd.func64, Tryd.ntmps64
  go_wp2_with (first
    | (refine vtake_step rfl 42 (.tmp 0) rfl ([a, b, c, d, e].map ncell) rfl ?_
       intro w1 hB1 hA1
       have d0 := hA1.get (v := ncell a) (j := 0) rfl
       have d1 := hA1.get (v := ncell b) (j := 1) rfl
       have d2 := hA1.get (v := ncell c) (j := 2) rfl
       have d3 := hA1.get (v := ncell d) (j := 3) rfl
       have d4 := hA1.get (v := ncell e) (j := 4) rfl)
    | (refine vzero_step rfl 42 rfl (nzeros 5) zero_numF ?_
       intro w3 hb3 hZ3
       have hB3 := below_then hB1 hb3
       have hA3 := hA1.on hb3
       have hg2 := hA1.lt
       clear hB1 hA1 hb3 d0 d1 d2 d3 d4
       have d0 := hA3.get (v := ncell a) (j := 0) rfl
       have d1 := hA3.get (v := ncell b) (j := 1) rfl
       have d2 := hA3.get (v := ncell c) (j := 2) rfl
       have d3 := hA3.get (v := ncell d) (j := 3) rfl
       have d4 := hA3.get (v := ncell e) (j := 4) rfl))
  refine (C1.out w3).mono ?_
  rintro r w4 ⟨rfl, rfl⟩
  clear C1 d0 d1 d2 d3 d4 hA3
  go_wp2_with fail
  refine (C2.out w3).mono ?_
  rintro r w4 ⟨rfl, rfl⟩
  clear C2
  go_wp2_with fail
  refine (C3.out w3).mono ?_
  rintro r w4 ⟨p, rfl, rfl⟩
  clear C3
  go_wp2_with (first
    | (refine build_step rfl 42 _ rfl [(0, ncell z0), (1, ncell z1), (2, ncell z2), (3, ncell z3), (4, ncell z4)] rfl _ (build_num _ _ _ _ _) ?_)
    | (refine vset_step rfl 42 _ _ rfl w1.heap.size 5 (nzeros 5) ([z0, z1, z2, z3, z4].map ncell) rfl rfl hZ3 rfl size_numF rfl (ncells_one _) ?_
       intro w7 hb7 hC7 _))
  refine vret Tryd.results64 w1.heap.size ([z0, z1, z2, z3, z4].map ncell) rfl hC7 Tryd.underlying42 size_numF rfl rfl ⟨rfl, hB3.trans (hb7.below (Nat.le_of_lt hg2) hB3.size)⟩
theorem least_any (a b c d e n : Nat) (w : World) (ha : a < 2305843009213693952) (hb : b < 2305843009213693952) (hc : c < 2305843009213693952) (hd : d < 2305843009213693952) (he : e < 1152921504606846976) (hn : n = val5 a b c d e) :
    Calls Tryd.prog 64 #[numVal [a, b, c, d, e]] w fun r w' => r = .returned (elV (n % pp)) ∧ Below w.heap.size w w' := by
  have hs : n < 1024 * 57896044618658097711785492504343953926634992332820282019728792003956564819968 := by rw [hn, val5]; omega
  have ho : n / 2251799813685248 / 2251799813685248 / 2251799813685248 / 2251799813685248 / 2251799813685248 < 1024 := by rw [div5_all]; omega
  have hx0 := Nat.mod_lt n (show 0 < 2251799813685248 by decide)
  have hx1 := Nat.mod_lt (n / 2251799813685248) (show 0 < 2251799813685248 by decide)
  have hx2 := Nat.mod_lt (n / 2251799813685248 / 2251799813685248) (show 0 < 2251799813685248 by decide)
  have hx3 := Nat.mod_lt (n / 2251799813685248 / 2251799813685248 / 2251799813685248) (show 0 < 2251799813685248 by decide)
  have hx4 := Nat.mod_lt (n / 2251799813685248 / 2251799813685248 / 2251799813685248 / 2251799813685248) (show 0 < 2251799813685248 by decide)
  have key := least_val a b c d e n _ _ _ hn hs rfl rfl rfl
  rw [elV, ← key]
  have C1 := fun W => carried_any a b c d e W (by omega) (by omega) (by omega) (by omega) (by omega) n hn
  clear key hn hs
  generalize n / 2251799813685248 / 2251799813685248 / 2251799813685248 / 2251799813685248 / 2251799813685248 = o at *
  generalize n / 2251799813685248 / 2251799813685248 / 2251799813685248 / 2251799813685248 % 2251799813685248 = x4 at *
  generalize n / 2251799813685248 / 2251799813685248 / 2251799813685248 % 2251799813685248 = x3 at *
  generalize n / 2251799813685248 / 2251799813685248 % 2251799813685248 = x2 at *
  generalize n / 2251799813685248 % 2251799813685248 = x1 at *
  generalize n % 2251799813685248 = x0 at *
  have C2 := fun W => carried_any (x0 + 19 * o + 19) x1 x2 x3 x4 W (by omega) (by omega) (by omega) (by omega) (by omega) _ rfl
  have hq : val5 (x0 + 19 * o + 19) x1 x2 x3 x4 / 2251799813685248 / 2251799813685248 / 2251799813685248 / 2251799813685248 / 2251799813685248 < 1024 := by rw [div5_all, val5]; omega
  generalize val5 (x0 + 19 * o + 19) x1 x2 x3 x4 / 2251799813685248 / 2251799813685248 / 2251799813685248 / 2251799813685248 / 2251799813685248 = q at *
  have C3 := fun W => carried_any (x0 + 19 * o + 19 * q) x1 x2 x3 x4 W (by omega) (by omega) (by omega) (by omega) (by omega) _ rfl
  exact least_over5 a b c d e o q x0 x1 x2 x3 x4 _ _ _ _ _ _ _ _ _ _ (x0 + 19 * o + 19) (x0 + 19 * o + 19 * q) (x0 + 19 * o) w (by show _ ∧ _; omega) rfl rfl rfl C1 C2 (fun W => (C3 W).mono (fun r w' h => ⟨_, h.1, h.2⟩))
end Go.Proofs.YtoggkhjaghkpnaaDoor
