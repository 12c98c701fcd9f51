/- Numbers as rows of digits of base 256, the low one first: what layer 7's document reckons with. No program is named here. -/
import Derived.Test.YtiadgningbogmaaDoorWMem
namespace Go.Proofs.YtiadgningbogmaaDoor
open Go.RowKit
/-- The number of a row of digits (which may be 256 and above). -/
def dval : List Nat → Nat
  | [] => 0
  | x :: l => x + 256 * dval l
/-- A number's digits, no nought at the high end. -/
def digs (n : Nat) : List Nat := if h : n = 0 then [] else n % 256 :: digs (n / 256)
termination_by n
decreasing_by omega
theorem digs_zero : digs 0 = [] := by rw [digs]; simp
theorem digs_pos {n : Nat} (h : n ≠ 0) : digs n = n % 256 :: digs (n / 256) := by rw [digs]; simp [h]
theorem dval_digs (n : Nat) : dval (digs n) = n := by
  induction n using Nat.strongRecOn with
  | _ n ih =>
    by_cases h : n = 0
    · subst h; rw [digs_zero]; rfl
    · rw [digs_pos h, dval, ih (n / 256) (by omega)]
      omega
theorem digs_lt (n : Nat) : ∀ x ∈ digs n, x < 256 := by
  induction n using Nat.strongRecOn with
  | _ n ih =>
    by_cases h : n = 0
    · subst h; rw [digs_zero]; intro x hx; cases hx
    · rw [digs_pos h]
      intro x hx
      rcases List.mem_cons.1 hx with rfl | hx
      · omega
      · exact ih (n / 256) (by omega) x hx
theorem dval_append (a b : List Nat) : dval (a ++ b) = dval a + 256 ^ a.length * dval b := by
  induction a with
  | nil => simp [dval]
  | cons x a ih =>
    rw [List.cons_append, dval, dval, ih, List.length_cons, Nat.pow_succ, Nat.mul_add]
    rw [show 256 * (256 ^ a.length * dval b) = 256 ^ a.length * 256 * dval b by rw [Nat.mul_comm (256 ^ a.length) 256, Nat.mul_assoc]]
    omega
theorem dval_lt (a : List Nat) (h : ∀ x ∈ a, x < 256) : dval a < 256 ^ a.length := by
  induction a with
  | nil => simp [dval]
  | cons x a ih =>
    rw [dval, List.length_cons, Nat.pow_succ]
    have h1 := h x List.mem_cons_self
    have h2 := ih fun y hy => h y (List.mem_cons_of_mem _ hy)
    omega
/-- Noughts at the high end struck. -/
def dtrim (a : List Nat) : List Nat := (a.reverse.dropWhile (· == 0)).reverse
theorem dtrim_snoc (a : List Nat) (x : Nat) : dtrim (a ++ [x]) = if x = 0 then dtrim a else a ++ [x] := by
  unfold dtrim
  rw [List.reverse_append, List.reverse_singleton, List.singleton_append, List.dropWhile_cons]
  by_cases h : x = 0
  · simp [h]
  · simp [h]
theorem dtrim_nil : dtrim [] = [] := rfl
theorem digs_snoc : ∀ (a : List Nat) (x : Nat), (∀ y ∈ a, y < 256) → x < 256 → x ≠ 0 → digs (dval (a ++ [x])) = a ++ [x]
  | [], x, _, hx, h0 => by
    show digs (x + 256 * 0) = [x]
    rw [Nat.mul_zero, Nat.add_zero, digs_pos h0, show x / 256 = 0 by omega, digs_zero, Nat.mod_eq_of_lt hx]
  | y :: a, x, ha, hx, h0 => by
    have hy := ha y List.mem_cons_self
    have ih := digs_snoc a x (fun z hz => ha z (List.mem_cons_of_mem _ hz)) hx h0
    have hp : dval (a ++ [x]) ≠ 0 := by
      intro e
      rw [e, digs_zero] at ih
      simp at ih
    rw [List.cons_append, dval, digs_pos (by omega), show (y + 256 * dval (a ++ [x])) % 256 = y by omega, show (y + 256 * dval (a ++ [x])) / 256 = dval (a ++ [x]) by omega, ih]
/-- A row of digits below 256, its noughts at the high end struck, is its number's. -/
theorem dtrim_digs (a : List Nat) (h : ∀ x ∈ a, x < 256) : dtrim a = digs (dval a) := by
  rcases List.eq_nil_or_concat a with rfl | ⟨b, x, rfl⟩
  · rw [dtrim_nil]; exact digs_zero.symm
  · have hb : ∀ y ∈ b, y < 256 := fun y hy => h y (by simp [hy])
    have hx : x < 256 := h x (by simp)
    rw [List.concat_eq_append, dtrim_snoc]
    by_cases h0 : x = 0
    · have : b.length < (b.concat x).length := by simp
      rw [if_pos h0, dtrim_digs b hb, dval_append]
      simp [dval, h0]
    · rw [if_neg h0, digs_snoc b x hb hx h0]
termination_by a.length
theorem digs_length_le (n k : Nat) (h : n < 256 ^ k) : (digs n).length ≤ k := by
  induction k generalizing n with
  | zero =>
    have : n = 0 := by simpa using h
    subst this
    rw [digs_zero]; exact Nat.le_refl _
  | succ k ih =>
    by_cases h0 : n = 0
    · subst h0; rw [digs_zero]; exact Nat.zero_le _
    · rw [digs_pos h0, List.length_cons]
      have := ih (n / 256) (by rw [Nat.pow_succ] at h; omega)
      omega
theorem digs_length_gt (n k : Nat) (h : 256 ^ k ≤ n) : k < (digs n).length := by
  rcases Nat.lt_or_ge k (digs n).length with h1 | h1
  · exact h1
  · have h2 := dval_lt (digs n) (digs_lt n)
    rw [dval_digs] at h2
    have h3 : 256 ^ (digs n).length ≤ 256 ^ k := Nat.pow_le_pow_right (by omega) h1
    omega
theorem digs_eq_nil (n : Nat) : digs n = [] ↔ n = 0 := by
  constructor
  · intro h
    have := dval_digs n
    rw [h] at this
    exact this.symm
  · intro h; subst h; exact digs_zero
/-- 2^130 - 5. -/
def polyP : Nat := 2 ^ 130 - 5
/-- One step of the reduction keeps the rest. -/
theorem poly_step (n : Nat) : (n % 2 ^ 130 + n / 2 ^ 130 * 5) % polyP = n % polyP := by
  have h : n = n % 2 ^ 130 + n / 2 ^ 130 * 2 ^ 130 := by omega
  have e : n / 2 ^ 130 * 2 ^ 130 = n / 2 ^ 130 * 5 + n / 2 ^ 130 * polyP := by
    rw [← Nat.mul_add]
    rfl
  conv => rhs; rw [h, e, ← Nat.add_assoc, Nat.add_mul_mod_self_right]
theorem poly_less (n : Nat) (h : n / 2 ^ 130 ≠ 0) : n % 2 ^ 130 + n / 2 ^ 130 * 5 < n := by omega
/-- The last step. -/
theorem poly_last (n : Nat) (h : n / 2 ^ 130 = 0) : (if (n + 5) / 2 ^ 130 ≠ 0 then (n + 5) % 2 ^ 130 else n) = n % polyP := by
  have hp : polyP = 2 ^ 130 - 5 := rfl
  by_cases h5 : (n + 5) / 2 ^ 130 = 0
  · rw [if_neg (fun h => h h5), Nat.mod_eq_of_lt (by rw [hp]; omega)]
  · rw [if_pos h5, hp]
    omega
/- Carries: a row's digits made even. -/
theorem dval_drop (a : List Nat) (i : Nat) (h : i < a.length) : dval (a.drop i) = a[i] + 256 * dval (a.drop (i + 1)) := by
  rw [List.drop_eq_getElem_cons h, dval]
theorem dval_drop_end (a : List Nat) (i : Nat) (h : a.length ≤ i) : dval (a.drop i) = 0 := by rw [List.drop_eq_nil_of_le h]; rfl
theorem even_step (out : List Nat) (i o rest : Nat) (hl : out.length = i) : dval (out ++ [o % 256]) + 256 ^ (i + 1) * (o / 256 + rest) = dval out + 256 ^ i * (o + 256 * rest) := by
  have e : dval [o % 256] = o % 256 := by simp [dval]
  rw [dval_append, hl, e, Nat.pow_succ, Nat.mul_assoc, Nat.add_assoc, ← Nat.mul_add]
  congr 2
  omega
/- One digit raised. -/
theorem dval_set (l : List Nat) (i x : Nat) (h : i < l.length) : dval (l.set i (l[i] + x)) = dval l + 256 ^ i * x := by
  induction l generalizing i with
  | nil => simp at h
  | cons y l ih =>
    cases i with
    | zero => simp [dval]; omega
    | succ i =>
      have h2 : i < l.length := by simpa using h
      have e := ih i h2
      rw [List.set_cons_succ, dval, dval, List.getElem_cons_succ, e, Nat.pow_succ, Nat.mul_add]
      rw [show 256 * (256 ^ i * x) = 256 ^ i * 256 * x by rw [Nat.mul_comm (256 ^ i) 256, Nat.mul_assoc]]
      omega
theorem dval_zeros (n : Nat) : dval (List.replicate n 0) = 0 := by
  induction n with
  | zero => rfl
  | succ n ih => rw [List.replicate_succ, dval, ih]
theorem dval_take (a : List Nat) (i : Nat) (h : i < a.length) : dval (a.take (i + 1)) = dval (a.take i) + 256 ^ i * a[i] := by
  have e : a.take (i + 1) = a.take i ++ [a[i]] := (List.take_append_getElem h).symm
  rw [e, dval_append, List.length_take, Nat.min_eq_left (by omega)]
  simp [dval]
/- Two bits down. -/
def dshift : List Nat → List Nat
  | [] => []
  | x :: l => (x / 4 + l.headD 0 % 4 * 64) :: dshift l
theorem dshift_length : ∀ l, (dshift l).length = l.length
  | [] => rfl
  | x :: l => by rw [dshift, List.length_cons, List.length_cons, dshift_length l]
theorem dval_head (l : List Nat) : dval l % 4 = l.headD 0 % 4 := by
  cases l with
  | nil => rfl
  | cons x l => show (x + 256 * dval l) % 4 = x % 4; omega
theorem dshift_val : ∀ l : List Nat, dval (dshift l) = dval l / 4
  | [] => rfl
  | x :: l => by
    rw [dshift, dval, dval, dshift_val l, ← dval_head]
    omega
theorem dshift_lt (l : List Nat) (h : ∀ x ∈ l, x < 256) : ∀ x ∈ dshift l, x < 256 := by
  induction l with
  | nil => intro x hx; cases hx
  | cons y l ih =>
    intro x hx
    rw [dshift] at hx
    rcases List.mem_cons.1 hx with rfl | hx
    · have := h y List.mem_cons_self
      omega
    · exact ih (fun z hz => h z (List.mem_cons_of_mem _ hz)) x hx
theorem dshift_get (l : List Nat) (k : Nat) (h : k < l.length) : (dshift l)[k]'(by rw [dshift_length]; exact h) = l[k] / 4 + l.getD (k + 1) 0 % 4 * 64 := by
  induction l generalizing k with
  | nil => simp at h
  | cons y l ih =>
    cases k with
    | zero => cases l <;> simp [dshift, List.headD]
    | succ k =>
      have h2 : k < l.length := by simpa using h
      have := ih k h2
      simp only [dshift, List.getElem_cons_succ, List.getD_cons_succ]
      exact this
/-- A row's lower 130 bits, and those above. -/
theorem halved_low (a : List Nat) (h : 16 < a.length) (hl : ∀ x ∈ a, x < 256) : dval ((a.take 17).set 16 (a[16] % 4)) = dval a % 2 ^ 130 := by
  have e1 : (a.take 17).set 16 (a[16] % 4) = a.take 16 ++ [a[16] % 4] := by
    rw [show a.take 17 = a.take 16 ++ [a[16]] from (List.take_append_getElem h).symm, List.set_append_right _ _ (by rw [List.length_take]; omega), List.length_take, Nat.min_eq_left (by omega)]
    rfl
  have hlen : (a.take 16).length = 16 := by rw [List.length_take]; omega
  have e2 : dval a = dval (a.take 16) + 256 ^ 16 * (a[16] + 256 * dval (a.drop 17)) := by
    conv => lhs; rw [← List.take_append_drop 16 a]
    rw [dval_append, hlen, dval_drop a 16 h]
  have h3 := dval_lt (a.take 16) (fun x hx => hl x (List.mem_of_mem_take hx))
  rw [hlen] at h3
  rw [e1, dval_append, hlen, e2, show dval [a[16] % 4] = a[16] % 4 by simp [dval]]
  generalize dval (a.take 16) = u at *
  generalize dval (a.drop 17) = v at *
  generalize a[16] = t at *
  rw [show (256 : Nat) ^ 16 = 340282366920938463463374607431768211456 from rfl] at *
  rw [show (2 : Nat) ^ 130 = 1361129467683753853853498429727072845824 from rfl]
  omega
theorem halved_high (a : List Nat) (h : 16 < a.length) (hl : ∀ x ∈ a, x < 256) : dval (dshift (a.drop 16)) = dval a / 2 ^ 130 := by
  have hlen : (a.take 16).length = 16 := by rw [List.length_take]; omega
  have e2 : dval a = dval (a.take 16) + 256 ^ 16 * dval (a.drop 16) := by
    conv => lhs; rw [← List.take_append_drop 16 a]
    rw [dval_append, hlen]
  have h3 := dval_lt (a.take 16) (fun x hx => hl x (List.mem_of_mem_take hx))
  rw [hlen] at h3
  rw [dshift_val, e2]
  generalize dval (a.take 16) = u at *
  generalize dval (a.drop 16) = v at *
  rw [show (256 : Nat) ^ 16 = 340282366920938463463374607431768211456 from rfl] at *
  rw [show (2 : Nat) ^ 130 = 1361129467683753853853498429727072845824 from rfl]
  omega
end Go.Proofs.YtiadgningbogmaaDoor
