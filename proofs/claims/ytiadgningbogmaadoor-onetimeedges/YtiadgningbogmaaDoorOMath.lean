/- Numbers of five limbs of 26 bits: sums, products, carries, and what they are modulo 2^130 - 5. No program is named here. -/
import Derived.Test.YtiadgningbogmaaDoorPMath2
namespace Go.Proofs.YtiadgningbogmaaDoor
open Go.RowKit
/-- The number of a row of limbs (which may be 2^26 and above). -/
def lval : List Nat → Nat
  | [] => 0
  | x :: l => x + 67108864 * lval l
theorem lval_five (a b c d e : Nat) : lval [a, b, c, d, e] = a + 67108864 * (b + 67108864 * (c + 67108864 * (d + 67108864 * (e + 67108864 * 0)))) := rfl
/-- A number's five limbs. -/
def limbsOf (x : Nat) : List Nat := [x % 67108864, x / 67108864 % 67108864, x / 4503599627370496 % 67108864, x / 302231454903657293676544 % 67108864, x / 20282409603651670423947251286016 % 67108864]
theorem limbsOf_length (x : Nat) : (limbsOf x).length = 5 := rfl
theorem lval_limbsOf (x : Nat) (h : x < 1361129467683753853853498429727072845824) : lval (limbsOf x) = x := by
  rw [limbsOf, lval_five]
  omega
theorem five_of {α : Type} (n : List α) (h : n.length = 5) : ∃ a b c d e, n = [a, b, c, d, e] := by
  match n, h with
  | [a, b, c, d, e], _ => exact ⟨a, b, c, d, e, rfl⟩
/-- Sums and products of words of 64 bits. -/
def addW (x y : Nat) : Nat := (x + y) % 18446744073709551616
def mulW (x y : Nat) : Nat := (x * y) % 18446744073709551616
theorem addW_in (x y : Nat) (h : x + y < 18446744073709551616) : addW x y = x + y := Nat.mod_eq_of_lt h
theorem mulW_in (x y : Nat) (h : x * y < 18446744073709551616) : mulW x y = x * y := Nat.mod_eq_of_lt h
theorem mulW_lt (x y a b : Nat) (hx : x < a) (hy : y < b) (h : a * b ≤ 18446744073709551616) : mulW x y = x * y := by
  refine mulW_in _ _ (Nat.lt_of_lt_of_le ?_ h)
  rcases Nat.eq_zero_or_pos y with rfl | hp
  · exact Nat.mul_pos (by omega) (by omega)
  · exact Nat.mul_lt_mul'' hx hy
/-- Two numbers, limb by limb. -/
def plusTo (a b : List Nat) : Nat → List Nat
  | 0 => a
  | k + 1 => (plusTo a b k).set k (addW ((plusTo a b k).getD k 0) (b.getD k 0))
theorem plusTo_length (a b : List Nat) : ∀ k, (plusTo a b k).length = a.length
  | 0 => rfl
  | k + 1 => by rw [plusTo, List.length_set, plusTo_length]
def plusN (a b : List Nat) : List Nat := plusTo a b 5
theorem plusN_length (a b : List Nat) : (plusN a b).length = a.length := plusTo_length a b 5
/-- Carries. -/
def carTo (n : List Nat) : Nat → List Nat × Nat
  | 0 => (n, 0)
  | k + 1 => ((carTo n k).1.set k (addW ((carTo n k).1.getD k 0) (carTo n k).2 % 67108864), addW ((carTo n k).1.getD k 0) (carTo n k).2 / 67108864)
theorem carTo_length (n : List Nat) : ∀ k, (carTo n k).1.length = n.length
  | 0 => rfl
  | k + 1 => by rw [carTo, List.length_set, carTo_length]
def carN (n : List Nat) : List Nat := (carTo n 5).1
def overN (n : List Nat) : Nat := (carTo n 5).2
theorem carN_length (n : List Nat) : (carN n).length = n.length := carTo_length n 5
def foldN (n : List Nat) : List Nat := (carN n).set 0 (addW ((carN n).getD 0 0) (mulW 5 (overN n)))
theorem foldN_length (n : List Nat) : (foldN n).length = n.length := by rw [foldN, List.length_set, carN_length]
def moreN (n : List Nat) : List Nat := n.set 0 (addW (n.getD 0 0) 5)
def lessN (n : List Nat) : List Nat := n.set 0 (addW (n.getD 0 0) (mulW 5 (overN (moreN n))))
def leastN (n : List Nat) : List Nat := carN (lessN n)
theorem leastN_length (n : List Nat) : (leastN n).length = n.length := by rw [leastN, carN_length, lessN, List.length_set]
/-- Products, limb by limb: i and j. -/
def mulPart (a b : List Nat) (i j : Nat) : Nat := if 5 ≤ i + j then mulW (mulW (a.getD i 0) (b.getD j 0)) 5 else mulW (a.getD i 0) (b.getD j 0)
def mulRow (a b : List Nat) (i : Nat) (s : List Nat) : Nat → List Nat
  | 0 => s
  | j + 1 => (mulRow a b i s j).set ((i + j) % 5) (addW ((mulRow a b i s j).getD ((i + j) % 5) 0) (mulPart a b i j))
theorem mulRow_length (a b : List Nat) (i : Nat) (s : List Nat) : ∀ j, (mulRow a b i s j).length = s.length
  | 0 => rfl
  | j + 1 => by rw [mulRow, List.length_set, mulRow_length]
def mulTo (a b : List Nat) : Nat → List Nat
  | 0 => [0, 0, 0, 0, 0]
  | i + 1 => mulRow a b i (mulTo a b i) 5
theorem mulTo_length (a b : List Nat) : ∀ i, (mulTo a b i).length = 5
  | 0 => rfl
  | i + 1 => by rw [mulTo, mulRow_length, mulTo_length]
def timesN (a b : List Nat) : List Nat := foldN (foldN (mulTo a b 5))
theorem timesN_length (a b : List Nat) : (timesN a b).length = 5 := by rw [timesN, foldN_length, foldN_length, mulTo_length]
/-- Limbs below their bound. -/
def Below5 (B : Nat) (n : List Nat) : Prop := ∀ x ∈ n, x < B
theorem below5_five (B a b c d e : Nat) : Below5 B [a, b, c, d, e] ↔ a < B ∧ b < B ∧ c < B ∧ d < B ∧ e < B := by
  simp [Below5]
theorem limbsOf_below (x : Nat) : Below5 67108864 (limbsOf x) := by
  rw [limbsOf, below5_five]; omega
theorem plusN_val (a b : List Nat) (ha : a.length = 5) (hb : b.length = 5) (A B : Nat) (hA : Below5 A a) (hB : Below5 B b) (h : A + B ≤ 18446744073709551616) : lval (plusN a b) = lval a + lval b ∧ Below5 (A + B) (plusN a b) := by
  obtain ⟨a0, a1, a2, a3, a4, rfl⟩ := five_of a ha
  obtain ⟨b0, b1, b2, b3, b4, rfl⟩ := five_of b hb
  rw [below5_five] at hA hB
  have e : plusN [a0, a1, a2, a3, a4] [b0, b1, b2, b3, b4] = [addW a0 b0, addW a1 b1, addW a2 b2, addW a3 b3, addW a4 b4] := rfl
  rw [e, addW_in _ _ (by omega), addW_in _ _ (by omega), addW_in _ _ (by omega), addW_in _ _ (by omega), addW_in _ _ (by omega), lval_five, lval_five, lval_five, below5_five]
  omega
theorem car_five (a b c d e : Nat) : carTo [a, b, c, d, e] 5 = ([addW a 0 % 67108864, addW b (addW a 0 / 67108864) % 67108864, addW c (addW b (addW a 0 / 67108864) / 67108864) % 67108864, addW d (addW c (addW b (addW a 0 / 67108864) / 67108864) / 67108864) % 67108864, addW e (addW d (addW c (addW b (addW a 0 / 67108864) / 67108864) / 67108864) / 67108864) % 67108864],
    addW e (addW d (addW c (addW b (addW a 0 / 67108864) / 67108864) / 67108864) / 67108864) / 67108864) := rfl
theorem carN_val (n : List Nat) (hn : n.length = 5) (h : Below5 9223372036854775808 n) : lval (carN n) + 1361129467683753853853498429727072845824 * overN n = lval n ∧ Below5 67108864 (carN n) := by
  obtain ⟨a, b, c, d, e, rfl⟩ := five_of n hn
  rw [below5_five] at h
  unfold carN overN
  rw [car_five, addW_in a 0 (by omega), addW_in b _ (by omega), addW_in c _ (by omega), addW_in d _ (by omega), addW_in e _ (by omega)]
  simp only [lval_five, below5_five]
  generalize h1 : (a + 0) / 67108864 = x1
  generalize h2 : (b + x1) / 67108864 = x2
  generalize h3 : (c + x2) / 67108864 = x3
  generalize h4 : (d + x3) / 67108864 = x4
  omega
theorem lval_lt (n : List Nat) (hn : n.length = 5) (h : Below5 67108864 n) : lval n < 1361129467683753853853498429727072845824 := by
  obtain ⟨a, b, c, d, e, rfl⟩ := five_of n hn
  rw [below5_five] at h
  rw [lval_five]
  omega
theorem overN_eq (n : List Nat) (hn : n.length = 5) (h : Below5 9223372036854775808 n) : overN n = lval n / 1361129467683753853853498429727072845824 ∧ lval (carN n) = lval n % 1361129467683753853853498429727072845824 := by
  have h1 := carN_val n hn h
  have h2 := lval_lt (carN n) (by rw [carN_length, hn]) h1.2
  omega
theorem lval_set0 (n : List Nat) (hn : n.length = 5) (y : Nat) (h : n.getD 0 0 + y < 18446744073709551616) : lval (n.set 0 (addW (n.getD 0 0) y)) = lval n + y := by
  obtain ⟨a, b, c, d, e, rfl⟩ := five_of n hn
  have h' : a + y < 18446744073709551616 := h
  show lval [addW a y, b, c, d, e] = _
  rw [addW_in _ _ h', lval_five, lval_five]
  omega
theorem polyP_is : polyP = 1361129467683753853853498429727072845819 := rfl
theorem getD_below {B : Nat} {n : List Nat} (h : Below5 B n) (hB : 0 < B) (i : Nat) : n.getD i 0 < B := by
  rw [List.getD_eq_getElem?_getD]
  cases hi : n[i]? with
  | none => simpa using hB
  | some x => exact h x (List.mem_of_getElem? hi)
theorem foldN_mod (n : List Nat) (hn : n.length = 5) (h : Below5 9223372036854775808 n) : lval (foldN n) % polyP = lval n % polyP := by
  have h1 := carN_val n hn h
  have h2 := overN_eq n hn h
  have h3 := getD_below h1.2 (by omega) 0
  have hl : lval n < 9223372036854775808 * 20282409905883129831204239441921 := by
    obtain ⟨a, b, c, d, e, rfl⟩ := five_of n hn
    rw [below5_five] at h
    rw [lval_five]
    omega
  have ho : overN n < 274877906944 := by omega
  unfold foldN
  rw [mulW_in 5 _ (by omega), lval_set0 _ (by rw [carN_length, hn]) _ (by omega), polyP_is]
  omega
/-- Behind two folds the limbs have no more than their bits, but for the first, which is at most 5 beyond them. -/
def Fine (n : List Nat) : Prop := n.length = 5 ∧ n.getD 0 0 < 67108869 ∧ ∀ i, 0 < i → n.getD i 0 < 67108864
theorem fine_five (a b c d e : Nat) (h : Fine [a, b, c, d, e]) : a < 67108869 ∧ b < 67108864 ∧ c < 67108864 ∧ d < 67108864 ∧ e < 67108864 := by
  obtain ⟨_, h0, h1⟩ := h
  exact ⟨h0, h1 1 (by omega), h1 2 (by omega), h1 3 (by omega), h1 4 (by omega)⟩
theorem fine_mk (a b c d e : Nat) (h : a < 67108869 ∧ b < 67108864 ∧ c < 67108864 ∧ d < 67108864 ∧ e < 67108864) : Fine [a, b, c, d, e] := by
  refine ⟨rfl, h.1, fun i hi => ?_⟩
  match i, hi with
  | 1, _ => exact h.2.1
  | 2, _ => exact h.2.2.1
  | 3, _ => exact h.2.2.2.1
  | 4, _ => exact h.2.2.2.2
  | i + 5, _ => show (0 : Nat) < _; omega
theorem Fine.below {n : List Nat} (h : Fine n) : Below5 67108869 n := by
  obtain ⟨a, b, c, d, e, rfl⟩ := five_of n h.1
  have := fine_five _ _ _ _ _ h
  rw [below5_five]
  omega
theorem fine_zero : Fine [0, 0, 0, 0, 0] := fine_mk _ _ _ _ _ (by omega)
theorem foldN_fine (n : List Nat) (hn : n.length = 5) (h : Below5 1152921504606846976 n) : Fine (foldN (foldN n)) := by
  have hb : Below5 9223372036854775808 n := fun x hx => by have := h x hx; omega
  have h1 := carN_val n hn hb
  have h2 := overN_eq n hn hb
  have hl : lval n < 1152921504606846976 * 20282409905883129831204239441921 := by
    obtain ⟨a, b, c, d, e, rfl⟩ := five_of n hn
    rw [below5_five] at h
    rw [lval_five]
    omega
  have ho : overN n < 34359738368 := by omega
  obtain ⟨a, b, c, d, e, hc⟩ := five_of (carN n) (by rw [carN_length, hn])
  have hc2 := h1.2
  rw [hc, below5_five] at hc2
  have e1 : foldN n = [a + 5 * overN n, b, c, d, e] := by
    unfold foldN
    rw [hc]
    show [addW a (mulW 5 (overN n)), b, c, d, e] = _
    rw [mulW_in 5 _ (by omega), addW_in _ _ (by omega)]
  rw [e1]
  generalize overN n = o at *
  have hb2 : Below5 9223372036854775808 [a + 5 * o, b, c, d, e] := by rw [below5_five]; omega
  have h3 := carN_val _ rfl hb2
  have h4 := overN_eq _ rfl hb2
  rw [lval_five] at h4
  have ho2 : overN [a + 5 * o, b, c, d, e] < 2 := by omega
  obtain ⟨a', b', c', d', e', hc'⟩ := five_of (carN [a + 5 * o, b, c, d, e]) (by rw [carN_length]; rfl)
  have hc3 := h3.2
  rw [hc', below5_five] at hc3
  unfold foldN
  rw [hc']
  show Fine [addW a' (mulW 5 (overN [a + 5 * o, b, c, d, e])), b', c', d', e']
  rw [mulW_in 5 _ (by omega), addW_in _ _ (by omega)]
  exact fine_mk _ _ _ _ _ (by omega)
theorem mulRow_0 (a0 a1 a2 a3 a4 b0 b1 b2 b3 b4 s0 s1 s2 s3 s4 : Nat) : mulRow [a0, a1, a2, a3, a4] [b0, b1, b2, b3, b4] 0 [s0, s1, s2, s3, s4] 5 = [addW s0 (mulW a0 b0), addW s1 (mulW a0 b1), addW s2 (mulW a0 b2), addW s3 (mulW a0 b3), addW s4 (mulW a0 b4)] := rfl
theorem mulRow_1 (a0 a1 a2 a3 a4 b0 b1 b2 b3 b4 s0 s1 s2 s3 s4 : Nat) : mulRow [a0, a1, a2, a3, a4] [b0, b1, b2, b3, b4] 1 [s0, s1, s2, s3, s4] 5 = [addW s0 (mulW (mulW a1 b4) 5), addW s1 (mulW a1 b0), addW s2 (mulW a1 b1), addW s3 (mulW a1 b2), addW s4 (mulW a1 b3)] := rfl
theorem mulRow_2 (a0 a1 a2 a3 a4 b0 b1 b2 b3 b4 s0 s1 s2 s3 s4 : Nat) : mulRow [a0, a1, a2, a3, a4] [b0, b1, b2, b3, b4] 2 [s0, s1, s2, s3, s4] 5 = [addW s0 (mulW (mulW a2 b3) 5), addW s1 (mulW (mulW a2 b4) 5), addW s2 (mulW a2 b0), addW s3 (mulW a2 b1), addW s4 (mulW a2 b2)] := rfl
theorem mulRow_3 (a0 a1 a2 a3 a4 b0 b1 b2 b3 b4 s0 s1 s2 s3 s4 : Nat) : mulRow [a0, a1, a2, a3, a4] [b0, b1, b2, b3, b4] 3 [s0, s1, s2, s3, s4] 5 = [addW s0 (mulW (mulW a3 b2) 5), addW s1 (mulW (mulW a3 b3) 5), addW s2 (mulW (mulW a3 b4) 5), addW s3 (mulW a3 b0), addW s4 (mulW a3 b1)] := rfl
theorem mulRow_4 (a0 a1 a2 a3 a4 b0 b1 b2 b3 b4 s0 s1 s2 s3 s4 : Nat) : mulRow [a0, a1, a2, a3, a4] [b0, b1, b2, b3, b4] 4 [s0, s1, s2, s3, s4] 5 = [addW s0 (mulW (mulW a4 b1) 5), addW s1 (mulW (mulW a4 b2) 5), addW s2 (mulW (mulW a4 b3) 5), addW s3 (mulW (mulW a4 b4) 5), addW s4 (mulW a4 b0)] := rfl
theorem mul_small (x y : Nat) (hx : x < 268435456) (hy : y < 67108864) : x * y < 18014398509481984 := by
  rcases Nat.eq_zero_or_pos y with rfl | hp
  · omega
  · exact Nat.mul_lt_mul'' hx hy
theorem mulW_one (x y : Nat) (hx : x < 268435456) (hy : y < 67108864) : mulW x y = x * y := mulW_in _ _ (by have := mul_small x y hx hy; omega)
theorem mulW_five (x y : Nat) (hx : x < 268435456) (hy : y < 67108864) : mulW (mulW x y) 5 = x * y * 5 := by
  rw [mulW_one x y hx hy]
  exact mulW_in _ _ (by have := mul_small x y hx hy; omega)
theorem addW_col (x0 x1 x2 x3 x4 : Nat) (h : x0 + x1 + x2 + x3 + x4 < 18446744073709551616) : addW (addW (addW (addW (addW 0 x0) x1) x2) x3) x4 = x0 + x1 + x2 + x3 + x4 := by
  rw [addW_in 0 x0 (by omega), Nat.zero_add, addW_in x0 x1 (by omega), addW_in _ x2 (by omega), addW_in _ x3 (by omega), addW_in _ x4 (by omega)]
theorem mulTo_all (a0 a1 a2 a3 a4 b0 b1 b2 b3 b4 : Nat) : mulTo [a0, a1, a2, a3, a4] [b0, b1, b2, b3, b4] 5 = [addW (addW (addW (addW (addW 0 (mulW a0 b0)) (mulW (mulW a1 b4) 5)) (mulW (mulW a2 b3) 5)) (mulW (mulW a3 b2) 5)) (mulW (mulW a4 b1) 5), addW (addW (addW (addW (addW 0 (mulW a0 b1)) (mulW a1 b0)) (mulW (mulW a2 b4) 5)) (mulW (mulW a3 b3) 5)) (mulW (mulW a4 b2) 5), addW (addW (addW (addW (addW 0 (mulW a0 b2)) (mulW a1 b1)) (mulW a2 b0)) (mulW (mulW a3 b4) 5)) (mulW (mulW a4 b3) 5), addW (addW (addW (addW (addW 0 (mulW a0 b3)) (mulW a1 b2)) (mulW a2 b1)) (mulW a3 b0)) (mulW (mulW a4 b4) 5), addW (addW (addW (addW (addW 0 (mulW a0 b4)) (mulW a1 b3)) (mulW a2 b2)) (mulW a3 b1)) (mulW a4 b0)] := by
  show mulRow _ _ 4 (mulRow _ _ 3 (mulRow _ _ 2 (mulRow _ _ 1 (mulRow _ _ 0 [0, 0, 0, 0, 0] 5) 5) 5) 5) 5 = _
  rw [mulRow_0, mulRow_1, mulRow_2, mulRow_3, mulRow_4]
theorem mulCol_0 (a0 a1 a2 a3 a4 b0 b1 b2 b3 b4 : Nat) (ha : a0 < 268435456 ∧ a1 < 268435456 ∧ a2 < 268435456 ∧ a3 < 268435456 ∧ a4 < 268435456) (hb : b0 < 67108864 ∧ b1 < 67108864 ∧ b2 < 67108864 ∧ b3 < 67108864 ∧ b4 < 67108864) :
    addW (addW (addW (addW (addW 0 (mulW a0 b0)) (mulW (mulW a1 b4) 5)) (mulW (mulW a2 b3) 5)) (mulW (mulW a3 b2) 5)) (mulW (mulW a4 b1) 5) = a0 * b0 + a1 * b4 * 5 + a2 * b3 * 5 + a3 * b2 * 5 + a4 * b1 * 5 ∧ a0 * b0 + a1 * b4 * 5 + a2 * b3 * 5 + a3 * b2 * 5 + a4 * b1 * 5 < 1152921504606846976 := by
  have q0 := mul_small a0 b0 (by omega) (by omega)
  have q1 := mul_small a1 b4 (by omega) (by omega)
  have q2 := mul_small a2 b3 (by omega) (by omega)
  have q3 := mul_small a3 b2 (by omega) (by omega)
  have q4 := mul_small a4 b1 (by omega) (by omega)
  rw [mulW_one a0 b0 (by omega) (by omega), mulW_five a1 b4 (by omega) (by omega), mulW_five a2 b3 (by omega) (by omega), mulW_five a3 b2 (by omega) (by omega), mulW_five a4 b1 (by omega) (by omega)]
  exact ⟨addW_col _ _ _ _ _ (by omega), by omega⟩
theorem mulCol_1 (a0 a1 a2 a3 a4 b0 b1 b2 b3 b4 : Nat) (ha : a0 < 268435456 ∧ a1 < 268435456 ∧ a2 < 268435456 ∧ a3 < 268435456 ∧ a4 < 268435456) (hb : b0 < 67108864 ∧ b1 < 67108864 ∧ b2 < 67108864 ∧ b3 < 67108864 ∧ b4 < 67108864) :
    addW (addW (addW (addW (addW 0 (mulW a0 b1)) (mulW a1 b0)) (mulW (mulW a2 b4) 5)) (mulW (mulW a3 b3) 5)) (mulW (mulW a4 b2) 5) = a0 * b1 + a1 * b0 + a2 * b4 * 5 + a3 * b3 * 5 + a4 * b2 * 5 ∧ a0 * b1 + a1 * b0 + a2 * b4 * 5 + a3 * b3 * 5 + a4 * b2 * 5 < 1152921504606846976 := by
  have q0 := mul_small a0 b1 (by omega) (by omega)
  have q1 := mul_small a1 b0 (by omega) (by omega)
  have q2 := mul_small a2 b4 (by omega) (by omega)
  have q3 := mul_small a3 b3 (by omega) (by omega)
  have q4 := mul_small a4 b2 (by omega) (by omega)
  rw [mulW_one a0 b1 (by omega) (by omega), mulW_one a1 b0 (by omega) (by omega), mulW_five a2 b4 (by omega) (by omega), mulW_five a3 b3 (by omega) (by omega), mulW_five a4 b2 (by omega) (by omega)]
  exact ⟨addW_col _ _ _ _ _ (by omega), by omega⟩
theorem mulCol_2 (a0 a1 a2 a3 a4 b0 b1 b2 b3 b4 : Nat) (ha : a0 < 268435456 ∧ a1 < 268435456 ∧ a2 < 268435456 ∧ a3 < 268435456 ∧ a4 < 268435456) (hb : b0 < 67108864 ∧ b1 < 67108864 ∧ b2 < 67108864 ∧ b3 < 67108864 ∧ b4 < 67108864) :
    addW (addW (addW (addW (addW 0 (mulW a0 b2)) (mulW a1 b1)) (mulW a2 b0)) (mulW (mulW a3 b4) 5)) (mulW (mulW a4 b3) 5) = a0 * b2 + a1 * b1 + a2 * b0 + a3 * b4 * 5 + a4 * b3 * 5 ∧ a0 * b2 + a1 * b1 + a2 * b0 + a3 * b4 * 5 + a4 * b3 * 5 < 1152921504606846976 := by
  have q0 := mul_small a0 b2 (by omega) (by omega)
  have q1 := mul_small a1 b1 (by omega) (by omega)
  have q2 := mul_small a2 b0 (by omega) (by omega)
  have q3 := mul_small a3 b4 (by omega) (by omega)
  have q4 := mul_small a4 b3 (by omega) (by omega)
  rw [mulW_one a0 b2 (by omega) (by omega), mulW_one a1 b1 (by omega) (by omega), mulW_one a2 b0 (by omega) (by omega), mulW_five a3 b4 (by omega) (by omega), mulW_five a4 b3 (by omega) (by omega)]
  exact ⟨addW_col _ _ _ _ _ (by omega), by omega⟩
theorem mulCol_3 (a0 a1 a2 a3 a4 b0 b1 b2 b3 b4 : Nat) (ha : a0 < 268435456 ∧ a1 < 268435456 ∧ a2 < 268435456 ∧ a3 < 268435456 ∧ a4 < 268435456) (hb : b0 < 67108864 ∧ b1 < 67108864 ∧ b2 < 67108864 ∧ b3 < 67108864 ∧ b4 < 67108864) :
    addW (addW (addW (addW (addW 0 (mulW a0 b3)) (mulW a1 b2)) (mulW a2 b1)) (mulW a3 b0)) (mulW (mulW a4 b4) 5) = a0 * b3 + a1 * b2 + a2 * b1 + a3 * b0 + a4 * b4 * 5 ∧ a0 * b3 + a1 * b2 + a2 * b1 + a3 * b0 + a4 * b4 * 5 < 1152921504606846976 := by
  have q0 := mul_small a0 b3 (by omega) (by omega)
  have q1 := mul_small a1 b2 (by omega) (by omega)
  have q2 := mul_small a2 b1 (by omega) (by omega)
  have q3 := mul_small a3 b0 (by omega) (by omega)
  have q4 := mul_small a4 b4 (by omega) (by omega)
  rw [mulW_one a0 b3 (by omega) (by omega), mulW_one a1 b2 (by omega) (by omega), mulW_one a2 b1 (by omega) (by omega), mulW_one a3 b0 (by omega) (by omega), mulW_five a4 b4 (by omega) (by omega)]
  exact ⟨addW_col _ _ _ _ _ (by omega), by omega⟩
theorem mulCol_4 (a0 a1 a2 a3 a4 b0 b1 b2 b3 b4 : Nat) (ha : a0 < 268435456 ∧ a1 < 268435456 ∧ a2 < 268435456 ∧ a3 < 268435456 ∧ a4 < 268435456) (hb : b0 < 67108864 ∧ b1 < 67108864 ∧ b2 < 67108864 ∧ b3 < 67108864 ∧ b4 < 67108864) :
    addW (addW (addW (addW (addW 0 (mulW a0 b4)) (mulW a1 b3)) (mulW a2 b2)) (mulW a3 b1)) (mulW a4 b0) = a0 * b4 + a1 * b3 + a2 * b2 + a3 * b1 + a4 * b0 ∧ a0 * b4 + a1 * b3 + a2 * b2 + a3 * b1 + a4 * b0 < 1152921504606846976 := by
  have q0 := mul_small a0 b4 (by omega) (by omega)
  have q1 := mul_small a1 b3 (by omega) (by omega)
  have q2 := mul_small a2 b2 (by omega) (by omega)
  have q3 := mul_small a3 b1 (by omega) (by omega)
  have q4 := mul_small a4 b0 (by omega) (by omega)
  rw [mulW_one a0 b4 (by omega) (by omega), mulW_one a1 b3 (by omega) (by omega), mulW_one a2 b2 (by omega) (by omega), mulW_one a3 b1 (by omega) (by omega), mulW_one a4 b0 (by omega) (by omega)]
  exact ⟨addW_col _ _ _ _ _ (by omega), by omega⟩
theorem mulTo_five (a0 a1 a2 a3 a4 b0 b1 b2 b3 b4 : Nat) (ha : Below5 268435456 [a0, a1, a2, a3, a4]) (hb : Below5 67108864 [b0, b1, b2, b3, b4]) :
    mulTo [a0, a1, a2, a3, a4] [b0, b1, b2, b3, b4] 5 = [a0 * b0 + a1 * b4 * 5 + a2 * b3 * 5 + a3 * b2 * 5 + a4 * b1 * 5, a0 * b1 + a1 * b0 + a2 * b4 * 5 + a3 * b3 * 5 + a4 * b2 * 5, a0 * b2 + a1 * b1 + a2 * b0 + a3 * b4 * 5 + a4 * b3 * 5, a0 * b3 + a1 * b2 + a2 * b1 + a3 * b0 + a4 * b4 * 5, a0 * b4 + a1 * b3 + a2 * b2 + a3 * b1 + a4 * b0] ∧ Below5 1152921504606846976 [a0 * b0 + a1 * b4 * 5 + a2 * b3 * 5 + a3 * b2 * 5 + a4 * b1 * 5, a0 * b1 + a1 * b0 + a2 * b4 * 5 + a3 * b3 * 5 + a4 * b2 * 5, a0 * b2 + a1 * b1 + a2 * b0 + a3 * b4 * 5 + a4 * b3 * 5, a0 * b3 + a1 * b2 + a2 * b1 + a3 * b0 + a4 * b4 * 5, a0 * b4 + a1 * b3 + a2 * b2 + a3 * b1 + a4 * b0] := by
  rw [below5_five] at ha hb
  have h0 := mulCol_0 a0 a1 a2 a3 a4 b0 b1 b2 b3 b4 ha hb
  have h1 := mulCol_1 a0 a1 a2 a3 a4 b0 b1 b2 b3 b4 ha hb
  have h2 := mulCol_2 a0 a1 a2 a3 a4 b0 b1 b2 b3 b4 ha hb
  have h3 := mulCol_3 a0 a1 a2 a3 a4 b0 b1 b2 b3 b4 ha hb
  have h4 := mulCol_4 a0 a1 a2 a3 a4 b0 b1 b2 b3 b4 ha hb
  refine ⟨?_, (below5_five _ _ _ _ _ _).2 ⟨h0.2, h1.2, h2.2, h3.2, h4.2⟩⟩
  rw [mulTo_all, h0.1, h1.1, h2.1, h3.1, h4.1]
theorem mul_mod (a0 a1 a2 a3 a4 b0 b1 b2 b3 b4 : Nat) :
    lval [a0 * b0 + a1 * b4 * 5 + a2 * b3 * 5 + a3 * b2 * 5 + a4 * b1 * 5, a0 * b1 + a1 * b0 + a2 * b4 * 5 + a3 * b3 * 5 + a4 * b2 * 5, a0 * b2 + a1 * b1 + a2 * b0 + a3 * b4 * 5 + a4 * b3 * 5, a0 * b3 + a1 * b2 + a2 * b1 + a3 * b0 + a4 * b4 * 5, a0 * b4 + a1 * b3 + a2 * b2 + a3 * b1 + a4 * b0] % polyP = lval [a0, a1, a2, a3, a4] * lval [b0, b1, b2, b3, b4] % polyP := by
  have e : lval [a0, a1, a2, a3, a4] * lval [b0, b1, b2, b3, b4] = lval [a0 * b0 + a1 * b4 * 5 + a2 * b3 * 5 + a3 * b2 * 5 + a4 * b1 * 5, a0 * b1 + a1 * b0 + a2 * b4 * 5 + a3 * b3 * 5 + a4 * b2 * 5, a0 * b2 + a1 * b1 + a2 * b0 + a3 * b4 * 5 + a4 * b3 * 5, a0 * b3 + a1 * b2 + a2 * b1 + a3 * b0 + a4 * b4 * 5, a0 * b4 + a1 * b3 + a2 * b2 + a3 * b1 + a4 * b0] + polyP * (a1 * b4 + a2 * b3 + a3 * b2 + a4 * b1 + 67108864 * (a2 * b4 + a3 * b3 + a4 * b2 + 67108864 * (a3 * b4 + a4 * b3 + 67108864 * (a4 * b4)))) := by
    rw [lval_five, lval_five, lval_five, polyP_is]
    grind
  rw [e, Nat.add_mul_mod_self_left]
theorem timesN_val (a b : List Nat) (ha : a.length = 5) (hb : b.length = 5) (hA : Below5 268435456 a) (hB : Below5 67108864 b) : Fine (timesN a b) ∧ lval (timesN a b) % polyP = lval a * lval b % polyP := by
  obtain ⟨a0, a1, a2, a3, a4, rfl⟩ := five_of a ha
  obtain ⟨b0, b1, b2, b3, b4, rfl⟩ := five_of b hb
  obtain ⟨e, hE⟩ := mulTo_five _ _ _ _ _ _ _ _ _ _ hA hB
  unfold timesN
  rw [e]
  have hb2 : Below5 9223372036854775808 [a0 * b0 + a1 * b4 * 5 + a2 * b3 * 5 + a3 * b2 * 5 + a4 * b1 * 5, a0 * b1 + a1 * b0 + a2 * b4 * 5 + a3 * b3 * 5 + a4 * b2 * 5, a0 * b2 + a1 * b1 + a2 * b0 + a3 * b4 * 5 + a4 * b3 * 5, a0 * b3 + a1 * b2 + a2 * b1 + a3 * b0 + a4 * b4 * 5, a0 * b4 + a1 * b3 + a2 * b2 + a3 * b1 + a4 * b0] := fun x hx => by have := hE x hx; omega
  have hm := mul_mod a0 a1 a2 a3 a4 b0 b1 b2 b3 b4
  generalize [a0 * b0 + a1 * b4 * 5 + a2 * b3 * 5 + a3 * b2 * 5 + a4 * b1 * 5, a0 * b1 + a1 * b0 + a2 * b4 * 5 + a3 * b3 * 5 + a4 * b2 * 5, a0 * b2 + a1 * b1 + a2 * b0 + a3 * b4 * 5 + a4 * b3 * 5, a0 * b3 + a1 * b2 + a2 * b1 + a3 * b0 + a4 * b4 * 5, a0 * b4 + a1 * b3 + a2 * b2 + a3 * b1 + a4 * b0] = s at *
  have hs : s.length = 5 := by rw [← e]; exact mulTo_length _ _ _
  refine ⟨foldN_fine s hs hE, ?_⟩
  have h1 := carN_val s hs hb2
  have hf : Below5 9223372036854775808 (foldN s) := by
    have h2 := overN_eq s hs hb2
    have hl : lval s < 1152921504606846976 * 20282409905883129831204239441921 := by
      obtain ⟨a, b, c, d, e, rfl⟩ := five_of s hs
      rw [below5_five] at hE
      rw [lval_five]
      omega
    have ho : overN s < 34359738368 := by omega
    obtain ⟨a, b, c, d, e, hc⟩ := five_of (carN s) (by rw [carN_length, hs])
    have hc2 := h1.2
    rw [hc, below5_five] at hc2
    unfold foldN
    rw [hc]
    show Below5 _ [addW a (mulW 5 (overN s)), b, c, d, e]
    rw [mulW_in 5 _ (by omega), addW_in _ _ (by omega), below5_five]
    omega
  rw [foldN_mod _ (by rw [foldN_length, hs]) hf, foldN_mod _ hs hb2, hm]
theorem leastN_val (n : List Nat) (h : Fine n) : lval (leastN n) = lval n % polyP ∧ Below5 67108864 (leastN n) := by
  obtain ⟨a, b, c, d, e, rfl⟩ := five_of n h.1
  have hf := fine_five _ _ _ _ _ h
  have e1 : moreN [a, b, c, d, e] = [a + 5, b, c, d, e] := by
    show [addW a 5, b, c, d, e] = _
    rw [addW_in _ _ (by omega)]
  have hm := overN_eq [a + 5, b, c, d, e] rfl (by rw [below5_five]; omega)
  rw [lval_five] at hm
  have ho : overN [a + 5, b, c, d, e] < 2 := by omega
  have e2 : lessN [a, b, c, d, e] = [a + 5 * overN [a + 5, b, c, d, e], b, c, d, e] := by
    unfold lessN
    rw [e1]
    show [addW a (mulW 5 (overN [a + 5, b, c, d, e])), b, c, d, e] = _
    rw [mulW_in 5 _ (by omega), addW_in _ _ (by omega)]
  unfold leastN
  rw [e2]
  have hm2 := hm.1
  clear hm e1 e2
  generalize overN [a + 5, b, c, d, e] = o at *
  have hb : Below5 9223372036854775808 [a + 5 * o, b, c, d, e] := by rw [below5_five]; omega
  have h3 := overN_eq _ rfl hb
  refine ⟨?_, (carN_val _ rfl hb).2⟩
  rw [h3.2, lval_five, lval_five, polyP_is]
  have hz : b + 67108864 * (c + 67108864 * (d + 67108864 * (e + 67108864 * 0))) < 20282409603651670423947251286016 := by omega
  obtain ⟨hfa, _⟩ := hf
  clear hb h3 h
  generalize b + 67108864 * (c + 67108864 * (d + 67108864 * (e + 67108864 * 0))) = z at *
  rcases (show o = 0 ∨ o = 1 by omega) with rfl | rfl
  · rw [Nat.mod_eq_of_lt (by omega), Nat.mod_eq_of_lt (by omega)]
    omega
  · have e1 : a + 5 * 1 + 67108864 * z = a + 67108864 * z - 1361129467683753853853498429727072845819 + 1361129467683753853853498429727072845824 := by omega
    have e2 : a + 67108864 * z = a + 67108864 * z - 1361129467683753853853498429727072845819 + 1361129467683753853853498429727072845819 := by omega
    rw [e1, Nat.add_mod_right, Nat.mod_eq_of_lt (by omega)]
    conv => rhs; rw [e2, Nat.add_mod_right, Nat.mod_eq_of_lt (by omega)]
end Go.Proofs.YtiadgningbogmaaDoor
