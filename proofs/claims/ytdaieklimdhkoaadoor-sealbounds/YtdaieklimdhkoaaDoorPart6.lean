/- Part 6 of what the laws of this seat share: OMath, OCells, OPlus, OFold, OTimes. -/
import Derived.Deep.WholeRow
import Derived.IntWalk
import Derived.Test.YtdaieklimdhkoaaDoorPart5
namespace Go.Proofs.YtdaieklimdhkoaaDoor
open Go.RowKit
/-- The number of a row of limbs (which may be 2^26 and above). -/
def lval : List Nat → Nat
  | [] => 0
  | x :: l => x + 67108864 * lval l
theorem lval_five (a b c d e : Nat) : lval [a, b, c, d, e] = a + 67108864 * (b + 67108864 * (c + 67108864 * (d + 67108864 * (e + 67108864 * 0)))) := rfl
/-- A number's five limbs. -/
def limbsOf (x : Nat) : List Nat := [x % 67108864, x / 67108864 % 67108864, x / 4503599627370496 % 67108864, x / 302231454903657293676544 % 67108864, x / 20282409603651670423947251286016 % 67108864]
theorem limbsOf_length (x : Nat) : (limbsOf x).length = 5 := rfl
theorem lval_limbsOf (x : Nat) (h : x < 1361129467683753853853498429727072845824) : lval (limbsOf x) = x := by
  rw [limbsOf, lval_five]
  omega
theorem five_of {α : Type} (n : List α) (h : n.length = 5) : ∃ a b c d e, n = [a, b, c, d, e] := by
  match n, h with
  | [a, b, c, d, e], _ => exact ⟨a, b, c, d, e, rfl⟩
/-- Sums and products of words of 64 bits. -/
def addW (x y : Nat) : Nat := (x + y) % 18446744073709551616
def mulW (x y : Nat) : Nat := (x * y) % 18446744073709551616
theorem addW_in (x y : Nat) (h : x + y < 18446744073709551616) : addW x y = x + y := Nat.mod_eq_of_lt h
theorem mulW_in (x y : Nat) (h : x * y < 18446744073709551616) : mulW x y = x * y := Nat.mod_eq_of_lt h
theorem mulW_lt (x y a b : Nat) (hx : x < a) (hy : y < b) (h : a * b ≤ 18446744073709551616) : mulW x y = x * y := by
  refine mulW_in _ _ (Nat.lt_of_lt_of_le ?_ h)
  rcases Nat.eq_zero_or_pos y with rfl | hp
  · exact Nat.mul_pos (by omega) (by omega)
  · exact Nat.mul_lt_mul'' hx hy
/-- Two numbers, limb by limb. -/
def plusTo (a b : List Nat) : Nat → List Nat
  | 0 => a
  | k + 1 => (plusTo a b k).set k (addW ((plusTo a b k).getD k 0) (b.getD k 0))
theorem plusTo_length (a b : List Nat) : ∀ k, (plusTo a b k).length = a.length
  | 0 => rfl
  | k + 1 => by rw [plusTo, List.length_set, plusTo_length]
def plusN (a b : List Nat) : List Nat := plusTo a b 5
theorem plusN_length (a b : List Nat) : (plusN a b).length = a.length := plusTo_length a b 5
/-- Carries. -/
def carTo (n : List Nat) : Nat → List Nat × Nat
  | 0 => (n, 0)
  | k + 1 => ((carTo n k).1.set k (addW ((carTo n k).1.getD k 0) (carTo n k).2 % 67108864), addW ((carTo n k).1.getD k 0) (carTo n k).2 / 67108864)
theorem carTo_length (n : List Nat) : ∀ k, (carTo n k).1.length = n.length
  | 0 => rfl
  | k + 1 => by rw [carTo, List.length_set, carTo_length]
def carN (n : List Nat) : List Nat := (carTo n 5).1
def overN (n : List Nat) : Nat := (carTo n 5).2
theorem carN_length (n : List Nat) : (carN n).length = n.length := carTo_length n 5
def foldN (n : List Nat) : List Nat := (carN n).set 0 (addW ((carN n).getD 0 0) (mulW 5 (overN n)))
theorem foldN_length (n : List Nat) : (foldN n).length = n.length := by rw [foldN, List.length_set, carN_length]
def moreN (n : List Nat) : List Nat := n.set 0 (addW (n.getD 0 0) 5)
def lessN (n : List Nat) : List Nat := n.set 0 (addW (n.getD 0 0) (mulW 5 (overN (moreN n))))
def leastN (n : List Nat) : List Nat := carN (lessN n)
theorem leastN_length (n : List Nat) : (leastN n).length = n.length := by rw [leastN, carN_length, lessN, List.length_set]
/-- Products, limb by limb: i and j. -/
def mulPart (a b : List Nat) (i j : Nat) : Nat := if 5 ≤ i + j then mulW (mulW (a.getD i 0) (b.getD j 0)) 5 else mulW (a.getD i 0) (b.getD j 0)
def mulRow (a b : List Nat) (i : Nat) (s : List Nat) : Nat → List Nat
  | 0 => s
  | j + 1 => (mulRow a b i s j).set ((i + j) % 5) (addW ((mulRow a b i s j).getD ((i + j) % 5) 0) (mulPart a b i j))
theorem mulRow_length (a b : List Nat) (i : Nat) (s : List Nat) : ∀ j, (mulRow a b i s j).length = s.length
  | 0 => rfl
  | j + 1 => by rw [mulRow, List.length_set, mulRow_length]
def mulTo (a b : List Nat) : Nat → List Nat
  | 0 => [0, 0, 0, 0, 0]
  | i + 1 => mulRow a b i (mulTo a b i) 5
theorem mulTo_length (a b : List Nat) : ∀ i, (mulTo a b i).length = 5
  | 0 => rfl
  | i + 1 => by rw [mulTo, mulRow_length, mulTo_length]
def timesN (a b : List Nat) : List Nat := foldN (foldN (mulTo a b 5))
theorem timesN_length (a b : List Nat) : (timesN a b).length = 5 := by rw [timesN, foldN_length, foldN_length, mulTo_length]
/-- Limbs below their bound. -/
def Below5 (B : Nat) (n : List Nat) : Prop := ∀ x ∈ n, x < B
theorem below5_five (B a b c d e : Nat) : Below5 B [a, b, c, d, e] ↔ a < B ∧ b < B ∧ c < B ∧ d < B ∧ e < B := by
  simp [Below5]
theorem limbsOf_below (x : Nat) : Below5 67108864 (limbsOf x) := by
  rw [limbsOf, below5_five]; omega
theorem plusN_val (a b : List Nat) (ha : a.length = 5) (hb : b.length = 5) (A B : Nat) (hA : Below5 A a) (hB : Below5 B b) (h : A + B ≤ 18446744073709551616) : lval (plusN a b) = lval a + lval b ∧ Below5 (A + B) (plusN a b) := by
  obtain ⟨a0, a1, a2, a3, a4, rfl⟩ := five_of a ha
  obtain ⟨b0, b1, b2, b3, b4, rfl⟩ := five_of b hb
  rw [below5_five] at hA hB
  have e : plusN [a0, a1, a2, a3, a4] [b0, b1, b2, b3, b4] = [addW a0 b0, addW a1 b1, addW a2 b2, addW a3 b3, addW a4 b4] := rfl
  rw [e, addW_in _ _ (by omega), addW_in _ _ (by omega), addW_in _ _ (by omega), addW_in _ _ (by omega), addW_in _ _ (by omega), lval_five, lval_five, lval_five, below5_five]
  omega
theorem car_five (a b c d e : Nat) : carTo [a, b, c, d, e] 5 = ([addW a 0 % 67108864, addW b (addW a 0 / 67108864) % 67108864, addW c (addW b (addW a 0 / 67108864) / 67108864) % 67108864, addW d (addW c (addW b (addW a 0 / 67108864) / 67108864) / 67108864) % 67108864, addW e (addW d (addW c (addW b (addW a 0 / 67108864) / 67108864) / 67108864) / 67108864) % 67108864],
    addW e (addW d (addW c (addW b (addW a 0 / 67108864) / 67108864) / 67108864) / 67108864) / 67108864) := rfl
theorem carN_val (n : List Nat) (hn : n.length = 5) (h : Below5 9223372036854775808 n) : lval (carN n) + 1361129467683753853853498429727072845824 * overN n = lval n ∧ Below5 67108864 (carN n) := by
  obtain ⟨a, b, c, d, e, rfl⟩ := five_of n hn
  rw [below5_five] at h
  unfold carN overN
  rw [car_five, addW_in a 0 (by omega), addW_in b _ (by omega), addW_in c _ (by omega), addW_in d _ (by omega), addW_in e _ (by omega)]
  simp only [lval_five, below5_five]
  generalize h1 : (a + 0) / 67108864 = x1
  generalize h2 : (b + x1) / 67108864 = x2
  generalize h3 : (c + x2) / 67108864 = x3
  generalize h4 : (d + x3) / 67108864 = x4
  omega
theorem lval_lt (n : List Nat) (hn : n.length = 5) (h : Below5 67108864 n) : lval n < 1361129467683753853853498429727072845824 := by
  obtain ⟨a, b, c, d, e, rfl⟩ := five_of n hn
  rw [below5_five] at h
  rw [lval_five]
  omega
theorem overN_eq (n : List Nat) (hn : n.length = 5) (h : Below5 9223372036854775808 n) : overN n = lval n / 1361129467683753853853498429727072845824 ∧ lval (carN n) = lval n % 1361129467683753853853498429727072845824 := by
  have h1 := carN_val n hn h
  have h2 := lval_lt (carN n) (by rw [carN_length, hn]) h1.2
  omega
theorem lval_set0 (n : List Nat) (hn : n.length = 5) (y : Nat) (h : n.getD 0 0 + y < 18446744073709551616) : lval (n.set 0 (addW (n.getD 0 0) y)) = lval n + y := by
  obtain ⟨a, b, c, d, e, rfl⟩ := five_of n hn
  have h' : a + y < 18446744073709551616 := h
  show lval [addW a y, b, c, d, e] = _
  rw [addW_in _ _ h', lval_five, lval_five]
  omega
theorem polyP_is : polyP = 1361129467683753853853498429727072845819 := rfl
theorem getD_below {B : Nat} {n : List Nat} (h : Below5 B n) (hB : 0 < B) (i : Nat) : n.getD i 0 < B := by
  rw [List.getD_eq_getElem?_getD]
  cases hi : n[i]? with
  | none => simpa using hB
  | some x => exact h x (List.mem_of_getElem? hi)
theorem foldN_mod (n : List Nat) (hn : n.length = 5) (h : Below5 9223372036854775808 n) : lval (foldN n) % polyP = lval n % polyP := by
  have h1 := carN_val n hn h
  have h2 := overN_eq n hn h
  have h3 := getD_below h1.2 (by omega) 0
  have hl : lval n < 9223372036854775808 * 20282409905883129831204239441921 := by
    obtain ⟨a, b, c, d, e, rfl⟩ := five_of n hn
    rw [below5_five] at h
    rw [lval_five]
    omega
  have ho : overN n < 274877906944 := by omega
  unfold foldN
  rw [mulW_in 5 _ (by omega), lval_set0 _ (by rw [carN_length, hn]) _ (by omega), polyP_is]
  omega
/-- Behind two folds the limbs have no more than their bits, but for the first, which is at most 5 beyond them. -/
def Fine (n : List Nat) : Prop := n.length = 5 ∧ n.getD 0 0 < 67108869 ∧ ∀ i, 0 < i → n.getD i 0 < 67108864
theorem fine_five (a b c d e : Nat) (h : Fine [a, b, c, d, e]) : a < 67108869 ∧ b < 67108864 ∧ c < 67108864 ∧ d < 67108864 ∧ e < 67108864 := by
  obtain ⟨_, h0, h1⟩ := h
  exact ⟨h0, h1 1 (by omega), h1 2 (by omega), h1 3 (by omega), h1 4 (by omega)⟩
theorem fine_mk (a b c d e : Nat) (h : a < 67108869 ∧ b < 67108864 ∧ c < 67108864 ∧ d < 67108864 ∧ e < 67108864) : Fine [a, b, c, d, e] := by
  refine ⟨rfl, h.1, fun i hi => ?_⟩
  match i, hi with
  | 1, _ => exact h.2.1
  | 2, _ => exact h.2.2.1
  | 3, _ => exact h.2.2.2.1
  | 4, _ => exact h.2.2.2.2
  | i + 5, _ => show (0 : Nat) < _; omega
theorem Fine.below {n : List Nat} (h : Fine n) : Below5 67108869 n := by
  obtain ⟨a, b, c, d, e, rfl⟩ := five_of n h.1
  have := fine_five _ _ _ _ _ h
  rw [below5_five]
  omega
theorem fine_zero : Fine [0, 0, 0, 0, 0] := fine_mk _ _ _ _ _ (by omega)
theorem foldN_fine (n : List Nat) (hn : n.length = 5) (h : Below5 1152921504606846976 n) : Fine (foldN (foldN n)) := by
  have hb : Below5 9223372036854775808 n := fun x hx => by have := h x hx; omega
  have h1 := carN_val n hn hb
  have h2 := overN_eq n hn hb
  have hl : lval n < 1152921504606846976 * 20282409905883129831204239441921 := by
    obtain ⟨a, b, c, d, e, rfl⟩ := five_of n hn
    rw [below5_five] at h
    rw [lval_five]
    omega
  have ho : overN n < 34359738368 := by omega
  obtain ⟨a, b, c, d, e, hc⟩ := five_of (carN n) (by rw [carN_length, hn])
  have hc2 := h1.2
  rw [hc, below5_five] at hc2
  have e1 : foldN n = [a + 5 * overN n, b, c, d, e] := by
    unfold foldN
    rw [hc]
    show [addW a (mulW 5 (overN n)), b, c, d, e] = _
    rw [mulW_in 5 _ (by omega), addW_in _ _ (by omega)]
  rw [e1]
  generalize overN n = o at *
  have hb2 : Below5 9223372036854775808 [a + 5 * o, b, c, d, e] := by rw [below5_five]; omega
  have h3 := carN_val _ rfl hb2
  have h4 := overN_eq _ rfl hb2
  rw [lval_five] at h4
  have ho2 : overN [a + 5 * o, b, c, d, e] < 2 := by omega
  obtain ⟨a', b', c', d', e', hc'⟩ := five_of (carN [a + 5 * o, b, c, d, e]) (by rw [carN_length]; rfl)
  have hc3 := h3.2
  rw [hc', below5_five] at hc3
  unfold foldN
  rw [hc']
  show Fine [addW a' (mulW 5 (overN [a + 5 * o, b, c, d, e])), b', c', d', e']
  rw [mulW_in 5 _ (by omega), addW_in _ _ (by omega)]
  exact fine_mk _ _ _ _ _ (by omega)
theorem mulRow_0 (a0 a1 a2 a3 a4 b0 b1 b2 b3 b4 s0 s1 s2 s3 s4 : Nat) : mulRow [a0, a1, a2, a3, a4] [b0, b1, b2, b3, b4] 0 [s0, s1, s2, s3, s4] 5 = [addW s0 (mulW a0 b0), addW s1 (mulW a0 b1), addW s2 (mulW a0 b2), addW s3 (mulW a0 b3), addW s4 (mulW a0 b4)] := rfl
theorem mulRow_1 (a0 a1 a2 a3 a4 b0 b1 b2 b3 b4 s0 s1 s2 s3 s4 : Nat) : mulRow [a0, a1, a2, a3, a4] [b0, b1, b2, b3, b4] 1 [s0, s1, s2, s3, s4] 5 = [addW s0 (mulW (mulW a1 b4) 5), addW s1 (mulW a1 b0), addW s2 (mulW a1 b1), addW s3 (mulW a1 b2), addW s4 (mulW a1 b3)] := rfl
theorem mulRow_2 (a0 a1 a2 a3 a4 b0 b1 b2 b3 b4 s0 s1 s2 s3 s4 : Nat) : mulRow [a0, a1, a2, a3, a4] [b0, b1, b2, b3, b4] 2 [s0, s1, s2, s3, s4] 5 = [addW s0 (mulW (mulW a2 b3) 5), addW s1 (mulW (mulW a2 b4) 5), addW s2 (mulW a2 b0), addW s3 (mulW a2 b1), addW s4 (mulW a2 b2)] := rfl
theorem mulRow_3 (a0 a1 a2 a3 a4 b0 b1 b2 b3 b4 s0 s1 s2 s3 s4 : Nat) : mulRow [a0, a1, a2, a3, a4] [b0, b1, b2, b3, b4] 3 [s0, s1, s2, s3, s4] 5 = [addW s0 (mulW (mulW a3 b2) 5), addW s1 (mulW (mulW a3 b3) 5), addW s2 (mulW (mulW a3 b4) 5), addW s3 (mulW a3 b0), addW s4 (mulW a3 b1)] := rfl
theorem mulRow_4 (a0 a1 a2 a3 a4 b0 b1 b2 b3 b4 s0 s1 s2 s3 s4 : Nat) : mulRow [a0, a1, a2, a3, a4] [b0, b1, b2, b3, b4] 4 [s0, s1, s2, s3, s4] 5 = [addW s0 (mulW (mulW a4 b1) 5), addW s1 (mulW (mulW a4 b2) 5), addW s2 (mulW (mulW a4 b3) 5), addW s3 (mulW (mulW a4 b4) 5), addW s4 (mulW a4 b0)] := rfl
theorem mul_small (x y : Nat) (hx : x < 268435456) (hy : y < 67108864) : x * y < 18014398509481984 := by
  rcases Nat.eq_zero_or_pos y with rfl | hp
  · omega
  · exact Nat.mul_lt_mul'' hx hy
theorem mulW_one (x y : Nat) (hx : x < 268435456) (hy : y < 67108864) : mulW x y = x * y := mulW_in _ _ (by have := mul_small x y hx hy; omega)
theorem mulW_five (x y : Nat) (hx : x < 268435456) (hy : y < 67108864) : mulW (mulW x y) 5 = x * y * 5 := by
  rw [mulW_one x y hx hy]
  exact mulW_in _ _ (by have := mul_small x y hx hy; omega)
theorem addW_col (x0 x1 x2 x3 x4 : Nat) (h : x0 + x1 + x2 + x3 + x4 < 18446744073709551616) : addW (addW (addW (addW (addW 0 x0) x1) x2) x3) x4 = x0 + x1 + x2 + x3 + x4 := by
  rw [addW_in 0 x0 (by omega), Nat.zero_add, addW_in x0 x1 (by omega), addW_in _ x2 (by omega), addW_in _ x3 (by omega), addW_in _ x4 (by omega)]
theorem mulTo_all (a0 a1 a2 a3 a4 b0 b1 b2 b3 b4 : Nat) : mulTo [a0, a1, a2, a3, a4] [b0, b1, b2, b3, b4] 5 = [addW (addW (addW (addW (addW 0 (mulW a0 b0)) (mulW (mulW a1 b4) 5)) (mulW (mulW a2 b3) 5)) (mulW (mulW a3 b2) 5)) (mulW (mulW a4 b1) 5), addW (addW (addW (addW (addW 0 (mulW a0 b1)) (mulW a1 b0)) (mulW (mulW a2 b4) 5)) (mulW (mulW a3 b3) 5)) (mulW (mulW a4 b2) 5), addW (addW (addW (addW (addW 0 (mulW a0 b2)) (mulW a1 b1)) (mulW a2 b0)) (mulW (mulW a3 b4) 5)) (mulW (mulW a4 b3) 5), addW (addW (addW (addW (addW 0 (mulW a0 b3)) (mulW a1 b2)) (mulW a2 b1)) (mulW a3 b0)) (mulW (mulW a4 b4) 5), addW (addW (addW (addW (addW 0 (mulW a0 b4)) (mulW a1 b3)) (mulW a2 b2)) (mulW a3 b1)) (mulW a4 b0)] := by
  show mulRow _ _ 4 (mulRow _ _ 3 (mulRow _ _ 2 (mulRow _ _ 1 (mulRow _ _ 0 [0, 0, 0, 0, 0] 5) 5) 5) 5) 5 = _
  rw [mulRow_0, mulRow_1, mulRow_2, mulRow_3, mulRow_4]
theorem mulCol_0 (a0 a1 a2 a3 a4 b0 b1 b2 b3 b4 : Nat) (ha : a0 < 268435456 ∧ a1 < 268435456 ∧ a2 < 268435456 ∧ a3 < 268435456 ∧ a4 < 268435456) (hb : b0 < 67108864 ∧ b1 < 67108864 ∧ b2 < 67108864 ∧ b3 < 67108864 ∧ b4 < 67108864) :
    addW (addW (addW (addW (addW 0 (mulW a0 b0)) (mulW (mulW a1 b4) 5)) (mulW (mulW a2 b3) 5)) (mulW (mulW a3 b2) 5)) (mulW (mulW a4 b1) 5) = a0 * b0 + a1 * b4 * 5 + a2 * b3 * 5 + a3 * b2 * 5 + a4 * b1 * 5 ∧ a0 * b0 + a1 * b4 * 5 + a2 * b3 * 5 + a3 * b2 * 5 + a4 * b1 * 5 < 1152921504606846976 := by
  have q0 := mul_small a0 b0 (by omega) (by omega)
  have q1 := mul_small a1 b4 (by omega) (by omega)
  have q2 := mul_small a2 b3 (by omega) (by omega)
  have q3 := mul_small a3 b2 (by omega) (by omega)
  have q4 := mul_small a4 b1 (by omega) (by omega)
  rw [mulW_one a0 b0 (by omega) (by omega), mulW_five a1 b4 (by omega) (by omega), mulW_five a2 b3 (by omega) (by omega), mulW_five a3 b2 (by omega) (by omega), mulW_five a4 b1 (by omega) (by omega)]
  exact ⟨addW_col _ _ _ _ _ (by omega), by omega⟩
theorem mulCol_1 (a0 a1 a2 a3 a4 b0 b1 b2 b3 b4 : Nat) (ha : a0 < 268435456 ∧ a1 < 268435456 ∧ a2 < 268435456 ∧ a3 < 268435456 ∧ a4 < 268435456) (hb : b0 < 67108864 ∧ b1 < 67108864 ∧ b2 < 67108864 ∧ b3 < 67108864 ∧ b4 < 67108864) :
    addW (addW (addW (addW (addW 0 (mulW a0 b1)) (mulW a1 b0)) (mulW (mulW a2 b4) 5)) (mulW (mulW a3 b3) 5)) (mulW (mulW a4 b2) 5) = a0 * b1 + a1 * b0 + a2 * b4 * 5 + a3 * b3 * 5 + a4 * b2 * 5 ∧ a0 * b1 + a1 * b0 + a2 * b4 * 5 + a3 * b3 * 5 + a4 * b2 * 5 < 1152921504606846976 := by
  have q0 := mul_small a0 b1 (by omega) (by omega)
  have q1 := mul_small a1 b0 (by omega) (by omega)
  have q2 := mul_small a2 b4 (by omega) (by omega)
  have q3 := mul_small a3 b3 (by omega) (by omega)
  have q4 := mul_small a4 b2 (by omega) (by omega)
  rw [mulW_one a0 b1 (by omega) (by omega), mulW_one a1 b0 (by omega) (by omega), mulW_five a2 b4 (by omega) (by omega), mulW_five a3 b3 (by omega) (by omega), mulW_five a4 b2 (by omega) (by omega)]
  exact ⟨addW_col _ _ _ _ _ (by omega), by omega⟩
theorem mulCol_2 (a0 a1 a2 a3 a4 b0 b1 b2 b3 b4 : Nat) (ha : a0 < 268435456 ∧ a1 < 268435456 ∧ a2 < 268435456 ∧ a3 < 268435456 ∧ a4 < 268435456) (hb : b0 < 67108864 ∧ b1 < 67108864 ∧ b2 < 67108864 ∧ b3 < 67108864 ∧ b4 < 67108864) :
    addW (addW (addW (addW (addW 0 (mulW a0 b2)) (mulW a1 b1)) (mulW a2 b0)) (mulW (mulW a3 b4) 5)) (mulW (mulW a4 b3) 5) = a0 * b2 + a1 * b1 + a2 * b0 + a3 * b4 * 5 + a4 * b3 * 5 ∧ a0 * b2 + a1 * b1 + a2 * b0 + a3 * b4 * 5 + a4 * b3 * 5 < 1152921504606846976 := by
  have q0 := mul_small a0 b2 (by omega) (by omega)
  have q1 := mul_small a1 b1 (by omega) (by omega)
  have q2 := mul_small a2 b0 (by omega) (by omega)
  have q3 := mul_small a3 b4 (by omega) (by omega)
  have q4 := mul_small a4 b3 (by omega) (by omega)
  rw [mulW_one a0 b2 (by omega) (by omega), mulW_one a1 b1 (by omega) (by omega), mulW_one a2 b0 (by omega) (by omega), mulW_five a3 b4 (by omega) (by omega), mulW_five a4 b3 (by omega) (by omega)]
  exact ⟨addW_col _ _ _ _ _ (by omega), by omega⟩
theorem mulCol_3 (a0 a1 a2 a3 a4 b0 b1 b2 b3 b4 : Nat) (ha : a0 < 268435456 ∧ a1 < 268435456 ∧ a2 < 268435456 ∧ a3 < 268435456 ∧ a4 < 268435456) (hb : b0 < 67108864 ∧ b1 < 67108864 ∧ b2 < 67108864 ∧ b3 < 67108864 ∧ b4 < 67108864) :
    addW (addW (addW (addW (addW 0 (mulW a0 b3)) (mulW a1 b2)) (mulW a2 b1)) (mulW a3 b0)) (mulW (mulW a4 b4) 5) = a0 * b3 + a1 * b2 + a2 * b1 + a3 * b0 + a4 * b4 * 5 ∧ a0 * b3 + a1 * b2 + a2 * b1 + a3 * b0 + a4 * b4 * 5 < 1152921504606846976 := by
  have q0 := mul_small a0 b3 (by omega) (by omega)
  have q1 := mul_small a1 b2 (by omega) (by omega)
  have q2 := mul_small a2 b1 (by omega) (by omega)
  have q3 := mul_small a3 b0 (by omega) (by omega)
  have q4 := mul_small a4 b4 (by omega) (by omega)
  rw [mulW_one a0 b3 (by omega) (by omega), mulW_one a1 b2 (by omega) (by omega), mulW_one a2 b1 (by omega) (by omega), mulW_one a3 b0 (by omega) (by omega), mulW_five a4 b4 (by omega) (by omega)]
  exact ⟨addW_col _ _ _ _ _ (by omega), by omega⟩
theorem mulCol_4 (a0 a1 a2 a3 a4 b0 b1 b2 b3 b4 : Nat) (ha : a0 < 268435456 ∧ a1 < 268435456 ∧ a2 < 268435456 ∧ a3 < 268435456 ∧ a4 < 268435456) (hb : b0 < 67108864 ∧ b1 < 67108864 ∧ b2 < 67108864 ∧ b3 < 67108864 ∧ b4 < 67108864) :
    addW (addW (addW (addW (addW 0 (mulW a0 b4)) (mulW a1 b3)) (mulW a2 b2)) (mulW a3 b1)) (mulW a4 b0) = a0 * b4 + a1 * b3 + a2 * b2 + a3 * b1 + a4 * b0 ∧ a0 * b4 + a1 * b3 + a2 * b2 + a3 * b1 + a4 * b0 < 1152921504606846976 := by
  have q0 := mul_small a0 b4 (by omega) (by omega)
  have q1 := mul_small a1 b3 (by omega) (by omega)
  have q2 := mul_small a2 b2 (by omega) (by omega)
  have q3 := mul_small a3 b1 (by omega) (by omega)
  have q4 := mul_small a4 b0 (by omega) (by omega)
  rw [mulW_one a0 b4 (by omega) (by omega), mulW_one a1 b3 (by omega) (by omega), mulW_one a2 b2 (by omega) (by omega), mulW_one a3 b1 (by omega) (by omega), mulW_one a4 b0 (by omega) (by omega)]
  exact ⟨addW_col _ _ _ _ _ (by omega), by omega⟩
theorem mulTo_five (a0 a1 a2 a3 a4 b0 b1 b2 b3 b4 : Nat) (ha : Below5 268435456 [a0, a1, a2, a3, a4]) (hb : Below5 67108864 [b0, b1, b2, b3, b4]) :
    mulTo [a0, a1, a2, a3, a4] [b0, b1, b2, b3, b4] 5 = [a0 * b0 + a1 * b4 * 5 + a2 * b3 * 5 + a3 * b2 * 5 + a4 * b1 * 5, a0 * b1 + a1 * b0 + a2 * b4 * 5 + a3 * b3 * 5 + a4 * b2 * 5, a0 * b2 + a1 * b1 + a2 * b0 + a3 * b4 * 5 + a4 * b3 * 5, a0 * b3 + a1 * b2 + a2 * b1 + a3 * b0 + a4 * b4 * 5, a0 * b4 + a1 * b3 + a2 * b2 + a3 * b1 + a4 * b0] ∧ Below5 1152921504606846976 [a0 * b0 + a1 * b4 * 5 + a2 * b3 * 5 + a3 * b2 * 5 + a4 * b1 * 5, a0 * b1 + a1 * b0 + a2 * b4 * 5 + a3 * b3 * 5 + a4 * b2 * 5, a0 * b2 + a1 * b1 + a2 * b0 + a3 * b4 * 5 + a4 * b3 * 5, a0 * b3 + a1 * b2 + a2 * b1 + a3 * b0 + a4 * b4 * 5, a0 * b4 + a1 * b3 + a2 * b2 + a3 * b1 + a4 * b0] := by
  rw [below5_five] at ha hb
  have h0 := mulCol_0 a0 a1 a2 a3 a4 b0 b1 b2 b3 b4 ha hb
  have h1 := mulCol_1 a0 a1 a2 a3 a4 b0 b1 b2 b3 b4 ha hb
  have h2 := mulCol_2 a0 a1 a2 a3 a4 b0 b1 b2 b3 b4 ha hb
  have h3 := mulCol_3 a0 a1 a2 a3 a4 b0 b1 b2 b3 b4 ha hb
  have h4 := mulCol_4 a0 a1 a2 a3 a4 b0 b1 b2 b3 b4 ha hb
  refine ⟨?_, (below5_five _ _ _ _ _ _).2 ⟨h0.2, h1.2, h2.2, h3.2, h4.2⟩⟩
  rw [mulTo_all, h0.1, h1.1, h2.1, h3.1, h4.1]
theorem mul_mod (a0 a1 a2 a3 a4 b0 b1 b2 b3 b4 : Nat) :
    lval [a0 * b0 + a1 * b4 * 5 + a2 * b3 * 5 + a3 * b2 * 5 + a4 * b1 * 5, a0 * b1 + a1 * b0 + a2 * b4 * 5 + a3 * b3 * 5 + a4 * b2 * 5, a0 * b2 + a1 * b1 + a2 * b0 + a3 * b4 * 5 + a4 * b3 * 5, a0 * b3 + a1 * b2 + a2 * b1 + a3 * b0 + a4 * b4 * 5, a0 * b4 + a1 * b3 + a2 * b2 + a3 * b1 + a4 * b0] % polyP = lval [a0, a1, a2, a3, a4] * lval [b0, b1, b2, b3, b4] % polyP := by
  have e : lval [a0, a1, a2, a3, a4] * lval [b0, b1, b2, b3, b4] = lval [a0 * b0 + a1 * b4 * 5 + a2 * b3 * 5 + a3 * b2 * 5 + a4 * b1 * 5, a0 * b1 + a1 * b0 + a2 * b4 * 5 + a3 * b3 * 5 + a4 * b2 * 5, a0 * b2 + a1 * b1 + a2 * b0 + a3 * b4 * 5 + a4 * b3 * 5, a0 * b3 + a1 * b2 + a2 * b1 + a3 * b0 + a4 * b4 * 5, a0 * b4 + a1 * b3 + a2 * b2 + a3 * b1 + a4 * b0] + polyP * (a1 * b4 + a2 * b3 + a3 * b2 + a4 * b1 + 67108864 * (a2 * b4 + a3 * b3 + a4 * b2 + 67108864 * (a3 * b4 + a4 * b3 + 67108864 * (a4 * b4)))) := by
    rw [lval_five, lval_five, lval_five, polyP_is]
    grind
  rw [e, Nat.add_mul_mod_self_left]
theorem timesN_val (a b : List Nat) (ha : a.length = 5) (hb : b.length = 5) (hA : Below5 268435456 a) (hB : Below5 67108864 b) : Fine (timesN a b) ∧ lval (timesN a b) % polyP = lval a * lval b % polyP := by
  obtain ⟨a0, a1, a2, a3, a4, rfl⟩ := five_of a ha
  obtain ⟨b0, b1, b2, b3, b4, rfl⟩ := five_of b hb
  obtain ⟨e, hE⟩ := mulTo_five _ _ _ _ _ _ _ _ _ _ hA hB
  unfold timesN
  rw [e]
  have hb2 : Below5 9223372036854775808 [a0 * b0 + a1 * b4 * 5 + a2 * b3 * 5 + a3 * b2 * 5 + a4 * b1 * 5, a0 * b1 + a1 * b0 + a2 * b4 * 5 + a3 * b3 * 5 + a4 * b2 * 5, a0 * b2 + a1 * b1 + a2 * b0 + a3 * b4 * 5 + a4 * b3 * 5, a0 * b3 + a1 * b2 + a2 * b1 + a3 * b0 + a4 * b4 * 5, a0 * b4 + a1 * b3 + a2 * b2 + a3 * b1 + a4 * b0] := fun x hx => by have := hE x hx; omega
  have hm := mul_mod a0 a1 a2 a3 a4 b0 b1 b2 b3 b4
  generalize [a0 * b0 + a1 * b4 * 5 + a2 * b3 * 5 + a3 * b2 * 5 + a4 * b1 * 5, a0 * b1 + a1 * b0 + a2 * b4 * 5 + a3 * b3 * 5 + a4 * b2 * 5, a0 * b2 + a1 * b1 + a2 * b0 + a3 * b4 * 5 + a4 * b3 * 5, a0 * b3 + a1 * b2 + a2 * b1 + a3 * b0 + a4 * b4 * 5, a0 * b4 + a1 * b3 + a2 * b2 + a3 * b1 + a4 * b0] = s at *
  have hs : s.length = 5 := by rw [← e]; exact mulTo_length _ _ _
  refine ⟨foldN_fine s hs hE, ?_⟩
  have h1 := carN_val s hs hb2
  have hf : Below5 9223372036854775808 (foldN s) := by
    have h2 := overN_eq s hs hb2
    have hl : lval s < 1152921504606846976 * 20282409905883129831204239441921 := by
      obtain ⟨a, b, c, d, e, rfl⟩ := five_of s hs
      rw [below5_five] at hE
      rw [lval_five]
      omega
    have ho : overN s < 34359738368 := by omega
    obtain ⟨a, b, c, d, e, hc⟩ := five_of (carN s) (by rw [carN_length, hs])
    have hc2 := h1.2
    rw [hc, below5_five] at hc2
    unfold foldN
    rw [hc]
    show Below5 _ [addW a (mulW 5 (overN s)), b, c, d, e]
    rw [mulW_in 5 _ (by omega), addW_in _ _ (by omega), below5_five]
    omega
  rw [foldN_mod _ (by rw [foldN_length, hs]) hf, foldN_mod _ hs hb2, hm]
theorem leastN_val (n : List Nat) (h : Fine n) : lval (leastN n) = lval n % polyP ∧ Below5 67108864 (leastN n) := by
  obtain ⟨a, b, c, d, e, rfl⟩ := five_of n h.1
  have hf := fine_five _ _ _ _ _ h
  have e1 : moreN [a, b, c, d, e] = [a + 5, b, c, d, e] := by
    show [addW a 5, b, c, d, e] = _
    rw [addW_in _ _ (by omega)]
  have hm := overN_eq [a + 5, b, c, d, e] rfl (by rw [below5_five]; omega)
  rw [lval_five] at hm
  have ho : overN [a + 5, b, c, d, e] < 2 := by omega
  have e2 : lessN [a, b, c, d, e] = [a + 5 * overN [a + 5, b, c, d, e], b, c, d, e] := by
    unfold lessN
    rw [e1]
    show [addW a (mulW 5 (overN [a + 5, b, c, d, e])), b, c, d, e] = _
    rw [mulW_in 5 _ (by omega), addW_in _ _ (by omega)]
  unfold leastN
  rw [e2]
  have hm2 := hm.1
  clear hm e1 e2
  generalize overN [a + 5, b, c, d, e] = o at *
  have hb : Below5 9223372036854775808 [a + 5 * o, b, c, d, e] := by rw [below5_five]; omega
  have h3 := overN_eq _ rfl hb
  refine ⟨?_, (carN_val _ rfl hb).2⟩
  rw [h3.2, lval_five, lval_five, polyP_is]
  have hz : b + 67108864 * (c + 67108864 * (d + 67108864 * (e + 67108864 * 0))) < 20282409603651670423947251286016 := by omega
  obtain ⟨hfa, _⟩ := hf
  clear hb h3 h
  generalize b + 67108864 * (c + 67108864 * (d + 67108864 * (e + 67108864 * 0))) = z at *
  rcases (show o = 0 ∨ o = 1 by omega) with rfl | rfl
  · rw [Nat.mod_eq_of_lt (by omega), Nat.mod_eq_of_lt (by omega)]
    omega
  · have e1 : a + 5 * 1 + 67108864 * z = a + 67108864 * z - 1361129467683753853853498429727072845819 + 1361129467683753853853498429727072845824 := by omega
    have e2 : a + 67108864 * z = a + 67108864 * z - 1361129467683753853853498429727072845819 + 1361129467683753853853498429727072845819 := by omega
    rw [e1, Nat.add_mod_right, Nat.mod_eq_of_lt (by omega)]
    conv => rhs; rw [e2, Nat.add_mod_right, Nat.mod_eq_of_lt (by omega)]
end Go.Proofs.YtdaieklimdhkoaaDoor
namespace Go.Proofs.YtdaieklimdhkoaaDoor
open Go.RowKit
/-- A limb as a cell holds it. -/
abbrev ncell (x : Nat) : Value := .int .u64 (x : Int)
/-- A number as a value. -/
def numVal (n : List Nat) : Value := .agg (n.map ncell).toArray
theorem add64n (x y : Nat) : IntKind.u64.wrap ((x : Int) + (y : Int)) = ((addW x y : Nat) : Int) := by
  rw [IntKind.wrap_u64, addW]; omega
theorem mul64n (x y : Nat) : IntKind.u64.wrap ((x : Int) * (y : Int)) = ((mulW x y : Nat) : Int) := by
  rw [IntKind.wrap_u64, mulW, ← Int.natCast_mul]; omega
theorem and26 (x : Nat) (h : x < 18446744073709551616) : bits .and .u64 (x : Int) 67108863 = ((x % 67108864 : Nat) : Int) := by
  rw [show (67108863 : Int) = ((67108863 : Nat) : Int) from rfl, u64_and_nat _ _ h (by omega)]
  have := Nat.and_two_pow_sub_one_eq_mod x 26
  simp only [Nat.reducePow, Nat.reduceSub] at this
  rw [this]
theorem addW_lt (x y : Nat) : addW x y < 18446744073709551616 := Nat.mod_lt _ (by omega)
theorem mulW_lt64 (x y : Nat) : mulW x y < 18446744073709551616 := Nat.mod_lt _ (by omega)
theorem ncells_one (l : List Nat) : (l.map ncell).toArray.all (·.oneCell') = true := all_oneCell_toArray (by intro v hv; obtain ⟨x, _, rfl⟩ := List.mem_map.1 hv; rfl)
theorem nat_at (l : List Nat) (k : Nat) (hk : k < l.length) : (l.map ncell)[k]? = some (ncell (l.getD k 0)) := by
  rw [List.getElem?_map, List.getD_eq_getElem?_getD, List.getElem?_eq_getElem hk]
  rfl
/-- So many limbs of nought. (Named, so that a walk leaves them whole.) -/
def nzeros (n : Nat) : List Value := List.replicate n (ncell 0)
theorem nset_map (l : List Nat) (k : Nat) (x : Nat) : (l.map ncell).set k (ncell x) = (l.set k x).map ncell := by rw [List.map_set]
theorem zero_num : ∀ w, (zeroValue 61).run Tryd.prog w = .ok (.agg (nzeros 5).toArray) w := (zero_of_info (P := Tryd.prog) (t := 61) (v := .agg (nzeros 5).toArray) (n := 5) (by kernel_rfl)).1
theorem size_num : (Tryd.prog.info? 61).map (·.size) = some 5 := by kernel_rfl
theorem size_u64 : (Tryd.prog.info? 59).map (·.size) = some 1 := by kernel_rfl
/-- A function whose results are an array in a block of its own, and a plain value. -/
theorem vret2 {P : Program} {fn : Func} {R : Ending → World → Prop} {a : Act} {w : World} {p u : Tmp} {ty e : TypeId} {n : Nat} (hres : fn.results = #[.cell p ty, .tmp u]) (g : Nat) (vs : List Value) (v : Value)
    (hp : a.tmps.getD p undef = .pointer (some ⟨g, 0, none⟩)) (hv : a.tmps.getD u undef = v) (hg : Cells w g vs ty) (hu : P.underlying ty = some (.array n e)) (hi : (P.info? ty).map (·.size) = some n) (hl : vs.length = n)
    (hdf : a.defers = []) (hR : R (.returned (.tuple #[.agg vs.toArray, v])) w) : bodyPost P fn R .ret a w := by
  have hp' : a.tmps[p]?.getD undef = .pointer (some ⟨g, 0, none⟩) := by simpa using hp
  have hv' : a.tmps[u]?.getD undef = v := by simpa using hv
  have hrun : (results fn a.tmps).run P w = .ok (.tuple #[.agg vs.toArray, v]) w := by
    simp [results, hres, hp', hv', asAddr, run_loadVar_row w g ty ty vs.toArray (0, 0) _ hg hu rfl (by rw [List.size_toArray, hl]; exact hi)]
  exact bodyPost_ret hrun hdf hR
end Go.Proofs.YtdaieklimdhkoaaDoor
namespace Go.Proofs.YtdaieklimdhkoaaDoor
open Go.RowKit
set_option maxRecDepth 100000 in
set_option maxHeartbeats 1000000 in
theorem plus_over (a b r : List Nat) (S : Nat → List Nat) (w : World) (HB : Hid (b.length = 5)) (HL : Hid (∀ k, (S k).length = 5)) (H0 : Hid (S 0 = a)) (HS : Hid (∀ k, S (k + 1) = (S k).set k (addW ((S k).getD k 0) (b.getD k 0)))) (HR : Hid (S 5 = r)) :
    Calls Tryd.prog 46 #[numVal a, numVal b] w fun e w' => e = .returned (numVal r) ∧ Below w.heap.size w w' := by
  go_enter Tryd.func46, Tryd.ntmps46
  go_wp2_with (first
    | (refine vtake_step rfl 61 (.tmp 0) rfl (a.map ncell) rfl ?_
       intro w1 hB1 hA1)
    | (refine vtake_step rfl 61 (.tmp 1) rfl (b.map ncell) rfl ?_
       intro w2 hb2 hC2
       have hB2 := below_then hB1 hb2
       have hA2 := hA1.on hb2
       have hg1 := hA1.lt
       clear hB1 hA1 hb2)
    | (refine vzero_step rfl 61 rfl (nzeros 5) zero_num ?_
       intro w3 hb3 hZ3
       have hB3 := below_then hB2 hb3
       have hA3 := hA2.on hb3
       have hC3 := hC2.on hb3
       have hg2 := hC2.lt
       clear hB2 hA2 hC2 hb3))
  generalize hg : w1.heap.size = gb at *
  generalize hh : w2.heap.size = gz at *
  clear hg hh
  go_loopw [6] (fun i wr => ∃ k : Nat, k ≤ 5 ∧ i = .int .i64 k ∧ Below w.heap.size w wr ∧ Cells wr w.heap.size ((S k).map ncell) 61 ∧ Cells wr gb (b.map ncell) 61 ∧ Cells wr gz (nzeros 5) 61) (fun i _ => 5 - (intOf i).toNat)
  case atStart => exact ⟨0, Nat.zero_le _, rfl, hB3, by rw [H0.out]; exact hA3, hC3, hZ3⟩
  case round =>
    clear hB3 hA3 hC3 hZ3
    obtain ⟨k, hk, rfl, hB, hS, hC, hZ⟩ := hrel
    have HLk := Lib.hid (HL.out k)
    by_cases hlt : k < 5
    · have HN := Lib.hid (HS.out k)
      generalize S k = s at *
      have i1 : (0 : Int) ≤ (k : Int) := by omega
      have i2 : (k : Int) < 5 := by omega
      go_wp2_with fail
      refine wp_region_tail 8 (by kernel_rfl) (by kernel_rfl) ?_
      intro w4 hw4
      have hB4 : Below w.heap.size w w4 := by rw [hw4]; exact hB.drew
      have hS4 : Cells w4 w.heap.size (s.map ncell) 61 := by rw [hw4]; exact hS
      have hC4 : Cells w4 gb (b.map ncell) 61 := by rw [hw4]; exact hC
      have hZ4 : Cells w4 gz (nzeros 5) 61 := by rw [hw4]; exact hZ
      clear hw4 hB hS hC hZ
      have d1 := hS4.get (nat_at s k (by rw [HLk.out]; exact hlt))
      have d2 := hC4.get (nat_at b k (by rw [HB.out]; exact hlt))
      have d3 := hS4.frozen k
      generalize s.getD k 0 = x at *
      generalize b.getD k 0 = y at *
      simp only [List.take_succ_cons, List.take_zero, List.drop_succ_cons, List.drop_zero]
      repeat still_step
      refine wpStill_nil ?_
      go_wp2
      go_roundw
      case rel =>
        rw [add64n]
        refine ⟨k + 1, by omega, by go_num, hB4.setCell (p := ⟨w.heap.size, k, none⟩) (Nat.le_refl _) _, ?_, hC4.other (by show gb ≠ w.heap.size; omega) _, hZ4.other (by show gz ≠ w.heap.size; omega) _⟩
        rw [HN.out, ← nset_map]
        exact hS4.set k _
      case measure => simp [intOf]; omega
    · obtain rfl : k = 5 := by omega
      rw [HR.out] at hS HLk
      go_wp2_with (first
        | (refine vget_step rfl 61 _ rfl w.heap.size 5 (r.map ncell) 59 rfl hS Tryd.underlying61 size_num (by rw [List.length_map, HLk.out]) ?_)
        | (refine vset_step rfl 61 _ _ rfl gz 5 (nzeros 5) (r.map ncell) rfl rfl hZ rfl size_num (by rw [List.length_map, HLk.out]) (ncells_one r) ?_
           intro w7 hb7 hC7 _))
      refine vret Tryd.results46 gz (r.map ncell) rfl hC7 Tryd.underlying61 size_num (by rw [List.length_map, HLk.out]) rfl ⟨rfl, hB.trans (hb7.below (by omega) hB.size)⟩
theorem plus_any (a b : List Nat) (w : World) (ha : a.length = 5) (hb : b.length = 5) :
    Calls Tryd.prog 46 #[numVal a, numVal b] w fun e w' => e = .returned (numVal (plusN a b)) ∧ Below w.heap.size w w' :=
  plus_over a b _ (plusTo a b) w hb (fun k => (plusTo_length a b k).trans ha) rfl (fun _ => rfl) rfl
set_option maxRecDepth 100000 in
set_option maxHeartbeats 1000000 in
theorem carried_over (n r : List Nat) (o : Nat) (S : Nat → List Nat) (O : Nat → Nat) (w : World) (HL : Hid (∀ k, (S k).length = 5)) (H0 : Hid (S 0 = n)) (HO : Hid (O 0 = 0)) (HS : Hid (∀ k, S (k + 1) = (S k).set k (addW ((S k).getD k 0) (O k) % 67108864))) (HT : Hid (∀ k, O (k + 1) = addW ((S k).getD k 0) (O k) / 67108864)) (HR : Hid (S 5 = r)) (HQ : Hid (O 5 = o)) :
    Calls Tryd.prog 45 #[numVal n] w fun e w' => e = .returned (.tuple #[numVal r, .int .u64 (o : Int)]) ∧ Below w.heap.size w w' := by
  go_enter Tryd.func45, Tryd.ntmps45
  go_wp2_with (first
    | (refine vtake_step rfl 61 (.tmp 0) rfl (n.map ncell) rfl ?_
       intro w1 hB1 hA1)
    | (refine vzero_step rfl 61 rfl (nzeros 5) zero_num ?_
       intro w3 hb3 hZ3
       have hB3 := below_then hB1 hb3
       have hA3 := hA1.on hb3
       have hg2 := hA1.lt
       clear hB1 hA1 hb3))
  generalize hh : w1.heap.size = gz at *
  clear hh
  go_loopw [4, 6] (fun v i wr => ∃ k : Nat, k ≤ 5 ∧ i = .int .i64 k ∧ v = .int .u64 (O k : Int) ∧ Below w.heap.size w wr ∧ Cells wr w.heap.size ((S k).map ncell) 61 ∧ Cells wr gz (nzeros 5) 61) (fun _ i _ => 5 - (intOf i).toNat)
  case atStart => exact ⟨0, Nat.zero_le _, rfl, by rw [HO.out]; rfl, hB3, by rw [H0.out]; exact hA3, hZ3⟩
  case round =>
    clear hB3 hA3 hZ3
    obtain ⟨k, hk, rfl, rfl, hB, hS, hZ⟩ := hrel
    have HLk := Lib.hid (HL.out k)
    by_cases hlt : k < 5
    · have HN := Lib.hid (HS.out k)
      have HM := Lib.hid (HT.out k)
      generalize O k = u at *
      generalize S k = s at *
      have i1 : (0 : Int) ≤ (k : Int) := by omega
      have i2 : (k : Int) < 5 := by omega
      have d1 := hS.get (nat_at s k (by rw [HLk.out]; exact hlt))
      have hT := hS.there k 1 (by rw [List.length_map, HLk.out]; omega)
      have HX := Lib.hid (addW_lt (s.getD k 0) u)
      have HE := Lib.hid (add64n (s.getD k 0) u)
      generalize s.getD k 0 = x at *
      generalize addW x u = y at *
      go_wp2_with (first
        | (rw [HE.out]
           refine store_step rfl 59 _ _ rfl w.heap.size k .u64 (y : Int) rfl rfl size_u64 hT ?_
           clear HE
           intro w4 hw4
           have hB4 : Below w.heap.size w w4 := by rw [hw4]; exact hB.setCell (p := ⟨w.heap.size, k, none⟩) (Nat.le_refl _) _
           have hS4 : Cells w4 w.heap.size ((s.set k y).map ncell) 61 := by rw [hw4, ← nset_map]; exact hS.set k _
           have hZ4 : Cells w4 gz (nzeros 5) 61 := by rw [hw4]; exact hZ.other (by show gz ≠ w.heap.size; omega) _
           have d4 := hS4.get (v := ncell y) (j := k) (by simp [HLk.out, hlt])
           have d5 := hS4.frozen k
           clear hw4 hB hS hZ d1 hT))
      go_roundw
      case rel =>
        rw [and26 y HX.out]
        refine ⟨k + 1, by omega, by go_num, by rw [HM.out, Int.natCast_ediv]; rfl, hB4.setCell (p := ⟨w.heap.size, k, none⟩) (Nat.le_refl _) _, ?_, hZ4.other (by show gz ≠ w.heap.size; omega) _⟩
        rw [HN.out]
        have h := hS4.set k (ncell (y % 67108864))
        rw [nset_map, List.set_set] at h
        exact h
      case measure => simp [intOf]; omega
    · obtain rfl : k = 5 := by omega
      rw [HR.out] at hS HLk
      rw [HQ.out]
      go_wp2_with (first
        | (refine vget_step rfl 61 _ rfl w.heap.size 5 (r.map ncell) 59 rfl hS Tryd.underlying61 size_num (by rw [List.length_map, HLk.out]) ?_)
        | (refine vset_step rfl 61 _ _ rfl gz 5 (nzeros 5) (r.map ncell) rfl rfl hZ rfl size_num (by rw [List.length_map, HLk.out]) (ncells_one r) ?_
           intro w7 hb7 hC7 _))
      refine vret2 Tryd.results45 gz (r.map ncell) (.int .u64 (o : Int)) rfl rfl hC7 Tryd.underlying61 size_num (by rw [List.length_map, HLk.out]) rfl ⟨rfl, hB.trans (hb7.below (by omega) hB.size)⟩
theorem carried_any (n : List Nat) (w : World) (hn : n.length = 5) :
    Calls Tryd.prog 45 #[numVal n] w fun e w' => e = .returned (.tuple #[numVal (carN n), .int .u64 (overN n : Int)]) ∧ Below w.heap.size w w' :=
  carried_over n _ _ (fun k => (carTo n k).1) (fun k => (carTo n k).2) w (fun k => (carTo_length n k).trans hn) rfl rfl (fun _ => rfl) (fun _ => rfl) rfl rfl
end Go.Proofs.YtdaieklimdhkoaaDoor
namespace Go.Proofs.YtdaieklimdhkoaaDoor
open Go.RowKit
theorem mul5 (o : Nat) : IntKind.u64.wrap (5 * (o : Int)) = ((mulW 5 o : Nat) : Int) := mul64n 5 o
theorem add5 (x : Nat) : IntKind.u64.wrap ((x : Int) + 5) = ((addW x 5 : Nat) : Int) := add64n x 5
set_option maxRecDepth 100000 in
set_option maxHeartbeats 1000000 in
theorem folded_over (n c r : List Nat) (o : Nat) (w : World) (HN : Hid (n.length = 5)) (HL : Hid (c.length = 5)) (HR : Hid (r = c.set 0 (addW (c.getD 0 0) (mulW 5 o))))
    (CC : Hid (∀ W, Calls Tryd.prog 45 #[numVal n] W fun e w' => e = .returned (.tuple #[numVal c, .int .u64 (o : Int)]) ∧ Below W.heap.size W w')) :
    Calls Tryd.prog 64 #[numVal n] w fun e w' => e = .returned (numVal r) ∧ Below w.heap.size w w' := by
  go_enter Tryd.func64, Tryd.ntmps64
  go_wp2_with (first
    | (refine vtake_step rfl 61 (.tmp 0) rfl (n.map ncell) rfl ?_
       intro w1 hB1 hA1)
    | (refine vzero_step rfl 61 rfl (nzeros 5) zero_num ?_
       intro w3 hb3 hZ3
       have hB3 := below_then hB1 hb3
       have hA3 := hA1.on hb3
       have hg2 := hA1.lt
       clear hB1 hA1 hb3)
    | (refine vget_step rfl 61 _ rfl w.heap.size 5 (n.map ncell) 59 rfl hA3 Tryd.underlying61 size_num (by rw [List.length_map, HN.out]) ?_))
  refine (CC.out w3).mono ?_
  rintro e w4 ⟨rfl, hb4⟩
  clear CC
  have hB4 := below_then hB3 hb4
  have hA4 := hA3.on hb4
  have hZ4 := hZ3.on hb4
  clear hB3 hA3 hZ3 hb4
  generalize hh : w1.heap.size = gz at *
  clear hh
  have HX := Lib.hid (nat_at c 0 (by rw [HL.out]; omega))
  have hE := Lib.hid (add64n (c.getD 0 0) (mulW 5 o))
  have HRL : Hid (r.length = 5) := by show _ = _; rw [HR.out, List.length_set, HL.out]
  generalize c.getD 0 0 = x at *
  go_wp2_with (first
    | (refine vset_step rfl 61 (.tmp 1) (.tmp 7) rfl w.heap.size 5 (n.map ncell) (c.map ncell) rfl rfl hA4 (by rw [List.length_map, HN.out]) size_num (by rw [List.length_map, HL.out]) (ncells_one c) ?_
       intro w5 hb5 hA5 _
       have hB5 := hB4.trans (hb5.below (Nat.le_refl _) hB4.size)
       have hZ5 := hZ4.but hb5 (Nat.ne_of_gt hg2)
       have d5 := hA5.get HX.out
       have hT := hA5.there 0 1 (by rw [List.length_map, HL.out]; omega)
       clear hB4 hA4 hZ4 hb5)
    | (rw [mul5, hE.out]
       refine store_step rfl 59 _ _ rfl w.heap.size 0 .u64 _ rfl rfl size_u64 hT ?_
       intro w6 hw6
       have hB6 : Below w.heap.size w w6 := by rw [hw6]; exact hB5.setCell (p := ⟨w.heap.size, 0, none⟩) (Nat.le_refl _) _
       have hA6 : Cells w6 w.heap.size (r.map ncell) 61 := by rw [hw6, HR.out, ← nset_map]; exact hA5.set 0 _
       have hZ6 : Cells w6 gz (nzeros 5) 61 := by rw [hw6]; exact hZ5.other (by show gz ≠ w.heap.size; omega) _
       clear hw6 hB5 hA5 hZ5 d5 hT)
    | (refine vget_step rfl 61 _ rfl w.heap.size 5 (r.map ncell) 59 rfl hA6 Tryd.underlying61 size_num (by rw [List.length_map, HRL.out]) ?_)
    | (refine vset_step rfl 61 _ _ rfl gz 5 (nzeros 5) (r.map ncell) rfl rfl hZ6 rfl size_num (by rw [List.length_map, HRL.out]) (ncells_one r) ?_
       intro w7 hb7 hC7 _))
  refine vret Tryd.results64 gz (r.map ncell) rfl hC7 Tryd.underlying61 size_num (by rw [List.length_map, HRL.out]) rfl ⟨rfl, hB6.trans (hb7.below (by omega) hB6.size)⟩
theorem folded_any (n : List Nat) (w : World) (hn : n.length = 5) :
    Calls Tryd.prog 64 #[numVal n] w fun e w' => e = .returned (numVal (foldN n)) ∧ Below w.heap.size w w' :=
  folded_over n (carN n) _ (overN n) w hn ((carN_length n).trans hn) rfl (fun W => carried_any n W hn)
set_option maxRecDepth 100000 in
set_option maxHeartbeats 1000000 in
theorem least_over (n m c l r : List Nat) (o q : Nat) (w : World) (HN : Hid (n.length = 5)) (HCL : Hid (c.length = 5)) (HRL : Hid (r.length = 5)) (HM : Hid (m = n.set 0 (addW (n.getD 0 0) 5))) (HE : Hid (l = n.set 0 (addW (n.getD 0 0) (mulW 5 o))))
    (CC : Hid (∀ W, Calls Tryd.prog 45 #[numVal m] W fun e w' => e = .returned (.tuple #[numVal c, .int .u64 (o : Int)]) ∧ Below W.heap.size W w'))
    (CD : Hid (∀ W, Calls Tryd.prog 45 #[numVal l] W fun e w' => e = .returned (.tuple #[numVal r, .int .u64 (q : Int)]) ∧ Below W.heap.size W w')) :
    Calls Tryd.prog 47 #[numVal n] w fun e w' => e = .returned (numVal r) ∧ Below w.heap.size w w' := by
  have HX := Lib.hid (nat_at n 0 (by rw [HN.out]; omega))
  have HE1 := Lib.hid (add64n (n.getD 0 0) (mulW 5 o))
  have HE2 := Lib.hid (add5 (n.getD 0 0))
  have HML : Hid (m.length = 5) := by show _ = _; rw [HM.out, List.length_set, HN.out]
  have HLL : Hid (l.length = 5) := by show _ = _; rw [HE.out, List.length_set, HN.out]
  generalize n.getD 0 0 = x at *
  go_enter Tryd.func47, Tryd.ntmps47
  go_wp2_with (first
    | (refine vtake_step rfl 61 (.tmp 0) rfl (n.map ncell) rfl ?_
       intro w1 hB1 hA1)
    | (refine vput_step rfl rfl 61 (.tmp 3) (.tmp 6) rfl rfl 5 (nzeros 5) (n.map ncell) rfl rfl zero_num rfl size_num (by rw [List.length_map, HN.out]) (ncells_one n) ?_
       intro w4 hb4 hM4
       have hB4 := below_then hB3 hb4
       have hA4 := hA3.on hb4
       have hZ4 := hZ3.on hb4
       have hg3 := hZ3.lt
       have d4 := hM4.get HX.out
       have hT := hM4.there 0 1 (by rw [List.length_map, HN.out]; omega)
       clear hB3 hA3 hZ3 hb4)
    | (refine vzero_step rfl 61 rfl (nzeros 5) zero_num ?_
       intro w3 hb3 hZ3
       have hB3 := below_then hB1 hb3
       have hA3 := hA1.on hb3
       have hg2 := hA1.lt
       clear hB1 hA1 hb3)
    | (refine vget_step rfl 61 _ rfl w.heap.size 5 (n.map ncell) 59 rfl hA3 Tryd.underlying61 size_num (by rw [List.length_map, HN.out]) ?_)
    | (rw [HE2.out]
       refine store_step rfl 59 _ _ rfl w3.heap.size 0 .u64 _ rfl rfl size_u64 hT ?_
       intro w5 hw5
       have hB5 : Below w.heap.size w w5 := by rw [hw5]; exact hB4.setCell (p := ⟨w3.heap.size, 0, none⟩) (by show w.heap.size ≤ w3.heap.size; omega) _
       have hA5 : Cells w5 w.heap.size (n.map ncell) 61 := by rw [hw5]; exact hA4.other (by show w.heap.size ≠ w3.heap.size; omega) _
       have hZ5 : Cells w5 w1.heap.size (nzeros 5) 61 := by rw [hw5]; exact hZ4.other (by show w1.heap.size ≠ w3.heap.size; omega) _
       have hM5 : Cells w5 w3.heap.size (m.map ncell) 61 := by rw [hw5, HM.out, ← nset_map]; exact hM4.set 0 _
       clear hw5 hB4 hA4 hZ4 hM4 d4 hT HE2)
    | (refine vget_step rfl 61 (.tmp 3) rfl w3.heap.size 5 (m.map ncell) 59 rfl hM5 Tryd.underlying61 size_num (by rw [List.length_map, HML.out]) ?_))
  refine (CC.out w5).mono ?_
  rintro e w6 ⟨rfl, hb6⟩
  clear CC hM5
  have hB6 := below_then hB5 hb6
  have hA6 := hA5.on hb6
  have hZ6 := hZ5.on hb6
  clear hB5 hA5 hZ5 hb6
  generalize hh : w1.heap.size = gz at *
  generalize hh3 : w3.heap.size = g3 at *
  clear hh hh3
  have d6 := hA6.get HX.out
  go_wp2_with (first
    | (refine vput_step rfl rfl 61 (.tmp 4) (.tmp 14) rfl rfl 5 (nzeros 5) (c.map ncell) rfl rfl zero_num rfl size_num (by rw [List.length_map, HCL.out]) (ncells_one c) ?_
       intro w7 hb7 hM7
       have hB7 := below_then hB6 hb7
       have hA7 := hA6.on hb7
       have hZ7 := hZ6.on hb7
       have d7 := hA7.get HX.out
       have hT := hA7.there 0 1 (by rw [List.length_map, HN.out]; omega)
       clear hB6 hA6 hZ6 hb7 hM7 d6)
    | (rw [mul5, HE1.out]
       refine store_step rfl 59 _ _ rfl w.heap.size 0 .u64 _ rfl rfl size_u64 hT ?_
       intro w8 hw8
       have hB8 : Below w.heap.size w w8 := by rw [hw8]; exact hB7.setCell (p := ⟨w.heap.size, 0, none⟩) (Nat.le_refl _) _
       have hA8 : Cells w8 w.heap.size (l.map ncell) 61 := by rw [hw8, HE.out, ← nset_map]; exact hA7.set 0 _
       have hZ8 : Cells w8 gz (nzeros 5) 61 := by rw [hw8]; exact hZ7.other (by show gz ≠ w.heap.size; omega) _
       clear hw8 hB7 hA7 hZ7 d7 hT)
    | (refine vget_step rfl 61 _ rfl w.heap.size 5 (l.map ncell) 59 rfl hA8 Tryd.underlying61 size_num (by rw [List.length_map, HLL.out]) ?_))
  refine (CD.out w8).mono ?_
  rintro e w9 ⟨rfl, hb9⟩
  clear CD
  have hB9 := below_then hB8 hb9
  have hA9 := hA8.on hb9
  have hZ9 := hZ8.on hb9
  clear hB8 hA8 hZ8 hb9
  generalize w6.heap.size = g6 at *
  go_wp2_with (first
    | (refine vset_step rfl 61 (.tmp 1) (.tmp 25) rfl w.heap.size 5 (l.map ncell) (r.map ncell) rfl rfl hA9 (by rw [List.length_map, HLL.out]) size_num (by rw [List.length_map, HRL.out]) (ncells_one r) ?_
       intro w10 hb10 hA10 _
       have hB10 := hB9.trans (hb10.below (Nat.le_refl _) hB9.size)
       have hZ10 := hZ9.but hb10 (Nat.ne_of_gt hg2)
       clear hB9 hA9 hZ9 hb10)
    | (refine vget_step rfl 61 _ rfl w.heap.size 5 (r.map ncell) 59 rfl hA10 Tryd.underlying61 size_num (by rw [List.length_map, HRL.out]) ?_)
    | (refine vset_step rfl 61 _ _ rfl gz 5 (nzeros 5) (r.map ncell) rfl rfl hZ10 rfl size_num (by rw [List.length_map, HRL.out]) (ncells_one r) ?_
       intro w11 hb11 hC11 _))
  refine vret Tryd.results47 gz (r.map ncell) rfl hC11 Tryd.underlying61 size_num (by rw [List.length_map, HRL.out]) rfl ⟨rfl, hB10.trans (hb11.below (by omega) hB10.size)⟩
theorem least_any (n : List Nat) (w : World) (hn : n.length = 5) :
    Calls Tryd.prog 47 #[numVal n] w fun e w' => e = .returned (numVal (leastN n)) ∧ Below w.heap.size w w' :=
  least_over n (moreN n) (carN (moreN n)) (lessN n) _ (overN (moreN n)) (overN (lessN n)) w hn (by show _ = _; rw [carN_length, moreN, List.length_set, hn]) ((leastN_length n).trans hn) rfl rfl (fun W => carried_any _ W (by rw [moreN, List.length_set, hn])) (fun W => carried_any _ W (by rw [lessN, List.length_set, hn]))
end Go.Proofs.YtdaieklimdhkoaaDoor
namespace Go.Proofs.YtdaieklimdhkoaaDoor
open Go.RowKit
set_option maxRecDepth 100000 in
set_option maxHeartbeats 1000000 in
theorem times_over (a b s f r : List Nat) (M : Nat → Nat → List Nat) (w : World) (HA : Hid (a.length = 5)) (HB : Hid (b.length = 5)) (HL : Hid (∀ i j, (M i j).length = 5)) (H0 : Hid (M 0 0 = [0, 0, 0, 0, 0])) (HT : Hid (∀ i, M (i + 1) 0 = M i 5))
    (HM : Hid (∀ i j, M i (j + 1) = (M i j).set ((i + j) % 5) (addW ((M i j).getD ((i + j) % 5) 0) (mulPart a b i j)))) (HS : Hid (M 5 0 = s)) (HRL : Hid (r.length = 5))
    (CF : Hid (∀ W, Calls Tryd.prog 64 #[numVal s] W fun e w' => e = .returned (numVal f) ∧ Below W.heap.size W w'))
    (CR : Hid (∀ W, Calls Tryd.prog 64 #[numVal f] W fun e w' => e = .returned (numVal r) ∧ Below W.heap.size W w')) :
    Calls Tryd.prog 58 #[numVal a, numVal b] w fun e w' => e = .returned (numVal r) ∧ Below w.heap.size w w' := by
  go_enter Tryd.func58, Tryd.ntmps58
  go_wp2_with (first
    | (refine vtake_step rfl 61 (.tmp 0) rfl (a.map ncell) rfl ?_
       intro w1 hB1 hA1)
    | (refine vtake_step rfl 61 (.tmp 1) rfl (b.map ncell) rfl ?_
       intro w2 hb2 hC2
       have hB2 := below_then hB1 hb2
       have hA2 := hA1.on hb2
       have hg1 := hA1.lt
       clear hB1 hA1 hb2)
    | (refine vzero_step (o := ⟨some 4, _, _, _, _, _⟩) rfl 61 rfl (nzeros 5) zero_num ?_
       intro w3 hb3 hZ3
       have hB3 := below_then hB2 hb3
       have hA3 := hA2.on hb3
       have hC3 := hC2.on hb3
       have hg2 := hC2.lt
       clear hB2 hA2 hC2 hb3)
    | (refine vzero_step (o := ⟨some 5, _, _, _, _, _⟩) rfl 61 rfl (nzeros 5) zero_num ?_
       intro w4 hb4 hS4
       have hB4 := below_then hB3 hb4
       have hA4 := hA3.on hb4
       have hC4 := hC3.on hb4
       have hZ4 := hZ3.on hb4
       have hg3 := hZ3.lt
       clear hB3 hA3 hC3 hZ3 hb4))
  generalize hg : w1.heap.size = gb at *
  generalize hh : w2.heap.size = gz at *
  generalize hh3 : w3.heap.size = gs at *
  clear hg hh hh3
  go_loopw [9] (fun i wr => ∃ k : Nat, k ≤ 5 ∧ i = .int .i64 k ∧ Below w.heap.size w wr ∧ Cells wr w.heap.size (a.map ncell) 61 ∧ Cells wr gb (b.map ncell) 61 ∧ Cells wr gz (nzeros 5) 61 ∧ Cells wr gs ((M k 0).map ncell) 61) (fun i _ => 5 - (intOf i).toNat)
  case atStart => exact ⟨0, Nat.zero_le _, rfl, hB4, hA4, hC4, hZ4, by rw [H0.out]; exact hS4⟩
  case round =>
    clear hB4 hA4 hC4 hZ4 hS4
    obtain ⟨k, hk, rfl, hB, hA, hC, hZ, hS⟩ := hrel
    by_cases hlt : k < 5
    · go_wp2_with fail
      rw [show decide ((k : Int) < 5) = true by simp; omega]
      go_loopw [12] (fun i wr => ∃ j : Nat, j ≤ 5 ∧ i = .int .i64 j ∧ Below w.heap.size w wr ∧ Cells wr w.heap.size (a.map ncell) 61 ∧ Cells wr gb (b.map ncell) 61 ∧ Cells wr gz (nzeros 5) 61 ∧ Cells wr gs ((M k j).map ncell) 61) (fun i _ => 5 - (intOf i).toNat)
      case atStart => exact ⟨0, Nat.zero_le _, rfl, hB, hA, hC, hZ, hS⟩
      case round =>
        clear hB hA hC hZ hS
        obtain ⟨j, hj, rfl, hB, hA, hC, hZ, hS⟩ := hrel
        by_cases hjl : j < 5
        · have HLk := Lib.hid (HL.out k j)
          have HN := Lib.hid (HM.out k j)
          have hq := Nat.mod_lt (k + j) (show 5 > 0 by omega)
          generalize M k j = t at *
          have i1 : (0 : Int) ≤ (k : Int) := by omega
          have i2 : (k : Int) < 5 := by omega
          have i3 : (0 : Int) ≤ (j : Int) := by omega
          have i4 : (j : Int) < 5 := by omega
          go_wp2_with fail
          refine wp_region_tail 7 (by kernel_rfl) (by kernel_rfl) ?_
          intro w5 hw5
          have hB5 : Below w.heap.size w w5 := by rw [hw5]; exact hB.drew
          have hA5 : Cells w5 w.heap.size (a.map ncell) 61 := by rw [hw5]; exact hA
          have hC5 : Cells w5 gb (b.map ncell) 61 := by rw [hw5]; exact hC
          have hZ5 : Cells w5 gz (nzeros 5) 61 := by rw [hw5]; exact hZ
          have hS5 : Cells w5 gs (t.map ncell) 61 := by rw [hw5]; exact hS
          clear hw5 hB hA hC hZ hS
          have d1 := hA5.get (nat_at a k (by rw [HA.out]; exact hlt))
          have d2 := hC5.get (nat_at b j (by rw [HB.out]; exact hjl))
          have d3 := hS5.get (nat_at t ((k + j) % 5) (by rw [HLk.out]; exact hq))
          have d4 := hS5.frozen ((k + j) % 5)
          have HP : Hid (mulPart a b k j = if 5 ≤ k + j then mulW (mulW (a.getD k 0) (b.getD j 0)) 5 else mulW (a.getD k 0) (b.getD j 0)) := rfl
          have HW := Lib.hid (mul64n (a.getD k 0) (b.getD j 0))
          generalize a.getD k 0 = x at *
          generalize b.getD j 0 = y at *
          generalize t.getD ((k + j) % 5) 0 = z at *
          simp only [List.take_succ_cons, List.take_zero, List.drop_succ_cons, List.drop_zero]
          repeat still_step
          refine wpStill_nil ?_
          by_cases hge : 5 ≤ k + j
          · have hge2 : (5 : Int) ≤ (k : Int) + (j : Int) := by omega
            have HX : Hid (IntKind.u64.wrap (IntKind.u64.wrap ((x : Int) * (y : Int)) * 5) = ((mulPart a b k j : Nat) : Int)) := by
              show _ = _
              rw [HP.out, if_pos hge, HW.out, show (5 : Int) = ((5 : Nat) : Int) from rfl, mul64n]
            clear HP HW
            generalize mulPart a b k j = p at *
            go_wp2_with fail
            go_roundw
            case rel =>
              rw [HX.out, add64n]
              refine ⟨j + 1, by omega, by go_num, hB5.setCell (p := ⟨gs, (k + j) % 5, none⟩) (by show w.heap.size ≤ gs; omega) _, hA5.other (by show w.heap.size ≠ gs; omega) _, hC5.other (by show gb ≠ gs; omega) _, hZ5.other (by show gz ≠ gs; omega) _, ?_⟩
              rw [HN.out, ← nset_map]
              exact hS5.set _ _
            case measure => simp [intOf]; omega
          · have hge2 : ¬ (5 : Int) ≤ (k : Int) + (j : Int) := by omega
            have HX : Hid (IntKind.u64.wrap ((x : Int) * (y : Int)) = ((mulPart a b k j : Nat) : Int)) := by
              show _ = _
              rw [HP.out, if_neg hge, HW.out]
            clear HP HW
            generalize mulPart a b k j = p at *
            go_wp2_with fail
            go_roundw
            case rel =>
              rw [HX.out, add64n]
              refine ⟨j + 1, by omega, by go_num, hB5.setCell (p := ⟨gs, (k + j) % 5, none⟩) (by show w.heap.size ≤ gs; omega) _, hA5.other (by show w.heap.size ≠ gs; omega) _, hC5.other (by show gb ≠ gs; omega) _, hZ5.other (by show gz ≠ gs; omega) _, ?_⟩
              rw [HN.out, ← nset_map]
              exact hS5.set _ _
            case measure => simp [intOf]; omega
        · obtain rfl : j = 5 := by omega
          go_wp2_with fail
          go_roundw
          case rel => exact ⟨k + 1, by omega, by go_num, hB, hA, hC, hZ, by rw [HT.out]; exact hS⟩
          case measure => simp [intOf]; omega
    · obtain rfl : k = 5 := by omega
      have HSL := Lib.hid (HL.out 5 0)
      rw [HS.out] at hS HSL
      clear HM HT H0 HL HS
      go_wp2_with (first
        | (refine vget_step rfl 61 _ rfl gs 5 (s.map ncell) 59 rfl hS Tryd.underlying61 size_num (by rw [List.length_map, HSL.out]) ?_))
      refine (CF.out wr).mono ?_
      rintro e w6 ⟨rfl, hb6⟩
      have hB6 := below_then hB hb6
      have hZ6 := hZ.on hb6
      clear CF hB hA hC hZ hS hb6
      go_wp2_with fail
      refine (CR.out w6).mono ?_
      rintro e w7 ⟨rfl, hb7⟩
      have hB7 := below_then hB6 hb7
      have hZ7 := hZ6.on hb7
      clear CR hB6 hZ6 hb7
      go_wp2_with (first
        | (refine vset_step rfl 61 _ _ rfl gz 5 (nzeros 5) (r.map ncell) rfl rfl hZ7 rfl size_num (by rw [List.length_map, HRL.out]) (ncells_one r) ?_
           intro w8 hb8 hC8 _))
      refine vret Tryd.results58 gz (r.map ncell) rfl hC8 Tryd.underlying61 size_num (by rw [List.length_map, HRL.out]) rfl ⟨rfl, hB7.trans (hb8.below (by omega) hB7.size)⟩
theorem times_any (a b : List Nat) (w : World) (ha : a.length = 5) (hb : b.length = 5) :
    Calls Tryd.prog 58 #[numVal a, numVal b] w fun e w' => e = .returned (numVal (timesN a b)) ∧ Below w.heap.size w w' :=
  times_over a b (mulTo a b 5) (foldN (mulTo a b 5)) _ (fun i j => mulRow a b i (mulTo a b i) j) w ha hb (fun i j => (mulRow_length a b i _ j).trans (mulTo_length a b i)) rfl (fun _ => rfl) (fun _ _ => rfl) rfl (timesN_length a b) (fun W => folded_any _ W (mulTo_length a b 5)) (fun W => folded_any _ W (by rw [foldN_length, mulTo_length]))
end Go.Proofs.YtdaieklimdhkoaaDoor
