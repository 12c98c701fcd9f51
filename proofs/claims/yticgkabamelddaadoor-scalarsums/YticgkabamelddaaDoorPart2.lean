/- Part 2 of what the laws of this seat share: PMath2, OMath, OMath2, NPrime. -/
import Derived.Test.YticgkabamelddaaDoorPart1
namespace Go.Proofs.YticgkabamelddaaDoor
open Go.RowKit
/-- The number of a row of bytes, the low one first. -/
def lev (bs : List UInt8) : Nat := dval (bs.map (·.toNat))
theorem lev_digits (bs : List UInt8) : ∀ x ∈ bs.map (·.toNat), x < 256 := by
  intro x hx
  obtain ⟨u, _, rfl⟩ := List.mem_map.1 hx
  exact u.toNat_lt
theorem lev_lt (bs : List UInt8) : lev bs < 256 ^ bs.length := by
  have h := dval_lt _ (lev_digits bs)
  rwa [List.length_map] at h
theorem lev_append (a b : List UInt8) : lev (a ++ b) = lev a + 256 ^ a.length * lev b := by
  unfold lev
  rw [List.map_append, dval_append, List.length_map]
/-- A row of bytes as digits, its noughts at the high end struck. -/
theorem lev_digs (bs : List UInt8) : dtrim (bs.map (·.toNat)) = digs (lev bs) := dtrim_digs _ (lev_digits bs)
/-- The key's first half, clamped. -/
def polyClamp (k : List UInt8) : List UInt8 := [4, 8, 12].foldl (fun k i => k.set i (k.getD i 0 / 4 * 4)) ([3, 7, 11, 15].foldl (fun k i => k.set i (k.getD i 0 % 16)) k)
theorem polyClamp_length (k : List UInt8) : (polyClamp k).length = k.length := by simp [polyClamp]
def polyR (key : List UInt8) : Nat := lev (polyClamp (key.take 16))
def polyS (key : List UInt8) : Nat := lev (key.drop 16)
/-- The number behind n blocks. -/
def polyH (r : Nat) (bs : List UInt8) : Nat → Nat
  | 0 => 0
  | n + 1 => (polyH r bs n + lev ((bs.drop (16 * n)).take 16 ++ [1])) * r % polyP
theorem polyH_lt (r : Nat) (bs : List UInt8) (n : Nat) : polyH r bs n < polyP := by
  cases n with
  | zero => show 0 < polyP; decide
  | succ n => exact Nat.mod_lt _ (by decide)
/-- The code. -/
def polySum (key bs : List UInt8) : List UInt8 := putL (polyH (polyR key) bs ((bs.length + 15) / 16) + polyS key) 16
theorem polySum_length (key bs : List UInt8) : (polySum key bs).length = 16 := putL_length _ _
/-- A number's k low bytes are that number, modulo 256^k. -/
theorem lev_putL (x : Nat) : ∀ k, lev (putL x k) = x % 256 ^ k
  | 0 => by rw [Nat.pow_zero, Nat.mod_one]; rfl
  | k + 1 => by
    rw [putL_succ, lev_append, lev_putL x k, putL_length]
    have e : lev [byteAt x k] = x / 256 ^ k % 256 := by
      simp [lev, dval, byteAt]
    rw [e, Nat.pow_succ, Nat.mod_mul]
theorem dval_take_mod (a : List Nat) (h : ∀ x ∈ a, x < 256) (k : Nat) (hk : k ≤ a.length) : dval (a.take k) = dval a % 256 ^ k := by
  have e : dval a = dval (a.take k) + 256 ^ k * dval (a.drop k) := by
    conv => lhs; rw [← List.take_append_drop k a]
    rw [dval_append, List.length_take, Nat.min_eq_left hk]
  have h1 := dval_lt (a.take k) (fun x hx => h x (List.mem_of_mem_take hx))
  rw [List.length_take, Nat.min_eq_left hk] at h1
  rw [e, Nat.add_mul_mod_self_left, Nat.mod_eq_of_lt h1]
/- Two rows added digit by digit, with what is carried. -/
theorem carry_step (a b : List Nat) (i : Nat) (ha : i < a.length) (hb : i < b.length) : (dval (a.take i) + dval (b.take i)) / 256 ^ i + (a[i] + b[i]) = (dval (a.take (i + 1)) + dval (b.take (i + 1))) / 256 ^ i := by
  rw [dval_take a i ha, dval_take b i hb]
  have e : dval (a.take i) + 256 ^ i * a[i] + (dval (b.take i) + 256 ^ i * b[i]) = dval (a.take i) + dval (b.take i) + 256 ^ i * (a[i] + b[i]) := by
    rw [Nat.mul_add]; omega
  rw [e, Nat.add_mul_div_left _ _ (Nat.pow_pos (by omega))]
theorem carry_next (n i : Nat) : n / 256 ^ i / 256 = n / 256 ^ (i + 1) := by rw [Nat.div_div_eq_div_mul, Nat.pow_succ]
/-- The digit that comes out is the sum's own. -/
theorem carry_digit (a b : List Nat) (i : Nat) (ha : i < a.length) (hb : i < b.length) (la : ∀ x ∈ a, x < 256) (lb : ∀ x ∈ b, x < 256) : (dval (a.take (i + 1)) + dval (b.take (i + 1))) / 256 ^ i % 256 = (dval a + dval b) / 256 ^ i % 256 := by
  rw [dval_take_mod a la (i + 1) ha, dval_take_mod b lb (i + 1) hb]
  have key : ∀ u v : Nat, (u % 256 ^ (i + 1) + v % 256 ^ (i + 1)) / 256 ^ i % 256 = (u + v) / 256 ^ i % 256 := by
    intro u v
    have hm : ∀ z : Nat, z / 256 ^ i % 256 = z % 256 ^ (i + 1) / 256 ^ i := by
      intro z
      rw [Nat.pow_succ, Nat.mod_mul_right_div_self]
    rw [hm, hm, ← Nat.add_mod]
  exact key _ _
/-- Sums that are the same modulo 256^n have the same lower n digits. -/
theorem digit_same (u v n i : Nat) (hi : i < n) (h : u % 256 ^ n = v % 256 ^ n) : u / 256 ^ i % 256 = v / 256 ^ i % 256 := by
  have hm : ∀ z : Nat, z / 256 ^ i % 256 = z % 256 ^ n / 256 ^ i % 256 := by
    intro z
    obtain ⟨d, rfl⟩ : ∃ d, n = i + (d + 1) := ⟨n - i - 1, by omega⟩
    rw [Nat.pow_add, Nat.mod_mul_right_div_self, Nat.pow_succ, Nat.mod_mul_left_mod]
  rw [hm u, hm v, h]
/-- By another end of the key the codes are apart by as much as the ends are. -/
theorem polySum_apart (a b bs : List UInt8) (h : polyR a = polyR b) : (lev (polySum a bs) + polyS b) % 256 ^ 16 = (lev (polySum b bs) + polyS a) % 256 ^ 16 := by
  unfold polySum
  rw [lev_putL, lev_putL, h, Nat.mod_add_mod, Nat.mod_add_mod]
  congr 1
  omega
end Go.Proofs.YticgkabamelddaaDoor
namespace Go.Proofs.YticgkabamelddaaDoor
open Go.RowKit
/-- The number of a row of limbs (which may be 2^26 and above). -/
def lval : List Nat → Nat
  | [] => 0
  | x :: l => x + 67108864 * lval l
theorem lval_five (a b c d e : Nat) : lval [a, b, c, d, e] = a + 67108864 * (b + 67108864 * (c + 67108864 * (d + 67108864 * (e + 67108864 * 0)))) := rfl
/-- A number's five limbs. -/
def limbsOf (x : Nat) : List Nat := [x % 67108864, x / 67108864 % 67108864, x / 4503599627370496 % 67108864, x / 302231454903657293676544 % 67108864, x / 20282409603651670423947251286016 % 67108864]
theorem limbsOf_length (x : Nat) : (limbsOf x).length = 5 := rfl
theorem lval_limbsOf (x : Nat) (h : x < 1361129467683753853853498429727072845824) : lval (limbsOf x) = x := by
  rw [limbsOf, lval_five]
  omega
theorem five_of {α : Type} (n : List α) (h : n.length = 5) : ∃ a b c d e, n = [a, b, c, d, e] := by
  match n, h with
  | [a, b, c, d, e], _ => exact ⟨a, b, c, d, e, rfl⟩
/-- Sums and products of words of 64 bits. -/
def addW (x y : Nat) : Nat := (x + y) % 18446744073709551616
def mulW (x y : Nat) : Nat := (x * y) % 18446744073709551616
theorem addW_in (x y : Nat) (h : x + y < 18446744073709551616) : addW x y = x + y := Nat.mod_eq_of_lt h
theorem mulW_in (x y : Nat) (h : x * y < 18446744073709551616) : mulW x y = x * y := Nat.mod_eq_of_lt h
theorem mulW_lt (x y a b : Nat) (hx : x < a) (hy : y < b) (h : a * b ≤ 18446744073709551616) : mulW x y = x * y := by
  refine mulW_in _ _ (Nat.lt_of_lt_of_le ?_ h)
  rcases Nat.eq_zero_or_pos y with rfl | hp
  · exact Nat.mul_pos (by omega) (by omega)
  · exact Nat.mul_lt_mul'' hx hy
/-- Two numbers, limb by limb. -/
def plusTo (a b : List Nat) : Nat → List Nat
  | 0 => a
  | k + 1 => (plusTo a b k).set k (addW ((plusTo a b k).getD k 0) (b.getD k 0))
theorem plusTo_length (a b : List Nat) : ∀ k, (plusTo a b k).length = a.length
  | 0 => rfl
  | k + 1 => by rw [plusTo, List.length_set, plusTo_length]
def plusN (a b : List Nat) : List Nat := plusTo a b 5
theorem plusN_length (a b : List Nat) : (plusN a b).length = a.length := plusTo_length a b 5
/-- Carries. -/
def carTo (n : List Nat) : Nat → List Nat × Nat
  | 0 => (n, 0)
  | k + 1 => ((carTo n k).1.set k (addW ((carTo n k).1.getD k 0) (carTo n k).2 % 67108864), addW ((carTo n k).1.getD k 0) (carTo n k).2 / 67108864)
theorem carTo_length (n : List Nat) : ∀ k, (carTo n k).1.length = n.length
  | 0 => rfl
  | k + 1 => by rw [carTo, List.length_set, carTo_length]
def carN (n : List Nat) : List Nat := (carTo n 5).1
def overN (n : List Nat) : Nat := (carTo n 5).2
theorem carN_length (n : List Nat) : (carN n).length = n.length := carTo_length n 5
def foldN (n : List Nat) : List Nat := (carN n).set 0 (addW ((carN n).getD 0 0) (mulW 5 (overN n)))
theorem foldN_length (n : List Nat) : (foldN n).length = n.length := by rw [foldN, List.length_set, carN_length]
def moreN (n : List Nat) : List Nat := n.set 0 (addW (n.getD 0 0) 5)
def lessN (n : List Nat) : List Nat := n.set 0 (addW (n.getD 0 0) (mulW 5 (overN (moreN n))))
def leastN (n : List Nat) : List Nat := carN (lessN n)
theorem leastN_length (n : List Nat) : (leastN n).length = n.length := by rw [leastN, carN_length, lessN, List.length_set]
/-- Products, limb by limb: i and j. -/
def mulPart (a b : List Nat) (i j : Nat) : Nat := if 5 ≤ i + j then mulW (mulW (a.getD i 0) (b.getD j 0)) 5 else mulW (a.getD i 0) (b.getD j 0)
def mulRow (a b : List Nat) (i : Nat) (s : List Nat) : Nat → List Nat
  | 0 => s
  | j + 1 => (mulRow a b i s j).set ((i + j) % 5) (addW ((mulRow a b i s j).getD ((i + j) % 5) 0) (mulPart a b i j))
theorem mulRow_length (a b : List Nat) (i : Nat) (s : List Nat) : ∀ j, (mulRow a b i s j).length = s.length
  | 0 => rfl
  | j + 1 => by rw [mulRow, List.length_set, mulRow_length]
def mulTo (a b : List Nat) : Nat → List Nat
  | 0 => [0, 0, 0, 0, 0]
  | i + 1 => mulRow a b i (mulTo a b i) 5
theorem mulTo_length (a b : List Nat) : ∀ i, (mulTo a b i).length = 5
  | 0 => rfl
  | i + 1 => by rw [mulTo, mulRow_length, mulTo_length]
def timesN (a b : List Nat) : List Nat := foldN (foldN (mulTo a b 5))
theorem timesN_length (a b : List Nat) : (timesN a b).length = 5 := by rw [timesN, foldN_length, foldN_length, mulTo_length]
/-- Limbs below their bound. -/
def Below5 (B : Nat) (n : List Nat) : Prop := ∀ x ∈ n, x < B
theorem below5_five (B a b c d e : Nat) : Below5 B [a, b, c, d, e] ↔ a < B ∧ b < B ∧ c < B ∧ d < B ∧ e < B := by
  simp [Below5]
theorem limbsOf_below (x : Nat) : Below5 67108864 (limbsOf x) := by
  rw [limbsOf, below5_five]; omega
theorem plusN_val (a b : List Nat) (ha : a.length = 5) (hb : b.length = 5) (A B : Nat) (hA : Below5 A a) (hB : Below5 B b) (h : A + B ≤ 18446744073709551616) : lval (plusN a b) = lval a + lval b ∧ Below5 (A + B) (plusN a b) := by
  obtain ⟨a0, a1, a2, a3, a4, rfl⟩ := five_of a ha
  obtain ⟨b0, b1, b2, b3, b4, rfl⟩ := five_of b hb
  rw [below5_five] at hA hB
  have e : plusN [a0, a1, a2, a3, a4] [b0, b1, b2, b3, b4] = [addW a0 b0, addW a1 b1, addW a2 b2, addW a3 b3, addW a4 b4] := rfl
  rw [e, addW_in _ _ (by omega), addW_in _ _ (by omega), addW_in _ _ (by omega), addW_in _ _ (by omega), addW_in _ _ (by omega), lval_five, lval_five, lval_five, below5_five]
  omega
theorem car_five (a b c d e : Nat) : carTo [a, b, c, d, e] 5 = ([addW a 0 % 67108864, addW b (addW a 0 / 67108864) % 67108864, addW c (addW b (addW a 0 / 67108864) / 67108864) % 67108864, addW d (addW c (addW b (addW a 0 / 67108864) / 67108864) / 67108864) % 67108864, addW e (addW d (addW c (addW b (addW a 0 / 67108864) / 67108864) / 67108864) / 67108864) % 67108864],
    addW e (addW d (addW c (addW b (addW a 0 / 67108864) / 67108864) / 67108864) / 67108864) / 67108864) := rfl
theorem carN_val (n : List Nat) (hn : n.length = 5) (h : Below5 9223372036854775808 n) : lval (carN n) + 1361129467683753853853498429727072845824 * overN n = lval n ∧ Below5 67108864 (carN n) := by
  obtain ⟨a, b, c, d, e, rfl⟩ := five_of n hn
  rw [below5_five] at h
  unfold carN overN
  rw [car_five, addW_in a 0 (by omega), addW_in b _ (by omega), addW_in c _ (by omega), addW_in d _ (by omega), addW_in e _ (by omega)]
  simp only [lval_five, below5_five]
  generalize h1 : (a + 0) / 67108864 = x1
  generalize h2 : (b + x1) / 67108864 = x2
  generalize h3 : (c + x2) / 67108864 = x3
  generalize h4 : (d + x3) / 67108864 = x4
  omega
theorem lval_lt (n : List Nat) (hn : n.length = 5) (h : Below5 67108864 n) : lval n < 1361129467683753853853498429727072845824 := by
  obtain ⟨a, b, c, d, e, rfl⟩ := five_of n hn
  rw [below5_five] at h
  rw [lval_five]
  omega
theorem overN_eq (n : List Nat) (hn : n.length = 5) (h : Below5 9223372036854775808 n) : overN n = lval n / 1361129467683753853853498429727072845824 ∧ lval (carN n) = lval n % 1361129467683753853853498429727072845824 := by
  have h1 := carN_val n hn h
  have h2 := lval_lt (carN n) (by rw [carN_length, hn]) h1.2
  omega
theorem lval_set0 (n : List Nat) (hn : n.length = 5) (y : Nat) (h : n.getD 0 0 + y < 18446744073709551616) : lval (n.set 0 (addW (n.getD 0 0) y)) = lval n + y := by
  obtain ⟨a, b, c, d, e, rfl⟩ := five_of n hn
  have h' : a + y < 18446744073709551616 := h
  show lval [addW a y, b, c, d, e] = _
  rw [addW_in _ _ h', lval_five, lval_five]
  omega
theorem polyP_is : polyP = 1361129467683753853853498429727072845819 := rfl
theorem getD_below {B : Nat} {n : List Nat} (h : Below5 B n) (hB : 0 < B) (i : Nat) : n.getD i 0 < B := by
  rw [List.getD_eq_getElem?_getD]
  cases hi : n[i]? with
  | none => simpa using hB
  | some x => exact h x (List.mem_of_getElem? hi)
theorem foldN_mod (n : List Nat) (hn : n.length = 5) (h : Below5 9223372036854775808 n) : lval (foldN n) % polyP = lval n % polyP := by
  have h1 := carN_val n hn h
  have h2 := overN_eq n hn h
  have h3 := getD_below h1.2 (by omega) 0
  have hl : lval n < 9223372036854775808 * 20282409905883129831204239441921 := by
    obtain ⟨a, b, c, d, e, rfl⟩ := five_of n hn
    rw [below5_five] at h
    rw [lval_five]
    omega
  have ho : overN n < 274877906944 := by omega
  unfold foldN
  rw [mulW_in 5 _ (by omega), lval_set0 _ (by rw [carN_length, hn]) _ (by omega), polyP_is]
  omega
/-- Behind two folds the limbs have no more than their bits, but for the first, which is at most 5 beyond them. -/
def Fine (n : List Nat) : Prop := n.length = 5 ∧ n.getD 0 0 < 67108869 ∧ ∀ i, 0 < i → n.getD i 0 < 67108864
theorem fine_five (a b c d e : Nat) (h : Fine [a, b, c, d, e]) : a < 67108869 ∧ b < 67108864 ∧ c < 67108864 ∧ d < 67108864 ∧ e < 67108864 := by
  obtain ⟨_, h0, h1⟩ := h
  exact ⟨h0, h1 1 (by omega), h1 2 (by omega), h1 3 (by omega), h1 4 (by omega)⟩
theorem fine_mk (a b c d e : Nat) (h : a < 67108869 ∧ b < 67108864 ∧ c < 67108864 ∧ d < 67108864 ∧ e < 67108864) : Fine [a, b, c, d, e] := by
  refine ⟨rfl, h.1, fun i hi => ?_⟩
  match i, hi with
  | 1, _ => exact h.2.1
  | 2, _ => exact h.2.2.1
  | 3, _ => exact h.2.2.2.1
  | 4, _ => exact h.2.2.2.2
  | i + 5, _ => show (0 : Nat) < _; omega
theorem Fine.below {n : List Nat} (h : Fine n) : Below5 67108869 n := by
  obtain ⟨a, b, c, d, e, rfl⟩ := five_of n h.1
  have := fine_five _ _ _ _ _ h
  rw [below5_five]
  omega
theorem fine_zero : Fine [0, 0, 0, 0, 0] := fine_mk _ _ _ _ _ (by omega)
theorem foldN_fine (n : List Nat) (hn : n.length = 5) (h : Below5 1152921504606846976 n) : Fine (foldN (foldN n)) := by
  have hb : Below5 9223372036854775808 n := fun x hx => by have := h x hx; omega
  have h1 := carN_val n hn hb
  have h2 := overN_eq n hn hb
  have hl : lval n < 1152921504606846976 * 20282409905883129831204239441921 := by
    obtain ⟨a, b, c, d, e, rfl⟩ := five_of n hn
    rw [below5_five] at h
    rw [lval_five]
    omega
  have ho : overN n < 34359738368 := by omega
  obtain ⟨a, b, c, d, e, hc⟩ := five_of (carN n) (by rw [carN_length, hn])
  have hc2 := h1.2
  rw [hc, below5_five] at hc2
  have e1 : foldN n = [a + 5 * overN n, b, c, d, e] := by
    unfold foldN
    rw [hc]
    show [addW a (mulW 5 (overN n)), b, c, d, e] = _
    rw [mulW_in 5 _ (by omega), addW_in _ _ (by omega)]
  rw [e1]
  generalize overN n = o at *
  have hb2 : Below5 9223372036854775808 [a + 5 * o, b, c, d, e] := by rw [below5_five]; omega
  have h3 := carN_val _ rfl hb2
  have h4 := overN_eq _ rfl hb2
  rw [lval_five] at h4
  have ho2 : overN [a + 5 * o, b, c, d, e] < 2 := by omega
  obtain ⟨a', b', c', d', e', hc'⟩ := five_of (carN [a + 5 * o, b, c, d, e]) (by rw [carN_length]; rfl)
  have hc3 := h3.2
  rw [hc', below5_five] at hc3
  unfold foldN
  rw [hc']
  show Fine [addW a' (mulW 5 (overN [a + 5 * o, b, c, d, e])), b', c', d', e']
  rw [mulW_in 5 _ (by omega), addW_in _ _ (by omega)]
  exact fine_mk _ _ _ _ _ (by omega)
theorem mulRow_0 (a0 a1 a2 a3 a4 b0 b1 b2 b3 b4 s0 s1 s2 s3 s4 : Nat) : mulRow [a0, a1, a2, a3, a4] [b0, b1, b2, b3, b4] 0 [s0, s1, s2, s3, s4] 5 = [addW s0 (mulW a0 b0), addW s1 (mulW a0 b1), addW s2 (mulW a0 b2), addW s3 (mulW a0 b3), addW s4 (mulW a0 b4)] := rfl
theorem mulRow_1 (a0 a1 a2 a3 a4 b0 b1 b2 b3 b4 s0 s1 s2 s3 s4 : Nat) : mulRow [a0, a1, a2, a3, a4] [b0, b1, b2, b3, b4] 1 [s0, s1, s2, s3, s4] 5 = [addW s0 (mulW (mulW a1 b4) 5), addW s1 (mulW a1 b0), addW s2 (mulW a1 b1), addW s3 (mulW a1 b2), addW s4 (mulW a1 b3)] := rfl
theorem mulRow_2 (a0 a1 a2 a3 a4 b0 b1 b2 b3 b4 s0 s1 s2 s3 s4 : Nat) : mulRow [a0, a1, a2, a3, a4] [b0, b1, b2, b3, b4] 2 [s0, s1, s2, s3, s4] 5 = [addW s0 (mulW (mulW a2 b3) 5), addW s1 (mulW (mulW a2 b4) 5), addW s2 (mulW a2 b0), addW s3 (mulW a2 b1), addW s4 (mulW a2 b2)] := rfl
theorem mulRow_3 (a0 a1 a2 a3 a4 b0 b1 b2 b3 b4 s0 s1 s2 s3 s4 : Nat) : mulRow [a0, a1, a2, a3, a4] [b0, b1, b2, b3, b4] 3 [s0, s1, s2, s3, s4] 5 = [addW s0 (mulW (mulW a3 b2) 5), addW s1 (mulW (mulW a3 b3) 5), addW s2 (mulW (mulW a3 b4) 5), addW s3 (mulW a3 b0), addW s4 (mulW a3 b1)] := rfl
theorem mulRow_4 (a0 a1 a2 a3 a4 b0 b1 b2 b3 b4 s0 s1 s2 s3 s4 : Nat) : mulRow [a0, a1, a2, a3, a4] [b0, b1, b2, b3, b4] 4 [s0, s1, s2, s3, s4] 5 = [addW s0 (mulW (mulW a4 b1) 5), addW s1 (mulW (mulW a4 b2) 5), addW s2 (mulW (mulW a4 b3) 5), addW s3 (mulW (mulW a4 b4) 5), addW s4 (mulW a4 b0)] := rfl
theorem mul_small (x y : Nat) (hx : x < 268435456) (hy : y < 67108864) : x * y < 18014398509481984 := by
  rcases Nat.eq_zero_or_pos y with rfl | hp
  · omega
  · exact Nat.mul_lt_mul'' hx hy
theorem mulW_one (x y : Nat) (hx : x < 268435456) (hy : y < 67108864) : mulW x y = x * y := mulW_in _ _ (by have := mul_small x y hx hy; omega)
theorem mulW_five (x y : Nat) (hx : x < 268435456) (hy : y < 67108864) : mulW (mulW x y) 5 = x * y * 5 := by
  rw [mulW_one x y hx hy]
  exact mulW_in _ _ (by have := mul_small x y hx hy; omega)
theorem addW_col (x0 x1 x2 x3 x4 : Nat) (h : x0 + x1 + x2 + x3 + x4 < 18446744073709551616) : addW (addW (addW (addW (addW 0 x0) x1) x2) x3) x4 = x0 + x1 + x2 + x3 + x4 := by
  rw [addW_in 0 x0 (by omega), Nat.zero_add, addW_in x0 x1 (by omega), addW_in _ x2 (by omega), addW_in _ x3 (by omega), addW_in _ x4 (by omega)]
theorem mulTo_all (a0 a1 a2 a3 a4 b0 b1 b2 b3 b4 : Nat) : mulTo [a0, a1, a2, a3, a4] [b0, b1, b2, b3, b4] 5 = [addW (addW (addW (addW (addW 0 (mulW a0 b0)) (mulW (mulW a1 b4) 5)) (mulW (mulW a2 b3) 5)) (mulW (mulW a3 b2) 5)) (mulW (mulW a4 b1) 5), addW (addW (addW (addW (addW 0 (mulW a0 b1)) (mulW a1 b0)) (mulW (mulW a2 b4) 5)) (mulW (mulW a3 b3) 5)) (mulW (mulW a4 b2) 5), addW (addW (addW (addW (addW 0 (mulW a0 b2)) (mulW a1 b1)) (mulW a2 b0)) (mulW (mulW a3 b4) 5)) (mulW (mulW a4 b3) 5), addW (addW (addW (addW (addW 0 (mulW a0 b3)) (mulW a1 b2)) (mulW a2 b1)) (mulW a3 b0)) (mulW (mulW a4 b4) 5), addW (addW (addW (addW (addW 0 (mulW a0 b4)) (mulW a1 b3)) (mulW a2 b2)) (mulW a3 b1)) (mulW a4 b0)] := by
  show mulRow _ _ 4 (mulRow _ _ 3 (mulRow _ _ 2 (mulRow _ _ 1 (mulRow _ _ 0 [0, 0, 0, 0, 0] 5) 5) 5) 5) 5 = _
  rw [mulRow_0, mulRow_1, mulRow_2, mulRow_3, mulRow_4]
theorem mulCol_0 (a0 a1 a2 a3 a4 b0 b1 b2 b3 b4 : Nat) (ha : a0 < 268435456 ∧ a1 < 268435456 ∧ a2 < 268435456 ∧ a3 < 268435456 ∧ a4 < 268435456) (hb : b0 < 67108864 ∧ b1 < 67108864 ∧ b2 < 67108864 ∧ b3 < 67108864 ∧ b4 < 67108864) :
    addW (addW (addW (addW (addW 0 (mulW a0 b0)) (mulW (mulW a1 b4) 5)) (mulW (mulW a2 b3) 5)) (mulW (mulW a3 b2) 5)) (mulW (mulW a4 b1) 5) = a0 * b0 + a1 * b4 * 5 + a2 * b3 * 5 + a3 * b2 * 5 + a4 * b1 * 5 ∧ a0 * b0 + a1 * b4 * 5 + a2 * b3 * 5 + a3 * b2 * 5 + a4 * b1 * 5 < 1152921504606846976 := by
  have q0 := mul_small a0 b0 (by omega) (by omega)
  have q1 := mul_small a1 b4 (by omega) (by omega)
  have q2 := mul_small a2 b3 (by omega) (by omega)
  have q3 := mul_small a3 b2 (by omega) (by omega)
  have q4 := mul_small a4 b1 (by omega) (by omega)
  rw [mulW_one a0 b0 (by omega) (by omega), mulW_five a1 b4 (by omega) (by omega), mulW_five a2 b3 (by omega) (by omega), mulW_five a3 b2 (by omega) (by omega), mulW_five a4 b1 (by omega) (by omega)]
  exact ⟨addW_col _ _ _ _ _ (by omega), by omega⟩
theorem mulCol_1 (a0 a1 a2 a3 a4 b0 b1 b2 b3 b4 : Nat) (ha : a0 < 268435456 ∧ a1 < 268435456 ∧ a2 < 268435456 ∧ a3 < 268435456 ∧ a4 < 268435456) (hb : b0 < 67108864 ∧ b1 < 67108864 ∧ b2 < 67108864 ∧ b3 < 67108864 ∧ b4 < 67108864) :
    addW (addW (addW (addW (addW 0 (mulW a0 b1)) (mulW a1 b0)) (mulW (mulW a2 b4) 5)) (mulW (mulW a3 b3) 5)) (mulW (mulW a4 b2) 5) = a0 * b1 + a1 * b0 + a2 * b4 * 5 + a3 * b3 * 5 + a4 * b2 * 5 ∧ a0 * b1 + a1 * b0 + a2 * b4 * 5 + a3 * b3 * 5 + a4 * b2 * 5 < 1152921504606846976 := by
  have q0 := mul_small a0 b1 (by omega) (by omega)
  have q1 := mul_small a1 b0 (by omega) (by omega)
  have q2 := mul_small a2 b4 (by omega) (by omega)
  have q3 := mul_small a3 b3 (by omega) (by omega)
  have q4 := mul_small a4 b2 (by omega) (by omega)
  rw [mulW_one a0 b1 (by omega) (by omega), mulW_one a1 b0 (by omega) (by omega), mulW_five a2 b4 (by omega) (by omega), mulW_five a3 b3 (by omega) (by omega), mulW_five a4 b2 (by omega) (by omega)]
  exact ⟨addW_col _ _ _ _ _ (by omega), by omega⟩
theorem mulCol_2 (a0 a1 a2 a3 a4 b0 b1 b2 b3 b4 : Nat) (ha : a0 < 268435456 ∧ a1 < 268435456 ∧ a2 < 268435456 ∧ a3 < 268435456 ∧ a4 < 268435456) (hb : b0 < 67108864 ∧ b1 < 67108864 ∧ b2 < 67108864 ∧ b3 < 67108864 ∧ b4 < 67108864) :
    addW (addW (addW (addW (addW 0 (mulW a0 b2)) (mulW a1 b1)) (mulW a2 b0)) (mulW (mulW a3 b4) 5)) (mulW (mulW a4 b3) 5) = a0 * b2 + a1 * b1 + a2 * b0 + a3 * b4 * 5 + a4 * b3 * 5 ∧ a0 * b2 + a1 * b1 + a2 * b0 + a3 * b4 * 5 + a4 * b3 * 5 < 1152921504606846976 := by
  have q0 := mul_small a0 b2 (by omega) (by omega)
  have q1 := mul_small a1 b1 (by omega) (by omega)
  have q2 := mul_small a2 b0 (by omega) (by omega)
  have q3 := mul_small a3 b4 (by omega) (by omega)
  have q4 := mul_small a4 b3 (by omega) (by omega)
  rw [mulW_one a0 b2 (by omega) (by omega), mulW_one a1 b1 (by omega) (by omega), mulW_one a2 b0 (by omega) (by omega), mulW_five a3 b4 (by omega) (by omega), mulW_five a4 b3 (by omega) (by omega)]
  exact ⟨addW_col _ _ _ _ _ (by omega), by omega⟩
theorem mulCol_3 (a0 a1 a2 a3 a4 b0 b1 b2 b3 b4 : Nat) (ha : a0 < 268435456 ∧ a1 < 268435456 ∧ a2 < 268435456 ∧ a3 < 268435456 ∧ a4 < 268435456) (hb : b0 < 67108864 ∧ b1 < 67108864 ∧ b2 < 67108864 ∧ b3 < 67108864 ∧ b4 < 67108864) :
    addW (addW (addW (addW (addW 0 (mulW a0 b3)) (mulW a1 b2)) (mulW a2 b1)) (mulW a3 b0)) (mulW (mulW a4 b4) 5) = a0 * b3 + a1 * b2 + a2 * b1 + a3 * b0 + a4 * b4 * 5 ∧ a0 * b3 + a1 * b2 + a2 * b1 + a3 * b0 + a4 * b4 * 5 < 1152921504606846976 := by
  have q0 := mul_small a0 b3 (by omega) (by omega)
  have q1 := mul_small a1 b2 (by omega) (by omega)
  have q2 := mul_small a2 b1 (by omega) (by omega)
  have q3 := mul_small a3 b0 (by omega) (by omega)
  have q4 := mul_small a4 b4 (by omega) (by omega)
  rw [mulW_one a0 b3 (by omega) (by omega), mulW_one a1 b2 (by omega) (by omega), mulW_one a2 b1 (by omega) (by omega), mulW_one a3 b0 (by omega) (by omega), mulW_five a4 b4 (by omega) (by omega)]
  exact ⟨addW_col _ _ _ _ _ (by omega), by omega⟩
theorem mulCol_4 (a0 a1 a2 a3 a4 b0 b1 b2 b3 b4 : Nat) (ha : a0 < 268435456 ∧ a1 < 268435456 ∧ a2 < 268435456 ∧ a3 < 268435456 ∧ a4 < 268435456) (hb : b0 < 67108864 ∧ b1 < 67108864 ∧ b2 < 67108864 ∧ b3 < 67108864 ∧ b4 < 67108864) :
    addW (addW (addW (addW (addW 0 (mulW a0 b4)) (mulW a1 b3)) (mulW a2 b2)) (mulW a3 b1)) (mulW a4 b0) = a0 * b4 + a1 * b3 + a2 * b2 + a3 * b1 + a4 * b0 ∧ a0 * b4 + a1 * b3 + a2 * b2 + a3 * b1 + a4 * b0 < 1152921504606846976 := by
  have q0 := mul_small a0 b4 (by omega) (by omega)
  have q1 := mul_small a1 b3 (by omega) (by omega)
  have q2 := mul_small a2 b2 (by omega) (by omega)
  have q3 := mul_small a3 b1 (by omega) (by omega)
  have q4 := mul_small a4 b0 (by omega) (by omega)
  rw [mulW_one a0 b4 (by omega) (by omega), mulW_one a1 b3 (by omega) (by omega), mulW_one a2 b2 (by omega) (by omega), mulW_one a3 b1 (by omega) (by omega), mulW_one a4 b0 (by omega) (by omega)]
  exact ⟨addW_col _ _ _ _ _ (by omega), by omega⟩
theorem mulTo_five (a0 a1 a2 a3 a4 b0 b1 b2 b3 b4 : Nat) (ha : Below5 268435456 [a0, a1, a2, a3, a4]) (hb : Below5 67108864 [b0, b1, b2, b3, b4]) :
    mulTo [a0, a1, a2, a3, a4] [b0, b1, b2, b3, b4] 5 = [a0 * b0 + a1 * b4 * 5 + a2 * b3 * 5 + a3 * b2 * 5 + a4 * b1 * 5, a0 * b1 + a1 * b0 + a2 * b4 * 5 + a3 * b3 * 5 + a4 * b2 * 5, a0 * b2 + a1 * b1 + a2 * b0 + a3 * b4 * 5 + a4 * b3 * 5, a0 * b3 + a1 * b2 + a2 * b1 + a3 * b0 + a4 * b4 * 5, a0 * b4 + a1 * b3 + a2 * b2 + a3 * b1 + a4 * b0] ∧ Below5 1152921504606846976 [a0 * b0 + a1 * b4 * 5 + a2 * b3 * 5 + a3 * b2 * 5 + a4 * b1 * 5, a0 * b1 + a1 * b0 + a2 * b4 * 5 + a3 * b3 * 5 + a4 * b2 * 5, a0 * b2 + a1 * b1 + a2 * b0 + a3 * b4 * 5 + a4 * b3 * 5, a0 * b3 + a1 * b2 + a2 * b1 + a3 * b0 + a4 * b4 * 5, a0 * b4 + a1 * b3 + a2 * b2 + a3 * b1 + a4 * b0] := by
  rw [below5_five] at ha hb
  have h0 := mulCol_0 a0 a1 a2 a3 a4 b0 b1 b2 b3 b4 ha hb
  have h1 := mulCol_1 a0 a1 a2 a3 a4 b0 b1 b2 b3 b4 ha hb
  have h2 := mulCol_2 a0 a1 a2 a3 a4 b0 b1 b2 b3 b4 ha hb
  have h3 := mulCol_3 a0 a1 a2 a3 a4 b0 b1 b2 b3 b4 ha hb
  have h4 := mulCol_4 a0 a1 a2 a3 a4 b0 b1 b2 b3 b4 ha hb
  refine ⟨?_, (below5_five _ _ _ _ _ _).2 ⟨h0.2, h1.2, h2.2, h3.2, h4.2⟩⟩
  rw [mulTo_all, h0.1, h1.1, h2.1, h3.1, h4.1]
theorem mul_mod (a0 a1 a2 a3 a4 b0 b1 b2 b3 b4 : Nat) :
    lval [a0 * b0 + a1 * b4 * 5 + a2 * b3 * 5 + a3 * b2 * 5 + a4 * b1 * 5, a0 * b1 + a1 * b0 + a2 * b4 * 5 + a3 * b3 * 5 + a4 * b2 * 5, a0 * b2 + a1 * b1 + a2 * b0 + a3 * b4 * 5 + a4 * b3 * 5, a0 * b3 + a1 * b2 + a2 * b1 + a3 * b0 + a4 * b4 * 5, a0 * b4 + a1 * b3 + a2 * b2 + a3 * b1 + a4 * b0] % polyP = lval [a0, a1, a2, a3, a4] * lval [b0, b1, b2, b3, b4] % polyP := by
  have e : lval [a0, a1, a2, a3, a4] * lval [b0, b1, b2, b3, b4] = lval [a0 * b0 + a1 * b4 * 5 + a2 * b3 * 5 + a3 * b2 * 5 + a4 * b1 * 5, a0 * b1 + a1 * b0 + a2 * b4 * 5 + a3 * b3 * 5 + a4 * b2 * 5, a0 * b2 + a1 * b1 + a2 * b0 + a3 * b4 * 5 + a4 * b3 * 5, a0 * b3 + a1 * b2 + a2 * b1 + a3 * b0 + a4 * b4 * 5, a0 * b4 + a1 * b3 + a2 * b2 + a3 * b1 + a4 * b0] + polyP * (a1 * b4 + a2 * b3 + a3 * b2 + a4 * b1 + 67108864 * (a2 * b4 + a3 * b3 + a4 * b2 + 67108864 * (a3 * b4 + a4 * b3 + 67108864 * (a4 * b4)))) := by
    rw [lval_five, lval_five, lval_five, polyP_is]
    grind
  rw [e, Nat.add_mul_mod_self_left]
theorem timesN_val (a b : List Nat) (ha : a.length = 5) (hb : b.length = 5) (hA : Below5 268435456 a) (hB : Below5 67108864 b) : Fine (timesN a b) ∧ lval (timesN a b) % polyP = lval a * lval b % polyP := by
  obtain ⟨a0, a1, a2, a3, a4, rfl⟩ := five_of a ha
  obtain ⟨b0, b1, b2, b3, b4, rfl⟩ := five_of b hb
  obtain ⟨e, hE⟩ := mulTo_five _ _ _ _ _ _ _ _ _ _ hA hB
  unfold timesN
  rw [e]
  have hb2 : Below5 9223372036854775808 [a0 * b0 + a1 * b4 * 5 + a2 * b3 * 5 + a3 * b2 * 5 + a4 * b1 * 5, a0 * b1 + a1 * b0 + a2 * b4 * 5 + a3 * b3 * 5 + a4 * b2 * 5, a0 * b2 + a1 * b1 + a2 * b0 + a3 * b4 * 5 + a4 * b3 * 5, a0 * b3 + a1 * b2 + a2 * b1 + a3 * b0 + a4 * b4 * 5, a0 * b4 + a1 * b3 + a2 * b2 + a3 * b1 + a4 * b0] := fun x hx => by have := hE x hx; omega
  have hm := mul_mod a0 a1 a2 a3 a4 b0 b1 b2 b3 b4
  generalize [a0 * b0 + a1 * b4 * 5 + a2 * b3 * 5 + a3 * b2 * 5 + a4 * b1 * 5, a0 * b1 + a1 * b0 + a2 * b4 * 5 + a3 * b3 * 5 + a4 * b2 * 5, a0 * b2 + a1 * b1 + a2 * b0 + a3 * b4 * 5 + a4 * b3 * 5, a0 * b3 + a1 * b2 + a2 * b1 + a3 * b0 + a4 * b4 * 5, a0 * b4 + a1 * b3 + a2 * b2 + a3 * b1 + a4 * b0] = s at *
  have hs : s.length = 5 := by rw [← e]; exact mulTo_length _ _ _
  refine ⟨foldN_fine s hs hE, ?_⟩
  have h1 := carN_val s hs hb2
  have hf : Below5 9223372036854775808 (foldN s) := by
    have h2 := overN_eq s hs hb2
    have hl : lval s < 1152921504606846976 * 20282409905883129831204239441921 := by
      obtain ⟨a, b, c, d, e, rfl⟩ := five_of s hs
      rw [below5_five] at hE
      rw [lval_five]
      omega
    have ho : overN s < 34359738368 := by omega
    obtain ⟨a, b, c, d, e, hc⟩ := five_of (carN s) (by rw [carN_length, hs])
    have hc2 := h1.2
    rw [hc, below5_five] at hc2
    unfold foldN
    rw [hc]
    show Below5 _ [addW a (mulW 5 (overN s)), b, c, d, e]
    rw [mulW_in 5 _ (by omega), addW_in _ _ (by omega), below5_five]
    omega
  rw [foldN_mod _ (by rw [foldN_length, hs]) hf, foldN_mod _ hs hb2, hm]
theorem leastN_val (n : List Nat) (h : Fine n) : lval (leastN n) = lval n % polyP ∧ Below5 67108864 (leastN n) := by
  obtain ⟨a, b, c, d, e, rfl⟩ := five_of n h.1
  have hf := fine_five _ _ _ _ _ h
  have e1 : moreN [a, b, c, d, e] = [a + 5, b, c, d, e] := by
    show [addW a 5, b, c, d, e] = _
    rw [addW_in _ _ (by omega)]
  have hm := overN_eq [a + 5, b, c, d, e] rfl (by rw [below5_five]; omega)
  rw [lval_five] at hm
  have ho : overN [a + 5, b, c, d, e] < 2 := by omega
  have e2 : lessN [a, b, c, d, e] = [a + 5 * overN [a + 5, b, c, d, e], b, c, d, e] := by
    unfold lessN
    rw [e1]
    show [addW a (mulW 5 (overN [a + 5, b, c, d, e])), b, c, d, e] = _
    rw [mulW_in 5 _ (by omega), addW_in _ _ (by omega)]
  unfold leastN
  rw [e2]
  have hm2 := hm.1
  clear hm e1 e2
  generalize overN [a + 5, b, c, d, e] = o at *
  have hb : Below5 9223372036854775808 [a + 5 * o, b, c, d, e] := by rw [below5_five]; omega
  have h3 := overN_eq _ rfl hb
  refine ⟨?_, (carN_val _ rfl hb).2⟩
  rw [h3.2, lval_five, lval_five, polyP_is]
  have hz : b + 67108864 * (c + 67108864 * (d + 67108864 * (e + 67108864 * 0))) < 20282409603651670423947251286016 := by omega
  obtain ⟨hfa, _⟩ := hf
  clear hb h3 h
  generalize b + 67108864 * (c + 67108864 * (d + 67108864 * (e + 67108864 * 0))) = z at *
  rcases (show o = 0 ∨ o = 1 by omega) with rfl | rfl
  · rw [Nat.mod_eq_of_lt (by omega), Nat.mod_eq_of_lt (by omega)]
    omega
  · have e1 : a + 5 * 1 + 67108864 * z = a + 67108864 * z - 1361129467683753853853498429727072845819 + 1361129467683753853853498429727072845824 := by omega
    have e2 : a + 67108864 * z = a + 67108864 * z - 1361129467683753853853498429727072845819 + 1361129467683753853853498429727072845819 := by omega
    rw [e1, Nat.add_mod_right, Nat.mod_eq_of_lt (by omega)]
    conv => rhs; rw [e2, Nat.add_mod_right, Nat.mod_eq_of_lt (by omega)]
end Go.Proofs.YticgkabamelddaaDoor
namespace Go.Proofs.YticgkabamelddaaDoor
open Go.RowKit
theorem lev_cons (u : UInt8) (l : List UInt8) : lev (u :: l) = u.toNat + 256 * lev l := rfl
theorem lev_rev (l : List UInt8) : bigN l.reverse = lev l := by
  induction l with
  | nil => rfl
  | cons u l ih => rw [List.reverse_cons, bigN_snoc, ih, lev_cons]; omega
theorem lev_drop (b : List UInt8) (f : Nat) (hf : f ≤ b.length) : lev (b.drop f) = lev b / 256 ^ f := by
  have h := lev_append (b.take f) (b.drop f)
  rw [List.take_append_drop] at h
  have hl : (b.take f).length = f := by rw [List.length_take]; omega
  have h2 := lev_lt (b.take f)
  rw [hl] at h h2
  rw [h, Nat.add_mul_div_left _ _ (Nat.pow_pos (by omega)), Nat.div_eq_of_lt h2, Nat.zero_add]
theorem lev_take (b : List UInt8) (f : Nat) (hf : f ≤ b.length) : lev (b.take f) = lev b % 256 ^ f := by
  have h := lev_append (b.take f) (b.drop f)
  rw [List.take_append_drop] at h
  have hl : (b.take f).length = f := by rw [List.length_take]; omega
  have h2 := lev_lt (b.take f)
  rw [hl] at h h2
  rw [h, Nat.add_mul_mod_self_left, Nat.mod_eq_of_lt h2]
/-- The limb i lies in four bytes from 26 i / 8 on. -/
theorem limb_window (b : List UInt8) (hb : b.length = 17) (i : Nat) (hi : i < 5) : bigN ((b.drop (i * 26 / 8)).take 4).reverse / 2 ^ (i * 26 % 8) % 67108864 = (limbsOf (lev b)).getD i 0 := by
  rw [lev_rev, lev_take _ _ (by rw [List.length_drop]; omega), lev_drop _ _ (by omega)]
  generalize lev b = x
  match i, hi with
  | 0, _ => show x / 1 % 4294967296 / 1 % 67108864 = x % 67108864; omega
  | 1, _ => show x / 16777216 % 4294967296 / 4 % 67108864 = x / 67108864 % 67108864; omega
  | 2, _ => show x / 281474976710656 % 4294967296 / 16 % 67108864 = x / 4503599627370496 % 67108864; omega
  | 3, _ => show x / 4722366482869645213696 % 4294967296 / 64 % 67108864 = x / 302231454903657293676544 % 67108864; omega
  | 4, _ => show x / 20282409603651670423947251286016 % 4294967296 / 1 % 67108864 = x / 20282409603651670423947251286016 % 67108864; omega
/-- k limbs are read. -/
def readTo (x k : Nat) : List Nat := (limbsOf x).take k ++ List.replicate (5 - k) 0
theorem readTo_length (x k : Nat) (hk : k ≤ 5) : (readTo x k).length = 5 := by
  rw [readTo, List.length_append, List.length_take, limbsOf_length, List.length_replicate]; omega
theorem readTo_zero (x : Nat) : readTo x 0 = [0, 0, 0, 0, 0] := rfl
theorem readTo_all (x : Nat) : readTo x 5 = limbsOf x := by
  rw [readTo, List.take_of_length_le (by rw [limbsOf_length]; omega)]; simp
theorem readTo_next (x k : Nat) (hk : k < 5) : (readTo x k).set k ((limbsOf x).getD k 0) = readTo x (k + 1) := by
  match k, hk with
  | 0, _ => rfl
  | 1, _ => rfl
  | 2, _ => rfl
  | 3, _ => rfl
  | 4, _ => rfl
/-- The byte i of a number whose limbs have no more than their bits. -/
def limbByte (n : List Nat) (i : Nat) : Nat := if i * 8 / 26 + 1 < 5 then n.getD (i * 8 / 26) 0 / 2 ^ (i * 8 % 26) + n.getD (i * 8 / 26 + 1) 0 * 2 ^ (26 - i * 8 % 26) else n.getD (i * 8 / 26) 0 / 2 ^ (i * 8 % 26)
theorem limbByte_is (n : List Nat) (hn : n.length = 5) (h : Below5 67108864 n) (i : Nat) (hi : i < 16) : limbByte n i % 256 = lval n / 256 ^ i % 256 := by
  obtain ⟨a, b, c, d, e, rfl⟩ := five_of n hn
  rw [below5_five] at h
  obtain ⟨ha, hb, hc, hd, he⟩ := h
  rw [lval_five]
  rcases (show i = 0 ∨ i = 1 ∨ i = 2 ∨ i = 3 ∨ i = 4 ∨ i = 5 ∨ i = 6 ∨ i = 7 ∨ i = 8 ∨ i = 9 ∨ i = 10 ∨ i = 11 ∨ i = 12 ∨ i = 13 ∨ i = 14 ∨ i = 15 by omega) with rfl | rfl | rfl | rfl | rfl | rfl | rfl | rfl | rfl | rfl | rfl | rfl | rfl | rfl | rfl | rfl
  · show (a / 1 + b * 67108864) % 256 = (a + 67108864 * (b + 67108864 * (c + 67108864 * (d + 67108864 * (e + 67108864 * 0))))) / 1 % 256; omega
  · show (a / 256 + b * 262144) % 256 = (a + 67108864 * (b + 67108864 * (c + 67108864 * (d + 67108864 * (e + 67108864 * 0))))) / 256 % 256; omega
  · show (a / 65536 + b * 1024) % 256 = (a + 67108864 * (b + 67108864 * (c + 67108864 * (d + 67108864 * (e + 67108864 * 0))))) / 65536 % 256; omega
  · show (a / 16777216 + b * 4) % 256 = (a + 67108864 * (b + 67108864 * (c + 67108864 * (d + 67108864 * (e + 67108864 * 0))))) / 16777216 % 256; omega
  · show (b / 64 + c * 1048576) % 256 = (a + 67108864 * (b + 67108864 * (c + 67108864 * (d + 67108864 * (e + 67108864 * 0))))) / 4294967296 % 256; omega
  · show (b / 16384 + c * 4096) % 256 = (a + 67108864 * (b + 67108864 * (c + 67108864 * (d + 67108864 * (e + 67108864 * 0))))) / 1099511627776 % 256; omega
  · show (b / 4194304 + c * 16) % 256 = (a + 67108864 * (b + 67108864 * (c + 67108864 * (d + 67108864 * (e + 67108864 * 0))))) / 281474976710656 % 256; omega
  · show (c / 16 + d * 4194304) % 256 = (a + 67108864 * (b + 67108864 * (c + 67108864 * (d + 67108864 * (e + 67108864 * 0))))) / 72057594037927936 % 256; omega
  · show (c / 4096 + d * 16384) % 256 = (a + 67108864 * (b + 67108864 * (c + 67108864 * (d + 67108864 * (e + 67108864 * 0))))) / 18446744073709551616 % 256; omega
  · show (c / 1048576 + d * 64) % 256 = (a + 67108864 * (b + 67108864 * (c + 67108864 * (d + 67108864 * (e + 67108864 * 0))))) / 4722366482869645213696 % 256; omega
  · show (d / 4 + e * 16777216) % 256 = (a + 67108864 * (b + 67108864 * (c + 67108864 * (d + 67108864 * (e + 67108864 * 0))))) / 1208925819614629174706176 % 256; omega
  · show (d / 1024 + e * 65536) % 256 = (a + 67108864 * (b + 67108864 * (c + 67108864 * (d + 67108864 * (e + 67108864 * 0))))) / 309485009821345068724781056 % 256; omega
  · show (d / 262144 + e * 256) % 256 = (a + 67108864 * (b + 67108864 * (c + 67108864 * (d + 67108864 * (e + 67108864 * 0))))) / 79228162514264337593543950336 % 256; omega
  · show (e / 1) % 256 = (a + 67108864 * (b + 67108864 * (c + 67108864 * (d + 67108864 * (e + 67108864 * 0))))) / 20282409603651670423947251286016 % 256; omega
  · show (e / 256) % 256 = (a + 67108864 * (b + 67108864 * (c + 67108864 * (d + 67108864 * (e + 67108864 * 0))))) / 5192296858534827628530496329220096 % 256; omega
  · show (e / 65536) % 256 = (a + 67108864 * (b + 67108864 * (c + 67108864 * (d + 67108864 * (e + 67108864 * 0))))) / 1329227995784915872903807060280344576 % 256; omega
end Go.Proofs.YticgkabamelddaaDoor
namespace Go.Proofs.YticgkabamelddaaDoor.NP
/-- A prime number. -/
def Pr (p : Nat) : Prop := 2 ≤ p ∧ ∀ d, d ∣ p → d = 1 ∨ d = p
theorem Pr.pos {p : Nat} (h : Pr p) : 0 < p := by have := h.1; omega
theorem Pr.coprime {p a : Nat} (h : Pr p) (ha : ¬ p ∣ a) : Nat.Coprime p a := by
  rcases h.2 (Nat.gcd p a) (Nat.gcd_dvd_left p a) with h1 | h1
  · exact h1
  · exact absurd (h1 ▸ Nat.gcd_dvd_right p a) ha
theorem Pr.euclid {p a b : Nat} (h : Pr p) (hd : p ∣ a * b) : p ∣ a ∨ p ∣ b := by
  by_cases ha : p ∣ a
  · exact Or.inl ha
  · exact Or.inr (Nat.Coprime.dvd_of_dvd_mul_left (h.coprime ha) hd)
/-- How many sets of so many there are. -/
def ch : Nat → Nat → Nat
  | _, 0 => 1
  | 0, _ + 1 => 0
  | n + 1, k + 1 => ch n k + ch n (k + 1)
theorem ch_zero (n : Nat) : ch n 0 = 1 := by cases n <;> rfl
theorem ch_over (n : Nat) : ∀ k, n < k → ch n k = 0 := by
  induction n with
  | zero => intro k hk; cases k with
    | zero => omega
    | succ k => rfl
  | succ n ih => intro k hk; cases k with
    | zero => omega
    | succ k => show ch n k + ch n (k + 1) = 0; rw [ih k (by omega), ih (k + 1) (by omega)]
theorem ch_self (n : Nat) : ch n n = 1 := by
  induction n with
  | zero => rfl
  | succ n ih => show ch n n + ch n (n + 1) = 1; rw [ih, ch_over n (n + 1) (by omega)]
theorem ch_absorb (n : Nat) : ∀ k, (k + 1) * ch (n + 1) (k + 1) = (n + 1) * ch n k := by
  induction n with
  | zero => intro k; cases k with
    | zero => rfl
    | succ k => show (k + 1 + 1) * (ch 0 (k + 1) + ch 0 (k + 1 + 1)) = 1 * ch 0 (k + 1); rw [ch_over 0 (k + 1) (by omega), ch_over 0 (k + 1 + 1) (by omega)]; rfl
  | succ n ih => intro k; cases k with
    | zero =>
      have h := ih 0
      rw [ch_zero] at h
      show (0 + 1) * (ch (n + 1) 0 + ch (n + 1) (0 + 1)) = _
      rw [ch_zero]; omega
    | succ j =>
      have h1 := ih j
      have h2 := ih (j + 1)
      have h3 : ch (n + 1) (j + 1) = ch n j + ch n (j + 1) := rfl
      show (j + 1 + 1) * (ch (n + 1) (j + 1) + ch (n + 1) (j + 1 + 1)) = _
      rw [Nat.mul_add, h2]
      have h4 : (j + 1 + 1) * ch (n + 1) (j + 1) = (n + 1) * ch n j + ch (n + 1) (j + 1) := by rw [Nat.add_mul (j + 1) 1, h1]; omega
      rw [h4, h3, Nat.add_mul (n + 1) 1, Nat.mul_add (n + 1)]; omega
/-- The first terms of (a + 1)^n. -/
def bs (n a : Nat) : Nat → Nat
  | 0 => 0
  | m + 1 => bs n a m + ch n m * a ^ m
theorem bs_step (n a : Nat) : ∀ m, bs (n + 1) a (m + 1) = bs n a (m + 1) + a * bs n a m := by
  intro m
  induction m with
  | zero => simp [bs, ch_zero]
  | succ m ih =>
    rw [bs, ih]
    show _ + (ch n m + ch n (m + 1)) * a ^ (m + 1) = (bs n a (m + 1) + ch n (m + 1) * a ^ (m + 1)) + a * (bs n a m + ch n m * a ^ m)
    rw [Nat.add_mul, Nat.mul_add, Nat.pow_succ]
    have : a * (ch n m * a ^ m) = ch n m * (a ^ m * a) := by rw [Nat.mul_left_comm, Nat.mul_comm a]
    omega
theorem bs_all (n a : Nat) : bs n a (n + 1) = (a + 1) ^ n := by
  induction n with
  | zero => simp [bs, ch]
  | succ n ih =>
    rw [bs_step, bs, ih, ch_over n (n + 1) (by omega), Nat.pow_succ (a + 1), Nat.mul_add, Nat.mul_comm a]; omega
theorem Pr.dvd_ch {p : Nat} (h : Pr p) (k : Nat) (hk : k + 1 < p) : p ∣ ch p (k + 1) := by
  obtain ⟨q, rfl⟩ : ∃ q, p = q + 1 := ⟨p - 1, by have := h.1; omega⟩
  rcases h.euclid (⟨_, ch_absorb q k⟩ : q + 1 ∣ (k + 1) * ch (q + 1) (k + 1)) with h1 | h1
  · exact absurd (Nat.le_of_dvd (by omega) h1) (by omega)
  · exact h1
theorem Pr.bs_mod {p : Nat} (h : Pr p) (a : Nat) : ∀ m, m + 1 ≤ p → bs p a (m + 1) % p = 1 := by
  intro m
  induction m with
  | zero => intro _; simp [bs, ch_zero]; exact Nat.mod_eq_of_lt h.1
  | succ m ih =>
    intro hm
    rw [bs, Nat.add_mod, ih (by omega), Nat.mod_eq_zero_of_dvd (Nat.dvd_trans (h.dvd_ch m (by omega)) (Nat.dvd_mul_right _ _))]
    exact Nat.mod_eq_of_lt h.1
theorem Pr.step {p : Nat} (h : Pr p) (a : Nat) : (a + 1) ^ p % p = (a ^ p + 1) % p := by
  have h1 := h.1
  rw [← bs_all, bs, ch_self, Nat.one_mul, Nat.add_mod]
  obtain ⟨q, rfl⟩ : ∃ q, p = q + 1 := ⟨p - 1, by omega⟩
  rw [h.bs_mod a q (by omega), Nat.add_comm, Nat.mod_add_mod]
theorem Pr.fermat {p : Nat} (h : Pr p) (a : Nat) : a ^ p % p = a % p := by
  induction a with
  | zero => rw [Nat.zero_pow h.pos]
  | succ a ih => rw [h.step, Nat.add_mod, ih, ← Nat.add_mod]
theorem dvd_sub_of_mod {a b p : Nat} (h : a % p = b % p) : p ∣ a - b := by
  rcases Nat.lt_or_ge a b with hl | hl
  · rw [Nat.sub_eq_zero_of_le (by omega)]; exact Nat.dvd_zero p
  · refine ⟨a / p - b / p, ?_⟩
    have h1 := Nat.div_add_mod a p
    have h2 := Nat.div_add_mod b p
    rw [Nat.mul_sub]; omega
theorem mod_of_dvd_sub {a b p : Nat} (hl : b ≤ a) (h : p ∣ a - b) : a % p = b % p := by
  obtain ⟨c, hc⟩ := h
  rw [show a = b + p * c by omega, Nat.add_mul_mod_self_left]
/-- What is not divisible has 1 as its power p - 1. -/
theorem Pr.little {p : Nat} (h : Pr p) {a : Nat} (ha : ¬ p ∣ a) : a ^ (p - 1) % p = 1 := by
  have h1 := h.1
  have h2 := dvd_sub_of_mod (h.fermat a)
  have h3 : a ^ p - a = a * (a ^ (p - 1) - 1) := by
    rw [Nat.mul_sub, Nat.mul_one, ← Nat.pow_succ']
    rw [show (p - 1).succ = p by omega]
  rw [h3] at h2
  have ha0 : 0 < a := Nat.pos_of_ne_zero (fun e => ha (e ▸ Nat.dvd_zero p))
  have h4 := mod_of_dvd_sub (Nat.pow_pos (n := p - 1) ha0) ((h.euclid h2).resolve_left ha)
  rw [h4]; exact Nat.mod_eq_of_lt h1
theorem pow_one_mod {b r : Nat} (m k : Nat) (h : b ^ m % r = 1 % r) : b ^ (m * k) % r = 1 % r := by
  rw [Nat.pow_mul, Nat.pow_mod, h, ← Nat.pow_mod, Nat.one_pow]
theorem pow_gcd {b r : Nat} (m n : Nat) : b ^ m % r = 1 % r → b ^ n % r = 1 % r → b ^ (Nat.gcd m n) % r = 1 % r := by
  induction m, n using Nat.gcd.induction with
  | H0 n => intro _ h; rw [Nat.gcd_zero_left]; exact h
  | H1 m n hm ih =>
    intro h1 h2
    rw [Nat.gcd_rec]
    refine ih ?_ h1
    have h3 := pow_one_mod m (n / m) h1
    rw [← Nat.div_add_mod n m, Nat.pow_add, Nat.mul_mod, h3, ← Nat.mul_mod, Nat.one_mul] at h2
    exact h2
/-- Every number from 2 on has a prime divisor. -/
theorem has_prime (n : Nat) : 2 ≤ n → ∃ r, Pr r ∧ r ∣ n := by
  induction n using Nat.strongRecOn with
  | _ n ih =>
    intro hn
    by_cases h : Pr n
    · exact ⟨n, h, Nat.dvd_refl n⟩
    · have : ∃ d, d ∣ n ∧ d ≠ 1 ∧ d ≠ n := by
        refine Classical.byContradiction fun hc => h ⟨hn, fun d hd => ?_⟩
        refine Classical.byContradiction fun hc2 => hc ⟨d, hd, fun e => hc2 (Or.inl e), fun e => hc2 (Or.inr e)⟩
      obtain ⟨d, hd, h1, h2⟩ := this
      have hle := Nat.le_of_dvd (by omega) hd
      have hpos := Nat.pos_of_dvd_of_pos hd (by omega)
      obtain ⟨r, hr, hrd⟩ := ih d (by omega) (by omega)
      exact ⟨r, hr, Nat.dvd_trans hrd hd⟩
/-- A number without a prime divisor whose square is as little as it is prime. -/
theorem pr_of (n : Nat) (hn : 2 ≤ n) (h : ∀ r, Pr r → r ∣ n → n < r * r) : Pr n := by
  refine ⟨hn, fun d hd => ?_⟩
  refine Classical.byContradiction fun hc => ?_
  have hpos := Nat.pos_of_dvd_of_pos hd (by omega)
  obtain ⟨e, he⟩ := hd
  have h1 : d ≠ 1 := fun x => hc (Or.inl x)
  have h2 : e ≠ 1 := fun x => hc (Or.inr (by rw [he, x, Nat.mul_one]))
  have h0 : e ≠ 0 := fun x => by rw [x] at he; omega
  have key : ∀ a b, n = a * b → 2 ≤ a → a ≤ b → False := by
    intro a b hab ha hle
    obtain ⟨r, hr, hrd⟩ := has_prime a ha
    have h3 := h r hr (Nat.dvd_trans hrd ⟨b, hab⟩)
    have h4 := Nat.le_of_dvd (by omega) hrd
    have h5 : r * r ≤ a * b := Nat.mul_le_mul h4 (by omega)
    omega
  rcases Nat.le_total d e with hle | hle
  · exact key d e he (by omega) hle
  · exact key e d (by rw [he, Nat.mul_comm]) (by omega) hle
theorem dvd_pow_self (b : Nat) {q : Nat} (h : 0 < q) : b ∣ b ^ q := ⟨b ^ (q - 1), by rw [← Nat.pow_succ', show (q - 1).succ = q by omega]⟩
/-- Pocklington: a prime q of n - 1 is one of r - 1 too, for a prime divisor r of n. -/
theorem pock {n q a r : Nat} (hq : Pr q) (hr : Pr r) (hrn : r ∣ n) (hqn : q ∣ n - 1) (h1 : a ^ (n - 1) % n = 1 % n) (h2 : Nat.gcd (a ^ ((n - 1) / q) % n + (n - 1)) n = 1) (hn : 2 ≤ n) : q ∣ r - 1 := by
  have hr1 := hr.1
  have e1 : (a ^ ((n - 1) / q)) ^ q % r = 1 % r := by
    rw [← Nat.pow_mul, Nat.div_mul_cancel hqn]
    have := Nat.mod_mod_of_dvd (a ^ (n - 1)) hrn
    rw [h1, Nat.mod_mod_of_dvd 1 hrn] at this
    exact this.symm
  have e2 : a ^ ((n - 1) / q) % r ≠ 1 % r := by
    intro e
    have e3 : r ∣ a ^ ((n - 1) / q) % n + (n - 1) := by
      refine Nat.dvd_of_mod_eq_zero ?_
      obtain ⟨c, hc⟩ := hrn
      have e5 : (a ^ ((n - 1) / q) % n) % r = 1 % r := by rw [Nat.mod_mod_of_dvd _ ⟨c, hc⟩, e]
      rw [Nat.add_mod, e5, ← Nat.add_mod, show 1 + (n - 1) = r * c by omega]
      exact Nat.mul_mod_right r c
    have e4 := Nat.dvd_gcd e3 hrn
    rw [h2] at e4
    have := Nat.le_of_dvd (by omega) e4
    omega
  generalize a ^ ((n - 1) / q) = b at *
  have e6 : ¬ r ∣ b := by
    intro h
    have : b ^ q % r = 0 := Nat.mod_eq_zero_of_dvd (Nat.dvd_trans h (dvd_pow_self b (by have := hq.1; omega)))
    rw [this, Nat.mod_eq_of_lt hr1] at e1; omega
  have e7 := hr.little e6
  rw [← Nat.mod_eq_of_lt (show 1 < r by omega)] at e7
  rw [show (1 % r) = 1 % r from rfl] at e7
  have e8 := pow_gcd q (r - 1) e1 (by rw [Nat.mod_eq_of_lt (show 1 < r by omega)]; rw [Nat.mod_eq_of_lt (show 1 < r by omega)] at e7; exact e7)
  rcases hq.2 _ (Nat.gcd_dvd_left q (r - 1)) with h3 | h3
  · rw [h3, Nat.pow_one] at e8; exact absurd e8 e2
  · rw [← h3]; exact Nat.gcd_dvd_right q (r - 1)
/-- A power modulo m, by squares. -/
def pw : Nat → Nat → Nat → Nat → Nat
  | 0, _, _, m => 1 % m
  | f + 1, a, e, m => bif Nat.beq e 0 then 1 % m else bif Nat.beq (e % 2) 1 then (a * pw f (a * a % m) (e / 2) m) % m else pw f (a * a % m) (e / 2) m
theorem pw_eq (m : Nat) : ∀ f a e, e < 2 ^ f → pw f a e m = a ^ e % m := by
  intro f
  induction f with
  | zero => intro a e h; rw [show e = 0 by omega]; rfl
  | succ f ih =>
    intro a e h
    rw [Nat.pow_succ] at h
    have h1 := ih (a * a % m) (e / 2) (by omega)
    have h2 : (a * a % m) ^ (e / 2) % m = a ^ (2 * (e / 2)) % m := by
      rw [← Nat.pow_mod, Nat.pow_mul, Nat.pow_two]
    rw [h2] at h1
    rw [pw, h1]
    rcases Nat.eq_zero_or_pos e with h0 | h0
    · subst h0; rfl
    · have hb : Nat.beq e 0 = false := Bool.eq_false_iff.2 (fun c => by have := Nat.eq_of_beq_eq_true c; omega)
      rw [hb]
      rcases Nat.mod_two_eq_zero_or_one e with h3 | h3
      · rw [h3]
        show a ^ (2 * (e / 2)) % m = _
        rw [show 2 * (e / 2) = e by omega]
      · rw [h3]
        show a * (a ^ (2 * (e / 2)) % m) % m = _
        rw [Nat.mul_mod_mod, ← Nat.pow_succ', show (2 * (e / 2)).succ = e by omega]
/-- No number from d on, so many of them, divides n. -/
def none_from (n : Nat) : Nat → Nat → Bool
  | 0, _ => true
  | f + 1, d => bif Nat.beq (n % d) 0 then false else none_from n f (d + 1)
theorem none_from_is (n : Nat) : ∀ f d, none_from n f d = true → ∀ k, d ≤ k → k < d + f → ¬ k ∣ n := by
  intro f
  induction f with
  | zero => intro d _ k h1 h2; omega
  | succ f ih =>
    intro d h k h1 h2 hk
    rw [none_from] at h
    cases hb : Nat.beq (n % d) 0 with
    | true => rw [hb] at h; cases h
    | false =>
      rw [hb] at h
      by_cases e : k = d
      · subst e
        rw [Nat.mod_eq_zero_of_dvd hk] at hb; cases hb
      · exact ih (d + 1) h k (by omega) (by omega) hk
theorem pr_small (n f : Nat) (hn : 2 ≤ n) (h : none_from n f 2 = true) (hf : n < (f + 2) * (f + 2)) : Pr n := by
  refine pr_of n hn fun r hr hd => ?_
  refine Classical.byContradiction fun hc => none_from_is n f 2 h r hr.1 ?_ hd
  rcases Nat.lt_or_ge r (2 + f) with hl | hl
  · exact hl
  · have := Nat.mul_le_mul (show f + 2 ≤ r by omega) (show f + 2 ≤ r by omega)
    omega
/-- One prime of n - 1 that is great enough. -/
theorem pr_one {n q : Nat} (a f : Nat) (hq : Pr q) (hn : 2 ≤ n) (hqn : (n - 1) % q = 0) (h1 : pw f a (n - 1) n = 1 % n) (h2 : Nat.gcd (pw f a ((n - 1) / q) n + (n - 1)) n = 1) (hf : n ≤ 2 ^ f) (hl : n < (q + 1) * (q + 1)) : Pr n := by
  rw [pw_eq _ _ _ _ (by omega)] at h1
  rw [pw_eq _ _ _ _ (Nat.lt_of_le_of_lt (Nat.div_le_self _ _) (by omega))] at h2
  refine pr_of n hn fun r hr hd => ?_
  have h3 := pock hq hr hd (Nat.dvd_of_mod_eq_zero hqn) h1 h2 hn
  have h4 := Nat.le_of_dvd (by have := hr.1; omega) h3
  have := hr.1
  exact Nat.lt_of_lt_of_le hl (Nat.mul_le_mul (by omega) (by omega))
/-- Two primes of n - 1 whose product is great enough. -/
theorem pr_two {n q u : Nat} (a b f : Nat) (hq : Pr q) (hu : Pr u) (hqu : Nat.gcd q u = 1) (hn : 2 ≤ n) (hqn : (n - 1) % q = 0) (hun : (n - 1) % u = 0) (h1 : pw f a (n - 1) n = 1 % n) (h2 : Nat.gcd (pw f a ((n - 1) / q) n + (n - 1)) n = 1) (g1 : pw f b (n - 1) n = 1 % n) (g2 : Nat.gcd (pw f b ((n - 1) / u) n + (n - 1)) n = 1) (hf : n ≤ 2 ^ f) (hl : n < (q * u + 1) * (q * u + 1)) : Pr n := by
  rw [pw_eq _ _ _ _ (by omega)] at h1 g1
  rw [pw_eq _ _ _ _ (Nat.lt_of_le_of_lt (Nat.div_le_self _ _) (by omega))] at h2 g2
  refine pr_of n hn fun r hr hd => ?_
  have h3 := pock hq hr hd (Nat.dvd_of_mod_eq_zero hqn) h1 h2 hn
  have g3 := pock hu hr hd (Nat.dvd_of_mod_eq_zero hun) g1 g2 hn
  have h4 := Nat.le_of_dvd (by have := hr.1; omega) (Nat.Coprime.mul_dvd_of_dvd_of_dvd hqu h3 g3)
  have := hr.1
  exact Nat.lt_of_lt_of_le hl (Nat.mul_le_mul (by omega) (by omega))
def pT : Nat := 8574133
def pS : Nat := 1919519569386763
def pR : Nat := 75445702479781427272750846543864801
def pQ : Nat := 74058212732561358302231226437062788676166966415465897661863160754340907
/-- The number p of the chapter. -/
def PP : Nat := 57896044618658097711785492504343953926634992332820282019728792003956564819949
set_option maxRecDepth 100000 in
theorem pr_127 : Pr 127 := pr_small 127 10 (by decide) (by decide +kernel) (by decide)
set_option maxRecDepth 100000 in
theorem pr_353 : Pr 353 := pr_small 353 17 (by decide) (by decide +kernel) (by decide)
set_option maxRecDepth 100000 in
theorem pr_75707 : Pr 75707 := pr_small 75707 280 (by decide) (by decide +kernel) (by decide)
set_option maxRecDepth 100000 in
theorem pr_T : Pr pT := pr_small pT 2930 (by decide +kernel) (by decide +kernel) (by decide +kernel)
set_option maxRecDepth 100000 in
theorem pr_S : Pr pS := pr_two (q := pT) (u := 127) 2 2 51 pr_T pr_127 (by decide +kernel) (by decide +kernel) (by decide +kernel) (by decide +kernel) (by decide +kernel) (by decide +kernel) (by decide +kernel) (by decide +kernel) (by decide +kernel) (by decide +kernel)
set_option maxRecDepth 100000 in
theorem pr_R : Pr pR := pr_two (q := pS) (u := 75707) 2 2 116 pr_S pr_75707 (by decide +kernel) (by decide +kernel) (by decide +kernel) (by decide +kernel) (by decide +kernel) (by decide +kernel) (by decide +kernel) (by decide +kernel) (by decide +kernel) (by decide +kernel)
set_option maxRecDepth 100000 in
theorem pr_Q : Pr pQ := pr_two (q := pR) (u := 353) 2 2 236 pr_R pr_353 (by decide +kernel) (by decide +kernel) (by decide +kernel) (by decide +kernel) (by decide +kernel) (by decide +kernel) (by decide +kernel) (by decide +kernel) (by decide +kernel) (by decide +kernel)
set_option maxRecDepth 100000 in
theorem pr_P : Pr PP := pr_one (q := pQ) 2 255 pr_Q (by decide +kernel) (by decide +kernel) (by decide +kernel) (by decide +kernel) (by decide +kernel) (by decide +kernel)
end Go.Proofs.YticgkabamelddaaDoor.NP
