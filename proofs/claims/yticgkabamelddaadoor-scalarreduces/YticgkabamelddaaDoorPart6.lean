/- Part 6 of what the laws of this seat share: FBytes, FWritten, FSmall, GNum, GMinus, GLeast, GCarry, GFold, GAdd, GTimes, GTimes2, GSub, GPower, GPowered, GInvert, GWords, GRead, GBytes, NOrder, AMath. -/
import Derived.IntWalk
import Derived.Test.YticgkabamelddaaDoorPart5
namespace Go.Proofs.YticgkabamelddaaDoor
open Go.RowKit
/-- Four words of a number. -/
def rows4 (x : Nat) : List Nat := [x % 18446744073709551616, x / 18446744073709551616 % 18446744073709551616, x / 340282366920938463463374607431768211456 % 18446744073709551616, x / 6277101735386680763835789423207666416102355444464034512896 % 18446744073709551616]
theorem rows4_at (b : List UInt8) (hb : b.length = 32) (k : Nat) (hk : k < 4) : bigN ((b.drop (8 * k)).take 8).reverse = (rows4 (lev b)).getD k 0 := by
  rw [lev_rev, lev_take _ _ (by rw [List.length_drop]; omega), lev_drop _ _ (by omega)]
  generalize lev b = x
  rcases (show k = 0 ∨ k = 1 ∨ k = 2 ∨ k = 3 by omega) with rfl | rfl | rfl | rfl
  · show x / 256 ^ 0 % 256 ^ 8 = x % 18446744073709551616
    rw [Nat.pow_zero, Nat.div_one, show 256 ^ 8 = 18446744073709551616 from rfl]
  · show x / 256 ^ 8 % 256 ^ 8 = x / 18446744073709551616 % 18446744073709551616
    rw [show 256 ^ 8 = 18446744073709551616 from rfl]
  · show x / 256 ^ 16 % 256 ^ 8 = x / 340282366920938463463374607431768211456 % 18446744073709551616
    rw [show 256 ^ 8 = 18446744073709551616 from rfl, show 256 ^ 16 = 340282366920938463463374607431768211456 from rfl]
  · show x / 256 ^ 24 % 256 ^ 8 = x / 6277101735386680763835789423207666416102355444464034512896 % 18446744073709551616
    rw [show 256 ^ 8 = 18446744073709551616 from rfl, show 256 ^ 24 = 6277101735386680763835789423207666416102355444464034512896 from rfl]
theorem winL_0 (x0 x1 x2 x3 x4 : Nat) : winL [x0, x1, x2, x3, x4] 0 = winW x0 x1 1 18446744073709551616 := by rw [winL]; simp only [List.getD_cons_zero, List.getD_cons_succ]
theorem limb5_0 (x : Nat) : (limb5 x).getD 0 0 = x % 2251799813685248 := rfl
theorem win_0 (x : Nat) : (x % 18446744073709551616 + x / 18446744073709551616 % 18446744073709551616 * 18446744073709551616 % 18446744073709551616) % 2251799813685248 = x % 2251799813685248 := by
  omega
theorem winL_1 (x0 x1 x2 x3 x4 : Nat) : winL [x0, x1, x2, x3, x4] 1 = winW x0 x1 2251799813685248 8192 := by rw [winL]; simp only [List.getD_cons_zero, List.getD_cons_succ]
theorem limb5_1 (x : Nat) : (limb5 x).getD 1 0 = x / 2251799813685248 % 2251799813685248 := rfl
theorem win_1 (x : Nat) : (x % 18446744073709551616 / 2251799813685248 + x / 18446744073709551616 % 18446744073709551616 * 8192 % 18446744073709551616) % 2251799813685248 = x / 2251799813685248 % 2251799813685248 := by
  omega
theorem winL_2 (x0 x1 x2 x3 x4 : Nat) : winL [x0, x1, x2, x3, x4] 2 = winW x1 x2 274877906944 67108864 := by rw [winL]; simp only [List.getD_cons_zero, List.getD_cons_succ]
theorem limb5_2 (x : Nat) : (limb5 x).getD 2 0 = x / 2251799813685248 / 2251799813685248 % 2251799813685248 := rfl
theorem win_2 (x : Nat) : (x / 18446744073709551616 % 18446744073709551616 / 274877906944 + x / 340282366920938463463374607431768211456 % 18446744073709551616 * 67108864 % 18446744073709551616) % 2251799813685248 = x / 2251799813685248 / 2251799813685248 % 2251799813685248 := by
  omega
theorem winL_3 (x0 x1 x2 x3 x4 : Nat) : winL [x0, x1, x2, x3, x4] 3 = winW x2 x3 33554432 549755813888 := by rw [winL]; simp only [List.getD_cons_zero, List.getD_cons_succ]
theorem limb5_3 (x : Nat) : (limb5 x).getD 3 0 = x / 2251799813685248 / 2251799813685248 / 2251799813685248 % 2251799813685248 := rfl
theorem win_3 (x : Nat) : (x / 340282366920938463463374607431768211456 % 18446744073709551616 / 33554432 + x / 6277101735386680763835789423207666416102355444464034512896 % 18446744073709551616 * 549755813888 % 18446744073709551616) % 2251799813685248 = x / 2251799813685248 / 2251799813685248 / 2251799813685248 % 2251799813685248 := by
  omega
theorem winL_4 (x0 x1 x2 x3 x4 : Nat) : winL [x0, x1, x2, x3, x4] 4 = winW x3 x4 4096 4503599627370496 := by rw [winL]; simp only [List.getD_cons_zero, List.getD_cons_succ]
theorem limb5_4 (x : Nat) : (limb5 x).getD 4 0 = x / 2251799813685248 / 2251799813685248 / 2251799813685248 / 2251799813685248 % 2251799813685248 := rfl
theorem win_4 (x : Nat) (h : x < 115792089237316195423570985008687907853269984665640564039457584007913129639936) : (x / 6277101735386680763835789423207666416102355444464034512896 % 18446744073709551616 / 4096 + 0 * 4503599627370496 % 18446744073709551616) % 2251799813685248 = x / 2251799813685248 / 2251799813685248 / 2251799813685248 / 2251799813685248 % 2251799813685248 := by
  omega
theorem winL_is (x k : Nat) (hx : x < 115792089237316195423570985008687907853269984665640564039457584007913129639936) (hk : k < 5) : winL [x % 18446744073709551616, x / 18446744073709551616 % 18446744073709551616, x / 340282366920938463463374607431768211456 % 18446744073709551616, x / 6277101735386680763835789423207666416102355444464034512896 % 18446744073709551616, 0] k = (limb5 x).getD k 0 := by
  rcases (show k = 0 ∨ k = 1 ∨ k = 2 ∨ k = 3 ∨ k = 4 by omega) with rfl | rfl | rfl | rfl | rfl
  · rw [winL_0, limb5_0, winW, Nat.div_one, win_0]
  · rw [winL_1, limb5_1, winW, win_1]
  · rw [winL_2, limb5_2, winW, win_2]
  · rw [winL_3, limb5_3, winW, win_3]
  · rw [winL_4, limb5_4, winW, win_4 x hx]
theorem take_pad_length (l : List Nat) (h : l.length ≤ 5) (k : Nat) (hk : k ≤ l.length) : (l.take k ++ List.replicate (5 - k) 0).length = 5 := by
  rw [List.length_append, List.length_take, List.length_replicate]; omega
theorem lev_lt32 (b : List UInt8) (hb : b.length = 32) : lev b < 115792089237316195423570985008687907853269984665640564039457584007913129639936 := by
  have h := lev_lt b
  rw [hb] at h
  exact h
theorem cast_div (a b : Nat) : ((a : Int) / (b : Int)) = ((a / b : Nat) : Int) := (Int.natCast_ediv a b).symm
/-- The five windows of four words. -/
theorem wins (x0 x1 x2 x3 : Nat) (q0 : x0 < 18446744073709551616) (q1 : x1 < 18446744073709551616) (q2 : x2 < 18446744073709551616) (q3 : x3 < 18446744073709551616) :
    bits .and .u64 (bits .or .u64 (x0 : Int) (IntKind.u64.wrap ((x1 : Int) * 18446744073709551616))) 2251799813685247 = ((winL [x0, x1, x2, x3, 0] 0 : Nat) : Int) ∧ bits .and .u64 (bits .or .u64 ((x0 : Int) / 2251799813685248) (IntKind.u64.wrap ((x1 : Int) * 8192))) 2251799813685247 = ((winL [x0, x1, x2, x3, 0] 1 : Nat) : Int) ∧
      bits .and .u64 (bits .or .u64 ((x1 : Int) / 274877906944) (IntKind.u64.wrap ((x2 : Int) * 67108864))) 2251799813685247 = ((winL [x0, x1, x2, x3, 0] 2 : Nat) : Int) ∧ bits .and .u64 (bits .or .u64 ((x2 : Int) / 33554432) (IntKind.u64.wrap ((x3 : Int) * 549755813888))) 2251799813685247 = ((winL [x0, x1, x2, x3, 0] 3 : Nat) : Int) ∧
      bits .and .u64 (bits .or .u64 ((x3 : Int) / 4096) (IntKind.u64.wrap (((0 : Nat) : Int) * 4503599627370496))) 2251799813685247 = ((winL [x0, x1, x2, x3, 0] 4 : Nat) : Int) := by
  rw [winL_0, winL_1, winL_2, winL_3, winL_4, winW, winW, winW, winW, winW, Nat.div_one]
  refine ⟨?_, ?_, ?_, ?_, ?_⟩
  · exact win_and x0 x1 64 18446744073709551616 rfl (by decide) q0 (by omega)
  · have h := win_and (x0 / 2251799813685248) x1 13 8192 rfl (by decide) (by omega) (by omega)
    rw [← cast_div] at h
    exact h
  · have h := win_and (x1 / 274877906944) x2 26 67108864 rfl (by decide) (by omega) (by omega)
    rw [← cast_div] at h
    exact h
  · have h := win_and (x2 / 33554432) x3 39 549755813888 rfl (by decide) (by omega) (by omega)
    rw [← cast_div] at h
    exact h
  · have h := win_and (x3 / 4096) 0 52 4503599627370496 rfl (by decide) (by omega) (by omega)
    rw [← cast_div] at h
    exact h
/-- The number of a key. -/
def keyN (b : List UInt8) : Nat := lev b % 57896044618658097711785492504343953926634992332820282019728792003956564819968 % pp
theorem keyN_lt (b : List UInt8) : keyN b < pp := Nat.mod_lt _ (by decide)
theorem val5_lim (x : Nat) : val5 (lx x 0) (lx x 1) (lx x 2) (lx x 3) (lx x 4) = x % 57896044618658097711785492504343953926634992332820282019728792003956564819968 := by
  have e : ∀ k, lx (x % 57896044618658097711785492504343953926634992332820282019728792003956564819968) k = lx x k := fun k => by rw [lx, limb5_mod]; rfl
  rw [← e 0, ← e 1, ← e 2, ← e 3, ← e 4]
  exact val5_limbs _ (Nat.mod_lt _ (by decide))
end Go.Proofs.YticgkabamelddaaDoor
namespace Go.Proofs.YticgkabamelddaaDoor
open Go.RowKit
theorem splice_put (s p : List UInt8) (o : Nat) (hp : p.length = 8) : splice (s.map cellOf) o (p.map cellOf) = (s.take o ++ p ++ s.drop (o + 8)).map cellOf := by
  simp [splice, hp, List.map_take, List.map_drop]
/-- A number's bytes, the low one first. -/
def keyB (n : Nat) : List UInt8 := putL n 32
theorem keyB_length (n : Nat) : (keyB n).length = 32 := putL_length n 32
theorem putL_div (x j : Nat) : ∀ k, putL x (j + k) = putL x j ++ putL (x / 256 ^ j) k
  | 0 => by rw [show putL (x / 256 ^ j) 0 = [] from rfl, List.append_nil, Nat.add_zero]
  | k + 1 => by
    rw [← Nat.add_assoc, putL_succ, putL_div x j k, putL_succ, List.append_assoc, byteAt, byteAt, Nat.div_div_eq_div_mul, Nat.pow_add]
theorem putL_mod (x k : Nat) (h : k ≤ 8) : putL (x % 18446744073709551616) k = putL x k := by
  rw [putL, putL]
  refine List.map_congr_left fun i hi => ?_
  have hi' : i < 8 := by have := List.mem_range.1 hi; omega
  rw [byteAt, byteAt, ← UInt8.toNat_inj, UInt8.toNat_ofNat', UInt8.toNat_ofNat']
  rcases (show i = 0 ∨ i = 1 ∨ i = 2 ∨ i = 3 ∨ i = 4 ∨ i = 5 ∨ i = 6 ∨ i = 7 by omega) with rfl | rfl | rfl | rfl | rfl | rfl | rfl | rfl <;> simp only [Nat.reducePow, Nat.pow_zero] <;> omega
/-- The four words of a number. -/
def word4 (n k : Nat) : Nat := n / 256 ^ (8 * k) % 18446744073709551616
theorem word4_0 (n : Nat) : word4 n 0 = n % 18446744073709551616 := by rw [word4, Nat.mul_zero, Nat.pow_zero, Nat.div_one]
theorem word4_1 (n : Nat) : word4 n 1 = n / 18446744073709551616 % 18446744073709551616 := by rw [word4, show 256 ^ (8 * 1) = 18446744073709551616 from rfl]
theorem word4_2 (n : Nat) : word4 n 2 = n / 340282366920938463463374607431768211456 % 18446744073709551616 := by rw [word4, show 256 ^ (8 * 2) = 340282366920938463463374607431768211456 from rfl]
theorem word4_3 (n : Nat) : word4 n 3 = n / 6277101735386680763835789423207666416102355444464034512896 % 18446744073709551616 := by rw [word4, show 256 ^ (8 * 3) = 6277101735386680763835789423207666416102355444464034512896 from rfl]
theorem word_0 (n : Nat) : n % 2251799813685248 + n / 2251799813685248 % 2251799813685248 * 2251799813685248 % 18446744073709551616 = n % 18446744073709551616 := by omega
theorem word_1 (n : Nat) : n / 2251799813685248 % 2251799813685248 / 8192 + n / 2251799813685248 / 2251799813685248 % 2251799813685248 * 274877906944 % 18446744073709551616 = n / 18446744073709551616 % 18446744073709551616 := by omega
theorem word_2 (n : Nat) : n / 2251799813685248 / 2251799813685248 % 2251799813685248 / 67108864 + n / 2251799813685248 / 2251799813685248 / 2251799813685248 % 2251799813685248 * 33554432 % 18446744073709551616 = n / 340282366920938463463374607431768211456 % 18446744073709551616 := by omega
theorem word_3 (n : Nat) (h : n < 57896044618658097711785492504343953926634992332820282019728792003956564819968) : n / 2251799813685248 / 2251799813685248 / 2251799813685248 % 2251799813685248 / 549755813888 + n / 2251799813685248 / 2251799813685248 / 2251799813685248 / 2251799813685248 % 2251799813685248 * 4096 % 18446744073709551616 = n / 6277101735386680763835789423207666416102355444464034512896 % 18446744073709551616 := by omega
theorem words_or (n0 n1 n2 n3 n4 : Nat) (q0 : n0 < 2251799813685248) (q1 : n1 < 2251799813685248) (q2 : n2 < 2251799813685248) (q3 : n3 < 2251799813685248) :
    bits .or .u64 (n0 : Int) (IntKind.u64.wrap ((n1 : Int) * 2251799813685248)) = ((n0 + n1 * 2251799813685248 % 18446744073709551616 : Nat) : Int) ∧ bits .or .u64 ((n1 : Int) / 8192) (IntKind.u64.wrap ((n2 : Int) * 274877906944)) = ((n1 / 8192 + n2 * 274877906944 % 18446744073709551616 : Nat) : Int) ∧
    bits .or .u64 ((n2 : Int) / 67108864) (IntKind.u64.wrap ((n3 : Int) * 33554432)) = ((n2 / 67108864 + n3 * 33554432 % 18446744073709551616 : Nat) : Int) ∧ bits .or .u64 ((n3 : Int) / 549755813888) (IntKind.u64.wrap ((n4 : Int) * 4096)) = ((n3 / 549755813888 + n4 * 4096 % 18446744073709551616 : Nat) : Int) := by
  refine ⟨?_, ?_, ?_, ?_⟩
  · exact win_or n0 n1 51 2251799813685248 rfl (by decide) q0
  · have h := win_or (n1 / 8192) n2 38 274877906944 rfl (by decide) (by omega)
    rw [← cast_div] at h
    exact h
  · have h := win_or (n2 / 67108864) n3 25 33554432 rfl (by decide) (by omega)
    rw [← cast_div] at h
    exact h
  · have h := win_or (n3 / 549755813888) n4 12 4096 rfl (by decide) (by omega)
    rw [← cast_div] at h
    exact h
end Go.Proofs.YticgkabamelddaaDoor
namespace Go.Proofs.YticgkabamelddaaDoor
open Go.RowKit
theorem limb5_word (x : Nat) (h : x < 18446744073709551616) : limb5 x = [x % 2251799813685248, x / 2251799813685248, 0, 0, 0] := by
  simp only [limb5, List.cons.injEq, and_true]
  refine ⟨trivial, ?_, ?_, ?_, ?_⟩ <;> omega
/-- A small number modulo p. -/
def smallN (n : Int) : Nat := (n % (pp : Int)).toNat
end Go.Proofs.YticgkabamelddaaDoor
namespace Go.Proofs.YticgkabamelddaaDoor
open Go.RowKit
/-- A word of 32 bits as a cell holds it. -/
abbrev dcell (x : Nat) : Value := .int .u32 (x : Int)
def numD (l : List Nat) : Value := .agg (l.map dcell).toArray
def dzeros (n : Nat) : List Value := List.replicate n (dcell 0)
/-- The first words' number. -/
def pre (l : List Nat) : Nat → Nat
  | 0 => 0
  | i + 1 => pre l i + l.getD i 0 * 4294967296 ^ i
/-- A number's eight words. -/
def nD (n : Nat) : List Nat := [n % 4294967296, n / 4294967296 % 4294967296, n / 18446744073709551616 % 4294967296, n / 79228162514264337593543950336 % 4294967296, n / 340282366920938463463374607431768211456 % 4294967296, n / 1461501637330902918203684832716283019655932542976 % 4294967296, n / 6277101735386680763835789423207666416102355444464034512896 % 4294967296, n / 26959946667150639794667015087019630673637144422540572481103610249216 % 4294967296]
theorem nD_length (n : Nat) : (nD n).length = 8 := rfl
/-- 2^256. -/
abbrev mm : Nat := 115792089237316195423570985008687907853269984665640564039457584007913129639936
theorem dzeros_map (n : Nat) : dzeros n = (List.replicate n 0).map dcell := by simp [dzeros]
theorem dcells_one (l : List Nat) : (l.map dcell).toArray.all (·.oneCell') = true := all_oneCell_toArray (by intro v hv; obtain ⟨x, _, rfl⟩ := List.mem_map.1 hv; rfl)
theorem dat (l : List Nat) (k : Nat) (hk : k < l.length) : (l.map dcell)[k]? = some (dcell (l.getD k 0)) := by
  rw [List.getElem?_map, List.getD_eq_getElem?_getD, List.getElem?_eq_getElem hk]
  rfl
theorem dset_map (l : List Nat) (k x : Nat) : (l.map dcell).set k (dcell x) = (l.set k x).map dcell := by rw [List.map_set]
/-- Eight words, each below 2^32. -/
def D8 (l : List Nat) : Prop := l.length = 8 ∧ ∀ k, l.getD k 0 < 4294967296
theorem eight_of {α : Type} (l : List α) (h : l.length = 8) : ∃ a b c d e f g i, l = [a, b, c, d, e, f, g, i] := by
  match l, h with
  | [a, b, c, d, e, f, g, i], _ => exact ⟨a, b, c, d, e, f, g, i, rfl⟩
theorem pre_eight (a b c d e f g i : Nat) : pre [a, b, c, d, e, f, g, i] 8 = a + b * 4294967296 + c * 18446744073709551616 + d * 79228162514264337593543950336 + e * 340282366920938463463374607431768211456 + f * 1461501637330902918203684832716283019655932542976 + g * 6277101735386680763835789423207666416102355444464034512896 + i * 26959946667150639794667015087019630673637144422540572481103610249216 := by
  simp [pre]
theorem nD_D8 (n : Nat) : D8 (nD n) := by
  refine ⟨rfl, fun k => ?_⟩
  rcases Nat.lt_or_ge k 8 with h | h
  · rcases (show k = 0 ∨ k = 1 ∨ k = 2 ∨ k = 3 ∨ k = 4 ∨ k = 5 ∨ k = 6 ∨ k = 7 by omega) with rfl | rfl | rfl | rfl | rfl | rfl | rfl | rfl <;> exact Nat.mod_lt _ (by decide)
  · rw [List.getD_eq_getElem?_getD, List.getElem?_eq_none (by rw [nD_length]; exact h)]; decide
theorem pre_nD (n : Nat) (h : n < mm) : pre (nD n) 8 = n := by
  rw [nD, pre_eight]; simp only [mm] at h; omega
theorem D8.is {l : List Nat} (h : D8 l) : l = nD (pre l 8) := by
  obtain ⟨a, b, c, d, e, f, g, i, rfl⟩ := eight_of l h.1
  have h0 : a < 4294967296 := h.2 0
  have h1 : b < 4294967296 := h.2 1
  have h2 : c < 4294967296 := h.2 2
  have h3 : d < 4294967296 := h.2 3
  have h4 : e < 4294967296 := h.2 4
  have h5 : f < 4294967296 := h.2 5
  have h6 : g < 4294967296 := h.2 6
  have h7 : i < 4294967296 := h.2 7
  rw [pre_eight]
  simp only [nD, List.cons.injEq, and_true]
  refine ⟨?_, ?_, ?_, ?_, ?_, ?_, ?_, ?_⟩ <;> omega
theorem D8.lt {l : List Nat} (h : D8 l) : pre l 8 < mm := by
  obtain ⟨a, b, c, d, e, f, g, i, rfl⟩ := eight_of l h.1
  have h0 : a < 4294967296 := h.2 0
  have h1 : b < 4294967296 := h.2 1
  have h2 : c < 4294967296 := h.2 2
  have h3 : d < 4294967296 := h.2 3
  have h4 : e < 4294967296 := h.2 4
  have h5 : f < 4294967296 := h.2 5
  have h6 : g < 4294967296 := h.2 6
  have h7 : i < 4294967296 := h.2 7
  rw [pre_eight]; simp only [mm]; omega
/-- A word set: the number below it stays. -/
theorem pre_set_ge (l : List Nat) (j v : Nat) : ∀ i, i ≤ j → pre (l.set j v) i = pre l i
  | 0, _ => rfl
  | i + 1, h => by
    rw [pre, pre, pre_set_ge l j v i (by omega), List.getD_eq_getElem?_getD, List.getElem?_set_ne (by omega), ← List.getD_eq_getElem?_getD]
theorem getD_set_eq (l : List Nat) (j v : Nat) (h : j < l.length) : (l.set j v).getD j 0 = v := by
  rw [List.getD_eq_getElem?_getD, List.getElem?_set_self h]; rfl
theorem getD_set_neN (l : List Nat) (j k v : Nat) (h : j ≠ k) : (l.set j v).getD k 0 = l.getD k 0 := by
  rw [List.getD_eq_getElem?_getD, List.getElem?_set_ne h, ← List.getD_eq_getElem?_getD]
theorem pre_set (l : List Nat) (j v : Nat) (h : j < l.length) : pre (l.set j v) (j + 1) = pre l j + v * 4294967296 ^ j := by
  rw [pre, pre_set_ge l j v j (Nat.le_refl _), getD_set_eq l j v h]
theorem set_lt {l : List Nat} {b : Nat} (h : ∀ k, l.getD k 0 < b) (j v : Nat) (hv : v < b) : ∀ k, (l.set j v).getD k 0 < b := fun k => by
  by_cases e : j = k
  · subst e
    rcases Nat.lt_or_ge j l.length with hl | hl
    · rw [getD_set_eq l j v hl]; exact hv
    · rw [List.set_eq_of_length_le hl]; exact h j
  · rw [getD_set_neN l j k v e]; exact h k
theorem D8.set {l : List Nat} (h : D8 l) (j v : Nat) (hv : v < 4294967296) : D8 (l.set j v) := ⟨by rw [List.length_set]; exact h.1, set_lt h.2 j v hv⟩
theorem D8.zeros : D8 [0, 0, 0, 0, 0, 0, 0, 0] := by
  refine ⟨rfl, fun k => ?_⟩
  rcases Nat.lt_or_ge k 8 with h | h
  · rcases (show k = 0 ∨ k = 1 ∨ k = 2 ∨ k = 3 ∨ k = 4 ∨ k = 5 ∨ k = 6 ∨ k = 7 by omega) with rfl | rfl | rfl | rfl | rfl | rfl | rfl | rfl <;> decide
  · rw [List.getD_eq_getElem?_getD, List.getElem?_eq_none (show [0, 0, 0, 0, 0, 0, 0, 0].length ≤ k from h)]; decide
theorem size_w32 : (Tryd.prog.info? 71).map (·.size) = some 1 := by kernel_rfl
theorem dzeros8 : dzeros 8 = [0, 0, 0, 0, 0, 0, 0, 0].map dcell := rfl
theorem u64_id (x : Nat) (h : x < 18446744073709551616) : IntKind.u64.wrap (x : Int) = (x : Int) := by rw [IntKind.wrap_u64]; omega
theorem u32_mod (x : Nat) : IntKind.u32.wrap (x : Int) = ((x % 4294967296 : Nat) : Int) := by rw [IntKind.wrap_u32]; omega
end Go.Proofs.YticgkabamelddaaDoor
namespace Go.Proofs.YticgkabamelddaaDoor
open Go.RowKit
/-- minus, k words on: what is written, what is owed. -/
def miX (a b : List Nat) (o k : Nat) : Nat := a.getD k 0 + 4294967296 - b.getD k 0 - o
def miTo (a b : List Nat) : Nat → List Nat × Nat
  | 0 => ([0, 0, 0, 0, 0, 0, 0, 0], 0)
  | k + 1 => ((miTo a b k).1.set k (miX a b (miTo a b k).2 k % 4294967296), 1 - miX a b (miTo a b k).2 k / 4294967296)
theorem miTo_owe (a b : List Nat) : ∀ k, (miTo a b k).2 ≤ 1
  | 0 => Nat.zero_le _
  | k + 1 => by rw [miTo]; omega
theorem miTo_D8 (a b : List Nat) : ∀ k, D8 (miTo a b k).1
  | 0 => D8.zeros
  | k + 1 => by rw [miTo]; exact (miTo_D8 a b k).set _ _ (Nat.mod_lt _ (by decide))
theorem miTo_pre {a b : List Nat} (ha : D8 a) (hb : D8 b) : ∀ k, k ≤ 8 → pre (miTo a b k).1 k + pre b k = pre a k + (miTo a b k).2 * 4294967296 ^ k
  | 0, _ => rfl
  | k + 1, h => by
    have ih := miTo_pre ha hb k (by omega)
    have hl := (miTo_D8 a b k).1
    have ho := miTo_owe a b k
    rw [miTo]
    show pre ((miTo a b k).1.set k (miX a b (miTo a b k).2 k % 4294967296)) (k + 1) + _ = _ + (1 - miX a b (miTo a b k).2 k / 4294967296) * _
    rw [pre_set _ _ _ (by omega), pre, pre, Nat.pow_succ]
    have hx : miX a b (miTo a b k).2 k = a.getD k 0 + 4294967296 - b.getD k 0 - (miTo a b k).2 := rfl
    have h1 := ha.2 k
    have h2 := hb.2 k
    generalize miX a b (miTo a b k).2 k = x at *
    generalize (miTo a b k).2 = o at *
    generalize a.getD k 0 = p at *
    generalize b.getD k 0 = q at *
    have e : x % 4294967296 + q + o = p + (1 - x / 4294967296) * 4294967296 := by omega
    have e2 : (x % 4294967296 + q + o) * 4294967296 ^ k = (p + (1 - x / 4294967296) * 4294967296) * 4294967296 ^ k := by rw [e]
    rw [Nat.add_mul, Nat.add_mul, Nat.add_mul, Nat.mul_assoc (1 - x / 4294967296), Nat.mul_comm 4294967296] at e2
    omega
theorem miTo_all {a b : List Nat} (ha : D8 a) (hb : D8 b) (h : pre b 8 ≤ pre a 8) : (miTo a b 8).1 = nD (pre a 8 - pre b 8) := by
  have h1 := miTo_pre ha hb 8 (Nat.le_refl _)
  have h2 := (miTo_D8 a b 8).lt
  have h3 := miTo_owe a b 8
  have h4 := ha.lt
  rw [(miTo_D8 a b 8).is]
  congr 1
  rw [show 4294967296 ^ 8 = mm from rfl] at h1
  simp only [mm] at *
  omega
theorem pre_congr (a b : List Nat) : ∀ k, (∀ i, i < k → a.getD i 0 = b.getD i 0) → pre a k = pre b k
  | 0, _ => rfl
  | k + 1, h => by rw [pre, pre, pre_congr a b k fun i hi => h i (by omega), h k (by omega)]
theorem pre_lt {a : List Nat} (h : ∀ k, a.getD k 0 < 4294967296) : ∀ k, pre a k < 4294967296 ^ k
  | 0 => Nat.pow_pos (by decide)
  | k + 1 => by
    have h1 := pre_lt h k
    have h2 : a.getD k 0 * 4294967296 ^ k ≤ 4294967295 * 4294967296 ^ k := Nat.mul_le_mul_right _ (by have := h k; omega)
    rw [pre, Nat.pow_succ]; omega
theorem pre_less {a b : List Nat} (ha : ∀ k, a.getD k 0 < 4294967296) (k : Nat) (h : a.getD k 0 < b.getD k 0) : pre a (k + 1) < pre b (k + 1) := by
  have h1 := pre_lt ha k
  have h2 : (a.getD k 0 + 1) * 4294967296 ^ k ≤ b.getD k 0 * 4294967296 ^ k := Nat.mul_le_mul_right _ h
  rw [pre, pre]
  rw [Nat.add_mul, Nat.one_mul] at h2
  omega
theorem pre_tail (a b : List Nat) (k : Nat) : ∀ n, (∀ i, k ≤ i → i < k + n → a.getD i 0 = b.getD i 0) → pre a k < pre b k → pre a (k + n) < pre b (k + n)
  | 0, _, h => h
  | n + 1, h, hl => by
    have ih := pre_tail a b k n (fun i h1 h2 => h i h1 (by omega)) hl
    rw [← Nat.add_assoc, pre, pre, h (k + n) (by omega) (by omega)]
    omega
end Go.Proofs.YticgkabamelddaaDoor
namespace Go.Proofs.YticgkabamelddaaDoor
open Go.RowKit
/-- The number that a block of words holds. -/
def numAt (w : World) (g : Nat) : Nat := pre ((List.range 8).map fun j => match w.cell? ⟨g, j, none⟩ with | some (.int _ i) => i.toNat | _ => 0) 8
theorem numAt_is {w : World} {g : Nat} {l : List Nat} {t : TypeId} (hC : Cells w g (l.map dcell) t) (hl : l.length = 8) : numAt w g = pre l 8 := by
  rw [numAt]
  congr 1
  apply List.ext_getElem
  · simp [hl]
  · intro i h1 h2
    have h3 := hC.get (dat l i h2)
    simp only [List.getElem_map, List.getElem_range, h3]
    simp [h2]
def leastVs1 (a y p : List Nat) (b : Bool) (ga gz : Nat) (u7 u8 u9 : Value) : List Value :=
  (numD a) :: (.pointer (some ⟨ga, 0, none⟩)) :: (.pointer (some ⟨gz, 0, none⟩)) :: (numD y) :: (numD p) :: (.bool b) :: (.bool (!b)) :: (u7) :: (u8) :: (u9) :: undef :: []
def leastVs2 (a y p z : List Nat) (ga gz : Nat) : List Value :=
  (numD a) :: (.pointer (some ⟨ga, 0, none⟩)) :: (.pointer (some ⟨gz, 0, none⟩)) :: (numD y) :: (numD p) :: (.bool false) :: (.bool true) :: (numD y) :: (numD p) :: (numD z) :: undef :: []
end Go.Proofs.YticgkabamelddaaDoor
namespace Go.Proofs.YticgkabamelddaaDoor
open Go.RowKit
def psum (f : Nat → Nat) : Nat → Nat
  | 0 => 0
  | k + 1 => psum f k + f k * 4294967296 ^ k
theorem pre_psum (l : List Nat) : ∀ k, pre l k = psum (fun j => l.getD j 0) k
  | 0 => rfl
  | k + 1 => by rw [pre, psum, pre_psum l k]
theorem psum_add (f g : Nat → Nat) : ∀ k, psum (fun j => f j + g j) k = psum f k + psum g k
  | 0 => rfl
  | k + 1 => by rw [psum, psum, psum, psum_add f g k, Nat.add_mul]; omega
theorem psum_mul (c : Nat) (f : Nat → Nat) : ∀ k, psum (fun j => c * f j) k = c * psum f k
  | 0 => rfl
  | k + 1 => by rw [psum, psum, psum_mul c f k, Nat.mul_add, Nat.mul_assoc]
theorem psum_congr (f g : Nat → Nat) : ∀ k, (∀ j, j < k → f j = g j) → psum f k = psum g k
  | 0, _ => rfl
  | k + 1, h => by rw [psum, psum, psum_congr f g k fun j hj => h j (by omega), h k (by omega)]
/-- Word by word: the sum's low word is written, the rest carried. -/
def cyTo (f : Nat → Nat) (l0 : List Nat) (c0 : Nat) : Nat → List Nat × Nat
  | 0 => (l0, c0)
  | k + 1 => ((cyTo f l0 c0 k).1.set k ((f k + (cyTo f l0 c0 k).2) % 4294967296), (f k + (cyTo f l0 c0 k).2) / 4294967296)
theorem cyTo_length (f : Nat → Nat) (l0 : List Nat) (c0 : Nat) : ∀ k, (cyTo f l0 c0 k).1.length = l0.length
  | 0 => rfl
  | k + 1 => by rw [cyTo, List.length_set, cyTo_length]
theorem cyTo_lt (f : Nat → Nat) {l0 : List Nat} (c0 : Nat) (h : ∀ k, l0.getD k 0 < 4294967296) : ∀ k j, (cyTo f l0 c0 k).1.getD j 0 < 4294967296
  | 0 => h
  | k + 1 => by rw [cyTo]; exact set_lt (cyTo_lt f c0 h k) k _ (Nat.mod_lt _ (by decide))
theorem cyTo_ahead (f : Nat → Nat) (l0 : List Nat) (c0 : Nat) : ∀ k j, k ≤ j → (cyTo f l0 c0 k).1.getD j 0 = l0.getD j 0
  | 0, _, _ => rfl
  | k + 1, j, h => by rw [cyTo, getD_set_neN _ _ _ _ (by omega), cyTo_ahead f l0 c0 k j (by omega)]
theorem cyTo_pre (f : Nat → Nat) (l0 : List Nat) (c0 : Nat) : ∀ k, k ≤ l0.length → pre (cyTo f l0 c0 k).1 k + (cyTo f l0 c0 k).2 * 4294967296 ^ k = psum f k + c0
  | 0, _ => by simp [cyTo, pre, psum]
  | k + 1, h => by
    have ih := cyTo_pre f l0 c0 k (by omega)
    have hl := cyTo_length f l0 c0 k
    rw [cyTo]
    show pre ((cyTo f l0 c0 k).1.set k ((f k + (cyTo f l0 c0 k).2) % 4294967296)) (k + 1) + (f k + (cyTo f l0 c0 k).2) / 4294967296 * _ = _
    rw [pre_set _ _ _ (by omega), psum, Nat.pow_succ]
    generalize (cyTo f l0 c0 k).2 = o at *
    have e := Nat.div_add_mod (f k + o) 4294967296
    generalize (f k + o) % 4294967296 = r at *
    generalize (f k + o) / 4294967296 = q at *
    have e2 : (4294967296 * q + r) * 4294967296 ^ k = (f k + o) * 4294967296 ^ k := by rw [e]
    rw [Nat.add_mul, Nat.add_mul, Nat.mul_assoc, Nat.mul_left_comm] at e2
    rw [Nat.mul_comm (4294967296 ^ k)]
    omega
theorem cyTo_le (f : Nat → Nat) (l0 : List Nat) (c0 m : Nat) (hc : c0 ≤ m) (hf : ∀ k, f k + m < (m + 1) * 4294967296) : ∀ k, (cyTo f l0 c0 k).2 ≤ m
  | 0 => hc
  | k + 1 => by
    have ih := cyTo_le f l0 c0 m hc hf k
    have h := hf k
    rw [cyTo]
    show (f k + (cyTo f l0 c0 k).2) / 4294967296 ≤ m
    have : (f k + (cyTo f l0 c0 k).2) / 4294967296 < m + 1 := Nat.div_lt_of_lt_mul (by rw [Nat.mul_comm]; omega)
    omega
/-- The loop over what is beyond 2^256. -/
def foldI (u o : Nat) : Nat := if o = 0 then 0 else if u + 38 * o < mm then 1 else 2
end Go.Proofs.YticgkabamelddaaDoor
namespace Go.Proofs.YticgkabamelddaaDoor
open Go.RowKit
/-- The first round's sums. -/
def foldF (a : List Nat) (k : Nat) : Nat := a.getD k 0 + 38 * a.getD (8 + k) 0
def foldS (a : List Nat) (k : Nat) : List Nat × Nat := cyTo (foldF a) [0, 0, 0, 0, 0, 0, 0, 0] 0 k
def foldV (u o k : Nat) : List Nat × Nat := cyTo (fun j => (nD u).getD j 0) (nD u) (38 * o) k
theorem foldS_next (a : List Nat) (k : Nat) : (foldS a (k + 1)).1 = (foldS a k).1.set k ((a.getD k 0 + 38 * a.getD (8 + k) 0 + (foldS a k).2) % 4294967296) ∧ (foldS a (k + 1)).2 = (a.getD k 0 + 38 * a.getD (8 + k) 0 + (foldS a k).2) / 4294967296 := by
  rw [foldS, cyTo, foldF, ← foldS]
  exact ⟨rfl, rfl⟩
theorem foldV_next (u o k : Nat) : foldV u o (k + 1) = ((foldV u o k).1.set k (((nD u).getD k 0 + (foldV u o k).2) % 4294967296), ((nD u).getD k 0 + (foldV u o k).2) / 4294967296) := by
  rw [foldV, cyTo, ← foldV]
theorem fold_u (a : List Nat) : ∃ u, u < mm ∧ (foldS a 8).1 = nD u ∧ (u + mm * (foldS a 8).2) % pp = pre a 16 % pp := by
  have hd : D8 (foldS a 8).1 := ⟨cyTo_length _ _ _ 8, cyTo_lt _ _ D8.zeros.2 8⟩
  refine ⟨pre (foldS a 8).1 8, hd.lt, hd.is, ?_⟩
  have h : pre (foldS a 8).1 8 + (foldS a 8).2 * 4294967296 ^ 8 = psum (foldF a) 8 + 0 := cyTo_pre (foldF a) [0, 0, 0, 0, 0, 0, 0, 0] 0 8 (Nat.le_refl _)
  have hF : psum (foldF a) 8 = pre a 8 + 38 * psum (fun j => a.getD (8 + j) 0) 8 := by
    rw [show foldF a = fun k => a.getD k 0 + 38 * a.getD (8 + k) 0 from rfl, psum_add, psum_mul, ← pre_psum]
  have key : ∀ n, pre a (8 + n) = pre a 8 + 4294967296 ^ 8 * psum (fun j => a.getD (8 + j) 0) n := by
    intro n
    induction n with
    | zero => rw [psum, Nat.mul_zero, Nat.add_zero, Nat.add_zero]
    | succ n ih => rw [← Nat.add_assoc, pre, ih, psum, Nat.mul_add, Nat.pow_add, Nat.mul_left_comm, Nat.add_assoc]
  have e := key 8
  rw [hF] at h
  generalize psum (fun j => a.getD (8 + j) 0) 8 = q at *
  rw [show (8 + 8 : Nat) = 16 from rfl] at e
  generalize pre a 16 = x at *
  generalize pre a 8 = y at *
  generalize pre (foldS a 8).1 8 = u at *
  generalize (foldS a 8).2 = o at *
  rw [show (4294967296 : Nat) ^ 8 = mm from by decide] at *
  have e2 : x = (u + mm * o) + pp * (2 * q) := by simp only [mm, pp] at *; omega
  rw [e2, Nat.add_mul_mod_self_left]
theorem fold_c (u o : Nat) (hu : u < mm) (ho : o ≤ 38) : (∀ k, (foldV u o k).2 ≤ 1500) ∧ (foldV u o 8).1 = nD ((u + 38 * o) % mm) ∧ (foldV u o 8).2 = (u + 38 * o) / mm := by
  have hd : D8 (foldV u o 8).1 := ⟨cyTo_length _ _ _ 8, cyTo_lt _ _ (nD_D8 u).2 8⟩
  have h : pre (foldV u o 8).1 8 + (foldV u o 8).2 * 4294967296 ^ 8 = psum (fun j => (nD u).getD j 0) 8 + 38 * o := cyTo_pre (fun k => (nD u).getD k 0) (nD u) (38 * o) 8 (Nat.le_of_eq (nD_length u).symm)
  rw [← pre_psum, pre_nD u hu] at h
  have hlt := hd.lt
  have his := hd.is
  have hle : ∀ k, (foldV u o k).2 ≤ 1500 := cyTo_le (fun k => (nD u).getD k 0) (nD u) (38 * o) 1500 (by omega) (fun k => by have := (nD_D8 u).2 k; omega)
  rw [his]
  generalize pre (foldV u o 8).1 8 = x at *
  generalize (foldV u o 8).2 = c at *
  rw [show (4294967296 : Nat) ^ 8 = mm from by decide] at h
  have e1 : x = (u + 38 * o) % mm ∧ c = (u + 38 * o) / mm := by simp only [mm] at *; omega
  exact ⟨hle, by rw [e1.1], e1.2⟩
theorem foldS_le (a : List Nat) (ha : ∀ k, a.getD k 0 < 4294967296) (k : Nat) : (foldS a k).2 ≤ 38 :=
  cyTo_le (foldF a) [0, 0, 0, 0, 0, 0, 0, 0] 0 38 (Nat.zero_le _) (fun k => by have := ha k; have := ha (8 + k); rw [foldF]; omega) k
theorem foldS_length (a : List Nat) (k : Nat) : (foldS a k).1.length = 8 := cyTo_length _ _ _ k
theorem foldS_zero (a : List Nat) : (foldS a 0).1 = [0, 0, 0, 0, 0, 0, 0, 0] ∧ (foldS a 0).2 = 0 := by rw [foldS, cyTo]; exact ⟨rfl, rfl⟩
theorem foldV_all (u o : Nat) : foldV u o 0 = (nD u, 38 * o) ∧ (∀ k, (foldV u o k).1.length = 8) ∧ (∀ k, foldV u o (k + 1) = ((foldV u o k).1.set k (((nD u).getD k 0 + (foldV u o k).2) % 4294967296), ((nD u).getD k 0 + (foldV u o k).2) / 4294967296)) ∧ ∀ k, (foldV u o k).1.getD k 0 = (nD u).getD k 0 :=
  ⟨by rw [foldV, cyTo], fun k => cyTo_length _ _ _ k, foldV_next u o, fun k => cyTo_ahead _ _ _ k k (Nat.le_refl _)⟩
end Go.Proofs.YticgkabamelddaaDoor
namespace Go.Proofs.YticgkabamelddaaDoor
open Go.RowKit
def z16 : List Nat := [0, 0, 0, 0, 0, 0, 0, 0, 0, 0, 0, 0, 0, 0, 0, 0]
theorem dzeros16 : dzeros 16 = z16.map dcell := rfl
theorem z16_zero (k : Nat) : z16.getD k 0 = 0 := by
  rcases Nat.lt_or_ge k 16 with h | h
  · rw [show z16 = List.replicate 16 0 from rfl, List.getD_eq_getElem?_getD, List.getElem?_replicate]
    simp [h]
  · rw [List.getD_eq_getElem?_getD, List.getElem?_eq_none (show z16.length ≤ k from h)]; rfl
theorem pre_over (l : List Nat) (m : Nat) (h : ∀ j, m ≤ j → l.getD j 0 = 0) : ∀ n, pre l (m + n) = pre l m
  | 0 => rfl
  | n + 1 => by rw [← Nat.add_assoc, pre, pre_over l m h n, h (m + n) (by omega), Nat.zero_mul, Nat.add_zero]
def addS (a b : List Nat) (k : Nat) : List Nat × Nat := cyTo (fun j => a.getD j 0 + b.getD j 0) z16 0 k
theorem addS_next (a b : List Nat) (k : Nat) : (addS a b (k + 1)).1 = (addS a b k).1.set k ((a.getD k 0 + b.getD k 0 + (addS a b k).2) % 4294967296) ∧ (addS a b (k + 1)).2 = (a.getD k 0 + b.getD k 0 + (addS a b k).2) / 4294967296 := by
  rw [addS, cyTo, ← addS]
  exact ⟨rfl, rfl⟩
theorem addS_zero (a b : List Nat) : (addS a b 0).1 = z16 ∧ (addS a b 0).2 = 0 := by rw [addS, cyTo]; exact ⟨rfl, rfl⟩
theorem addS_length (a b : List Nat) (k : Nat) : (addS a b k).1.length = 16 := cyTo_length _ _ _ k
theorem addS_le {a b : List Nat} (ha : ∀ k, a.getD k 0 < 4294967296) (hb : ∀ k, b.getD k 0 < 4294967296) (k : Nat) : (addS a b k).2 ≤ 1 :=
  cyTo_le _ _ _ 1 (Nat.zero_le _) (fun k => by have := ha k; have := hb k; omega) k
theorem addS_lt (a b : List Nat) : ∀ k, (addS a b 8).1.getD k 0 < 4294967296 := cyTo_lt _ 0 (fun k => by rw [z16_zero]; decide) 8
theorem addS_val (a b : List Nat) : pre ((addS a b 8).1.set 8 (addS a b 8).2) 16 = pre a 8 + pre b 8 := by
  have h : pre (addS a b 8).1 8 + (addS a b 8).2 * 4294967296 ^ 8 = psum (fun j => a.getD j 0 + b.getD j 0) 8 + 0 := cyTo_pre _ z16 0 8 (by decide)
  rw [psum_add, ← pre_psum, ← pre_psum, Nat.add_zero] at h
  have h0 : ∀ j, 9 ≤ j → ((addS a b 8).1.set 8 (addS a b 8).2).getD j 0 = 0 := fun j hj => by
    rw [getD_set_neN _ _ _ _ (by omega), addS, cyTo_ahead _ _ _ 8 j (by omega), z16_zero]
  rw [show 16 = 9 + 7 from rfl, pre_over _ 9 h0 7, pre_set _ 8 _ (by rw [addS_length]; decide), h]
end Go.Proofs.YticgkabamelddaaDoor
namespace Go.Proofs.YticgkabamelddaaDoor
open Go.RowKit
end Go.Proofs.YticgkabamelddaaDoor
namespace Go.Proofs.YticgkabamelddaaDoor
open Go.RowKit
def rowV (a b s0 : List Nat) (i : Nat) : Nat → List Nat × Nat
  | 0 => (s0, 0)
  | k + 1 => ((rowV a b s0 i k).1.set (i + k) ((a.getD i 0 * b.getD k 0 + (rowV a b s0 i k).1.getD (i + k) 0 + (rowV a b s0 i k).2) % 4294967296), (a.getD i 0 * b.getD k 0 + (rowV a b s0 i k).1.getD (i + k) 0 + (rowV a b s0 i k).2) / 4294967296)
def rowS (a b : List Nat) : Nat → List Nat
  | 0 => z16
  | i + 1 => (rowV a b (rowS a b i) i 8).1.set (i + 8) (rowV a b (rowS a b i) i 8).2
theorem rowV_length (a b s0 : List Nat) (i : Nat) : ∀ k, (rowV a b s0 i k).1.length = s0.length
  | 0 => rfl
  | k + 1 => by rw [rowV, List.length_set, rowV_length]
theorem rowV_lt {a b s0 : List Nat} (ha : ∀ k, a.getD k 0 < 4294967296) (hb : ∀ k, b.getD k 0 < 4294967296) (hs : ∀ k, s0.getD k 0 < 4294967296) (i : Nat) : ∀ k, (∀ j, (rowV a b s0 i k).1.getD j 0 < 4294967296) ∧ (rowV a b s0 i k).2 < 4294967296
  | 0 => ⟨hs, show (0 : Nat) < 4294967296 by decide⟩
  | k + 1 => by
    obtain ⟨h1, h2⟩ := rowV_lt ha hb hs i k
    rw [rowV]
    refine ⟨set_lt h1 _ _ (Nat.mod_lt _ (by decide)), ?_⟩
    have h3 := h1 (i + k)
    have hm : a.getD i 0 * b.getD k 0 ≤ 4294967295 * 4294967295 := Nat.mul_le_mul (by have := ha i; omega) (by have := hb k; omega)
    show (a.getD i 0 * b.getD k 0 + (rowV a b s0 i k).1.getD (i + k) 0 + (rowV a b s0 i k).2) / 4294967296 < 4294967296
    omega
theorem rowV_ahead (a b s0 : List Nat) (i j : Nat) : ∀ k, i + k ≤ j → (rowV a b s0 i k).1.getD j 0 = s0.getD j 0
  | 0, _ => rfl
  | k + 1, h => by rw [rowV, getD_set_neN _ _ _ _ (by omega), rowV_ahead a b s0 i j k (by omega)]
theorem pre_set_all (l : List Nat) (j v : Nat) (hl : j < l.length) : ∀ n, j < n → pre (l.set j v) n + l.getD j 0 * 4294967296 ^ j = pre l n + v * 4294967296 ^ j
  | 0, h => by omega
  | n + 1, h => by
    rcases Nat.lt_or_ge j n with h1 | h1
    · have ih := pre_set_all l j v hl n h1
      rw [pre, pre, getD_set_neN _ _ _ _ (by omega)]
      omega
    · obtain rfl : j = n := by omega
      rw [pre_set l j v hl, pre]; omega
theorem rowV_next (a b s0 : List Nat) (i k : Nat) : rowV a b s0 i (k + 1) = ((rowV a b s0 i k).1.set (i + k) ((a.getD i 0 * b.getD k 0 + (rowV a b s0 i k).1.getD (i + k) 0 + (rowV a b s0 i k).2) % 4294967296), (a.getD i 0 * b.getD k 0 + (rowV a b s0 i k).1.getD (i + k) 0 + (rowV a b s0 i k).2) / 4294967296) := by rw [rowV]
theorem pre_next (l : List Nat) (k : Nat) : pre l (k + 1) = pre l k + l.getD k 0 * 4294967296 ^ k := by rw [pre]
theorem row_step (n p t u c d x E : Nat) (h1 : n + u * E = p + x % 4294967296 * E) (h2 : p + c * E = t) (hx : x = d + u + c) : n + x / 4294967296 * (E * 4294967296) = t + d * E := by
  have e := Nat.div_add_mod x 4294967296
  have e2 : (4294967296 * (x / 4294967296) + x % 4294967296) * E = (d + u + c) * E := by rw [e, hx]
  have e3 : x / 4294967296 * (E * 4294967296) = 4294967296 * (x / 4294967296) * E := by rw [Nat.mul_comm E, ← Nat.mul_assoc, Nat.mul_comm (x / 4294967296)]
  rw [Nat.add_mul, Nat.add_mul, Nat.add_mul] at e2
  omega
theorem row_part (p q E F : Nat) : p * (q * E) * F = p * q * (F * E) := by rw [Nat.mul_comm F, ← Nat.mul_assoc, ← Nat.mul_assoc]
theorem rowV_pre (a b s0 : List Nat) (i : Nat) (hl : s0.length = 16) : ∀ k, i + k ≤ 16 → pre (rowV a b s0 i k).1 16 + (rowV a b s0 i k).2 * 4294967296 ^ (i + k) = pre s0 16 + a.getD i 0 * pre b k * 4294967296 ^ i
  | 0, _ => by rw [rowV, pre, Nat.mul_zero, Nat.zero_mul, Nat.zero_mul]
  | k + 1, h => by
    have ih := rowV_pre a b s0 i hl k (by omega)
    have hlen := rowV_length a b s0 i k
    have hn := rowV_next a b s0 i k
    have hs := fun v => pre_set_all (rowV a b s0 i k).1 (i + k) v (by omega) 16 (by omega)
    generalize (rowV a b s0 i k).1.getD (i + k) 0 = u at *
    generalize (rowV a b s0 i k).2 = c at *
    generalize (rowV a b s0 i k).1 = s at *
    generalize hx : a.getD i 0 * b.getD k 0 + u + c = x at *
    have key := row_step _ _ _ u c (a.getD i 0 * b.getD k 0) x _ (hs (x % 4294967296)) ih hx.symm
    rw [hn]
    dsimp only
    rw [pre_next b k, Nat.mul_add, Nat.add_mul, row_part, ← Nat.pow_add, ← Nat.add_assoc i, Nat.pow_succ, ← Nat.add_assoc]
    exact key
theorem rowS_length (a b : List Nat) : ∀ i, (rowS a b i).length = 16
  | 0 => rfl
  | i + 1 => by rw [rowS, List.length_set, rowV_length, rowS_length]
theorem rowS_lt {a b : List Nat} (ha : ∀ k, a.getD k 0 < 4294967296) (hb : ∀ k, b.getD k 0 < 4294967296) : ∀ i k, (rowS a b i).getD k 0 < 4294967296
  | 0, k => by rw [rowS, z16_zero]; decide
  | i + 1, k => by
    have h := rowV_lt ha hb (rowS_lt ha hb i) i 8
    rw [rowS]
    exact set_lt h.1 _ _ h.2 k
theorem rowS_zero (a b : List Nat) : ∀ i j, i + 8 ≤ j → (rowS a b i).getD j 0 = 0
  | 0, j, _ => z16_zero j
  | i + 1, j, h => by rw [rowS, getD_set_neN _ _ _ _ (by omega), rowV_ahead _ _ _ _ _ 8 (by omega), rowS_zero a b i j (by omega)]
theorem z16_pre : ∀ n, pre z16 n = 0
  | 0 => rfl
  | n + 1 => by rw [pre, z16_pre n, z16_zero, Nat.zero_mul]
theorem rowS_pre (a b : List Nat) : ∀ i, i ≤ 8 → pre (rowS a b i) 16 = pre a i * pre b 8
  | 0, _ => by rw [rowS, z16_pre, pre, Nat.zero_mul]
  | i + 1, h => by
    have ih := rowS_pre a b i (by omega)
    have h1 := rowV_pre a b (rowS a b i) i (rowS_length a b i) 8 (by omega)
    have h2 := pre_set_all (rowV a b (rowS a b i) i 8).1 (i + 8) (rowV a b (rowS a b i) i 8).2 (by rw [rowV_length, rowS_length]; omega) 16 (by omega)
    rw [rowV_ahead _ _ _ _ _ 8 (Nat.le_refl _), rowS_zero a b i (i + 8) (Nat.le_refl _), Nat.zero_mul, Nat.add_zero, h1, ih] at h2
    rw [rowS, h2]
    generalize pre b 8 = y at *
    rw [pre, Nat.add_mul, Nat.mul_assoc, Nat.mul_assoc, Nat.mul_comm y]
theorem rowS_next (a b : List Nat) (i : Nat) : rowS a b (i + 1) = (rowV a b (rowS a b i) i 8).1.set (i + 8) (rowV a b (rowS a b i) i 8).2 := by rw [rowS]
end Go.Proofs.YticgkabamelddaaDoor
namespace Go.Proofs.YticgkabamelddaaDoor
open Go.RowKit
def refSubVs (a b p l m r : List Nat) (ga gb gz : Nat) : List Value :=
  (numD a) :: (numD b) :: (.pointer (some ⟨ga, 0, none⟩)) :: (.pointer (some ⟨gb, 0, none⟩)) :: (.pointer (some ⟨gz, 0, none⟩)) :: (numD a) :: (numD p) :: (numD b) :: (numD l) :: (numD m) :: (numD r) :: []
end Go.Proofs.YticgkabamelddaaDoor
namespace Go.Proofs.YticgkabamelddaaDoor
open Go.RowKit
theorem bit_at (x k : Nat) (b : Bool) (hx : x < 4294967296) (h : decide (x / 2 ^ k % 2 = 1) = b) : bits .and .u32 ((x : Int) / 2 ^ k) 1 = if b then 1 else 0 := by
  have h2 : x / 2 ^ k < 4294967296 := Nat.lt_of_le_of_lt (Nat.div_le_self _ _) hx
  rw [pow_cast, ← Int.natCast_ediv, show (1 : Int) = ((1 : Nat) : Int) from rfl, u32_and_nat _ _ h2 (by omega), Nat.and_one_is_mod, ← h]
  have := Nat.mod_two_eq_zero_or_one (x / 2 ^ k)
  rcases this with h | h <;> rw [h] <;> simp
end Go.Proofs.YticgkabamelddaaDoor
namespace Go.Proofs.YticgkabamelddaaDoor
open Go.RowKit
theorem nD_at (n i : Nat) (h : i < 8) : (nD n).getD i 0 = n / 2 ^ (32 * i) % 2 ^ 32 := by
  rcases (show i = 0 ∨ i = 1 ∨ i = 2 ∨ i = 3 ∨ i = 4 ∨ i = 5 ∨ i = 6 ∨ i = 7 by omega) with rfl | rfl | rfl | rfl | rfl | rfl | rfl | rfl <;> simp [nD]
theorem nD_bit (n k : Nat) (h : k < 256) : decide ((nD n).getD (k / 32) 0 / 2 ^ (k % 32) % 2 = 1) = n.testBit k := by
  rw [← Nat.testBit_eq_decide_div_mod_eq, nD_at n (k / 32) (by omega), Nat.testBit_mod_two_pow, Nat.testBit_div_two_pow, show k % 32 + 32 * (k / 32) = k by omega, decide_eq_true (show k % 32 < 32 by omega), Bool.true_and]
/-- The power by the bits of e above the k lowest. -/
def tN (a e k : Nat) : Nat := a ^ (e / 2 ^ k) % pp
theorem tN_top (a e : Nat) (h : e < mm) : tN a e 256 = 1 := by
  rw [tN, Nat.div_eq_of_lt (Nat.lt_of_lt_of_le h (by decide +kernel)), Nat.pow_zero]
  decide
theorem tN_zero (a e : Nat) : tN a e 0 = a ^ e % pp := by rw [tN, Nat.pow_zero, Nat.div_one]
theorem tN_lt (a e k : Nat) : tN a e k < mm := Nat.lt_trans (Nat.mod_lt _ (by decide)) (by decide)
theorem halves (e k : Nat) : e / 2 ^ k = e / 2 ^ (k + 1) + e / 2 ^ (k + 1) + e / 2 ^ k % 2 := by
  rw [Nat.pow_succ, ← Nat.div_div_eq_div_mul]; omega
theorem tN_even (a e k : Nat) (h : e.testBit k = false) : tN a e (k + 1) * tN a e (k + 1) % pp = tN a e k := by
  rw [Nat.testBit_eq_decide_div_mod_eq, decide_eq_false_iff_not] at h
  rw [tN, tN, halves e k, show e / 2 ^ k % 2 = 0 by omega, Nat.add_zero (e / 2 ^ (k + 1) + e / 2 ^ (k + 1))]
  generalize e / 2 ^ (k + 1) = y
  rw [Nat.pow_add a y y, ← Nat.mul_mod]
theorem tN_odd (a e k : Nat) (h : e.testBit k = true) : (tN a e (k + 1) * tN a e (k + 1) % pp) * a % pp = tN a e k := by
  rw [Nat.testBit_eq_decide_div_mod_eq, decide_eq_true_eq] at h
  rw [tN, tN, halves e k, h]
  generalize e / 2 ^ (k + 1) = y
  rw [Nat.pow_succ, Nat.pow_add, ← Nat.mul_mod, Nat.mod_mul_mod]
end Go.Proofs.YticgkabamelddaaDoor
namespace Go.Proofs.YticgkabamelddaaDoor
open Go.RowKit
def refInvertVs (a p t m r : List Nat) (ga gz : Nat) : List Value :=
  (numD a) :: (.pointer (some ⟨ga, 0, none⟩)) :: (.pointer (some ⟨gz, 0, none⟩)) :: (numD a) :: (numD p) :: (numD t) :: (numD m) :: (numD r) :: []
/-- The document's Curve. -/
def curveN : Nat := 37095705934669439343138083508754565189542113879843219016388785533085940283555
/-- The document's BaseY. -/
def baseYN : Nat := 46316835694926478169428394003475163141307993866256225615783033603165251855960
/-- The document's BaseX. -/
def baseXN : Nat := 15112221349535400772501151409588531511454012693041857206046113283949847762202
end Go.Proofs.YticgkabamelddaaDoor
namespace Go.Proofs.YticgkabamelddaaDoor
open Go.RowKit
theorem nD_get (n k : Nat) (h : k < (nD n).length) : (nD n)[k] = n / 2 ^ (32 * k) % 2 ^ 32 := by
  rw [← nD_at n k h, List.getD_eq_getElem?_getD, List.getElem?_eq_getElem h]; rfl
theorem nD_add (n x i : Nat) (hn : n < 2 ^ (8 * i)) (hx : x < 256) : nD (n + x * 2 ^ (8 * i)) = (nD n).set (i / 4) ((nD n).getD (i / 4) 0 + x * 2 ^ (8 * (i % 4))) := by
  apply List.ext_getElem (by rw [List.length_set]; rfl)
  intro k h1 h2
  have hk : k < 8 := h1
  rw [nD_get _ k h1, List.getElem_set]
  split
  · rename_i e
    subst e
    rw [nD_at n _ hk]
    have hE : 2 ^ (8 * i) = 2 ^ (8 * (i % 4)) * 2 ^ (32 * (i / 4)) := by rw [← Nat.pow_add]; congr 1; omega
    have hP : 2 ^ (8 * (i % 4)) ≤ 16777216 := Nat.le_trans (Nat.pow_le_pow_right (by decide) (show 8 * (i % 4) ≤ 24 by omega)) (by decide)
    have hD : 0 < 2 ^ (32 * (i / 4)) := Nat.two_pow_pos _
    rw [hE] at hn ⊢
    generalize 2 ^ (8 * (i % 4)) = P at *
    generalize 2 ^ (32 * (i / 4)) = D at *
    have h3 : n / D < P := Nat.div_lt_of_lt_mul (by rw [Nat.mul_comm]; exact hn)
    rw [← Nat.mul_assoc, Nat.add_mul_div_right _ _ hD]
    have h4 : x * P ≤ 255 * P := Nat.mul_le_mul_right _ (by omega)
    rw [Nat.mod_eq_of_lt (show n / D + x * P < 2 ^ 32 by omega), Nat.mod_eq_of_lt (show n / D < 2 ^ 32 by omega)]
  · rename_i e
    rw [nD_get]
    rcases Nat.lt_or_ge k (i / 4) with h | h
    · have hE : 2 ^ (8 * i) = 2 ^ 32 * 2 ^ (8 * i - 32 * (k + 1)) * 2 ^ (32 * k) := by rw [← Nat.pow_add, ← Nat.pow_add]; congr 1; omega
      rw [hE]
      generalize 2 ^ (8 * i - 32 * (k + 1)) = F
      rw [← Nat.mul_assoc, Nat.add_mul_div_right _ _ (Nat.two_pow_pos _), ← Nat.mul_assoc, Nat.mul_comm x, Nat.mul_assoc, Nat.add_mul_mod_self_left]
    · have hL : 2 ^ (8 * i) * 256 ≤ 2 ^ (32 * k) := by
        rw [show 256 = 2 ^ 8 from rfl, ← Nat.pow_add]; exact Nat.pow_le_pow_right (by decide) (by omega)
      generalize 2 ^ (8 * i) = E at *
      generalize 2 ^ (32 * k) = G at *
      have h4 : x * E ≤ 255 * E := Nat.mul_le_mul_right _ (by omega)
      rw [Nat.div_eq_of_lt (show n + x * E < G by omega), Nat.div_eq_of_lt (show n < G by omega)]
end Go.Proofs.YticgkabamelddaaDoor
namespace Go.Proofs.YticgkabamelddaaDoor
open Go.RowKit
theorem lev_step (b : List UInt8) (k : Nat) (hk : k < b.length) : lev (b.take (k + 1)) = lev (b.take k) + (b.getD k 0).toNat * 2 ^ (8 * k) := by
  rw [List.take_succ_eq_append_getElem hk, lev_append, List.length_take, Nat.min_eq_left (Nat.le_of_lt hk), lev_cons, show (256 : Nat) = 2 ^ 8 from rfl, ← Nat.pow_mul, Nat.mul_comm, List.getD_eq_getElem?_getD, List.getElem?_eq_getElem hk]
  rfl
theorem lev_take_lt (b : List UInt8) (k : Nat) (hk : k ≤ b.length) : lev (b.take k) < 2 ^ (8 * k) := by
  have h := lev_lt (b.take k)
  rw [List.length_take, Nat.min_eq_left hk, show (256 : Nat) = 2 ^ 8 from rfl, ← Nat.pow_mul] at h
  exact h
end Go.Proofs.YticgkabamelddaaDoor
namespace Go.Proofs.YticgkabamelddaaDoor
open Go.RowKit
theorem size_b32 : (Tryd.prog.info? 24).map (·.size) = some 32 := by kernel_rfl
theorem zero_b32 : ∀ w, (zeroValue 24).run Tryd.prog w = .ok (.agg (List.replicate 32 (cellOf 0)).toArray) w := (zero_of_info (P := Tryd.prog) (t := 24) (v := .agg (List.replicate 32 (cellOf 0)).toArray) (n := 32) (by kernel_rfl)).1
theorem build_b32 (w : World) : (Instr.build 24 #[]).run Tryd.prog w = .ok (hashVal (List.replicate 32 0)) w := by kernel_rfl
theorem nD_byte (n k : Nat) (hk : k < 32) : (nD n).getD (k / 4) 0 / 2 ^ (8 * (k % 4)) % 256 = (byteAt n k).toNat := by
  rw [nD_at n _ (by omega), byteAt, UInt8.toNat_ofNat', show (256 : Nat) = 2 ^ 8 from rfl, ← Nat.pow_mul]
  have h1 : 2 ^ 32 = 2 ^ (8 * (k % 4)) * 2 ^ (32 - 8 * (k % 4)) := by rw [← Nat.pow_add]; congr 1; omega
  have h2 : (2 : Nat) ^ 8 ∣ 2 ^ (32 - 8 * (k % 4)) := Nat.pow_dvd_pow 2 (by omega)
  rw [h1, Nat.mod_mul_right_div_self, Nat.mod_mod_of_dvd _ h2, Nat.div_div_eq_div_mul, ← Nat.pow_add, show 32 * (k / 4) + 8 * (k % 4) = 8 * k by omega]
end Go.Proofs.YticgkabamelddaaDoor
namespace Go.Proofs.YticgkabamelddaaDoor.NP
def lC : Nat := 1257559732178653
def lD : Nat := 4434155615661930479
def lE : Nat := 172054593956031949258510691
def lF : Nat := 19757330305831588566944191468367130476339
def lG : Nat := 276602624281642239937218680557139826668747
/-- The order. -/
def LL : Nat := 7237005577332262213973186563042994240857116359379907606001950938285454250989
set_option maxRecDepth 100000 in
theorem pr_lA : Pr 1224481 := pr_small 1224481 1106 (by decide +kernel) (by decide +kernel) (by decide +kernel)
set_option maxRecDepth 100000 in
theorem pr_lB : Pr 531581 := pr_small 531581 729 (by decide +kernel) (by decide +kernel) (by decide +kernel)
set_option maxRecDepth 100000 in
theorem pr_lC : Pr lC := pr_two (q := 1224481) (u := 531581) 2 2 51 pr_lA pr_lB (by decide +kernel) (by decide +kernel) (by decide +kernel) (by decide +kernel) (by decide +kernel) (by decide +kernel) (by decide +kernel) (by decide +kernel) (by decide +kernel) (by decide +kernel)
set_option maxRecDepth 100000 in
theorem pr_lD : Pr lD := pr_one (q := lC) 2 62 pr_lC (by decide +kernel) (by decide +kernel) (by decide +kernel) (by decide +kernel) (by decide +kernel) (by decide +kernel)
set_option maxRecDepth 100000 in
theorem pr_lE : Pr lE := pr_one (q := lD) 2 88 pr_lD (by decide +kernel) (by decide +kernel) (by decide +kernel) (by decide +kernel) (by decide +kernel) (by decide +kernel)
set_option maxRecDepth 100000 in
theorem pr_lF : Pr lF := pr_one (q := lE) 2 134 pr_lE (by decide +kernel) (by decide +kernel) (by decide +kernel) (by decide +kernel) (by decide +kernel) (by decide +kernel)
set_option maxRecDepth 100000 in
theorem pr_lG : Pr lG := pr_one (q := lF) 2 138 pr_lF (by decide +kernel) (by decide +kernel) (by decide +kernel) (by decide +kernel) (by decide +kernel) (by decide +kernel)
set_option maxRecDepth 100000 in
theorem pr_L : Pr LL := pr_one (q := lG) 2 253 pr_lG (by decide +kernel) (by decide +kernel) (by decide +kernel) (by decide +kernel) (by decide +kernel) (by decide +kernel)
end Go.Proofs.YticgkabamelddaaDoor.NP
namespace Go.Proofs.YticgkabamelddaaDoor
open Go.RowKit
/-- The number of digits, the high one first. -/
def hval (ds : List Nat) : Nat := dval ds.reverse
theorem hval_nil : hval [] = 0 := rfl
theorem hval_cons (d : Nat) (ds : List Nat) : hval (d :: ds) = d * 256 ^ ds.length + hval ds := by
  rw [hval, List.reverse_cons, dval_append, List.length_reverse]
  show dval ds.reverse + 256 ^ ds.length * (d + 256 * 0) = _
  rw [hval, Nat.mul_zero, Nat.add_zero, Nat.mul_comm]; omega
theorem hval_append (a b : List Nat) : hval (a ++ b) = hval a * 256 ^ b.length + hval b := by
  rw [hval, List.reverse_append, dval_append, List.length_reverse, hval, hval, Nat.mul_comm]; omega
theorem hval_snoc (a : List Nat) (d : Nat) : hval (a ++ [d]) = hval a * 256 + d := by
  rw [hval_append]; rfl
/-- All are digits. -/
def Dig (ds : List Nat) : Prop := ∀ x ∈ ds, x < 256
theorem hval_lt {ds : List Nat} (h : Dig ds) : hval ds < 256 ^ ds.length := by
  have := dval_lt ds.reverse (fun x hx => h x (List.mem_reverse.1 hx))
  rwa [List.length_reverse] at this
theorem Dig.tail {d : Nat} {ds : List Nat} (h : Dig (d :: ds)) : Dig ds := fun x hx => h x (List.mem_cons_of_mem _ hx)
theorem Dig.head {d : Nat} {ds : List Nat} (h : Dig (d :: ds)) : d < 256 := h d List.mem_cons_self
theorem Dig.drop {ds : List Nat} (h : Dig ds) (n : Nat) : Dig (ds.drop n) := fun x hx => h x (List.mem_of_mem_drop hx)
theorem Dig.at {ds : List Nat} (h : Dig ds) (k : Nat) : ds.getD k 0 < 256 := by
  rw [List.getD_eq_getElem?_getD]
  cases hk : ds[k]? with
  | none => decide
  | some x => exact h x (List.mem_of_getElem? hk)
theorem Dig.snoc {ds : List Nat} (h : Dig ds) {d : Nat} (hd : d < 256) : Dig (ds ++ [d]) := fun x hx => by
  rcases List.mem_append.1 hx with h1 | h1
  · exact h x h1
  · rw [List.mem_singleton.1 h1]; exact hd
theorem first_letters (p x y M s t : Nat) (hs : s < M) (ht : t < M) (hne : x ≠ y) : (p + (x * M + s) < p + (y * M + t)) ↔ x < y := by
  constructor
  · intro h
    rcases Nat.lt_or_ge x y with h1 | h1
    · exact h1
    · have h2 : y + 1 ≤ x := by omega
      have h3 := Nat.mul_le_mul_right M h2
      rw [Nat.succ_mul] at h3
      omega
  · intro h
    have h2 : x + 1 ≤ y := h
    have h3 := Nat.mul_le_mul_right M h2
    rw [Nat.succ_mul] at h3
    omega
/-- The first digit that differs says which is less. -/
theorem hval_first : ∀ (a l : List Nat) (i : Nat), a.length = l.length → Dig a → Dig l → i < a.length → a.take i = l.take i → a.getD i 0 ≠ l.getD i 0 → (hval a < hval l ↔ a.getD i 0 < l.getD i 0)
  | [], _, _, _, _, _, hi, _, _ => absurd hi (Nat.not_lt_zero _)
  | _ :: _, [], _, h, _, _, _, _, _ => by cases h
  | x :: a, y :: l, 0, h, ha, hl, _, _, hne => by
    have hn : a.length = l.length := Nat.succ.inj h
    rw [hval_cons, hval_cons, hn]
    have h1 := hval_lt ha.tail
    have h2 := hval_lt hl.tail
    rw [hn] at h1
    have h3 := first_letters 0 x y _ _ _ h1 h2 hne
    rw [Nat.zero_add, Nat.zero_add] at h3
    exact h3
  | x :: a, y :: l, i + 1, h, ha, hl, hi, ht, hne => by
    have hn : a.length = l.length := Nat.succ.inj h
    rw [List.take_succ_cons, List.take_succ_cons] at ht
    obtain ⟨rfl, ht'⟩ := List.cons.inj ht
    have ih := hval_first a l i hn ha.tail hl.tail (Nat.lt_of_succ_lt_succ hi) ht' (by simpa using hne)
    rw [hval_cons, hval_cons, hn, List.getD_cons_succ, List.getD_cons_succ, ← ih]
    omega
/-- A difference, digit by digit from the low one on: what is owed at the end, and the digits. -/
def subD : List Nat → List Nat → Nat × List Nat
  | x :: r, y :: l => if x < y + (subD r l).1 then (1, (x + 256 - y - (subD r l).1) :: (subD r l).2) else (0, (x - y - (subD r l).1) :: (subD r l).2)
  | _, _ => (0, [])
theorem subD_length : ∀ (r l : List Nat), r.length = l.length → (subD r l).2.length = r.length
  | [], [], _ => rfl
  | x :: r, y :: l, h => by
    have ih := subD_length r l (Nat.succ.inj h)
    unfold subD
    split <;> simp [ih]
theorem subD_owe : ∀ (r l : List Nat), (subD r l).1 ≤ 1
  | [], _ => Nat.zero_le _
  | _ :: _, [] => Nat.zero_le _
  | x :: r, y :: l => by
    unfold subD
    split
    · exact Nat.le_refl _
    · exact Nat.zero_le _
theorem subD_dig : ∀ (r l : List Nat), Dig r → Dig l → Dig (subD r l).2
  | [], _, _, _ => fun _ h => by cases h
  | _ :: _, [], _, _ => fun _ h => by cases h
  | x :: r, y :: l, hr, hl => by
    have ih := subD_dig r l hr.tail hl.tail
    have h1 := hr.head
    have h2 := subD_owe r l
    unfold subD
    split
    · intro z hz
      rcases List.mem_cons.1 hz with rfl | h3
      · omega
      · exact ih z h3
    · intro z hz
      rcases List.mem_cons.1 hz with rfl | h3
      · omega
      · exact ih z h3
theorem sub_letters (x y o M s t u : Nat) (h : s + t = u + o * M) (hx : x < 256) (hy : y < 256) (ho : o ≤ 1) : (if x < y + o then x + 256 - y - o else x - y - o) * M + s + (y * M + t) = x * M + u + (if x < y + o then 1 else 0) * (M * 256) := by
  split
  · obtain ⟨z, hz⟩ : ∃ z, x + 256 = z + y + o := ⟨x + 256 - y - o, by omega⟩
    rw [show x + 256 - y - o = z by omega]
    have : (x + 256) * M = (z + y + o) * M := by rw [hz]
    rw [Nat.add_mul, Nat.add_mul, Nat.add_mul] at this
    omega
  · obtain ⟨z, hz⟩ : ∃ z, x = z + y + o := ⟨x - y - o, by omega⟩
    rw [show x - y - o = z by omega]
    have : x * M = (z + y + o) * M := by rw [hz]
    rw [Nat.add_mul, Nat.add_mul] at this
    omega
theorem subD_val : ∀ (r l : List Nat), r.length = l.length → Dig r → Dig l → hval (subD r l).2 + hval l = hval r + (subD r l).1 * 256 ^ r.length
  | [], [], _, _, _ => rfl
  | x :: r, y :: l, h, hr, hl => by
    have hn : r.length = l.length := Nat.succ.inj h
    have ih := subD_val r l hn hr.tail hl.tail
    have hs := subD_length r l hn
    have h3 := sub_letters x y (subD r l).1 (256 ^ r.length) _ _ _ ih hr.head hl.head (subD_owe r l)
    rw [List.length_cons, Nat.pow_succ]
    unfold subD
    split
    · rename_i hlt
      rw [if_pos hlt, if_pos hlt] at h3
      rw [hval_cons, hval_cons, hval_cons, hs, ← hn]
      omega
    · rename_i hlt
      rw [if_neg hlt, if_neg hlt] at h3
      rw [hval_cons, hval_cons, hval_cons, hs, ← hn]
      omega
/-- What isn't less, less the other. -/
theorem subD_less {r l : List Nat} (h : r.length = l.length) (hr : Dig r) (hl : Dig l) (hle : hval l ≤ hval r) : hval (subD r l).2 = hval r - hval l := by
  have h1 := subD_val r l h hr hl
  have h2 := hval_lt (subD_dig r l hr hl)
  rw [subD_length r l h] at h2
  have h3 := hval_lt hr
  have h4 : (subD r l).1 = 0 := by
    rcases Nat.eq_zero_or_pos (subD r l).1 with h5 | h5
    · exact h5
    · have h6 : (subD r l).1 = 1 := by have := subD_owe r l; omega
      rw [h6, Nat.one_mul] at h1
      omega
  rw [h4, Nat.zero_mul, Nat.add_zero] at h1
  omega
/-- The order's digits, with a nought ahead. -/
def ordD : List Nat := [16, 0, 0, 0, 0, 0, 0, 0, 0, 0, 0, 0, 0, 0, 0, 0, 20, 222, 249, 222, 162, 247, 156, 214, 88, 18, 99, 26, 92, 245, 211, 237]
theorem ordD_val : hval (0 :: ordD) = NP.LL := by decide +kernel
theorem ordD_dig : Dig (0 :: ordD) := by unfold Dig; decide
/-- A step: the digits moved up by one, and another taken in. -/
theorem hval_step {r : List Nat} (hl : r.length = 33) (hr : Dig r) (hv : hval r < NP.LL) (d : Nat) : hval (r.drop 1 ++ [d]) = hval r * 256 + d := by
  match r, hl with
  | x :: r, hl =>
    have hn : r.length = 32 := Nat.succ.inj hl
    rw [hval_cons, hn] at hv
    have hx : x = 0 := by
      rcases Nat.eq_zero_or_pos x with h | h
      · exact h
      · have h1 := Nat.mul_le_mul_right (256 ^ 32) h
        rw [show (256 : Nat) ^ 32 = 115792089237316195423570985008687907853269984665640564039457584007913129639936 from by decide +kernel] at h1 hv
        simp only [NP.LL] at hv
        omega
    subst hx
    rw [List.drop_succ_cons, List.drop_zero, hval_snoc, hval_cons, Nat.zero_mul, Nat.zero_add]
end Go.Proofs.YticgkabamelddaaDoor
