/- Bytes read into limbs and written out of them; the key's first half clamped. No program is named here. -/
import Derived.Test.YtiadgningbogmaaDoorOMath
namespace Go.Proofs.YtiadgningbogmaaDoor
open Go.RowKit
theorem lev_cons (u : UInt8) (l : List UInt8) : lev (u :: l) = u.toNat + 256 * lev l := rfl
theorem lev_rev (l : List UInt8) : bigN l.reverse = lev l := by
  induction l with
  | nil => rfl
  | cons u l ih => rw [List.reverse_cons, bigN_snoc, ih, lev_cons]; omega
theorem lev_drop (b : List UInt8) (f : Nat) (hf : f ≤ b.length) : lev (b.drop f) = lev b / 256 ^ f := by
  have h := lev_append (b.take f) (b.drop f)
  rw [List.take_append_drop] at h
  have hl : (b.take f).length = f := by rw [List.length_take]; omega
  have h2 := lev_lt (b.take f)
  rw [hl] at h h2
  rw [h, Nat.add_mul_div_left _ _ (Nat.pow_pos (by omega)), Nat.div_eq_of_lt h2, Nat.zero_add]
theorem lev_take (b : List UInt8) (f : Nat) (hf : f ≤ b.length) : lev (b.take f) = lev b % 256 ^ f := by
  have h := lev_append (b.take f) (b.drop f)
  rw [List.take_append_drop] at h
  have hl : (b.take f).length = f := by rw [List.length_take]; omega
  have h2 := lev_lt (b.take f)
  rw [hl] at h h2
  rw [h, Nat.add_mul_mod_self_left, Nat.mod_eq_of_lt h2]
/-- The limb i lies in four bytes from 26 i / 8 on. -/
theorem limb_window (b : List UInt8) (hb : b.length = 17) (i : Nat) (hi : i < 5) : bigN ((b.drop (i * 26 / 8)).take 4).reverse / 2 ^ (i * 26 % 8) % 67108864 = (limbsOf (lev b)).getD i 0 := by
  rw [lev_rev, lev_take _ _ (by rw [List.length_drop]; omega), lev_drop _ _ (by omega)]
  generalize lev b = x
  match i, hi with
  | 0, _ => show x / 1 % 4294967296 / 1 % 67108864 = x % 67108864; omega
  | 1, _ => show x / 16777216 % 4294967296 / 4 % 67108864 = x / 67108864 % 67108864; omega
  | 2, _ => show x / 281474976710656 % 4294967296 / 16 % 67108864 = x / 4503599627370496 % 67108864; omega
  | 3, _ => show x / 4722366482869645213696 % 4294967296 / 64 % 67108864 = x / 302231454903657293676544 % 67108864; omega
  | 4, _ => show x / 20282409603651670423947251286016 % 4294967296 / 1 % 67108864 = x / 20282409603651670423947251286016 % 67108864; omega
/-- k limbs are read. -/
def readTo (x k : Nat) : List Nat := (limbsOf x).take k ++ List.replicate (5 - k) 0
theorem readTo_length (x k : Nat) (hk : k ≤ 5) : (readTo x k).length = 5 := by
  rw [readTo, List.length_append, List.length_take, limbsOf_length, List.length_replicate]; omega
theorem readTo_zero (x : Nat) : readTo x 0 = [0, 0, 0, 0, 0] := rfl
theorem readTo_all (x : Nat) : readTo x 5 = limbsOf x := by
  rw [readTo, List.take_of_length_le (by rw [limbsOf_length]; omega)]; simp
theorem readTo_next (x k : Nat) (hk : k < 5) : (readTo x k).set k ((limbsOf x).getD k 0) = readTo x (k + 1) := by
  match k, hk with
  | 0, _ => rfl
  | 1, _ => rfl
  | 2, _ => rfl
  | 3, _ => rfl
  | 4, _ => rfl
/-- The byte i of a number whose limbs have no more than their bits. -/
def limbByte (n : List Nat) (i : Nat) : Nat := if i * 8 / 26 + 1 < 5 then n.getD (i * 8 / 26) 0 / 2 ^ (i * 8 % 26) + n.getD (i * 8 / 26 + 1) 0 * 2 ^ (26 - i * 8 % 26) else n.getD (i * 8 / 26) 0 / 2 ^ (i * 8 % 26)
theorem limbByte_is (n : List Nat) (hn : n.length = 5) (h : Below5 67108864 n) (i : Nat) (hi : i < 16) : limbByte n i % 256 = lval n / 256 ^ i % 256 := by
  obtain ⟨a, b, c, d, e, rfl⟩ := five_of n hn
  rw [below5_five] at h
  obtain ⟨ha, hb, hc, hd, he⟩ := h
  rw [lval_five]
  rcases (show i = 0 ∨ i = 1 ∨ i = 2 ∨ i = 3 ∨ i = 4 ∨ i = 5 ∨ i = 6 ∨ i = 7 ∨ i = 8 ∨ i = 9 ∨ i = 10 ∨ i = 11 ∨ i = 12 ∨ i = 13 ∨ i = 14 ∨ i = 15 by omega) with rfl | rfl | rfl | rfl | rfl | rfl | rfl | rfl | rfl | rfl | rfl | rfl | rfl | rfl | rfl | rfl
  · show (a / 1 + b * 67108864) % 256 = (a + 67108864 * (b + 67108864 * (c + 67108864 * (d + 67108864 * (e + 67108864 * 0))))) / 1 % 256; omega
  · show (a / 256 + b * 262144) % 256 = (a + 67108864 * (b + 67108864 * (c + 67108864 * (d + 67108864 * (e + 67108864 * 0))))) / 256 % 256; omega
  · show (a / 65536 + b * 1024) % 256 = (a + 67108864 * (b + 67108864 * (c + 67108864 * (d + 67108864 * (e + 67108864 * 0))))) / 65536 % 256; omega
  · show (a / 16777216 + b * 4) % 256 = (a + 67108864 * (b + 67108864 * (c + 67108864 * (d + 67108864 * (e + 67108864 * 0))))) / 16777216 % 256; omega
  · show (b / 64 + c * 1048576) % 256 = (a + 67108864 * (b + 67108864 * (c + 67108864 * (d + 67108864 * (e + 67108864 * 0))))) / 4294967296 % 256; omega
  · show (b / 16384 + c * 4096) % 256 = (a + 67108864 * (b + 67108864 * (c + 67108864 * (d + 67108864 * (e + 67108864 * 0))))) / 1099511627776 % 256; omega
  · show (b / 4194304 + c * 16) % 256 = (a + 67108864 * (b + 67108864 * (c + 67108864 * (d + 67108864 * (e + 67108864 * 0))))) / 281474976710656 % 256; omega
  · show (c / 16 + d * 4194304) % 256 = (a + 67108864 * (b + 67108864 * (c + 67108864 * (d + 67108864 * (e + 67108864 * 0))))) / 72057594037927936 % 256; omega
  · show (c / 4096 + d * 16384) % 256 = (a + 67108864 * (b + 67108864 * (c + 67108864 * (d + 67108864 * (e + 67108864 * 0))))) / 18446744073709551616 % 256; omega
  · show (c / 1048576 + d * 64) % 256 = (a + 67108864 * (b + 67108864 * (c + 67108864 * (d + 67108864 * (e + 67108864 * 0))))) / 4722366482869645213696 % 256; omega
  · show (d / 4 + e * 16777216) % 256 = (a + 67108864 * (b + 67108864 * (c + 67108864 * (d + 67108864 * (e + 67108864 * 0))))) / 1208925819614629174706176 % 256; omega
  · show (d / 1024 + e * 65536) % 256 = (a + 67108864 * (b + 67108864 * (c + 67108864 * (d + 67108864 * (e + 67108864 * 0))))) / 309485009821345068724781056 % 256; omega
  · show (d / 262144 + e * 256) % 256 = (a + 67108864 * (b + 67108864 * (c + 67108864 * (d + 67108864 * (e + 67108864 * 0))))) / 79228162514264337593543950336 % 256; omega
  · show (e / 1) % 256 = (a + 67108864 * (b + 67108864 * (c + 67108864 * (d + 67108864 * (e + 67108864 * 0))))) / 20282409603651670423947251286016 % 256; omega
  · show (e / 256) % 256 = (a + 67108864 * (b + 67108864 * (c + 67108864 * (d + 67108864 * (e + 67108864 * 0))))) / 5192296858534827628530496329220096 % 256; omega
  · show (e / 65536) % 256 = (a + 67108864 * (b + 67108864 * (c + 67108864 * (d + 67108864 * (e + 67108864 * 0))))) / 1329227995784915872903807060280344576 % 256; omega
end Go.Proofs.YtiadgningbogmaaDoor
