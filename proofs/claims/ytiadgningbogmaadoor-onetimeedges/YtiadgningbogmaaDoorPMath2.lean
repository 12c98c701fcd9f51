/- Poly1305 on lists of bytes. No program is named here. -/
import Derived.Test.YtiadgningbogmaaDoorPMath
import Derived.Test.YtiadgningbogmaaDoorWPut
namespace Go.Proofs.YtiadgningbogmaaDoor
open Go.RowKit
/-- The number of a row of bytes, the low one first. -/
def lev (bs : List UInt8) : Nat := dval (bs.map (·.toNat))
theorem lev_digits (bs : List UInt8) : ∀ x ∈ bs.map (·.toNat), x < 256 := by
  intro x hx
  obtain ⟨u, _, rfl⟩ := List.mem_map.1 hx
  exact u.toNat_lt
theorem lev_lt (bs : List UInt8) : lev bs < 256 ^ bs.length := by
  have h := dval_lt _ (lev_digits bs)
  rwa [List.length_map] at h
theorem lev_append (a b : List UInt8) : lev (a ++ b) = lev a + 256 ^ a.length * lev b := by
  unfold lev
  rw [List.map_append, dval_append, List.length_map]
/-- A row of bytes as digits, its noughts at the high end struck. -/
theorem lev_digs (bs : List UInt8) : dtrim (bs.map (·.toNat)) = digs (lev bs) := dtrim_digs _ (lev_digits bs)
/-- The key's first half, clamped. -/
def polyClamp (k : List UInt8) : List UInt8 := [4, 8, 12].foldl (fun k i => k.set i (k.getD i 0 / 4 * 4)) ([3, 7, 11, 15].foldl (fun k i => k.set i (k.getD i 0 % 16)) k)
theorem polyClamp_length (k : List UInt8) : (polyClamp k).length = k.length := by simp [polyClamp]
def polyR (key : List UInt8) : Nat := lev (polyClamp (key.take 16))
def polyS (key : List UInt8) : Nat := lev (key.drop 16)
/-- The number behind n blocks. -/
def polyH (r : Nat) (bs : List UInt8) : Nat → Nat
  | 0 => 0
  | n + 1 => (polyH r bs n + lev ((bs.drop (16 * n)).take 16 ++ [1])) * r % polyP
theorem polyH_lt (r : Nat) (bs : List UInt8) (n : Nat) : polyH r bs n < polyP := by
  cases n with
  | zero => show 0 < polyP; decide
  | succ n => exact Nat.mod_lt _ (by decide)
/-- The code. -/
def polySum (key bs : List UInt8) : List UInt8 := putL (polyH (polyR key) bs ((bs.length + 15) / 16) + polyS key) 16
theorem polySum_length (key bs : List UInt8) : (polySum key bs).length = 16 := putL_length _ _
/-- A number's k low bytes are that number, modulo 256^k. -/
theorem lev_putL (x : Nat) : ∀ k, lev (putL x k) = x % 256 ^ k
  | 0 => by rw [Nat.pow_zero, Nat.mod_one]; rfl
  | k + 1 => by
    rw [putL_succ, lev_append, lev_putL x k, putL_length]
    have e : lev [byteAt x k] = x / 256 ^ k % 256 := by
      simp [lev, dval, byteAt]
    rw [e, Nat.pow_succ, Nat.mod_mul]
theorem dval_take_mod (a : List Nat) (h : ∀ x ∈ a, x < 256) (k : Nat) (hk : k ≤ a.length) : dval (a.take k) = dval a % 256 ^ k := by
  have e : dval a = dval (a.take k) + 256 ^ k * dval (a.drop k) := by
    conv => lhs; rw [← List.take_append_drop k a]
    rw [dval_append, List.length_take, Nat.min_eq_left hk]
  have h1 := dval_lt (a.take k) (fun x hx => h x (List.mem_of_mem_take hx))
  rw [List.length_take, Nat.min_eq_left hk] at h1
  rw [e, Nat.add_mul_mod_self_left, Nat.mod_eq_of_lt h1]
/- Two rows added digit by digit, with what is carried. -/
theorem carry_step (a b : List Nat) (i : Nat) (ha : i < a.length) (hb : i < b.length) : (dval (a.take i) + dval (b.take i)) / 256 ^ i + (a[i] + b[i]) = (dval (a.take (i + 1)) + dval (b.take (i + 1))) / 256 ^ i := by
  rw [dval_take a i ha, dval_take b i hb]
  have e : dval (a.take i) + 256 ^ i * a[i] + (dval (b.take i) + 256 ^ i * b[i]) = dval (a.take i) + dval (b.take i) + 256 ^ i * (a[i] + b[i]) := by
    rw [Nat.mul_add]; omega
  rw [e, Nat.add_mul_div_left _ _ (Nat.pow_pos (by omega))]
theorem carry_next (n i : Nat) : n / 256 ^ i / 256 = n / 256 ^ (i + 1) := by rw [Nat.div_div_eq_div_mul, Nat.pow_succ]
/-- The digit that comes out is the sum's own. -/
theorem carry_digit (a b : List Nat) (i : Nat) (ha : i < a.length) (hb : i < b.length) (la : ∀ x ∈ a, x < 256) (lb : ∀ x ∈ b, x < 256) : (dval (a.take (i + 1)) + dval (b.take (i + 1))) / 256 ^ i % 256 = (dval a + dval b) / 256 ^ i % 256 := by
  rw [dval_take_mod a la (i + 1) ha, dval_take_mod b lb (i + 1) hb]
  have key : ∀ u v : Nat, (u % 256 ^ (i + 1) + v % 256 ^ (i + 1)) / 256 ^ i % 256 = (u + v) / 256 ^ i % 256 := by
    intro u v
    have hm : ∀ z : Nat, z / 256 ^ i % 256 = z % 256 ^ (i + 1) / 256 ^ i := by
      intro z
      rw [Nat.pow_succ, Nat.mod_mul_right_div_self]
    rw [hm, hm, ← Nat.add_mod]
  exact key _ _
/-- Sums that are the same modulo 256^n have the same lower n digits. -/
theorem digit_same (u v n i : Nat) (hi : i < n) (h : u % 256 ^ n = v % 256 ^ n) : u / 256 ^ i % 256 = v / 256 ^ i % 256 := by
  have hm : ∀ z : Nat, z / 256 ^ i % 256 = z % 256 ^ n / 256 ^ i % 256 := by
    intro z
    obtain ⟨d, rfl⟩ : ∃ d, n = i + (d + 1) := ⟨n - i - 1, by omega⟩
    rw [Nat.pow_add, Nat.mod_mul_right_div_self, Nat.pow_succ, Nat.mod_mul_left_mod]
  rw [hm u, hm v, h]
/-- By another end of the key the codes are apart by as much as the ends are. -/
theorem polySum_apart (a b bs : List UInt8) (h : polyR a = polyR b) : (lev (polySum a bs) + polyS b) % 256 ^ 16 = (lev (polySum b bs) + polyS a) % 256 ^ 16 := by
  unfold polySum
  rw [lev_putL, lev_putL, h, Nat.mod_add_mod, Nat.mod_add_mod]
  congr 1
  omega
end Go.Proofs.YtiadgningbogmaaDoor
