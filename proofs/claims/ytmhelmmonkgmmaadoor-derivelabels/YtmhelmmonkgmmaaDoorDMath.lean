/- HKDF with SHA-256 and a label's info as plain functions on bytes. No program is named here. -/
import Derived.Test.YtmhelmmonkgmmaaDoorMMath
namespace Go.Proofs.YtmhelmmonkgmmaaDoor
open Go.RowKit
/-- The k-th block of an expansion, from 1 on; ahead of the first one: nothing. -/
def hkT (key info : List UInt8) : Nat → List UInt8
  | 0 => []
  | k + 1 => macSum key (hkT key info k ++ info ++ [UInt8.ofNat (k + 1)])
/-- The first k blocks. -/
def hkAll (key info : List UInt8) : Nat → List UInt8
  | 0 => []
  | k + 1 => hkAll key info k ++ hkT key info (k + 1)
/-- n bytes of the expansion. -/
def hkdf (key info : List UInt8) (n : Nat) : List UInt8 := (hkAll key info 255).take n
section
variable (key info : List UInt8)
theorem hkT_zero : hkT key info 0 = [] := rfl
theorem hkT_next (k : Nat) : hkT key info (k + 1) = macSum key (hkT key info k ++ info ++ [UInt8.ofNat (k + 1)]) := rfl
theorem hkT_length (k : Nat) : (hkT key info (k + 1)).length = 32 := macSum_length _ _
theorem hkT_le (k : Nat) : (hkT key info k).length ≤ 32 := by
  cases k with
  | zero => simp [hkT]
  | succ k => rw [hkT_length]; exact Nat.le_refl _
theorem hkAll_zero : hkAll key info 0 = [] := rfl
theorem hkAll_next (k : Nat) : hkAll key info (k + 1) = hkAll key info k ++ hkT key info (k + 1) := rfl
theorem hkAll_length : ∀ k, (hkAll key info k).length = 32 * k
  | 0 => rfl
  | k + 1 => by rw [hkAll_next, List.length_append, hkAll_length k, hkT_length]; omega
theorem hkAll_take (k n : Nat) (hn : n ≤ 32 * k) : ∀ j, (hkAll key info (k + j)).take n = (hkAll key info k).take n
  | 0 => rfl
  | j + 1 => by
    rw [← Nat.add_assoc, hkAll_next, List.take_append_of_le_length (by rw [hkAll_length]; omega), hkAll_take k n hn j]
theorem hkdf_of (k n : Nat) (hk : k ≤ 255) (hn : n ≤ 32 * k) : (hkAll key info k).take n = hkdf key info n := by
  rw [hkdf, ← hkAll_take key info k n hn (255 - k), show k + (255 - k) = 255 by omega]
theorem hkdf_length (n : Nat) (hn : n ≤ 8160) : (hkdf key info n).length = n := by
  rw [hkdf, List.length_take, hkAll_length]; omega
theorem hkdf_take (m n : Nat) (h : m ≤ n) : (hkdf key info n).take m = hkdf key info m := by
  rw [hkdf, hkdf, List.take_take, Nat.min_eq_left h]
/-- What is there behind k blocks, where only n bytes are kept. -/
def hkTo (n k : Nat) : List UInt8 := (hkAll key info k).take n
theorem hkTo_zero (n : Nat) : hkTo key info n 0 = [] := by simp [hkTo, hkAll]
theorem hkTo_length (n k : Nat) : (hkTo key info n k).length = min n (32 * k) := by rw [hkTo, List.length_take, hkAll_length]
theorem hkTo_next (n k : Nat) (h : 32 * k < n) : hkTo key info n (k + 1) = hkTo key info n k ++ (hkT key info (k + 1)).take (min 32 (n - 32 * k)) := by
  have e1 : (hkAll key info k).take n = hkAll key info k := List.take_of_length_le (by rw [hkAll_length]; omega)
  rw [hkTo, hkTo, e1, hkAll_next, List.take_append, e1, hkAll_length]
  congr 1
  rcases Nat.le_total 32 (n - 32 * k) with h1 | h1
  · rw [Nat.min_eq_left h1, List.take_of_length_le (by rw [hkT_length]; exact h1), List.take_of_length_le (by rw [hkT_length]; exact Nat.le_refl _)]
  · rw [Nat.min_eq_right h1]
theorem hkTo_end (n k : Nat) (hk : k ≤ 255) (h : n ≤ 32 * k) : hkTo key info n k = hkdf key info n := hkdf_of key info k n hk h
end
/-- What stands ahead of each label. -/
def labelPre : List UInt8 := [102, 101, 108, 108, 111, 119, 115, 104, 105, 112, 32]
/-- A number's two bytes, the high one first. -/
def two8 (n : Nat) : List UInt8 := [UInt8.ofNat (n / 256), UInt8.ofNat n]
/-- A label's info. -/
def infoL (label ctx : List UInt8) (n : Nat) : List UInt8 := two8 n ++ ([UInt8.ofNat (11 + label.length)] ++ ((labelPre ++ label) ++ (two8 ctx.length ++ ctx)))
theorem infoL_length (label ctx : List UInt8) (n : Nat) : (infoL label ctx n).length = 16 + label.length + ctx.length := by
  simp [infoL, two8, labelPre]; omega
theorem ofNat8_inj {a b : Nat} (ha : a < 256) (hb : b < 256) (h : UInt8.ofNat a = UInt8.ofNat b) : a = b := by
  have h2 := congrArg UInt8.toNat h
  rw [UInt8.toNat_ofNat', UInt8.toNat_ofNat'] at h2
  omega
/-- Unlike labels and contexts have unlike infos. -/
theorem infoL_inj {a b x y : List UInt8} {n : Nat} (ha : a.length ≤ 200) (hb : b.length ≤ 200) (h : infoL a x n = infoL b y n) : a = b ∧ x = y := by
  unfold infoL at h
  have h1 := List.append_cancel_left h
  simp only [List.singleton_append, List.cons.injEq] at h1
  have hl : a.length = b.length := by have := ofNat8_inj (by omega) (by omega) h1.1; omega
  have h2 := List.append_inj h1.2 (by simp [hl])
  refine ⟨List.append_cancel_left h2.1, ?_⟩
  have h3 := List.append_inj h2.2 (by simp [two8])
  exact h3.2
theorem infoL_beq (a b x y : List UInt8) (n : Nat) (ha : a.length ≤ 200) (hb : b.length ≤ 200) : (infoL a x n == infoL b y n) = ((a == b) && (x == y)) := by
  rw [Bool.eq_iff_iff, beq_iff_eq, Bool.and_eq_true, beq_iff_eq, beq_iff_eq]
  exact ⟨fun h => infoL_inj ha hb h, fun ⟨h1, h2⟩ => by rw [h1, h2]⟩
theorem infoL_other (a x : List UInt8) : (infoL a x 32 == infoL a x 33) = false := by
  rw [beq_eq_false_iff_ne]
  intro h
  have h1 : ([UInt8.ofNat (32 / 256), UInt8.ofNat 32] : List UInt8) = [UInt8.ofNat (33 / 256), UInt8.ofNat 33] := (List.append_inj h (by simp [two8])).1
  exact absurd h1 (by decide)
/-- The chapter's example. -/
theorem infoL_x : infoL [120] [] 32 = [0, 32, 12, 102, 101, 108, 108, 111, 119, 115, 104, 105, 112, 32, 120, 0, 0] := by decide +kernel
end Go.Proofs.YtmhelmmonkgmmaaDoor
