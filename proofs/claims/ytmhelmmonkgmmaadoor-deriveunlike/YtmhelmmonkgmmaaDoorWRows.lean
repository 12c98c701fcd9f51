/- The walks of words.Zero, words.Equal, words.Mix. -/
import Derived.Test.YtmhelmmonkgmmaaDoorWBig
import Derived.BigQuiet
import Derived.Deep.QuietTactic
namespace Go.Proofs.YtmhelmmonkgmmaaDoor
open Go.RowKit
/-- The bits that stand in any of the bytes. -/
def orAll (bs : List UInt8) : UInt8 := bs.foldl (· ||| ·) 0
theorem orAll_snoc (l : List UInt8) (u : UInt8) : orAll (l ++ [u]) = orAll l ||| u := by simp [orAll, List.foldl_append]
theorem or8 (x y : UInt8) : bits .or .u8 (x.toNat : Int) (y.toNat : Int) = ((x ||| y).toNat : Int) := by
  rw [u8_or_nat _ _ x.toNat_lt y.toNat_lt, UInt8.toNat_or]
theorem xor8 (x y : UInt8) : bits .xor .u8 (x.toNat : Int) (y.toNat : Int) = ((x ^^^ y).toNat : Int) := by
  rw [u8_xor_nat _ _ x.toNat_lt y.toNat_lt, UInt8.toNat_xor]
theorem orAll_zero (l : List UInt8) : (((orAll l).toNat : Int) == 0) = l.all (· == 0) := by
  have h : ∀ (l : List UInt8) (x : UInt8), l.foldl (· ||| ·) x = 0 ↔ x = 0 ∧ ∀ u ∈ l, u = 0 := by
    intro l
    induction l with
    | nil => intro x; simp
    | cons u l ih => intro x; rw [List.foldl_cons, ih]; simp [UInt8.or_eq_zero_iff, and_assoc]
  rw [Bool.eq_iff_iff]
  have h2 : (((orAll l).toNat : Int) == 0) = true ↔ orAll l = 0 := by
    rw [beq_iff_eq, UInt8.toNat_inj.symm]
    show _ ↔ (orAll l).toNat = 0
    omega
  rw [h2, orAll, h]
  simp
/-- The exclusive or of two rows. -/
def xorL (a b : List UInt8) : List UInt8 := List.zipWith (· ^^^ ·) a b
theorem xorL_snoc (a b : List UInt8) (k : Nat) (ha : k < a.length) (hb : k < b.length) : xorL (a.take (k + 1)) (b.take (k + 1)) = xorL (a.take k) (b.take k) ++ [a[k] ^^^ b[k]] := by
  unfold xorL
  rw [take_snoc a k ha, take_snoc b k hb, List.zipWith_append (by simp; omega)]
  rfl
theorem xor_zero : ∀ a b : List UInt8, a.length = b.length → (xorL a b).all (· == 0) = (a == b)
  | [], [], _ => rfl
  | x :: a, y :: b, h => by
    have ih := xor_zero a b (by simpa using h)
    unfold xorL at *
    rw [List.zipWith_cons_cons, List.all_cons, ih, List.cons_beq_cons]
    congr 1
    rw [Bool.eq_iff_iff, beq_iff_eq, beq_iff_eq, UInt8.xor_eq_zero_iff]
end Go.Proofs.YtmhelmmonkgmmaaDoor
