/- The walks of words.Big and the law's own 'alive'. -/
import Derived.Test.YtiadgningbogmaaDoorWTurns
import Derived.Test.YtiadgningbogmaaDoorWMem
namespace Go.Proofs.YtiadgningbogmaaDoor
open Go.RowKit
/-- The number of bytes, the high one first. -/
def bigN (bs : List UInt8) : Nat := bs.foldl (fun x b => x * 256 + b.toNat) 0
theorem bigN_snoc (l : List UInt8) (u : UInt8) : bigN (l ++ [u]) = bigN l * 256 + u.toNat := by simp [bigN, List.foldl_append]
theorem take_snoc {α : Type} (l : List α) (k : Nat) (h : k < l.length) : l.take (k + 1) = l.take k ++ [l[k]] := List.take_succ_eq_append_getElem h
theorem bigN_lt (l : List UInt8) : bigN l < 256 ^ l.length := by
  suffices h : ∀ n, ∀ l : List UInt8, l.length = n → bigN l < 256 ^ n from h _ l rfl
  intro n
  induction n with
  | zero => intro l hl; rw [List.eq_nil_of_length_eq_zero hl]; decide
  | succ n ih =>
    intro l hl
    have h1 := ih (l.take n) (by rw [List.length_take]; omega)
    have h2 : l = l.take n ++ [l[n]] := by rw [← take_snoc l n (by omega), List.take_of_length_le (by omega)]
    rw [h2, bigN_snoc, Nat.pow_succ]
    have := l[n].toNat_lt
    omega
theorem pow256_le {k n : Nat} (h : k ≤ n) : 256 ^ k ≤ 256 ^ n := Nat.pow_le_pow_right (by decide) h
theorem big_round (l : List UInt8) (k : Nat) (hk : k < l.length) (hn : l.length ≤ 8) :
    bits .or .u64 (IntKind.u64.wrap ((bigN (l.take k) : Int) * 256)) (IntKind.u64.wrap (l[k].toNat : Int)) = (bigN (l.take (k + 1)) : Int) := by
  have h1 := bigN_lt (l.take k)
  have h2 : 256 ^ (l.take k).length ≤ 256 ^ 7 := pow256_le (by rw [List.length_take]; omega)
  have h3 := l[k].toNat_lt
  rw [take_snoc l k hk, bigN_snoc]
  generalize bigN (l.take k) = a at *
  generalize l[k].toNat = u at *
  rw [IntKind.wrap_u64, IntKind.wrap_u64, show ((a : Int) * 256) % 18446744073709551616 = ((a * 256 : Nat) : Int) by omega, show (u : Int) % 18446744073709551616 = (u : Int) by omega, u64_or_nat _ _ (by omega) (by omega), nat_join 8 _ _ (by omega) (by omega)]
end Go.Proofs.YtiadgningbogmaaDoor
