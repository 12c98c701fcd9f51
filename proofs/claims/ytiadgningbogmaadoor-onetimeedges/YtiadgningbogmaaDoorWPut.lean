/- The walks of words.PutLittle, PutBig, Little, and of the document's own Little, Reverse, Big. -/
import Derived.Test.YtiadgningbogmaaDoorWApp
import Derived.Test.YtiadgningbogmaaDoorWNum
namespace Go.Proofs.YtiadgningbogmaaDoor
open Go.RowKit
/-- A number's i-th byte from the low end; its k low bytes, the low one first. -/
def byteAt (x i : Nat) : UInt8 := UInt8.ofNat (x / 256 ^ i)
def putL (x k : Nat) : List UInt8 := (List.range k).map (byteAt x)
theorem putL_length (x k : Nat) : (putL x k).length = k := by simp [putL]
theorem putL_succ (x k : Nat) : putL x (k + 1) = putL x k ++ [byteAt x k] := by simp [putL, List.range_succ]
theorem pow_8 (i : Nat) : 2 ^ (8 * i) = 256 ^ i := by rw [Nat.pow_mul]
theorem byte_shr (x i : Nat) : (x : Int) / 2 ^ (8 * i) % 256 = ((byteAt x i).toNat : Int) := by
  rw [pow_cast, pow_8, ← Int.natCast_ediv, byteAt, UInt8.toNat_ofNat']
  omega
theorem byte_mod (x i : Nat) : ((x / 256 ^ i : Nat) : Int) % 256 = ((byteAt x i).toNat : Int) := by
  rw [byteAt, UInt8.toNat_ofNat']
  omega
theorem bigN_fold (l : List UInt8) : ∀ a : Nat, l.foldl (fun x b => x * 256 + b.toNat) a = a * 256 ^ l.length + bigN l := by
  induction l with
  | nil => intro a; simp [bigN]
  | cons u l ih =>
    intro a
    rw [List.foldl_cons, ih, show bigN (u :: l) = (u :: l).foldl (fun x b => x * 256 + b.toNat) 0 from rfl, List.foldl_cons, ih, List.length_cons, Nat.pow_succ, Nat.add_mul, Nat.zero_mul, Nat.zero_add, Nat.mul_assoc, Nat.mul_comm 256, Nat.add_assoc]
theorem bigN_cons (u : UInt8) (l : List UInt8) : bigN (u :: l) = u.toNat * 256 ^ l.length + bigN l := by
  rw [show bigN (u :: l) = (u :: l).foldl (fun x b => x * 256 + b.toNat) 0 from rfl, List.foldl_cons, bigN_fold, Nat.zero_mul, Nat.zero_add]
theorem refbig_round (l : List UInt8) (k : Nat) (hk : k < l.length) (hn : l.length ≤ 8) :
    IntKind.u64.wrap (IntKind.u64.wrap ((bigN (l.take k) : Int) * 256) + IntKind.u64.wrap (l[k].toNat : Int)) = (bigN (l.take (k + 1)) : Int) := by
  have h1 := bigN_lt (l.take k)
  have h2 : 256 ^ (l.take k).length ≤ 256 ^ 7 := pow256_le (by rw [List.length_take]; omega)
  have h3 := l[k].toNat_lt
  rw [take_snoc l k hk, bigN_snoc]
  generalize bigN (l.take k) = a at *
  generalize l[k].toNat = u at *
  rw [IntKind.wrap_u64, IntKind.wrap_u64, IntKind.wrap_u64]
  omega
theorem little_round (l : List UInt8) (k : Nat) (hk : k < l.length) (hn : l.length ≤ 8) :
    bits .or .u64 (bigN (l.take k).reverse : Int) (IntKind.u64.wrap (IntKind.u64.wrap (l[k].toNat : Int) * 2 ^ (8 * k))) = (bigN (l.take (k + 1)).reverse : Int) := by
  have h1 := bigN_lt (l.take k).reverse
  have hlk : (l.take k).reverse.length = k := by rw [List.length_reverse, List.length_take]; omega
  have h3 := l[k].toNat_lt
  rw [take_snoc l k hk, List.reverse_append, List.reverse_singleton, List.singleton_append, bigN_cons, hlk]
  rw [hlk] at h1
  have hp : 256 ^ k ≤ 256 ^ 7 := pow256_le (by omega)
  generalize bigN (l.take k).reverse = a at *
  generalize l[k].toNat = u at *
  have hu : u * 256 ^ k ≤ 255 * 256 ^ k := Nat.mul_le_mul_right _ (by omega)
  have e : IntKind.u64.wrap (IntKind.u64.wrap (u : Int) * 2 ^ (8 * k)) = ((u * 256 ^ k : Nat) : Int) := by
    rw [IntKind.wrap_u64, IntKind.wrap_u64, show (u : Int) % 18446744073709551616 = (u : Int) by omega, pow_cast, pow_8, ← Int.natCast_mul]
    omega
  rw [e, u64_or_nat _ _ (by omega) (by omega), Nat.or_comm, nat_join (8 * k) _ _ (by rw [pow_8]; exact Nat.mul_mod_left _ _) (by rw [pow_8]; exact h1)]
/-- The high bytes of n, k of them, the high one first. -/
def putB (x n k : Nat) : List UInt8 := (List.range k).map fun i => byteAt x (n - 1 - i)
theorem putB_length (x n k : Nat) : (putB x n k).length = k := by simp [putB]
theorem putB_succ (x n k : Nat) : putB x n (k + 1) = putB x n k ++ [byteAt x (n - 1 - k)] := by simp [putB, List.range_succ]
theorem putB_rev (x n : Nat) : putB x n n = (putL x n).reverse := by
  refine List.ext_getElem (by simp [putB, putL]) fun i h1 h2 => ?_
  simp [putB, putL]
theorem little_few (A : Option Addr) (c n : Nat) (bs : List UInt8) (w : World) (hl : bs.length = n) (hr : Row w w.heap.size A bs) (hn : n ≤ 8) :
    Calls Tryd.prog 22 #[.slice A n c] w fun e w' => e = .returned (.tuple #[.int .u64 (bigN bs.reverse : Int), .nilIface]) ∧ w = w' := by
  subst hl
  go_enter Tryd.func22, Tryd.ntmps22
  go_wp2
  go_loop [4, 5, 6, 13] (fun x _ _ i => ∃ k : Nat, k ≤ bs.length ∧ i = .int .i64 k ∧ x = .int .u64 (bigN (bs.take k).reverse : Int)) (fun _ _ _ i => bs.length - (intOf i).toNat)
  case atStart => exact ⟨0, Nat.zero_le _, rfl, rfl⟩
  case round =>
    obtain ⟨k, hk, rfl, rfl⟩ := hrel
    by_cases hlt : k < bs.length
    · obtain ⟨b, off, rfl, hb, hc⟩ := hr.at k hlt
      go_wp2
      go_round
      case rel => exact ⟨k + 1, by omega, by go_num, by rw [little_round bs k hlt hn]⟩
      case measure => simp [intOf]; omega
    · go_wp2
      go_ret2
      exact ⟨by rw [List.take_of_length_le (by omega)]; rfl, rfl⟩
theorem little_long (A : Option Addr) (c n : Nat) (E : Value) (w : World) (hn : 8 < n) (hE : w.cell? ⟨0, 0, none⟩ = some E) :
    Calls Tryd.prog 22 #[.slice A n c] w fun e w' => e = .returned (.tuple #[.int .u64 0, E]) ∧ ∃ n, w' = w.drewN n := by
  have h : (8 : Int) < (n : Int) := by omega
  go_enter Tryd.func22, Tryd.ntmps22
  go_wp2
  go_quiet (fail)
  go_wp2
  go_ret2
  exact ⟨rfl, _, rfl⟩
theorem set_before (l : List UInt8) (m : Nat) (u : UInt8) : (List.replicate (m + 1) 0 ++ l).set m u = List.replicate m 0 ++ u :: l := by
  rw [List.replicate_succ', List.append_assoc, List.set_append_right _ _ (by simp)]
  simp
end Go.Proofs.YtiadgningbogmaaDoor
