/- The walks of words.Left, words.Right, words.Right64: each answers the word turned round. -/
import Derived.Test.YtbifokcchlcloaaDoorProg
import Derived.Test.YtbifokcchlcloaaDoorWMath
import Derived.Lib.Hide
namespace Go.Proofs.YtbifokcchlcloaaDoor
open Go.RowKit
theorem ret_int {k : IntKind} {a b : Int} (h : a = b) : Ending.returned (.int k a) = .returned (.int k b) := by rw [h]
theorem left_any (x : BitVec 32) (n : Int) (w : World) :
    Calls Tryd.prog 10 #[.int .u32 x.toNat, .int .i64 n] w fun e w' => e = .returned (.int .u32 ((rotL32 x n).toNat : Int)) ∧ w = w' := by
  have hk := and31 n
  have hl : (n % 32).toNat < 32 := by omega
  have HR := Lib.hid (show _ = ((rotL32 x n).toNat : Int) from rotl32 x _ hl)
  generalize (n % 32).toNat = k at *
  go_enter Tryd.func10, Tryd.ntmps10
  go_wp2
  go_ret
  exact ⟨ret_int HR.out, rfl⟩
theorem right_any (x : BitVec 32) (n : Int) (w : World) :
    Calls Tryd.prog 11 #[.int .u32 x.toNat, .int .i64 n] w fun e w' => e = .returned (.int .u32 ((rotR32 x n).toNat : Int)) ∧ w = w' := by
  have hk := and31 n
  have hl : (n % 32).toNat < 32 := by omega
  have HR := Lib.hid (show _ = ((rotR32 x n).toNat : Int) from rotr32 x _ hl)
  generalize (n % 32).toNat = k at *
  go_enter Tryd.func11, Tryd.ntmps11
  go_wp2
  go_ret
  exact ⟨ret_int HR.out, rfl⟩
theorem right64_any (x : BitVec 64) (n : Int) (w : World) :
    Calls Tryd.prog 13 #[.int .u64 x.toNat, .int .i64 n] w fun e w' => e = .returned (.int .u64 ((rotR64 x n).toNat : Int)) ∧ w = w' := by
  have hk := and63 n
  have hl : (n % 64).toNat < 64 := by omega
  have HR := Lib.hid (show _ = ((rotR64 x n).toNat : Int) from rotr64 x _ hl)
  generalize (n % 64).toNat = k at *
  go_enter Tryd.func13, Tryd.ntmps13
  go_wp2
  go_ret
  exact ⟨ret_int HR.out, rfl⟩
theorem pick_any (b : Bool) (x y : Int) (w : World) :
    Calls Tryd.prog 28 #[.bool b, .int .u64 x, .int .u64 y] w fun e w' => e = .returned (.int .u64 (if b then x else y)) ∧ w = w' := by
  cases b <;> (go_enter Tryd.func28, Tryd.ntmps28; go_wp2; go_ret; exact ⟨rfl, rfl⟩)
theorem mod_any (n : Int) (m : Nat) (w : World) (hm : 0 < m) (hm' : m < 1000) (_h1 : -9223372036854775808 ≤ n) (_h2 : n < 9223372036854775808) :
    Calls Tryd.prog 9 #[.int .i64 n, .int .i64 m] w fun e w' => e = .returned (.int .i64 (n % m)) ∧ w = w' := by
  have hd := Lib.hid (tmod_cases n m hm)
  have hp := Int.emod_nonneg n (b := m) (by omega)
  have hq := Int.emod_lt_of_pos n (b := m) (by omega)
  go_enter Tryd.func9, Tryd.ntmps9
  go_wp2
  all_goals go_ret
  · have h := hd.out.1 ‹_›
    exact ⟨ret_int (by rw [h, IntWalk.wrap64_in _ (by omega)]), rfl⟩
  · have h := hd.out.2 ‹_›
    exact ⟨ret_int h, rfl⟩
theorem turned_any (x : BitVec 64) (W n : Nat) (w : World) (hW : 0 < W) (hW' : W ≤ 64) (hn : n ≤ 64) :
    Calls Tryd.prog 12 #[.int .u64 x.toNat, .int .i64 W, .int .i64 n] w fun e w' => e = .returned (.int .u64 ((turnedTo x W n W).toNat : Int)) ∧ w = w' := by
  go_enter Tryd.func12, Tryd.ntmps12
  go_wp2
  go_loop [7, 8] (fun o i => ∃ k : Nat, k ≤ W ∧ i = .int .i64 k ∧ o = .int .u64 ((turnedTo x W n k).toNat : Int)) (fun _ i => W - (intOf i).toNat)
  case atStart => exact ⟨0, Nat.zero_le _, rfl, rfl⟩
  case round =>
    obtain ⟨k, hk, rfl, rfl⟩ := hrel
    by_cases hlt : k < W
    · go_wp2
      all_goals
        go_round
        case rel => exact ⟨k + 1, by omega, by go_num, by first | rw [turned_no x W n k ‹_›] | rw [turned_yes x W n k hW hW' ‹_›]⟩
        case measure => simp [intOf]; omega
    · go_wp2
      go_ret
      exact ⟨ret_int (by rw [show k = W by omega]), rfl⟩
theorem turned_32 (x : BitVec 32) (n : Int) (w : World) (h0 : 0 ≤ n) (h1 : n ≤ 32) :
    Calls Tryd.prog 12 #[.int .u64 (x.toNat : Int), .int .i64 32, .int .i64 n] w fun e w' => e = .returned (.int .u64 ((rotTo32 x n).toNat : Int)) ∧ w = w' := by
  obtain ⟨m, rfl⟩ := Int.eq_ofNat_of_zero_le h0
  have h := turned_any (x.setWidth 64) 32 m w (by decide) (by decide) (by omega)
  have e1 : (x.setWidth 64).toNat = x.toNat := by
    rw [BitVec.toNat_setWidth, Nat.mod_eq_of_lt]
    have := x.isLt
    omega
  have e2 : (turnedTo (x.setWidth 64) 32 m 32).toNat = (rotTo32 x m).toNat := by
    rw [turned32, BitVec.toNat_setWidth, Nat.mod_eq_of_lt]
    · rfl
    · have := (x.rotateLeft m).isLt
      omega
  rw [e1, e2] at h
  exact h
theorem turned_64 (x : BitVec 64) (n : Int) (w : World) (h0 : 0 ≤ n) (h1 : n ≤ 64) :
    Calls Tryd.prog 12 #[.int .u64 (x.toNat : Int), .int .i64 64, .int .i64 n] w fun e w' => e = .returned (.int .u64 ((rotTo64 x n).toNat : Int)) ∧ w = w' := by
  obtain ⟨m, rfl⟩ := Int.eq_ofNat_of_zero_le h0
  have h := turned_any x 64 m w (by decide) (by decide) (by omega)
  rw [turned64] at h
  exact h
end Go.Proofs.YtbifokcchlcloaaDoor
