/- The walk of the law WordsTurns. -/
import Derived.Test.YtbifokcchlcloaaDoorWBig
namespace Go.Proofs.YtbifokcchlcloaaDoor.wordsTurns
open Go.RowKit
set_option maxHeartbeats 800000 in
theorem walk (x : BitVec 32) (y : BitVec 64) (n : Int) (w : World) (hn1 : -9223372036854775808 ≤ n) (hn2 : n < 9223372036854775808) :
    Calls Tryd.prog 3 #[.int .u32 x.toNat, .int .u64 y.toNat, .int .i64 n] w fun e w' => e = .returned (.bool true) ∧ Below w.heap.size w w' := by
  go_enter Tryd.func3, Tryd.ntmps3
  go_wp2_with fail
  refine (alive_any w).mono ?_
  rintro e w1 ⟨rfl, hb⟩
  go_wp2_with fail
  refine (mod_any n 32 _ (by omega) (by omega) hn1 hn2).mono ?_
  rintro e w2 ⟨rfl, rfl⟩
  go_wp2_with fail
  refine (mod_any n 64 _ (by omega) (by omega) hn1 hn2).mono ?_
  rintro e w2 ⟨rfl, rfl⟩
  go_wp2_with fail
  refine (left_any _ _ _).mono ?_
  rintro e w2 ⟨rfl, rfl⟩
  go_wp2_with fail
  refine (right_any _ _ _).mono ?_
  rintro e w2 ⟨rfl, rfl⟩
  have b1 : 0 ≤ n % 32 := by omega
  have b2 : n % 32 < 32 := by omega
  have b3 : 0 ≤ n % 64 := by omega
  have b4 : n % 64 < 64 := by omega
  have q1 := (rotL32 x n).isLt
  have q2 := (rotR32 x n).isLt
  have q3 := Lib.hid (rotTo_left x n)
  have q4 := Lib.hid (rotTo_right x n)
  have q5 := Lib.hid (rotTo_right64 y n)
  go_wp2_with fail
  refine (turned_32 x _ _ (by omega) (by omega)).mono ?_
  rintro e w2 ⟨rfl, rfl⟩
  rw [q3.out]
  go_wp2_with fail
  refine (turned_32 x _ _ (by omega) (by omega)).mono ?_
  rintro e w2 ⟨rfl, rfl⟩
  rw [q4.out]
  go_wp2_with fail
  refine (right64_any _ _ _).mono ?_
  rintro e w2 ⟨rfl, rfl⟩
  go_wp2_with fail
  refine (turned_64 y _ _ (by omega) (by omega)).mono ?_
  rintro e w2 ⟨rfl, rfl⟩
  rw [q5.out]
  go_wp2_with fail
  refine (right_any _ _ _).mono ?_
  rintro e w2 ⟨rfl, rfl⟩
  rw [rotR_rotL]
  go_wp2_with fail
  refine (left_any _ _ _).mono ?_
  rintro e w2 ⟨rfl, rfl⟩
  rw [rotL_rotR]
  go_wp2
  go_ret
  exact ⟨rfl, hb⟩
end Go.Proofs.YtbifokcchlcloaaDoor.wordsTurns
