/- The walk of the law WordsAgain. -/
import Derived.Test.YtbifokcchlcloaaDoorWBig
import Derived.BigQuiet
import Derived.Deep.QuietTactic
namespace Go.Proofs.YtbifokcchlcloaaDoor.wordsAgain
open Go.RowKit
set_option maxHeartbeats 800000 in
theorem walk (x : BitVec 32) (y : BitVec 64) (a b : Int) (w : World) (ha1 : -32768 ≤ a) (ha2 : a ≤ 32767) (hb1 : -32768 ≤ b) (hb2 : b ≤ 32767) :
    Calls Tryd.prog 7 #[.int .u32 x.toNat, .int .u64 y.toNat, .agg #[.int .i16 a, .int .i16 b]] w fun e w' => e = .returned (.bool true) ∧ Below w.heap.size w w' := by
  go_enter Tryd.func7, Tryd.ntmps7
  go_wp2_with fail
  refine (alive_any _).mono ?_
  rintro e w1 ⟨rfl, hb⟩
  have c0 : w1.cell? ⟨w.heap.size, 0, none⟩ = some (.int .i16 a) := by rw [hb.cell (by simp)]; simp
  have c1 : w1.cell? ⟨w.heap.size, 1, none⟩ = some (.int .i16 b) := by rw [hb.cell (by simp)]; simp
  have hB : Below w.heap.size w w1 := ((Below.refl _ _).alloc (Nat.le_refl _) _).trans (hb.mono (by simp))
  clear hb
  go_wp2_with fail
  go_quiet (fail)
  go_wp2_with fail
  refine (left_any _ _ _).mono ?_
  rintro e w2 ⟨rfl, rfl⟩
  go_wp2_with fail
  refine (left_any _ _ _).mono ?_
  rintro e w2 ⟨rfl, rfl⟩
  rw [rotL_rotL]
  go_wp2_with fail
  refine (left_any _ _ _).mono ?_
  rintro e w2 ⟨rfl, rfl⟩
  go_wp2_with fail
  refine (right64_any _ _ _).mono ?_
  rintro e w2 ⟨rfl, rfl⟩
  go_wp2_with fail
  refine (right64_any _ _ _).mono ?_
  rintro e w2 ⟨rfl, rfl⟩
  rw [rotR_rotR64]
  go_wp2_with fail
  refine (right64_any _ _ _).mono ?_
  rintro e w2 ⟨rfl, rfl⟩
  go_wp2_with fail
  refine (left_any _ _ _).mono ?_
  rintro e w2 ⟨rfl, rfl⟩
  rw [rotL_32]
  go_wp2_with fail
  refine (right_any _ _ _).mono ?_
  rintro e w2 ⟨rfl, rfl⟩
  rw [rotR_rotL_neg]
  go_wp2_with fail
  refine (left_any _ _ _).mono ?_
  rintro e w2 ⟨rfl, rfl⟩
  go_wp2_with fail
  refine (right64_any _ _ _).mono ?_
  rintro e w2 ⟨rfl, rfl⟩
  rw [rotR_64]
  go_wp2
  go_ret
  exact ⟨rfl, below_drewN hB _⟩
end Go.Proofs.YtbifokcchlcloaaDoor.wordsAgain
