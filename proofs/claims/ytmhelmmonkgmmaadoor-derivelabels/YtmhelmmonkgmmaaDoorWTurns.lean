/- The walks of words.Left, words.Right, words.Right64: each answers the word turned round. -/
import Derived.Test.YtmhelmmonkgmmaaDoorProg
import Derived.Test.YtmhelmmonkgmmaaDoorWMath
import Derived.Lib.Hide
namespace Go.Proofs.YtmhelmmonkgmmaaDoor
open Go.RowKit
theorem ret_int {k : IntKind} {a b : Int} (h : a = b) : Ending.returned (.int k a) = .returned (.int k b) := by rw [h]
theorem right_any (x : BitVec 32) (n : Int) (w : World) :
    Calls Tryd.prog 48 #[.int .u32 x.toNat, .int .i64 n] w fun e w' => e = .returned (.int .u32 ((rotR32 x n).toNat : Int)) ∧ w = w' := by
  have hk := and31 n
  have hl : (n % 32).toNat < 32 := by omega
  have HR := Lib.hid (show _ = ((rotR32 x n).toNat : Int) from rotr32 x _ hl)
  generalize (n % 32).toNat = k at *
  go_enter Tryd.func48, Tryd.ntmps48
  go_wp2
  go_ret
  exact ⟨ret_int HR.out, rfl⟩
end Go.Proofs.YtmhelmmonkgmmaaDoor
