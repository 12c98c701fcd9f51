/- The walks of words.Left, words.Right, words.Right64: each answers the word turned round. -/
import Derived.Test.YtpbkjphdkdlhjaaDoorProg
import Derived.Test.YtpbkjphdkdlhjaaDoorWMath
import Derived.Lib.Hide
namespace Go.Proofs.YtpbkjphdkdlhjaaDoor
open Go.RowKit
theorem ret_int {k : IntKind} {a b : Int} (h : a = b) : Ending.returned (.int k a) = .returned (.int k b) := by rw [h]
theorem right64_any (x : BitVec 64) (n : Int) (w : World) :
    Calls Tryd.prog 28 #[.int .u64 x.toNat, .int .i64 n] w fun e w' => e = .returned (.int .u64 ((rotR64 x n).toNat : Int)) ∧ w = w' := by
  have hk := and63 n
  have hl : (n % 64).toNat < 64 := by omega
  have HR := Lib.hid (show _ = ((rotR64 x n).toNat : Int) from rotr64 x _ hl)
  generalize (n % 64).toNat = k at *
  go_enter Tryd.func28, Tryd.ntmps28
  go_wp2
  go_ret
  exact ⟨ret_int HR.out, rfl⟩
end Go.Proofs.YtpbkjphdkdlhjaaDoor
