/- The walks of words.Left, words.Right, words.Right64: each answers the word turned round. -/
import Derived.Test.YtiadgningbogmaaDoorProg
import Derived.Test.YtiadgningbogmaaDoorWMath
import Derived.Lib.Hide
namespace Go.Proofs.YtiadgningbogmaaDoor
open Go.RowKit
theorem ret_int {k : IntKind} {a b : Int} (h : a = b) : Ending.returned (.int k a) = .returned (.int k b) := by rw [h]
end Go.Proofs.YtiadgningbogmaaDoor
