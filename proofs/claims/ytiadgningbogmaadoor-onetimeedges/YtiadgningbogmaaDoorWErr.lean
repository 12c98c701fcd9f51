/- errors.Is at package api's errors; the verifier's Num. -/
import Derived.Test.YtiadgningbogmaaDoorProg
import Derived.Test.YtiadgningbogmaaDoorChecked
import Derived.WalkKit
import Derived.LaidEql
import Derived.Stop.Asserts
import Derived.RowKitTokens
import Derived.LaidLaws
import Derived.Stop.LaidErr
import Derived.MakeChecks
import Derived.Lib.Hide
namespace Go.Proofs.YtiadgningbogmaaDoor
open Go.RowKit Go.Extern.Stop Go.Stop Go.Extern
/-- An error of package api's, as a value: a pointer to a text of errors.New's. -/
abbrev errAt (a : Addr) : Value := .iface 63 (.pointer (some a))
theorem is_comp : (Tryd.prog.info? 63).map (·.comparable) = some true := by kernel_rfl
theorem is_size : (Tryd.prog.info? 81).map (·.size) = some 1 := by kernel_rfl
end Go.Proofs.YtiadgningbogmaaDoor
