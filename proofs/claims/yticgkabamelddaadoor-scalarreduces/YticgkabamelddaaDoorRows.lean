/-
  NARROWER THAN 'FOR EVERY INPUT', by the rows' own cells (each row's printed sentence says how): ScalarReduces: laid · ScalarSums: laid · ScalarChains: laid.
  DERIVED. THE GIVEN ROWS OF THIS SEAT. 3 by the template 'for every input the law returns true; each argument reads behind the call as it read before'; 0 by the template 'total and deterministic' (their statements: YticgkabamelddaaDoorTotals.lean).
  GIVEN WITH THE SEED: the statements are not yours to turn. If you find one false, say at which input.
  Laid BY PROGRAM, IN A SANDBOX (cutbox-rows.mjs): the forced cells as the released guide's own fill.sh prints them over the translation 8d06c8212dee42a2… (all of the seat's roots in one cut). By AI agents, Wed Nov 11 2026. No macro, syntax, notation, axiom, sorry.
-/
import Derived.Test.YticgkabamelddaaDoorChecked
import GoSem.Claim
import GoSem.ClaimJoined
import GoSem.ClaimMapViews
import Derived.JoinedTies
import Derived.KernelRfl
namespace Go.Proofs.YticgkabamelddaaDoor
/- THE CELL 'sum', in the pinned program and in every row, IS THE sha256 OF THE DUMP (.gsa) THAT YticgkabamelddaaDoorProg.lean LOADS. Nothing in Lean hashes anything: it is a label: what it is worth is what the hold of that sum in a sandbox is worth. -/
noncomputable def Tryd.pinned : Pinned := { name := "yticgkabamelddaadoor", sum := "8d06c8212dee42a211bafec8b73fbd3cadb1798e1f328ee440a41f3b7f01ce1f", checked := Tryd.checked }
namespace Rows
def none {H : Type} : Left H := { results := [], args := [] }

/- WHAT THE LISTED PACKAGE-LEVEL VARIABLES READ AS WHEN THE CALL BEGINS. Each datum BY PROGRAM (the guide's laid-datum.mjs) off the statement by which the dump's own 'gosem.cut.vars' lays the variable. In a bare row this is a premise. The card (YticgkabamelddaaDoorCards.lean) ties it to the program's text. -/
def laid_fellowship_api_ErrRange {H : Type} : DataW H := .iface "*errors.errorString" (.ptr (.agg [.lit (.string [102, 101, 108, 108, 111, 119, 115, 104, 105, 112, 58, 32, 114, 97, 110, 103, 101])]))
def laid_fellowship_api_ErrLong {H : Type} : DataW H := .iface "*errors.errorString" (.ptr (.agg [.lit (.string [102, 101, 108, 108, 111, 119, 115, 104, 105, 112, 58, 32, 108, 111, 110, 103])]))
def laid_fellowship_scalar_order {H : Type} : DataW H := .agg [.lit (.int .u64 1559614445), .lit (.int .u64 1477600026), .lit (.int .u64 2734136534), .lit (.int .u64 350157278), .lit (.int .u64 0), .lit (.int .u64 0), .lit (.int .u64 0), .lit (.int .u64 268435456)]
def laid_fellowship_scalar_tail {H : Type} : DataW H := .agg [.lit (.int .u64 1559614445), .lit (.int .u64 1477600026), .lit (.int .u64 2734136534), .lit (.int .u64 350157278), .lit (.int .u64 0), .lit (.int .u64 0), .lit (.int .u64 0), .lit (.int .u64 0)]

/-- 'fellowshiplaw11.ScalarReduces': WHATEVER THE INPUT: true; the input reads as it did. -/
def scalarReducesSpec : ChangeSpec := { name := "scalarReduces", fn := fun _ => fun
  | [d1, d2, d3] => { results := [.lit (.bool true)], args := [d1, d2, d3] }
  | _ => none }
def scalarReducesRow : OpenClaim := { program := "yticgkabamelddaadoor", sum := "8d06c8212dee42a211bafec8b73fbd3cadb1798e1f328ee440a41f3b7f01ce1f", func := "fellowship/fellowshiplaw11.ScalarReduces", spec := "scalarReduces", named := ["fellowship/api.ErrLong", "fellowship/scalar.tail", "fellowship/scalar.order", "fellowship/api.ErrRange"], apart := false, laid := [("fellowship/api.ErrRange", laid_fellowship_api_ErrRange), ("fellowship/api.ErrLong", laid_fellowship_api_ErrLong), ("fellowship/scalar.order", laid_fellowship_scalar_order), ("fellowship/scalar.tail", laid_fellowship_scalar_tail)] }
def ScalarReducesSaid : Prop := scalarReducesRow.holds Tryd.pinned (OpenSpec.ofChange scalarReducesSpec)

/-- ITS FALSE NEIGHBOUR: 'it returns false'. Refute it at one input. -/
def scalarReducesWrong : ChangeSpec := { name := "scalarReduces", fn := fun _ => fun
  | [d1, d2, d3] => { results := [.lit (.bool false)], args := [d1, d2, d3] }
  | _ => none }
def ScalarReducesWrongFalsely : Prop := scalarReducesRow.holds Tryd.pinned (OpenSpec.ofChange scalarReducesWrong)

/-- 'fellowshiplaw11.ScalarSums': WHATEVER THE INPUT: true; the input reads as it did. -/
def scalarSumsSpec : ChangeSpec := { name := "scalarSums", fn := fun _ => fun
  | [d1, d2] => { results := [.lit (.bool true)], args := [d1, d2] }
  | _ => none }
def scalarSumsRow : OpenClaim := { program := "yticgkabamelddaadoor", sum := "8d06c8212dee42a211bafec8b73fbd3cadb1798e1f328ee440a41f3b7f01ce1f", func := "fellowship/fellowshiplaw11.ScalarSums", spec := "scalarSums", named := ["fellowship/api.ErrLong", "fellowship/scalar.tail", "fellowship/scalar.order", "fellowship/api.ErrRange"], apart := false, laid := [("fellowship/api.ErrRange", laid_fellowship_api_ErrRange), ("fellowship/api.ErrLong", laid_fellowship_api_ErrLong), ("fellowship/scalar.order", laid_fellowship_scalar_order), ("fellowship/scalar.tail", laid_fellowship_scalar_tail)] }
def ScalarSumsSaid : Prop := scalarSumsRow.holds Tryd.pinned (OpenSpec.ofChange scalarSumsSpec)

/-- ITS FALSE NEIGHBOUR: 'it returns false'. Refute it at one input. -/
def scalarSumsWrong : ChangeSpec := { name := "scalarSums", fn := fun _ => fun
  | [d1, d2] => { results := [.lit (.bool false)], args := [d1, d2] }
  | _ => none }
def ScalarSumsWrongFalsely : Prop := scalarSumsRow.holds Tryd.pinned (OpenSpec.ofChange scalarSumsWrong)

/-- 'fellowshiplaw11.ScalarChains': WHATEVER THE INPUT: true; the input reads as it did. -/
def scalarChainsSpec : ChangeSpec := { name := "scalarChains", fn := fun _ => fun
  | [d1, d2, d3] => { results := [.lit (.bool true)], args := [d1, d2, d3] }
  | _ => none }
def scalarChainsRow : OpenClaim := { program := "yticgkabamelddaadoor", sum := "8d06c8212dee42a211bafec8b73fbd3cadb1798e1f328ee440a41f3b7f01ce1f", func := "fellowship/fellowshiplaw11.ScalarChains", spec := "scalarChains", named := ["fellowship/api.ErrLong", "fellowship/scalar.tail", "fellowship/scalar.order", "fellowship/api.ErrRange"], apart := false, laid := [("fellowship/api.ErrRange", laid_fellowship_api_ErrRange), ("fellowship/api.ErrLong", laid_fellowship_api_ErrLong), ("fellowship/scalar.order", laid_fellowship_scalar_order), ("fellowship/scalar.tail", laid_fellowship_scalar_tail)] }
def ScalarChainsSaid : Prop := scalarChainsRow.holds Tryd.pinned (OpenSpec.ofChange scalarChainsSpec)

/-- ITS FALSE NEIGHBOUR: 'it returns false'. Refute it at one input. -/
def scalarChainsWrong : ChangeSpec := { name := "scalarChains", fn := fun _ => fun
  | [d1, d2, d3] => { results := [.lit (.bool false)], args := [d1, d2, d3] }
  | _ => none }
def ScalarChainsWrongFalsely : Prop := scalarChainsRow.holds Tryd.pinned (OpenSpec.ofChange scalarChainsWrong)

/- THE SECOND FORM. 'bulk': how many values and letters a reading holds, each counted each time it is reached (what is shared counts as often as it is met; a slice's spare places count too). A statement '..UptoSaid' is the law's where the arguments, and the package variables that the reading takes, are together of bulk at most 1048576: NARROWER than '..Said'. Prove '..Said' where nothing that the law and all that it calls make is longer than what came in: it says more and counts as full. Else prove '..UptoSaid'. A law counts once. -/
mutual
def uptoBulk {H : Type} : DataW H → Nat
  | .lit (.string bytes) => bytes.length + 1
  | .lit _ => 1
  | .nil => 1
  | .ptr d => uptoBulk d + 1
  | .slice elems spare => uptoBulkAll elems + uptoBulkAll spare + 1
  | .agg parts => uptoBulkAll parts + 1
  | .iface _ d => uptoBulk d + 1
  | .map entries => uptoBulkEntries entries + 1
  | .held _ => 1
def uptoBulkAll {H : Type} : List (DataW H) → Nat
  | [] => 0
  | d :: r => uptoBulk d + uptoBulkAll r
def uptoBulkEntries {H : Type} : List (Lit × DataW H) → Nat
  | [] => 0
  | x :: r => uptoBulkEntry x + uptoBulkEntries r
def uptoBulkEntry {H : Type} : Lit × DataW H → Nat
  | (.string bytes, d) => bytes.length + uptoBulk d + 1
  | (_, d) => uptoBulk d + 1
 end
def uptoSmall : (H : Type) → List (DataW H) → Bool := fun _ ds => decide (uptoBulkAll ds ≤ 1048576)
def OpenSpec.upto (s : _root_.Go.ChangeSpec) : _root_.Go.OpenSpec := { _root_.Go.OpenSpec.ofChange s with cond := some uptoSmall }

/-- 'fellowshiplaw11.ScalarReduces', WHERE WHAT IT READS IS OF BULK AT MOST 1048576: true; the input reads as it did. -/
def scalarReducesUptoRow : OpenClaim := { program := "yticgkabamelddaadoor", sum := "8d06c8212dee42a211bafec8b73fbd3cadb1798e1f328ee440a41f3b7f01ce1f", func := "fellowship/fellowshiplaw11.ScalarReduces", spec := "scalarReduces", named := ["fellowship/api.ErrLong", "fellowship/scalar.tail", "fellowship/scalar.order", "fellowship/api.ErrRange"], apart := false, laid := [("fellowship/api.ErrRange", laid_fellowship_api_ErrRange), ("fellowship/api.ErrLong", laid_fellowship_api_ErrLong), ("fellowship/scalar.order", laid_fellowship_scalar_order), ("fellowship/scalar.tail", laid_fellowship_scalar_tail)], narrowed := true }
def ScalarReducesUptoSaid : Prop := scalarReducesUptoRow.holds Tryd.pinned (OpenSpec.upto scalarReducesSpec)

/-- 'fellowshiplaw11.ScalarSums', WHERE WHAT IT READS IS OF BULK AT MOST 1048576: true; the input reads as it did. -/
def scalarSumsUptoRow : OpenClaim := { program := "yticgkabamelddaadoor", sum := "8d06c8212dee42a211bafec8b73fbd3cadb1798e1f328ee440a41f3b7f01ce1f", func := "fellowship/fellowshiplaw11.ScalarSums", spec := "scalarSums", named := ["fellowship/api.ErrLong", "fellowship/scalar.tail", "fellowship/scalar.order", "fellowship/api.ErrRange"], apart := false, laid := [("fellowship/api.ErrRange", laid_fellowship_api_ErrRange), ("fellowship/api.ErrLong", laid_fellowship_api_ErrLong), ("fellowship/scalar.order", laid_fellowship_scalar_order), ("fellowship/scalar.tail", laid_fellowship_scalar_tail)], narrowed := true }
def ScalarSumsUptoSaid : Prop := scalarSumsUptoRow.holds Tryd.pinned (OpenSpec.upto scalarSumsSpec)

/-- 'fellowshiplaw11.ScalarChains', WHERE WHAT IT READS IS OF BULK AT MOST 1048576: true; the input reads as it did. -/
def scalarChainsUptoRow : OpenClaim := { program := "yticgkabamelddaadoor", sum := "8d06c8212dee42a211bafec8b73fbd3cadb1798e1f328ee440a41f3b7f01ce1f", func := "fellowship/fellowshiplaw11.ScalarChains", spec := "scalarChains", named := ["fellowship/api.ErrLong", "fellowship/scalar.tail", "fellowship/scalar.order", "fellowship/api.ErrRange"], apart := false, laid := [("fellowship/api.ErrRange", laid_fellowship_api_ErrRange), ("fellowship/api.ErrLong", laid_fellowship_api_ErrLong), ("fellowship/scalar.order", laid_fellowship_scalar_order), ("fellowship/scalar.tail", laid_fellowship_scalar_tail)], narrowed := true }
def ScalarChainsUptoSaid : Prop := scalarChainsUptoRow.holds Tryd.pinned (OpenSpec.upto scalarChainsSpec)

end Rows
end Go.Proofs.YticgkabamelddaaDoor
