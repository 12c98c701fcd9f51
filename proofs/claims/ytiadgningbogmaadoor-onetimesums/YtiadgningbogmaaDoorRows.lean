/-
  NARROWER THAN 'FOR EVERY INPUT', by the rows' own cells (each row's printed sentence says how): OnetimeSums: laid · OnetimeEdges: laid · OnetimeAdds: laid.
  DERIVED. THE GIVEN ROWS OF THIS SEAT. 3 by the template 'for every input the law returns true; each argument reads behind the call as it read before'; 0 by the template 'total and deterministic' (their statements: YtiadgningbogmaaDoorTotals.lean).
  GIVEN WITH THE SEED: the statements are not yours to turn. If you find one false, say at which input.
  Laid BY PROGRAM, IN A SANDBOX (cutbox-rows.mjs): the forced cells as the released guide's own fill.sh prints them over the translation 37e396eed7532a08… (all of the seat's roots in one cut). By AI agents, Wed Nov 11 2026. No macro, syntax, notation, axiom, sorry.
-/
import Derived.Test.YtiadgningbogmaaDoorChecked
import GoSem.Claim
import GoSem.ClaimJoined
import GoSem.ClaimMapViews
import Derived.JoinedTies
import Derived.KernelRfl
namespace Go.Proofs.YtiadgningbogmaaDoor
/- THE CELL 'sum', in the pinned program and in every row, IS THE sha256 OF THE DUMP (.gsa) THAT YtiadgningbogmaaDoorProg.lean LOADS. Nothing in Lean hashes anything: it is a label: what it is worth is what the hold of that sum in a sandbox is worth. -/
noncomputable def Tryd.pinned : Pinned := { name := "ytiadgningbogmaadoor", sum := "37e396eed7532a080f65b47742cb8644f1e01450b0e6628386f2d56fc52fedbe", checked := Tryd.checked }
namespace Rows
def none {H : Type} : Left H := { results := [], args := [] }

/- WHAT THE LISTED PACKAGE-LEVEL VARIABLES READ AS WHEN THE CALL BEGINS. Each datum BY PROGRAM (the guide's laid-datum.mjs) off the statement by which the dump's own 'gosem.cut.vars' lays the variable. In a bare row this is a premise. The card (YtiadgningbogmaaDoorCards.lean) ties it to the program's text. -/
def laid_fellowship_api_ErrLong {H : Type} : DataW H := .iface "*errors.errorString" (.ptr (.agg [.lit (.string [102, 101, 108, 108, 111, 119, 115, 104, 105, 112, 58, 32, 108, 111, 110, 103])]))

/-- 'fellowshiplaw07.OnetimeSums': WHATEVER THE INPUT: true; the input reads as it did. -/
def onetimeSumsSpec : ChangeSpec := { name := "onetimeSums", fn := fun _ => fun
  | [d1, d2, d3] => { results := [.lit (.bool true)], args := [d1, d2, d3] }
  | _ => none }
def onetimeSumsRow : OpenClaim := { program := "ytiadgningbogmaadoor", sum := "37e396eed7532a080f65b47742cb8644f1e01450b0e6628386f2d56fc52fedbe", func := "fellowship/fellowshiplaw07.OnetimeSums", spec := "onetimeSums", named := ["fellowship/api.ErrLong"], apart := false, laid := [("fellowship/api.ErrLong", laid_fellowship_api_ErrLong)] }
def OnetimeSumsSaid : Prop := onetimeSumsRow.holds Tryd.pinned (OpenSpec.ofChange onetimeSumsSpec)

/-- ITS FALSE NEIGHBOUR: 'it returns false'. Refute it at one input. -/
def onetimeSumsWrong : ChangeSpec := { name := "onetimeSums", fn := fun _ => fun
  | [d1, d2, d3] => { results := [.lit (.bool false)], args := [d1, d2, d3] }
  | _ => none }
def OnetimeSumsWrongFalsely : Prop := onetimeSumsRow.holds Tryd.pinned (OpenSpec.ofChange onetimeSumsWrong)

/-- 'fellowshiplaw07.OnetimeEdges': WHATEVER THE INPUT: true; the input reads as it did. -/
def onetimeEdgesSpec : ChangeSpec := { name := "onetimeEdges", fn := fun _ => fun
  | [d1, d2, d3] => { results := [.lit (.bool true)], args := [d1, d2, d3] }
  | _ => none }
def onetimeEdgesRow : OpenClaim := { program := "ytiadgningbogmaadoor", sum := "37e396eed7532a080f65b47742cb8644f1e01450b0e6628386f2d56fc52fedbe", func := "fellowship/fellowshiplaw07.OnetimeEdges", spec := "onetimeEdges", named := ["fellowship/api.ErrLong"], apart := false, laid := [("fellowship/api.ErrLong", laid_fellowship_api_ErrLong)] }
def OnetimeEdgesSaid : Prop := onetimeEdgesRow.holds Tryd.pinned (OpenSpec.ofChange onetimeEdgesSpec)

/-- ITS FALSE NEIGHBOUR: 'it returns false'. Refute it at one input. -/
def onetimeEdgesWrong : ChangeSpec := { name := "onetimeEdges", fn := fun _ => fun
  | [d1, d2, d3] => { results := [.lit (.bool false)], args := [d1, d2, d3] }
  | _ => none }
def OnetimeEdgesWrongFalsely : Prop := onetimeEdgesRow.holds Tryd.pinned (OpenSpec.ofChange onetimeEdgesWrong)

/-- 'fellowshiplaw07.OnetimeAdds': WHATEVER THE INPUT: true; the input reads as it did. -/
def onetimeAddsSpec : ChangeSpec := { name := "onetimeAdds", fn := fun _ => fun
  | [d1, d2, d3] => { results := [.lit (.bool true)], args := [d1, d2, d3] }
  | _ => none }
def onetimeAddsRow : OpenClaim := { program := "ytiadgningbogmaadoor", sum := "37e396eed7532a080f65b47742cb8644f1e01450b0e6628386f2d56fc52fedbe", func := "fellowship/fellowshiplaw07.OnetimeAdds", spec := "onetimeAdds", named := ["fellowship/api.ErrLong"], apart := false, laid := [("fellowship/api.ErrLong", laid_fellowship_api_ErrLong)] }
def OnetimeAddsSaid : Prop := onetimeAddsRow.holds Tryd.pinned (OpenSpec.ofChange onetimeAddsSpec)

/-- ITS FALSE NEIGHBOUR: 'it returns false'. Refute it at one input. -/
def onetimeAddsWrong : ChangeSpec := { name := "onetimeAdds", fn := fun _ => fun
  | [d1, d2, d3] => { results := [.lit (.bool false)], args := [d1, d2, d3] }
  | _ => none }
def OnetimeAddsWrongFalsely : Prop := onetimeAddsRow.holds Tryd.pinned (OpenSpec.ofChange onetimeAddsWrong)

/- THE SECOND FORM. 'bulk': how many values and letters a reading holds, each counted each time it is reached (what is shared counts as often as it is met; a slice's spare places count too). A statement '..UptoSaid' is the law's where the arguments, and the package variables that the reading takes, are together of bulk at most 1048576: NARROWER than '..Said'. Prove '..Said' where nothing that the law and all that it calls make is longer than what came in: it says more and counts as full. Else prove '..UptoSaid'. A law counts once. -/
mutual
def uptoBulk {H : Type} : DataW H → Nat
  | .lit (.string bytes) => bytes.length + 1
  | .lit _ => 1
  | .nil => 1
  | .ptr d => uptoBulk d + 1
  | .slice elems spare => uptoBulkAll elems + uptoBulkAll spare + 1
  | .agg parts => uptoBulkAll parts + 1
  | .iface _ d => uptoBulk d + 1
  | .map entries => uptoBulkEntries entries + 1
  | .held _ => 1
def uptoBulkAll {H : Type} : List (DataW H) → Nat
  | [] => 0
  | d :: r => uptoBulk d + uptoBulkAll r
def uptoBulkEntries {H : Type} : List (Lit × DataW H) → Nat
  | [] => 0
  | x :: r => uptoBulkEntry x + uptoBulkEntries r
def uptoBulkEntry {H : Type} : Lit × DataW H → Nat
  | (.string bytes, d) => bytes.length + uptoBulk d + 1
  | (_, d) => uptoBulk d + 1
 end
def uptoSmall : (H : Type) → List (DataW H) → Bool := fun _ ds => decide (uptoBulkAll ds ≤ 1048576)
def OpenSpec.upto (s : _root_.Go.ChangeSpec) : _root_.Go.OpenSpec := { _root_.Go.OpenSpec.ofChange s with cond := some uptoSmall }

/-- 'fellowshiplaw07.OnetimeSums', WHERE WHAT IT READS IS OF BULK AT MOST 1048576: true; the input reads as it did. -/
def onetimeSumsUptoRow : OpenClaim := { program := "ytiadgningbogmaadoor", sum := "37e396eed7532a080f65b47742cb8644f1e01450b0e6628386f2d56fc52fedbe", func := "fellowship/fellowshiplaw07.OnetimeSums", spec := "onetimeSums", named := ["fellowship/api.ErrLong"], apart := false, laid := [("fellowship/api.ErrLong", laid_fellowship_api_ErrLong)], narrowed := true }
def OnetimeSumsUptoSaid : Prop := onetimeSumsUptoRow.holds Tryd.pinned (OpenSpec.upto onetimeSumsSpec)

/-- 'fellowshiplaw07.OnetimeEdges', WHERE WHAT IT READS IS OF BULK AT MOST 1048576: true; the input reads as it did. -/
def onetimeEdgesUptoRow : OpenClaim := { program := "ytiadgningbogmaadoor", sum := "37e396eed7532a080f65b47742cb8644f1e01450b0e6628386f2d56fc52fedbe", func := "fellowship/fellowshiplaw07.OnetimeEdges", spec := "onetimeEdges", named := ["fellowship/api.ErrLong"], apart := false, laid := [("fellowship/api.ErrLong", laid_fellowship_api_ErrLong)], narrowed := true }
def OnetimeEdgesUptoSaid : Prop := onetimeEdgesUptoRow.holds Tryd.pinned (OpenSpec.upto onetimeEdgesSpec)

/-- 'fellowshiplaw07.OnetimeAdds', WHERE WHAT IT READS IS OF BULK AT MOST 1048576: true; the input reads as it did. -/
def onetimeAddsUptoRow : OpenClaim := { program := "ytiadgningbogmaadoor", sum := "37e396eed7532a080f65b47742cb8644f1e01450b0e6628386f2d56fc52fedbe", func := "fellowship/fellowshiplaw07.OnetimeAdds", spec := "onetimeAdds", named := ["fellowship/api.ErrLong"], apart := false, laid := [("fellowship/api.ErrLong", laid_fellowship_api_ErrLong)], narrowed := true }
def OnetimeAddsUptoSaid : Prop := onetimeAddsUptoRow.holds Tryd.pinned (OpenSpec.upto onetimeAddsSpec)

end Rows
end Go.Proofs.YtiadgningbogmaaDoor
