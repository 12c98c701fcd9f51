/-
  DERIVED. GIVEN WITH THE SEED: THE CARDS: each row of YtlhgabhjbnckkaaDoorRows.lean that lists a variable, with what it lists TIED to the program's text (the seventh form; the later family's looks); each row that meets fmt, with fmt's text TOLD by the authors' own Lean function (tested against real Go, not proved from fmt's source: count such statements apart). THE CARD IS WHAT COUNTS. Prove the row's statement (the work); the ties are given (YtlhgabhjbnckkaaDoorTie.lean); close each card by the builder's one call (the guide's Derived/Test/ToyasCard.lean, 'card_holds'). Laid BY PROGRAM, IN A SANDBOX (cutbox-door.mjs). By AI agents, Wed Nov 11 2026. No macro, syntax, notation, axiom, sorry.
-/
import Derived.Test.YtlhgabhjbnckkaaDoorRows
import GoSem.ClaimSeven
namespace Go.Proofs.YtlhgabhjbnckkaaDoor
namespace Rows

/-- THE TIED CARD OF 'fellowshiplaw10.LadderMults'. -/
def ladderMultsCard : Claim7 := { stood := { row := ladderMultsRow, standIns := [], harness := (true, "04d20792c4b66bbb25e4163f8f51d6de721727405066baebb73eda2a6de747db"), looks := true }, kinds := [], alts := [], laidByText := true, laidKinds := [.sentinel, .sentinel, .sentinel, .sentinel, .sentinel, .sentinel, .sentinel, .sentinel, .sentinel, .sentinel, .sentinel, .sentinel, .sentinel, .sentinel, .sentinel, .sentinel, .sentinel, .sentinel, .sentinel], laidTests := true, laidLooks := .later }
def LadderMultsCardSaid : Prop := Claim7.holds Tryd.pinned (.plain (OpenSpec.ofChange ladderMultsSpec)) ladderMultsCard

/-- THE TIED CARD OF 'fellowshiplaw10.LadderBases'. -/
def ladderBasesCard : Claim7 := { stood := { row := ladderBasesRow, standIns := [], harness := (true, "04d20792c4b66bbb25e4163f8f51d6de721727405066baebb73eda2a6de747db"), looks := true }, kinds := [], alts := [], laidByText := true, laidKinds := [.sentinel, .sentinel, .sentinel, .sentinel, .sentinel, .sentinel, .sentinel, .sentinel, .sentinel, .sentinel, .sentinel, .sentinel, .sentinel, .sentinel, .sentinel, .sentinel, .sentinel, .sentinel, .sentinel], laidTests := true, laidLooks := .later }
def LadderBasesCardSaid : Prop := Claim7.holds Tryd.pinned (.plain (OpenSpec.ofChange ladderBasesSpec)) ladderBasesCard

/-- THE TIED CARD OF 'fellowshiplaw10.LadderMeets'. -/
def ladderMeetsCard : Claim7 := { stood := { row := ladderMeetsRow, standIns := [], harness := (true, "04d20792c4b66bbb25e4163f8f51d6de721727405066baebb73eda2a6de747db"), looks := true }, kinds := [], alts := [], laidByText := true, laidKinds := [.sentinel, .sentinel, .sentinel, .sentinel, .sentinel, .sentinel, .sentinel, .sentinel, .sentinel, .sentinel, .sentinel, .sentinel, .sentinel, .sentinel, .sentinel, .sentinel, .sentinel, .sentinel, .sentinel], laidTests := true, laidLooks := .later }
def LadderMeetsCardSaid : Prop := Claim7.holds Tryd.pinned (.plain (OpenSpec.ofChange ladderMeetsSpec)) ladderMeetsCard

/-- THE SECOND FORM's CARD OF 'fellowshiplaw10.LadderMults'. -/
def ladderMultsUptoCard : Claim7 := { stood := { row := ladderMultsUptoRow, standIns := [], harness := (true, "04d20792c4b66bbb25e4163f8f51d6de721727405066baebb73eda2a6de747db"), looks := true }, kinds := [], alts := [], laidByText := true, laidKinds := [.sentinel, .sentinel, .sentinel, .sentinel, .sentinel, .sentinel, .sentinel, .sentinel, .sentinel, .sentinel, .sentinel, .sentinel, .sentinel, .sentinel, .sentinel, .sentinel, .sentinel, .sentinel, .sentinel], laidTests := true, laidLooks := .later }
def LadderMultsUptoCardSaid : Prop := Claim7.holds Tryd.pinned (.plain (OpenSpec.upto ladderMultsSpec)) ladderMultsUptoCard

/-- THE SECOND FORM's CARD OF 'fellowshiplaw10.LadderBases'. -/
def ladderBasesUptoCard : Claim7 := { stood := { row := ladderBasesUptoRow, standIns := [], harness := (true, "04d20792c4b66bbb25e4163f8f51d6de721727405066baebb73eda2a6de747db"), looks := true }, kinds := [], alts := [], laidByText := true, laidKinds := [.sentinel, .sentinel, .sentinel, .sentinel, .sentinel, .sentinel, .sentinel, .sentinel, .sentinel, .sentinel, .sentinel, .sentinel, .sentinel, .sentinel, .sentinel, .sentinel, .sentinel, .sentinel, .sentinel], laidTests := true, laidLooks := .later }
def LadderBasesUptoCardSaid : Prop := Claim7.holds Tryd.pinned (.plain (OpenSpec.upto ladderBasesSpec)) ladderBasesUptoCard

/-- THE SECOND FORM's CARD OF 'fellowshiplaw10.LadderMeets'. -/
def ladderMeetsUptoCard : Claim7 := { stood := { row := ladderMeetsUptoRow, standIns := [], harness := (true, "04d20792c4b66bbb25e4163f8f51d6de721727405066baebb73eda2a6de747db"), looks := true }, kinds := [], alts := [], laidByText := true, laidKinds := [.sentinel, .sentinel, .sentinel, .sentinel, .sentinel, .sentinel, .sentinel, .sentinel, .sentinel, .sentinel, .sentinel, .sentinel, .sentinel, .sentinel, .sentinel, .sentinel, .sentinel, .sentinel, .sentinel], laidTests := true, laidLooks := .later }
def LadderMeetsUptoCardSaid : Prop := Claim7.holds Tryd.pinned (.plain (OpenSpec.upto ladderMeetsSpec)) ladderMeetsUptoCard
end Rows
end Go.Proofs.YtlhgabhjbnckkaaDoor
