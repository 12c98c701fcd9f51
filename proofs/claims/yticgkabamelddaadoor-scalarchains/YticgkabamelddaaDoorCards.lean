/-
  DERIVED. GIVEN WITH THE SEED: THE CARDS: each row of YticgkabamelddaaDoorRows.lean that lists a variable, with what it lists TIED to the program's text (the seventh form; the later family's looks); each row that meets fmt, with fmt's text TOLD by the authors' own Lean function (tested against real Go, not proved from fmt's source: count such statements apart). THE CARD IS WHAT COUNTS. Prove the row's statement (the work); the ties are given (YticgkabamelddaaDoorTie.lean); close each card by the builder's one call (the guide's Derived/Test/ToyasCard.lean, 'card_holds'). Laid BY PROGRAM, IN A SANDBOX (cutbox-door.mjs). By AI agents, Wed Nov 11 2026. No macro, syntax, notation, axiom, sorry.
-/
import Derived.Test.YticgkabamelddaaDoorRows
import GoSem.ClaimSeven
namespace Go.Proofs.YticgkabamelddaaDoor
namespace Rows

/-- THE TIED CARD OF 'fellowshiplaw11.ScalarReduces'. -/
def scalarReducesCard : Claim7 := { stood := { row := scalarReducesRow, standIns := [], harness := (true, "ac20bc1faa656e223220159723383579dff6e5ac14e88c34894c314ac083182f"), looks := false }, kinds := [], alts := [], laidByText := true, laidKinds := [.sentinel, .sentinel, .data, .data], laidTests := true, laidLooks := .later }
def ScalarReducesCardSaid : Prop := Claim7.holds Tryd.pinned (.plain (OpenSpec.ofChange scalarReducesSpec)) scalarReducesCard

/-- THE TIED CARD OF 'fellowshiplaw11.ScalarSums'. -/
def scalarSumsCard : Claim7 := { stood := { row := scalarSumsRow, standIns := [], harness := (true, "ac20bc1faa656e223220159723383579dff6e5ac14e88c34894c314ac083182f"), looks := false }, kinds := [], alts := [], laidByText := true, laidKinds := [.sentinel, .sentinel, .data, .data], laidTests := true, laidLooks := .later }
def ScalarSumsCardSaid : Prop := Claim7.holds Tryd.pinned (.plain (OpenSpec.ofChange scalarSumsSpec)) scalarSumsCard

/-- THE TIED CARD OF 'fellowshiplaw11.ScalarChains'. -/
def scalarChainsCard : Claim7 := { stood := { row := scalarChainsRow, standIns := [], harness := (true, "ac20bc1faa656e223220159723383579dff6e5ac14e88c34894c314ac083182f"), looks := false }, kinds := [], alts := [], laidByText := true, laidKinds := [.sentinel, .sentinel, .data, .data], laidTests := true, laidLooks := .later }
def ScalarChainsCardSaid : Prop := Claim7.holds Tryd.pinned (.plain (OpenSpec.ofChange scalarChainsSpec)) scalarChainsCard

/-- THE SECOND FORM's CARD OF 'fellowshiplaw11.ScalarReduces'. -/
def scalarReducesUptoCard : Claim7 := { stood := { row := scalarReducesUptoRow, standIns := [], harness := (true, "ac20bc1faa656e223220159723383579dff6e5ac14e88c34894c314ac083182f"), looks := false }, kinds := [], alts := [], laidByText := true, laidKinds := [.sentinel, .sentinel, .data, .data], laidTests := true, laidLooks := .later }
def ScalarReducesUptoCardSaid : Prop := Claim7.holds Tryd.pinned (.plain (OpenSpec.upto scalarReducesSpec)) scalarReducesUptoCard

/-- THE SECOND FORM's CARD OF 'fellowshiplaw11.ScalarSums'. -/
def scalarSumsUptoCard : Claim7 := { stood := { row := scalarSumsUptoRow, standIns := [], harness := (true, "ac20bc1faa656e223220159723383579dff6e5ac14e88c34894c314ac083182f"), looks := false }, kinds := [], alts := [], laidByText := true, laidKinds := [.sentinel, .sentinel, .data, .data], laidTests := true, laidLooks := .later }
def ScalarSumsUptoCardSaid : Prop := Claim7.holds Tryd.pinned (.plain (OpenSpec.upto scalarSumsSpec)) scalarSumsUptoCard

/-- THE SECOND FORM's CARD OF 'fellowshiplaw11.ScalarChains'. -/
def scalarChainsUptoCard : Claim7 := { stood := { row := scalarChainsUptoRow, standIns := [], harness := (true, "ac20bc1faa656e223220159723383579dff6e5ac14e88c34894c314ac083182f"), looks := false }, kinds := [], alts := [], laidByText := true, laidKinds := [.sentinel, .sentinel, .data, .data], laidTests := true, laidLooks := .later }
def ScalarChainsUptoCardSaid : Prop := Claim7.holds Tryd.pinned (.plain (OpenSpec.upto scalarChainsSpec)) scalarChainsUptoCard
end Rows
end Go.Proofs.YticgkabamelddaaDoor
