/-
  DERIVED. GIVEN WITH THE SEED: THE CARDS: each row of YtpbkjphdkdlhjaaDoorRows.lean that lists a variable, with what it lists TIED to the program's text (the seventh form; the later family's looks); each row that meets fmt, with fmt's text TOLD by the authors' own Lean function (tested against real Go, not proved from fmt's source: count such statements apart). THE CARD IS WHAT COUNTS. Prove the row's statement (the work); the ties are given (YtpbkjphdkdlhjaaDoorTie.lean); close each card by the builder's one call (the guide's Derived/Test/ToyasCard.lean, 'card_holds'). Laid BY PROGRAM, IN A SANDBOX (cutbox-door.mjs). By AI agents, Wed Nov 11 2026. No macro, syntax, notation, axiom, sorry.
-/
import Derived.Test.YtpbkjphdkdlhjaaDoorRows
import GoSem.ClaimSeven
namespace Go.Proofs.YtpbkjphdkdlhjaaDoor
namespace Rows

/-- THE TIED CARD OF 'fellowshiplaw03.ShawideSums'. -/
def shawideSumsCard : Claim7 := { stood := { row := shawideSumsRow, standIns := [], harness := (true, "a3bbd80ad12d104637aa962123cde29bccc212cf9c096e8d984bec5d1c444f92"), looks := true }, kinds := [], alts := [], laidByText := true, laidKinds := [.sentinel, .sentinel, .data, .data], laidTests := true, laidLooks := .later }
def ShawideSumsCardSaid : Prop := Claim7.holds Tryd.pinned (.plain (OpenSpec.ofChange shawideSumsSpec)) shawideSumsCard

/-- THE TIED CARD OF 'fellowshiplaw03.ShawideBlocks'. -/
def shawideBlocksCard : Claim7 := { stood := { row := shawideBlocksRow, standIns := [], harness := (true, "a3bbd80ad12d104637aa962123cde29bccc212cf9c096e8d984bec5d1c444f92"), looks := true }, kinds := [], alts := [], laidByText := true, laidKinds := [.sentinel, .sentinel, .sentinel, .sentinel, .sentinel, .sentinel, .sentinel, .sentinel, .sentinel, .sentinel, .sentinel, .sentinel, .sentinel, .sentinel, .sentinel, .sentinel, .sentinel, .sentinel, .sentinel, .data, .data], laidTests := true, laidLooks := .later }
def ShawideBlocksCardSaid : Prop := Claim7.holds Tryd.pinned (.plain (OpenSpec.ofChange shawideBlocksSpec)) shawideBlocksCard

/-- THE TIED CARD OF 'fellowshiplaw03.ShawideParts'. -/
def shawidePartsCard : Claim7 := { stood := { row := shawidePartsRow, standIns := [], harness := (true, "a3bbd80ad12d104637aa962123cde29bccc212cf9c096e8d984bec5d1c444f92"), looks := true }, kinds := [], alts := [], laidByText := true, laidKinds := [.sentinel, .sentinel, .data, .data], laidTests := true, laidLooks := .later }
def ShawidePartsCardSaid : Prop := Claim7.holds Tryd.pinned (.plain (OpenSpec.ofChange shawidePartsSpec)) shawidePartsCard

/-- THE SECOND FORM's CARD OF 'fellowshiplaw03.ShawideSums'. -/
def shawideSumsUptoCard : Claim7 := { stood := { row := shawideSumsUptoRow, standIns := [], harness := (true, "a3bbd80ad12d104637aa962123cde29bccc212cf9c096e8d984bec5d1c444f92"), looks := true }, kinds := [], alts := [], laidByText := true, laidKinds := [.sentinel, .sentinel, .data, .data], laidTests := true, laidLooks := .later }
def ShawideSumsUptoCardSaid : Prop := Claim7.holds Tryd.pinned (.plain (OpenSpec.upto shawideSumsSpec)) shawideSumsUptoCard

/-- THE SECOND FORM's CARD OF 'fellowshiplaw03.ShawideBlocks'. -/
def shawideBlocksUptoCard : Claim7 := { stood := { row := shawideBlocksUptoRow, standIns := [], harness := (true, "a3bbd80ad12d104637aa962123cde29bccc212cf9c096e8d984bec5d1c444f92"), looks := true }, kinds := [], alts := [], laidByText := true, laidKinds := [.sentinel, .sentinel, .sentinel, .sentinel, .sentinel, .sentinel, .sentinel, .sentinel, .sentinel, .sentinel, .sentinel, .sentinel, .sentinel, .sentinel, .sentinel, .sentinel, .sentinel, .sentinel, .sentinel, .data, .data], laidTests := true, laidLooks := .later }
def ShawideBlocksUptoCardSaid : Prop := Claim7.holds Tryd.pinned (.plain (OpenSpec.upto shawideBlocksSpec)) shawideBlocksUptoCard

/-- THE SECOND FORM's CARD OF 'fellowshiplaw03.ShawideParts'. -/
def shawidePartsUptoCard : Claim7 := { stood := { row := shawidePartsUptoRow, standIns := [], harness := (true, "a3bbd80ad12d104637aa962123cde29bccc212cf9c096e8d984bec5d1c444f92"), looks := true }, kinds := [], alts := [], laidByText := true, laidKinds := [.sentinel, .sentinel, .data, .data], laidTests := true, laidLooks := .later }
def ShawidePartsUptoCardSaid : Prop := Claim7.holds Tryd.pinned (.plain (OpenSpec.upto shawidePartsSpec)) shawidePartsUptoCard
end Rows
end Go.Proofs.YtpbkjphdkdlhjaaDoor
