/-
  DERIVED. GIVEN WITH THE SEED: THE CARDS: each row of YtmhelmmonkgmmaaDoorRows.lean that lists a variable, with what it lists TIED to the program's text (the seventh form; the later family's looks); each row that meets fmt, with fmt's text TOLD by the authors' own Lean function (tested against real Go, not proved from fmt's source: count such statements apart). THE CARD IS WHAT COUNTS. Prove the row's statement (the work); the ties are given (YtmhelmmonkgmmaaDoorTie.lean); close each card by the builder's one call (the guide's Derived/Test/ToyasCard.lean, 'card_holds'). Laid BY PROGRAM, IN A SANDBOX (cutbox-door.mjs). By AI agents, Wed Nov 11 2026. No macro, syntax, notation, axiom, sorry.
-/
import Derived.Test.YtmhelmmonkgmmaaDoorRows
import GoSem.ClaimSeven
namespace Go.Proofs.YtmhelmmonkgmmaaDoor
namespace Rows

/-- THE TIED CARD OF 'fellowshiplaw05.DeriveExpands'. -/
def deriveExpandsCard : Claim7 := { stood := { row := deriveExpandsRow, standIns := [], harness := (true, "c36b051225d22d544df7191b4c743319bb739c64de123c2ab1b3f8d7aefa8cb3"), looks := true }, kinds := [], alts := [], laidByText := true, laidKinds := [.sentinel, .sentinel, .sentinel, .sentinel, .sentinel, .sentinel, .sentinel, .sentinel, .sentinel, .sentinel, .sentinel, .sentinel, .sentinel, .sentinel, .sentinel, .sentinel, .sentinel, .sentinel, .sentinel, .data, .data], laidTests := true, laidLooks := .later }
def DeriveExpandsCardSaid : Prop := Claim7.holds Tryd.pinned (.plain (OpenSpec.ofChange deriveExpandsSpec)) deriveExpandsCard

/-- THE TIED CARD OF 'fellowshiplaw05.DeriveLabels'. -/
def deriveLabelsCard : Claim7 := { stood := { row := deriveLabelsRow, standIns := [], harness := (true, "c36b051225d22d544df7191b4c743319bb739c64de123c2ab1b3f8d7aefa8cb3"), looks := true }, kinds := [], alts := [], laidByText := true, laidKinds := [.sentinel, .sentinel, .sentinel, .sentinel, .sentinel, .sentinel, .sentinel, .sentinel, .sentinel, .sentinel, .sentinel, .sentinel, .sentinel, .sentinel, .sentinel, .sentinel, .sentinel, .sentinel, .sentinel, .data, .data], laidTests := true, laidLooks := .later }
def DeriveLabelsCardSaid : Prop := Claim7.holds Tryd.pinned (.plain (OpenSpec.ofChange deriveLabelsSpec)) deriveLabelsCard

/-- THE TIED CARD OF 'fellowshiplaw05.DeriveUnlike'. -/
def deriveUnlikeCard : Claim7 := { stood := { row := deriveUnlikeRow, standIns := [], harness := (true, "c36b051225d22d544df7191b4c743319bb739c64de123c2ab1b3f8d7aefa8cb3"), looks := true }, kinds := [], alts := [], laidByText := true, laidKinds := [.sentinel, .sentinel, .data, .data], laidTests := true, laidLooks := .later }
def DeriveUnlikeCardSaid : Prop := Claim7.holds Tryd.pinned (.plain (OpenSpec.ofChange deriveUnlikeSpec)) deriveUnlikeCard

/-- THE SECOND FORM's CARD OF 'fellowshiplaw05.DeriveExpands'. -/
def deriveExpandsUptoCard : Claim7 := { stood := { row := deriveExpandsUptoRow, standIns := [], harness := (true, "c36b051225d22d544df7191b4c743319bb739c64de123c2ab1b3f8d7aefa8cb3"), looks := true }, kinds := [], alts := [], laidByText := true, laidKinds := [.sentinel, .sentinel, .sentinel, .sentinel, .sentinel, .sentinel, .sentinel, .sentinel, .sentinel, .sentinel, .sentinel, .sentinel, .sentinel, .sentinel, .sentinel, .sentinel, .sentinel, .sentinel, .sentinel, .data, .data], laidTests := true, laidLooks := .later }
def DeriveExpandsUptoCardSaid : Prop := Claim7.holds Tryd.pinned (.plain (OpenSpec.upto deriveExpandsSpec)) deriveExpandsUptoCard

/-- THE SECOND FORM's CARD OF 'fellowshiplaw05.DeriveLabels'. -/
def deriveLabelsUptoCard : Claim7 := { stood := { row := deriveLabelsUptoRow, standIns := [], harness := (true, "c36b051225d22d544df7191b4c743319bb739c64de123c2ab1b3f8d7aefa8cb3"), looks := true }, kinds := [], alts := [], laidByText := true, laidKinds := [.sentinel, .sentinel, .sentinel, .sentinel, .sentinel, .sentinel, .sentinel, .sentinel, .sentinel, .sentinel, .sentinel, .sentinel, .sentinel, .sentinel, .sentinel, .sentinel, .sentinel, .sentinel, .sentinel, .data, .data], laidTests := true, laidLooks := .later }
def DeriveLabelsUptoCardSaid : Prop := Claim7.holds Tryd.pinned (.plain (OpenSpec.upto deriveLabelsSpec)) deriveLabelsUptoCard

/-- THE SECOND FORM's CARD OF 'fellowshiplaw05.DeriveUnlike'. -/
def deriveUnlikeUptoCard : Claim7 := { stood := { row := deriveUnlikeUptoRow, standIns := [], harness := (true, "c36b051225d22d544df7191b4c743319bb739c64de123c2ab1b3f8d7aefa8cb3"), looks := true }, kinds := [], alts := [], laidByText := true, laidKinds := [.sentinel, .sentinel, .data, .data], laidTests := true, laidLooks := .later }
def DeriveUnlikeUptoCardSaid : Prop := Claim7.holds Tryd.pinned (.plain (OpenSpec.upto deriveUnlikeSpec)) deriveUnlikeUptoCard
end Rows
end Go.Proofs.YtmhelmmonkgmmaaDoor
