/-
  DERIVED. GIVEN WITH THE SEED: THE CARDS: each row of YtiadgningbogmaaDoorRows.lean that lists a variable, with what it lists TIED to the program's text (the seventh form; the later family's looks); each row that meets fmt, with fmt's text TOLD by the authors' own Lean function (tested against real Go, not proved from fmt's source: count such statements apart). THE CARD IS WHAT COUNTS. Prove the row's statement (the work); the ties are given (YtiadgningbogmaaDoorTie.lean); close each card by the builder's one call (the guide's Derived/Test/ToyasCard.lean, 'card_holds'). Laid BY PROGRAM, IN A SANDBOX (cutbox-door.mjs). By AI agents, Wed Nov 11 2026. No macro, syntax, notation, axiom, sorry.
-/
import Derived.Test.YtiadgningbogmaaDoorRows
import GoSem.ClaimSeven
namespace Go.Proofs.YtiadgningbogmaaDoor
namespace Rows

/-- THE TIED CARD OF 'fellowshiplaw07.OnetimeSums'. -/
def onetimeSumsCard : Claim7 := { stood := { row := onetimeSumsRow, standIns := [], harness := (true, "92a1daf2370ff6a42e6640f4a07498e8183f5267a53a74d5c4159125e8c80dec"), looks := false }, kinds := [], alts := [], laidByText := true, laidKinds := [.sentinel], laidTests := true, laidLooks := .later }
def OnetimeSumsCardSaid : Prop := Claim7.holds Tryd.pinned (.plain (OpenSpec.ofChange onetimeSumsSpec)) onetimeSumsCard

/-- THE TIED CARD OF 'fellowshiplaw07.OnetimeEdges'. -/
def onetimeEdgesCard : Claim7 := { stood := { row := onetimeEdgesRow, standIns := [], harness := (true, "92a1daf2370ff6a42e6640f4a07498e8183f5267a53a74d5c4159125e8c80dec"), looks := false }, kinds := [], alts := [], laidByText := true, laidKinds := [.sentinel], laidTests := true, laidLooks := .later }
def OnetimeEdgesCardSaid : Prop := Claim7.holds Tryd.pinned (.plain (OpenSpec.ofChange onetimeEdgesSpec)) onetimeEdgesCard

/-- THE TIED CARD OF 'fellowshiplaw07.OnetimeAdds'. -/
def onetimeAddsCard : Claim7 := { stood := { row := onetimeAddsRow, standIns := [], harness := (true, "92a1daf2370ff6a42e6640f4a07498e8183f5267a53a74d5c4159125e8c80dec"), looks := false }, kinds := [], alts := [], laidByText := true, laidKinds := [.sentinel], laidTests := true, laidLooks := .later }
def OnetimeAddsCardSaid : Prop := Claim7.holds Tryd.pinned (.plain (OpenSpec.ofChange onetimeAddsSpec)) onetimeAddsCard

/-- THE SECOND FORM's CARD OF 'fellowshiplaw07.OnetimeSums'. -/
def onetimeSumsUptoCard : Claim7 := { stood := { row := onetimeSumsUptoRow, standIns := [], harness := (true, "92a1daf2370ff6a42e6640f4a07498e8183f5267a53a74d5c4159125e8c80dec"), looks := false }, kinds := [], alts := [], laidByText := true, laidKinds := [.sentinel], laidTests := true, laidLooks := .later }
def OnetimeSumsUptoCardSaid : Prop := Claim7.holds Tryd.pinned (.plain (OpenSpec.upto onetimeSumsSpec)) onetimeSumsUptoCard

/-- THE SECOND FORM's CARD OF 'fellowshiplaw07.OnetimeEdges'. -/
def onetimeEdgesUptoCard : Claim7 := { stood := { row := onetimeEdgesUptoRow, standIns := [], harness := (true, "92a1daf2370ff6a42e6640f4a07498e8183f5267a53a74d5c4159125e8c80dec"), looks := false }, kinds := [], alts := [], laidByText := true, laidKinds := [.sentinel], laidTests := true, laidLooks := .later }
def OnetimeEdgesUptoCardSaid : Prop := Claim7.holds Tryd.pinned (.plain (OpenSpec.upto onetimeEdgesSpec)) onetimeEdgesUptoCard

/-- THE SECOND FORM's CARD OF 'fellowshiplaw07.OnetimeAdds'. -/
def onetimeAddsUptoCard : Claim7 := { stood := { row := onetimeAddsUptoRow, standIns := [], harness := (true, "92a1daf2370ff6a42e6640f4a07498e8183f5267a53a74d5c4159125e8c80dec"), looks := false }, kinds := [], alts := [], laidByText := true, laidKinds := [.sentinel], laidTests := true, laidLooks := .later }
def OnetimeAddsUptoCardSaid : Prop := Claim7.holds Tryd.pinned (.plain (OpenSpec.upto onetimeAddsSpec)) onetimeAddsUptoCard
end Rows
end Go.Proofs.YtiadgningbogmaaDoor
