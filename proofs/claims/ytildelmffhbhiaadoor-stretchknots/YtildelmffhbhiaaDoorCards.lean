/-
  DERIVED. GIVEN WITH THE SEED: THE CARDS: each row of YtildelmffhbhiaaDoorRows.lean that lists a variable, with what it lists TIED to the program's text (the seventh form; the later family's looks); each row that meets fmt, with fmt's text TOLD by the authors' own Lean function (tested against real Go, not proved from fmt's source: count such statements apart). THE CARD IS WHAT COUNTS. Prove the row's statement (the work); the ties are given (YtildelmffhbhiaaDoorTie.lean); close each card by the builder's one call (the guide's Derived/Test/ToyasCard.lean, 'card_holds'). Laid BY PROGRAM, IN A SANDBOX (cutbox-door.mjs). By AI agents, Wed Nov 11 2026. No macro, syntax, notation, axiom, sorry.
-/
import Derived.Test.YtildelmffhbhiaaDoorRows
import GoSem.ClaimSeven
namespace Go.Proofs.YtildelmffhbhiaaDoor
namespace Rows

/-- THE TIED CARD OF 'descantlaw6.Stretches'. -/
def stretchesCard : Claim7 := { stood := { row := stretchesRow, standIns := [], harness := (true, "d3f8fc52e74b4d71fd1c9faf8708923f2eeed9fc38bdc2a1cde5b23aa3fd6abd"), looks := false }, kinds := [], alts := [], laidByText := true, laidKinds := [.data], laidTests := true, laidLooks := .later }
def StretchesCardSaid : Prop := Claim7.holds Tryd.pinned (.plain (OpenSpec.ofChange stretchesSpec)) stretchesCard

/-- THE TIED CARD OF 'descantlaw6.StretchRises'. -/
def stretchRisesCard : Claim7 := { stood := { row := stretchRisesRow, standIns := [], harness := (true, "d3f8fc52e74b4d71fd1c9faf8708923f2eeed9fc38bdc2a1cde5b23aa3fd6abd"), looks := false }, kinds := [], alts := [], laidByText := true, laidKinds := [.data], laidTests := true, laidLooks := .later }
def StretchRisesCardSaid : Prop := Claim7.holds Tryd.pinned (.plain (OpenSpec.ofChange stretchRisesSpec)) stretchRisesCard

/-- THE TIED CARD OF 'descantlaw6.StretchForms'. -/
def stretchFormsCard : Claim7 := { stood := { row := stretchFormsRow, standIns := [], harness := (true, "d3f8fc52e74b4d71fd1c9faf8708923f2eeed9fc38bdc2a1cde5b23aa3fd6abd"), looks := false }, kinds := [], alts := [], laidByText := true, laidKinds := [.data], laidTests := true, laidLooks := .later }
def StretchFormsCardSaid : Prop := Claim7.holds Tryd.pinned (.plain (OpenSpec.ofChange stretchFormsSpec)) stretchFormsCard

/-- THE TIED CARD OF 'descantlaw6.StretchBack'. -/
def stretchBackCard : Claim7 := { stood := { row := stretchBackRow, standIns := [], harness := (true, "d3f8fc52e74b4d71fd1c9faf8708923f2eeed9fc38bdc2a1cde5b23aa3fd6abd"), looks := false }, kinds := [], alts := [], laidByText := true, laidKinds := [.data], laidTests := true, laidLooks := .later }
def StretchBackCardSaid : Prop := Claim7.holds Tryd.pinned (.plain (OpenSpec.ofChange stretchBackSpec)) stretchBackCard

/-- THE TIED CARD OF 'descantlaw6.StretchKnots'. -/
def stretchKnotsCard : Claim7 := { stood := { row := stretchKnotsRow, standIns := [], harness := (true, "d3f8fc52e74b4d71fd1c9faf8708923f2eeed9fc38bdc2a1cde5b23aa3fd6abd"), looks := false }, kinds := [], alts := [], laidByText := true, laidKinds := [.data], laidTests := true, laidLooks := .later }
def StretchKnotsCardSaid : Prop := Claim7.holds Tryd.pinned (.plain (OpenSpec.ofChange stretchKnotsSpec)) stretchKnotsCard

/-- THE TIED CARD OF 'descantlaw6.StretchMirror'. -/
def stretchMirrorCard : Claim7 := { stood := { row := stretchMirrorRow, standIns := [], harness := (true, "d3f8fc52e74b4d71fd1c9faf8708923f2eeed9fc38bdc2a1cde5b23aa3fd6abd"), looks := false }, kinds := [], alts := [], laidByText := true, laidKinds := [.data], laidTests := true, laidLooks := .later }
def StretchMirrorCardSaid : Prop := Claim7.holds Tryd.pinned (.plain (OpenSpec.ofChange stretchMirrorSpec)) stretchMirrorCard

/-- THE SECOND FORM's CARD OF 'descantlaw6.Stretches'. -/
def stretchesUptoCard : Claim7 := { stood := { row := stretchesUptoRow, standIns := [], harness := (true, "d3f8fc52e74b4d71fd1c9faf8708923f2eeed9fc38bdc2a1cde5b23aa3fd6abd"), looks := false }, kinds := [], alts := [], laidByText := true, laidKinds := [.data], laidTests := true, laidLooks := .later }
def StretchesUptoCardSaid : Prop := Claim7.holds Tryd.pinned (.plain (OpenSpec.upto stretchesSpec)) stretchesUptoCard

/-- THE SECOND FORM's CARD OF 'descantlaw6.StretchRises'. -/
def stretchRisesUptoCard : Claim7 := { stood := { row := stretchRisesUptoRow, standIns := [], harness := (true, "d3f8fc52e74b4d71fd1c9faf8708923f2eeed9fc38bdc2a1cde5b23aa3fd6abd"), looks := false }, kinds := [], alts := [], laidByText := true, laidKinds := [.data], laidTests := true, laidLooks := .later }
def StretchRisesUptoCardSaid : Prop := Claim7.holds Tryd.pinned (.plain (OpenSpec.upto stretchRisesSpec)) stretchRisesUptoCard

/-- THE SECOND FORM's CARD OF 'descantlaw6.StretchForms'. -/
def stretchFormsUptoCard : Claim7 := { stood := { row := stretchFormsUptoRow, standIns := [], harness := (true, "d3f8fc52e74b4d71fd1c9faf8708923f2eeed9fc38bdc2a1cde5b23aa3fd6abd"), looks := false }, kinds := [], alts := [], laidByText := true, laidKinds := [.data], laidTests := true, laidLooks := .later }
def StretchFormsUptoCardSaid : Prop := Claim7.holds Tryd.pinned (.plain (OpenSpec.upto stretchFormsSpec)) stretchFormsUptoCard

/-- THE SECOND FORM's CARD OF 'descantlaw6.StretchBack'. -/
def stretchBackUptoCard : Claim7 := { stood := { row := stretchBackUptoRow, standIns := [], harness := (true, "d3f8fc52e74b4d71fd1c9faf8708923f2eeed9fc38bdc2a1cde5b23aa3fd6abd"), looks := false }, kinds := [], alts := [], laidByText := true, laidKinds := [.data], laidTests := true, laidLooks := .later }
def StretchBackUptoCardSaid : Prop := Claim7.holds Tryd.pinned (.plain (OpenSpec.upto stretchBackSpec)) stretchBackUptoCard

/-- THE SECOND FORM's CARD OF 'descantlaw6.StretchKnots'. -/
def stretchKnotsUptoCard : Claim7 := { stood := { row := stretchKnotsUptoRow, standIns := [], harness := (true, "d3f8fc52e74b4d71fd1c9faf8708923f2eeed9fc38bdc2a1cde5b23aa3fd6abd"), looks := false }, kinds := [], alts := [], laidByText := true, laidKinds := [.data], laidTests := true, laidLooks := .later }
def StretchKnotsUptoCardSaid : Prop := Claim7.holds Tryd.pinned (.plain (OpenSpec.upto stretchKnotsSpec)) stretchKnotsUptoCard

/-- THE SECOND FORM's CARD OF 'descantlaw6.StretchMirror'. -/
def stretchMirrorUptoCard : Claim7 := { stood := { row := stretchMirrorUptoRow, standIns := [], harness := (true, "d3f8fc52e74b4d71fd1c9faf8708923f2eeed9fc38bdc2a1cde5b23aa3fd6abd"), looks := false }, kinds := [], alts := [], laidByText := true, laidKinds := [.data], laidTests := true, laidLooks := .later }
def StretchMirrorUptoCardSaid : Prop := Claim7.holds Tryd.pinned (.plain (OpenSpec.upto stretchMirrorSpec)) stretchMirrorUptoCard
end Rows
end Go.Proofs.YtildelmffhbhiaaDoor
