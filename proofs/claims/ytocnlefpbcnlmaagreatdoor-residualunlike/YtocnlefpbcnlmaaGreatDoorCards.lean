/-
  DERIVED. GIVEN WITH THE SEED: THE CARDS: each row of YtocnlefpbcnlmaaGreatDoorRows.lean that lists a variable, with what it lists TIED to the program's text (the seventh form; the later family's looks); each row that meets fmt, with fmt's text TOLD by the authors' own Lean function (tested against real Go, not proved from fmt's source: count such statements apart). THE CARD IS WHAT COUNTS. Prove the row's statement (the work); the ties are given (YtocnlefpbcnlmaaGreatDoorTie.lean); close each card by the builder's one call (the guide's Derived/Test/ToyasCard.lean, 'card_holds'). Laid BY PROGRAM, IN A SANDBOX (cutbox-door.mjs). By AI agents, Wed Nov 11 2026. No macro, syntax, notation, axiom, sorry.
-/
import Derived.Test.YtocnlefpbcnlmaaGreatDoorRows
import GoSem.ClaimSeven
namespace Go.Proofs.YtocnlefpbcnlmaaGreatDoor
namespace Rows

/-- THE TIED CARD OF 'descantlaw13.Residuals'. -/
def residualsCard : Claim7 := { stood := { row := residualsRow, standIns := [], harness := (true, "b9166ad63b4e5ebb9a9b1f614ad1cdc5e1f350084caf6644e101093b9df96fcd"), looks := false }, kinds := [], alts := [], laidByText := true, laidKinds := [.data], laidTests := true, laidLooks := .later }
def ResidualsCardSaid : Prop := Claim7.holds Tryz.pinned (.plain (OpenSpec.ofChange residualsSpec)) residualsCard

/-- THE TIED CARD OF 'descantlaw13.ResidualUnlike'. -/
def residualUnlikeCard : Claim7 := { stood := { row := residualUnlikeRow, standIns := [], harness := (true, "b9166ad63b4e5ebb9a9b1f614ad1cdc5e1f350084caf6644e101093b9df96fcd"), looks := false }, kinds := [], alts := [], laidByText := true, laidKinds := [.data], laidTests := true, laidLooks := .later }
def ResidualUnlikeCardSaid : Prop := Claim7.holds Tryz.pinned (.plain (OpenSpec.ofChange residualUnlikeSpec)) residualUnlikeCard

/-- THE SECOND FORM's CARD OF 'descantlaw13.Residuals'. -/
def residualsUptoCard : Claim7 := { stood := { row := residualsUptoRow, standIns := [], harness := (true, "b9166ad63b4e5ebb9a9b1f614ad1cdc5e1f350084caf6644e101093b9df96fcd"), looks := false }, kinds := [], alts := [], laidByText := true, laidKinds := [.data], laidTests := true, laidLooks := .later }
def ResidualsUptoCardSaid : Prop := Claim7.holds Tryz.pinned (.plain (OpenSpec.upto residualsSpec)) residualsUptoCard

/-- THE SECOND FORM's CARD OF 'descantlaw13.ResidualUnlike'. -/
def residualUnlikeUptoCard : Claim7 := { stood := { row := residualUnlikeUptoRow, standIns := [], harness := (true, "b9166ad63b4e5ebb9a9b1f614ad1cdc5e1f350084caf6644e101093b9df96fcd"), looks := false }, kinds := [], alts := [], laidByText := true, laidKinds := [.data], laidTests := true, laidLooks := .later }
def ResidualUnlikeUptoCardSaid : Prop := Claim7.holds Tryz.pinned (.plain (OpenSpec.upto residualUnlikeSpec)) residualUnlikeUptoCard
end Rows
end Go.Proofs.YtocnlefpbcnlmaaGreatDoor
