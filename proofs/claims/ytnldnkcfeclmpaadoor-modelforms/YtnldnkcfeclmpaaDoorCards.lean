/-
  DERIVED. GIVEN WITH THE SEED: THE CARDS: each row of YtnldnkcfeclmpaaDoorRows.lean that lists a variable, with what it lists TIED to the program's text (the seventh form; the later family's looks); each row that meets fmt, with fmt's text TOLD by the authors' own Lean function (tested against real Go, not proved from fmt's source: count such statements apart). THE CARD IS WHAT COUNTS. Prove the row's statement (the work); the ties are given (YtnldnkcfeclmpaaDoorTie.lean); close each card by the builder's one call (the guide's Derived/Test/ToyasCard.lean, 'card_holds'). Laid BY PROGRAM, IN A SANDBOX (cutbox-door.mjs). By AI agents, Wed Nov 11 2026. No macro, syntax, notation, axiom, sorry.
-/
import Derived.Test.YtnldnkcfeclmpaaDoorRows
import GoSem.ClaimSeven
namespace Go.Proofs.YtnldnkcfeclmpaaDoor
namespace Rows

/-- THE TIED CARD OF 'descantlaw9.Models'. -/
def modelsCard : Claim7 := { stood := { row := modelsRow, standIns := [], harness := (true, "a98147efa50df2a8e112e9dc8538eeef3b362101708c93057f087b487e3b75f1"), looks := false }, kinds := [], alts := [], laidByText := true, laidKinds := [.data], laidTests := true, laidLooks := .later }
def ModelsCardSaid : Prop := Claim7.holds Tryd.pinned (.plain (OpenSpec.ofChange modelsSpec)) modelsCard

/-- THE TIED CARD OF 'descantlaw9.ModelForms'. -/
def modelFormsCard : Claim7 := { stood := { row := modelFormsRow, standIns := [], harness := (true, "a98147efa50df2a8e112e9dc8538eeef3b362101708c93057f087b487e3b75f1"), looks := false }, kinds := [], alts := [], laidByText := true, laidKinds := [.data], laidTests := true, laidLooks := .later }
def ModelFormsCardSaid : Prop := Claim7.holds Tryd.pinned (.plain (OpenSpec.ofChange modelFormsSpec)) modelFormsCard

/-- THE TIED CARD OF 'descantlaw9.ModelOwn'. -/
def modelOwnCard : Claim7 := { stood := { row := modelOwnRow, standIns := [], harness := (true, "a98147efa50df2a8e112e9dc8538eeef3b362101708c93057f087b487e3b75f1"), looks := false }, kinds := [], alts := [], laidByText := true, laidKinds := [.data], laidTests := true, laidLooks := .later }
def ModelOwnCardSaid : Prop := Claim7.holds Tryd.pinned (.plain (OpenSpec.ofChange modelOwnSpec)) modelOwnCard

/-- THE TIED CARD OF 'descantlaw9.ModelLearns'. -/
def modelLearnsCard : Claim7 := { stood := { row := modelLearnsRow, standIns := [], harness := (true, "a98147efa50df2a8e112e9dc8538eeef3b362101708c93057f087b487e3b75f1"), looks := false }, kinds := [], alts := [], laidByText := true, laidKinds := [.data], laidTests := true, laidLooks := .later }
def ModelLearnsCardSaid : Prop := Claim7.holds Tryd.pinned (.plain (OpenSpec.ofChange modelLearnsSpec)) modelLearnsCard

/-- THE TIED CARD OF 'descantlaw9.ModelEven'. -/
def modelEvenCard : Claim7 := { stood := { row := modelEvenRow, standIns := [], harness := (true, "a98147efa50df2a8e112e9dc8538eeef3b362101708c93057f087b487e3b75f1"), looks := false }, kinds := [], alts := [], laidByText := true, laidKinds := [.data], laidTests := true, laidLooks := .later }
def ModelEvenCardSaid : Prop := Claim7.holds Tryd.pinned (.plain (OpenSpec.ofChange modelEvenSpec)) modelEvenCard

/-- THE SECOND FORM's CARD OF 'descantlaw9.Models'. -/
def modelsUptoCard : Claim7 := { stood := { row := modelsUptoRow, standIns := [], harness := (true, "a98147efa50df2a8e112e9dc8538eeef3b362101708c93057f087b487e3b75f1"), looks := false }, kinds := [], alts := [], laidByText := true, laidKinds := [.data], laidTests := true, laidLooks := .later }
def ModelsUptoCardSaid : Prop := Claim7.holds Tryd.pinned (.plain (OpenSpec.upto modelsSpec)) modelsUptoCard

/-- THE SECOND FORM's CARD OF 'descantlaw9.ModelForms'. -/
def modelFormsUptoCard : Claim7 := { stood := { row := modelFormsUptoRow, standIns := [], harness := (true, "a98147efa50df2a8e112e9dc8538eeef3b362101708c93057f087b487e3b75f1"), looks := false }, kinds := [], alts := [], laidByText := true, laidKinds := [.data], laidTests := true, laidLooks := .later }
def ModelFormsUptoCardSaid : Prop := Claim7.holds Tryd.pinned (.plain (OpenSpec.upto modelFormsSpec)) modelFormsUptoCard

/-- THE SECOND FORM's CARD OF 'descantlaw9.ModelOwn'. -/
def modelOwnUptoCard : Claim7 := { stood := { row := modelOwnUptoRow, standIns := [], harness := (true, "a98147efa50df2a8e112e9dc8538eeef3b362101708c93057f087b487e3b75f1"), looks := false }, kinds := [], alts := [], laidByText := true, laidKinds := [.data], laidTests := true, laidLooks := .later }
def ModelOwnUptoCardSaid : Prop := Claim7.holds Tryd.pinned (.plain (OpenSpec.upto modelOwnSpec)) modelOwnUptoCard

/-- THE SECOND FORM's CARD OF 'descantlaw9.ModelLearns'. -/
def modelLearnsUptoCard : Claim7 := { stood := { row := modelLearnsUptoRow, standIns := [], harness := (true, "a98147efa50df2a8e112e9dc8538eeef3b362101708c93057f087b487e3b75f1"), looks := false }, kinds := [], alts := [], laidByText := true, laidKinds := [.data], laidTests := true, laidLooks := .later }
def ModelLearnsUptoCardSaid : Prop := Claim7.holds Tryd.pinned (.plain (OpenSpec.upto modelLearnsSpec)) modelLearnsUptoCard

/-- THE SECOND FORM's CARD OF 'descantlaw9.ModelEven'. -/
def modelEvenUptoCard : Claim7 := { stood := { row := modelEvenUptoRow, standIns := [], harness := (true, "a98147efa50df2a8e112e9dc8538eeef3b362101708c93057f087b487e3b75f1"), looks := false }, kinds := [], alts := [], laidByText := true, laidKinds := [.data], laidTests := true, laidLooks := .later }
def ModelEvenUptoCardSaid : Prop := Claim7.holds Tryd.pinned (.plain (OpenSpec.upto modelEvenSpec)) modelEvenUptoCard
end Rows
end Go.Proofs.YtnldnkcfeclmpaaDoor
