/-
  DERIVED. GIVEN WITH THE SEED: THE CARDS: each row of YtnnmldhhofoliaaDoorRows.lean that lists a variable, with what it lists TIED to the program's text (the seventh form; the later family's looks); each row that meets fmt, with fmt's text TOLD by the authors' own Lean function (tested against real Go, not proved from fmt's source: count such statements apart). THE CARD IS WHAT COUNTS. Prove the row's statement (the work); the ties are given (YtnnmldhhofoliaaDoorTie.lean); close each card by the builder's one call (the guide's Derived/Test/ToyasCard.lean, 'card_holds'). Laid BY PROGRAM, IN A SANDBOX (cutbox-door.mjs). By AI agents, Wed Nov 11 2026. No macro, syntax, notation, axiom, sorry.
-/
import Derived.Test.YtnnmldhhofoliaaDoorRows
import GoSem.ClaimSeven
namespace Go.Proofs.YtnnmldhhofoliaaDoor
namespace Rows

/-- THE TIED CARD OF 'descantlaw8.Mixes'. -/
def mixesCard : Claim7 := { stood := { row := mixesRow, standIns := [], harness := (true, "45376e321814193651fbb6474f2a948aeb0b4477724ddcedaa76b048babfecf6"), looks := false }, kinds := [], alts := [], laidByText := true, laidKinds := [.data], laidTests := true, laidLooks := .later }
def MixesCardSaid : Prop := Claim7.holds Tryd.pinned (.plain (OpenSpec.ofChange mixesSpec)) mixesCard

/-- THE TIED CARD OF 'descantlaw8.MixForms'. -/
def mixFormsCard : Claim7 := { stood := { row := mixFormsRow, standIns := [], harness := (true, "45376e321814193651fbb6474f2a948aeb0b4477724ddcedaa76b048babfecf6"), looks := false }, kinds := [], alts := [], laidByText := true, laidKinds := [.data], laidTests := true, laidLooks := .later }
def MixFormsCardSaid : Prop := Claim7.holds Tryd.pinned (.plain (OpenSpec.ofChange mixFormsSpec)) mixFormsCard

/-- THE TIED CARD OF 'descantlaw8.MixTrains'. -/
def mixTrainsCard : Claim7 := { stood := { row := mixTrainsRow, standIns := [], harness := (true, "45376e321814193651fbb6474f2a948aeb0b4477724ddcedaa76b048babfecf6"), looks := false }, kinds := [], alts := [], laidByText := true, laidKinds := [.data], laidTests := true, laidLooks := .later }
def MixTrainsCardSaid : Prop := Claim7.holds Tryd.pinned (.plain (OpenSpec.ofChange mixTrainsSpec)) mixTrainsCard

/-- THE TIED CARD OF 'descantlaw8.MixMore'. -/
def mixMoreCard : Claim7 := { stood := { row := mixMoreRow, standIns := [], harness := (true, "45376e321814193651fbb6474f2a948aeb0b4477724ddcedaa76b048babfecf6"), looks := false }, kinds := [], alts := [], laidByText := true, laidKinds := [.data], laidTests := true, laidLooks := .later }
def MixMoreCardSaid : Prop := Claim7.holds Tryd.pinned (.plain (OpenSpec.ofChange mixMoreSpec)) mixMoreCard

/-- THE TIED CARD OF 'descantlaw8.MixRow'. -/
def mixRowCard : Claim7 := { stood := { row := mixRowRow, standIns := [], harness := (true, "45376e321814193651fbb6474f2a948aeb0b4477724ddcedaa76b048babfecf6"), looks := false }, kinds := [], alts := [], laidByText := true, laidKinds := [.data], laidTests := true, laidLooks := .later }
def MixRowCardSaid : Prop := Claim7.holds Tryd.pinned (.plain (OpenSpec.ofChange mixRowSpec)) mixRowCard

/-- THE TIED CARD OF 'descantlaw8.MixNearer'. -/
def mixNearerCard : Claim7 := { stood := { row := mixNearerRow, standIns := [], harness := (true, "45376e321814193651fbb6474f2a948aeb0b4477724ddcedaa76b048babfecf6"), looks := false }, kinds := [], alts := [], laidByText := true, laidKinds := [.data], laidTests := true, laidLooks := .later }
def MixNearerCardSaid : Prop := Claim7.holds Tryd.pinned (.plain (OpenSpec.ofChange mixNearerSpec)) mixNearerCard

/-- THE SECOND FORM's CARD OF 'descantlaw8.Mixes'. -/
def mixesUptoCard : Claim7 := { stood := { row := mixesUptoRow, standIns := [], harness := (true, "45376e321814193651fbb6474f2a948aeb0b4477724ddcedaa76b048babfecf6"), looks := false }, kinds := [], alts := [], laidByText := true, laidKinds := [.data], laidTests := true, laidLooks := .later }
def MixesUptoCardSaid : Prop := Claim7.holds Tryd.pinned (.plain (OpenSpec.upto mixesSpec)) mixesUptoCard

/-- THE SECOND FORM's CARD OF 'descantlaw8.MixForms'. -/
def mixFormsUptoCard : Claim7 := { stood := { row := mixFormsUptoRow, standIns := [], harness := (true, "45376e321814193651fbb6474f2a948aeb0b4477724ddcedaa76b048babfecf6"), looks := false }, kinds := [], alts := [], laidByText := true, laidKinds := [.data], laidTests := true, laidLooks := .later }
def MixFormsUptoCardSaid : Prop := Claim7.holds Tryd.pinned (.plain (OpenSpec.upto mixFormsSpec)) mixFormsUptoCard

/-- THE SECOND FORM's CARD OF 'descantlaw8.MixTrains'. -/
def mixTrainsUptoCard : Claim7 := { stood := { row := mixTrainsUptoRow, standIns := [], harness := (true, "45376e321814193651fbb6474f2a948aeb0b4477724ddcedaa76b048babfecf6"), looks := false }, kinds := [], alts := [], laidByText := true, laidKinds := [.data], laidTests := true, laidLooks := .later }
def MixTrainsUptoCardSaid : Prop := Claim7.holds Tryd.pinned (.plain (OpenSpec.upto mixTrainsSpec)) mixTrainsUptoCard

/-- THE SECOND FORM's CARD OF 'descantlaw8.MixMore'. -/
def mixMoreUptoCard : Claim7 := { stood := { row := mixMoreUptoRow, standIns := [], harness := (true, "45376e321814193651fbb6474f2a948aeb0b4477724ddcedaa76b048babfecf6"), looks := false }, kinds := [], alts := [], laidByText := true, laidKinds := [.data], laidTests := true, laidLooks := .later }
def MixMoreUptoCardSaid : Prop := Claim7.holds Tryd.pinned (.plain (OpenSpec.upto mixMoreSpec)) mixMoreUptoCard

/-- THE SECOND FORM's CARD OF 'descantlaw8.MixRow'. -/
def mixRowUptoCard : Claim7 := { stood := { row := mixRowUptoRow, standIns := [], harness := (true, "45376e321814193651fbb6474f2a948aeb0b4477724ddcedaa76b048babfecf6"), looks := false }, kinds := [], alts := [], laidByText := true, laidKinds := [.data], laidTests := true, laidLooks := .later }
def MixRowUptoCardSaid : Prop := Claim7.holds Tryd.pinned (.plain (OpenSpec.upto mixRowSpec)) mixRowUptoCard

/-- THE SECOND FORM's CARD OF 'descantlaw8.MixNearer'. -/
def mixNearerUptoCard : Claim7 := { stood := { row := mixNearerUptoRow, standIns := [], harness := (true, "45376e321814193651fbb6474f2a948aeb0b4477724ddcedaa76b048babfecf6"), looks := false }, kinds := [], alts := [], laidByText := true, laidKinds := [.data], laidTests := true, laidLooks := .later }
def MixNearerUptoCardSaid : Prop := Claim7.holds Tryd.pinned (.plain (OpenSpec.upto mixNearerSpec)) mixNearerUptoCard
end Rows
end Go.Proofs.YtnnmldhhofoliaaDoor
