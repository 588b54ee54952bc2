/-
  NARROWER THAN 'FOR EVERY INPUT', by the rows' own cells (each row's printed sentence says how): Mixes: laid · MixForms: laid · MixTrains: laid · MixMore: laid · MixRow: laid · MixNearer: laid.
  DERIVED. THE GIVEN ROWS OF THIS SEAT. 6 by the template 'for every input the law returns true; each argument reads behind the call as it read before'; 0 by the template 'total and deterministic' (their statements: YtnnmldhhofoliaaDoorTotals.lean).
  GIVEN WITH THE SEED: the statements are not yours to turn. If you find one false, say at which input.
  Laid BY PROGRAM, IN A SANDBOX (cutbox-rows.mjs): the forced cells as the released guide's own fill.sh prints them over the translation d5b597a8854b3884… (all of the seat's roots in one cut). By AI agents, Wed Nov 11 2026. No macro, syntax, notation, axiom, sorry.
-/
import Derived.Test.YtnnmldhhofoliaaDoorChecked
import GoSem.Claim
import GoSem.ClaimJoined
import GoSem.ClaimMapViews
import Derived.JoinedTies
import Derived.KernelRfl
namespace Go.Proofs.YtnnmldhhofoliaaDoor
/- THE CELL 'sum', in the pinned program and in every row, IS THE sha256 OF THE DUMP (.gsa) THAT YtnnmldhhofoliaaDoorProg.lean LOADS. Nothing in Lean hashes anything: it is a label: what it is worth is what the hold of that sum in a sandbox is worth. -/
noncomputable def Tryd.pinned : Pinned := { name := "ytnnmldhhofoliaadoor", sum := "d5b597a8854b3884fa3538d075e96014263c8752213de72e670df98643886ac6", checked := Tryd.checked }
namespace Rows
def none {H : Type} : Left H := { results := [], args := [] }

/- WHAT THE LISTED PACKAGE-LEVEL VARIABLES READ AS WHEN THE CALL BEGINS. Each datum BY PROGRAM (the guide's laid-datum.mjs) off the statement by which the dump's own 'gosem.cut.vars' lays the variable. In a bare row this is a premise. The card (YtnnmldhhofoliaaDoorCards.lean) ties it to the program's text. -/
def laid_descant_stretch_places {H : Type} : DataW H := .agg [.lit (.int .i64 1), .lit (.int .i64 2), .lit (.int .i64 3), .lit (.int .i64 6), .lit (.int .i64 10), .lit (.int .i64 16), .lit (.int .i64 27), .lit (.int .i64 45), .lit (.int .i64 73), .lit (.int .i64 120), .lit (.int .i64 194), .lit (.int .i64 310), .lit (.int .i64 488), .lit (.int .i64 747), .lit (.int .i64 1101), .lit (.int .i64 1546), .lit (.int .i64 2047), .lit (.int .i64 2549), .lit (.int .i64 2994), .lit (.int .i64 3348), .lit (.int .i64 3607), .lit (.int .i64 3785), .lit (.int .i64 3901), .lit (.int .i64 3975), .lit (.int .i64 4022), .lit (.int .i64 4050), .lit (.int .i64 4068), .lit (.int .i64 4079), .lit (.int .i64 4085), .lit (.int .i64 4089), .lit (.int .i64 4092), .lit (.int .i64 4093), .lit (.int .i64 4094)]

/-- 'descantlaw8.Mixes': WHATEVER THE INPUT: true; the input reads as it did. -/
def mixesSpec : ChangeSpec := { name := "mixes", fn := fun _ => fun
  | [d1, d2, d3] => { results := [.lit (.bool true)], args := [d1, d2, d3] }
  | _ => none }
def mixesRow : OpenClaim := { program := "ytnnmldhhofoliaadoor", sum := "d5b597a8854b3884fa3538d075e96014263c8752213de72e670df98643886ac6", func := "descant/descantlaw8.Mixes", spec := "mixes", unfollowed := true, recurses := true, named := ["descant/stretch.places"], apart := false, laid := [("descant/stretch.places", laid_descant_stretch_places)] }
def MixesSaid : Prop := mixesRow.holds Tryd.pinned (OpenSpec.ofChange mixesSpec)

/-- ITS FALSE NEIGHBOUR: 'it returns false'. Refute it at one input. -/
def mixesWrong : ChangeSpec := { name := "mixes", fn := fun _ => fun
  | [d1, d2, d3] => { results := [.lit (.bool false)], args := [d1, d2, d3] }
  | _ => none }
def MixesWrongFalsely : Prop := mixesRow.holds Tryd.pinned (OpenSpec.ofChange mixesWrong)

/-- 'descantlaw8.MixForms': WHATEVER THE INPUT: true; the input reads as it did. -/
def mixFormsSpec : ChangeSpec := { name := "mixForms", fn := fun _ => fun
  | [d1, d2] => { results := [.lit (.bool true)], args := [d1, d2] }
  | _ => none }
def mixFormsRow : OpenClaim := { program := "ytnnmldhhofoliaadoor", sum := "d5b597a8854b3884fa3538d075e96014263c8752213de72e670df98643886ac6", func := "descant/descantlaw8.MixForms", spec := "mixForms", unfollowed := true, recurses := true, named := ["descant/stretch.places"], apart := false, laid := [("descant/stretch.places", laid_descant_stretch_places)] }
def MixFormsSaid : Prop := mixFormsRow.holds Tryd.pinned (OpenSpec.ofChange mixFormsSpec)

/-- ITS FALSE NEIGHBOUR: 'it returns false'. Refute it at one input. -/
def mixFormsWrong : ChangeSpec := { name := "mixForms", fn := fun _ => fun
  | [d1, d2] => { results := [.lit (.bool false)], args := [d1, d2] }
  | _ => none }
def MixFormsWrongFalsely : Prop := mixFormsRow.holds Tryd.pinned (OpenSpec.ofChange mixFormsWrong)

/-- 'descantlaw8.MixTrains': WHATEVER THE INPUT: true; the input reads as it did. -/
def mixTrainsSpec : ChangeSpec := { name := "mixTrains", fn := fun _ => fun
  | [d1, d2] => { results := [.lit (.bool true)], args := [d1, d2] }
  | _ => none }
def mixTrainsRow : OpenClaim := { program := "ytnnmldhhofoliaadoor", sum := "d5b597a8854b3884fa3538d075e96014263c8752213de72e670df98643886ac6", func := "descant/descantlaw8.MixTrains", spec := "mixTrains", unfollowed := true, recurses := true, named := ["descant/stretch.places"], apart := false, laid := [("descant/stretch.places", laid_descant_stretch_places)] }
def MixTrainsSaid : Prop := mixTrainsRow.holds Tryd.pinned (OpenSpec.ofChange mixTrainsSpec)

/-- ITS FALSE NEIGHBOUR: 'it returns false'. Refute it at one input. -/
def mixTrainsWrong : ChangeSpec := { name := "mixTrains", fn := fun _ => fun
  | [d1, d2] => { results := [.lit (.bool false)], args := [d1, d2] }
  | _ => none }
def MixTrainsWrongFalsely : Prop := mixTrainsRow.holds Tryd.pinned (OpenSpec.ofChange mixTrainsWrong)

/-- 'descantlaw8.MixMore': WHATEVER THE INPUT: true; the input reads as it did. -/
def mixMoreSpec : ChangeSpec := { name := "mixMore", fn := fun _ => fun
  | [d1, d2, d3, d4] => { results := [.lit (.bool true)], args := [d1, d2, d3, d4] }
  | _ => none }
def mixMoreRow : OpenClaim := { program := "ytnnmldhhofoliaadoor", sum := "d5b597a8854b3884fa3538d075e96014263c8752213de72e670df98643886ac6", func := "descant/descantlaw8.MixMore", spec := "mixMore", unfollowed := true, recurses := true, named := ["descant/stretch.places"], apart := false, laid := [("descant/stretch.places", laid_descant_stretch_places)] }
def MixMoreSaid : Prop := mixMoreRow.holds Tryd.pinned (OpenSpec.ofChange mixMoreSpec)

/-- ITS FALSE NEIGHBOUR: 'it returns false'. Refute it at one input. -/
def mixMoreWrong : ChangeSpec := { name := "mixMore", fn := fun _ => fun
  | [d1, d2, d3, d4] => { results := [.lit (.bool false)], args := [d1, d2, d3, d4] }
  | _ => none }
def MixMoreWrongFalsely : Prop := mixMoreRow.holds Tryd.pinned (OpenSpec.ofChange mixMoreWrong)

/-- 'descantlaw8.MixRow': WHATEVER THE INPUT: true; the input reads as it did. -/
def mixRowSpec : ChangeSpec := { name := "mixRow", fn := fun _ => fun
  | [d1, d2, d3] => { results := [.lit (.bool true)], args := [d1, d2, d3] }
  | _ => none }
def mixRowRow : OpenClaim := { program := "ytnnmldhhofoliaadoor", sum := "d5b597a8854b3884fa3538d075e96014263c8752213de72e670df98643886ac6", func := "descant/descantlaw8.MixRow", spec := "mixRow", unfollowed := true, recurses := true, named := ["descant/stretch.places"], apart := false, laid := [("descant/stretch.places", laid_descant_stretch_places)] }
def MixRowSaid : Prop := mixRowRow.holds Tryd.pinned (OpenSpec.ofChange mixRowSpec)

/-- ITS FALSE NEIGHBOUR: 'it returns false'. Refute it at one input. -/
def mixRowWrong : ChangeSpec := { name := "mixRow", fn := fun _ => fun
  | [d1, d2, d3] => { results := [.lit (.bool false)], args := [d1, d2, d3] }
  | _ => none }
def MixRowWrongFalsely : Prop := mixRowRow.holds Tryd.pinned (OpenSpec.ofChange mixRowWrong)

/-- 'descantlaw8.MixNearer': WHATEVER THE INPUT: true; the input reads as it did. -/
def mixNearerSpec : ChangeSpec := { name := "mixNearer", fn := fun _ => fun
  | [d1, d2] => { results := [.lit (.bool true)], args := [d1, d2] }
  | _ => none }
def mixNearerRow : OpenClaim := { program := "ytnnmldhhofoliaadoor", sum := "d5b597a8854b3884fa3538d075e96014263c8752213de72e670df98643886ac6", func := "descant/descantlaw8.MixNearer", spec := "mixNearer", unfollowed := true, recurses := true, named := ["descant/stretch.places"], apart := false, laid := [("descant/stretch.places", laid_descant_stretch_places)] }
def MixNearerSaid : Prop := mixNearerRow.holds Tryd.pinned (OpenSpec.ofChange mixNearerSpec)

/-- ITS FALSE NEIGHBOUR: 'it returns false'. Refute it at one input. -/
def mixNearerWrong : ChangeSpec := { name := "mixNearer", fn := fun _ => fun
  | [d1, d2] => { results := [.lit (.bool false)], args := [d1, d2] }
  | _ => none }
def MixNearerWrongFalsely : Prop := mixNearerRow.holds Tryd.pinned (OpenSpec.ofChange mixNearerWrong)

/- THE SECOND FORM. 'bulk': how many values and letters a reading holds, each counted each time it is reached (what is shared counts as often as it is met; a slice's spare places count too). A statement '..UptoSaid' is the law's where the arguments, and the package variables that the reading takes, are together of bulk at most 1048576: NARROWER than '..Said'. Prove '..Said' where nothing that the law and all that it calls make is longer than what came in: it says more and counts as full. Else prove '..UptoSaid'. A law counts once. -/
mutual
def uptoBulk {H : Type} : DataW H → Nat
  | .lit (.string bytes) => bytes.length + 1
  | .lit _ => 1
  | .nil => 1
  | .ptr d => uptoBulk d + 1
  | .slice elems spare => uptoBulkAll elems + uptoBulkAll spare + 1
  | .agg parts => uptoBulkAll parts + 1
  | .iface _ d => uptoBulk d + 1
  | .map entries => uptoBulkEntries entries + 1
  | .held _ => 1
def uptoBulkAll {H : Type} : List (DataW H) → Nat
  | [] => 0
  | d :: r => uptoBulk d + uptoBulkAll r
def uptoBulkEntries {H : Type} : List (Lit × DataW H) → Nat
  | [] => 0
  | x :: r => uptoBulkEntry x + uptoBulkEntries r
def uptoBulkEntry {H : Type} : Lit × DataW H → Nat
  | (.string bytes, d) => bytes.length + uptoBulk d + 1
  | (_, d) => uptoBulk d + 1
 end
def uptoSmall : (H : Type) → List (DataW H) → Bool := fun _ ds => decide (uptoBulkAll ds ≤ 1048576)
def OpenSpec.upto (s : _root_.Go.ChangeSpec) : _root_.Go.OpenSpec := { _root_.Go.OpenSpec.ofChange s with cond := some uptoSmall }

/-- 'descantlaw8.Mixes', WHERE WHAT IT READS IS OF BULK AT MOST 1048576: true; the input reads as it did. -/
def mixesUptoRow : OpenClaim := { program := "ytnnmldhhofoliaadoor", sum := "d5b597a8854b3884fa3538d075e96014263c8752213de72e670df98643886ac6", func := "descant/descantlaw8.Mixes", spec := "mixes", unfollowed := true, recurses := true, named := ["descant/stretch.places"], apart := false, laid := [("descant/stretch.places", laid_descant_stretch_places)], narrowed := true }
def MixesUptoSaid : Prop := mixesUptoRow.holds Tryd.pinned (OpenSpec.upto mixesSpec)

/-- 'descantlaw8.MixForms', WHERE WHAT IT READS IS OF BULK AT MOST 1048576: true; the input reads as it did. -/
def mixFormsUptoRow : OpenClaim := { program := "ytnnmldhhofoliaadoor", sum := "d5b597a8854b3884fa3538d075e96014263c8752213de72e670df98643886ac6", func := "descant/descantlaw8.MixForms", spec := "mixForms", unfollowed := true, recurses := true, named := ["descant/stretch.places"], apart := false, laid := [("descant/stretch.places", laid_descant_stretch_places)], narrowed := true }
def MixFormsUptoSaid : Prop := mixFormsUptoRow.holds Tryd.pinned (OpenSpec.upto mixFormsSpec)

/-- 'descantlaw8.MixTrains', WHERE WHAT IT READS IS OF BULK AT MOST 1048576: true; the input reads as it did. -/
def mixTrainsUptoRow : OpenClaim := { program := "ytnnmldhhofoliaadoor", sum := "d5b597a8854b3884fa3538d075e96014263c8752213de72e670df98643886ac6", func := "descant/descantlaw8.MixTrains", spec := "mixTrains", unfollowed := true, recurses := true, named := ["descant/stretch.places"], apart := false, laid := [("descant/stretch.places", laid_descant_stretch_places)], narrowed := true }
def MixTrainsUptoSaid : Prop := mixTrainsUptoRow.holds Tryd.pinned (OpenSpec.upto mixTrainsSpec)

/-- 'descantlaw8.MixMore', WHERE WHAT IT READS IS OF BULK AT MOST 1048576: true; the input reads as it did. -/
def mixMoreUptoRow : OpenClaim := { program := "ytnnmldhhofoliaadoor", sum := "d5b597a8854b3884fa3538d075e96014263c8752213de72e670df98643886ac6", func := "descant/descantlaw8.MixMore", spec := "mixMore", unfollowed := true, recurses := true, named := ["descant/stretch.places"], apart := false, laid := [("descant/stretch.places", laid_descant_stretch_places)], narrowed := true }
def MixMoreUptoSaid : Prop := mixMoreUptoRow.holds Tryd.pinned (OpenSpec.upto mixMoreSpec)

/-- 'descantlaw8.MixRow', WHERE WHAT IT READS IS OF BULK AT MOST 1048576: true; the input reads as it did. -/
def mixRowUptoRow : OpenClaim := { program := "ytnnmldhhofoliaadoor", sum := "d5b597a8854b3884fa3538d075e96014263c8752213de72e670df98643886ac6", func := "descant/descantlaw8.MixRow", spec := "mixRow", unfollowed := true, recurses := true, named := ["descant/stretch.places"], apart := false, laid := [("descant/stretch.places", laid_descant_stretch_places)], narrowed := true }
def MixRowUptoSaid : Prop := mixRowUptoRow.holds Tryd.pinned (OpenSpec.upto mixRowSpec)

/-- 'descantlaw8.MixNearer', WHERE WHAT IT READS IS OF BULK AT MOST 1048576: true; the input reads as it did. -/
def mixNearerUptoRow : OpenClaim := { program := "ytnnmldhhofoliaadoor", sum := "d5b597a8854b3884fa3538d075e96014263c8752213de72e670df98643886ac6", func := "descant/descantlaw8.MixNearer", spec := "mixNearer", unfollowed := true, recurses := true, named := ["descant/stretch.places"], apart := false, laid := [("descant/stretch.places", laid_descant_stretch_places)], narrowed := true }
def MixNearerUptoSaid : Prop := mixNearerUptoRow.holds Tryd.pinned (OpenSpec.upto mixNearerSpec)

end Rows
end Go.Proofs.YtnnmldhhofoliaaDoor
