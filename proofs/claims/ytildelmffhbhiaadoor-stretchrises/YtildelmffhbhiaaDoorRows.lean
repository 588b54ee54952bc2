/-
  NARROWER THAN 'FOR EVERY INPUT', by the rows' own cells (each row's printed sentence says how): Stretches: laid · StretchRises: laid · StretchForms: laid · StretchBack: laid · StretchKnots: laid · StretchMirror: laid.
  DERIVED. THE GIVEN ROWS OF THIS SEAT. 6 by the template 'for every input the law returns true; each argument reads behind the call as it read before'; 0 by the template 'total and deterministic' (their statements: YtildelmffhbhiaaDoorTotals.lean).
  GIVEN WITH THE SEED: the statements are not yours to turn. If you find one false, say at which input.
  Laid BY PROGRAM, IN A SANDBOX (cutbox-rows.mjs): the forced cells as the released guide's own fill.sh prints them over the translation fef958577646a29a… (all of the seat's roots in one cut). By AI agents, Wed Nov 11 2026. No macro, syntax, notation, axiom, sorry.
-/
import Derived.Test.YtildelmffhbhiaaDoorChecked
import GoSem.Claim
import GoSem.ClaimJoined
import GoSem.ClaimMapViews
import Derived.JoinedTies
import Derived.KernelRfl
namespace Go.Proofs.YtildelmffhbhiaaDoor
/- THE CELL 'sum', in the pinned program and in every row, IS THE sha256 OF THE DUMP (.gsa) THAT YtildelmffhbhiaaDoorProg.lean LOADS. Nothing in Lean hashes anything: it is a label: what it is worth is what the hold of that sum in a sandbox is worth. -/
noncomputable def Tryd.pinned : Pinned := { name := "ytildelmffhbhiaadoor", sum := "fef958577646a29a1ada33f3f8ba9eb257cb1546b46382827aaf38389ef8f916", checked := Tryd.checked }
namespace Rows
def none {H : Type} : Left H := { results := [], args := [] }

/- WHAT THE LISTED PACKAGE-LEVEL VARIABLES READ AS WHEN THE CALL BEGINS. Each datum BY PROGRAM (the guide's laid-datum.mjs) off the statement by which the dump's own 'gosem.cut.vars' lays the variable. In a bare row this is a premise. The card (YtildelmffhbhiaaDoorCards.lean) ties it to the program's text. -/
def laid_descant_stretch_places {H : Type} : DataW H := .agg [.lit (.int .i64 1), .lit (.int .i64 2), .lit (.int .i64 3), .lit (.int .i64 6), .lit (.int .i64 10), .lit (.int .i64 16), .lit (.int .i64 27), .lit (.int .i64 45), .lit (.int .i64 73), .lit (.int .i64 120), .lit (.int .i64 194), .lit (.int .i64 310), .lit (.int .i64 488), .lit (.int .i64 747), .lit (.int .i64 1101), .lit (.int .i64 1546), .lit (.int .i64 2047), .lit (.int .i64 2549), .lit (.int .i64 2994), .lit (.int .i64 3348), .lit (.int .i64 3607), .lit (.int .i64 3785), .lit (.int .i64 3901), .lit (.int .i64 3975), .lit (.int .i64 4022), .lit (.int .i64 4050), .lit (.int .i64 4068), .lit (.int .i64 4079), .lit (.int .i64 4085), .lit (.int .i64 4089), .lit (.int .i64 4092), .lit (.int .i64 4093), .lit (.int .i64 4094)]

/-- 'descantlaw6.Stretches': WHATEVER THE INPUT: true; the input reads as it did. -/
def stretchesSpec : ChangeSpec := { name := "stretches", fn := fun _ => fun
  | [d1, d2] => { results := [.lit (.bool true)], args := [d1, d2] }
  | _ => none }
def stretchesRow : OpenClaim := { program := "ytildelmffhbhiaadoor", sum := "fef958577646a29a1ada33f3f8ba9eb257cb1546b46382827aaf38389ef8f916", func := "descant/descantlaw6.Stretches", spec := "stretches", unfollowed := true, recurses := true, named := ["descant/stretch.places"], apart := false, laid := [("descant/stretch.places", laid_descant_stretch_places)] }
def StretchesSaid : Prop := stretchesRow.holds Tryd.pinned (OpenSpec.ofChange stretchesSpec)

/-- ITS FALSE NEIGHBOUR: 'it returns false'. Refute it at one input. -/
def stretchesWrong : ChangeSpec := { name := "stretches", fn := fun _ => fun
  | [d1, d2] => { results := [.lit (.bool false)], args := [d1, d2] }
  | _ => none }
def StretchesWrongFalsely : Prop := stretchesRow.holds Tryd.pinned (OpenSpec.ofChange stretchesWrong)

/-- 'descantlaw6.StretchRises': WHATEVER THE INPUT: true; the input reads as it did. -/
def stretchRisesSpec : ChangeSpec := { name := "stretchRises", fn := fun _ => fun
  | [d1, d2] => { results := [.lit (.bool true)], args := [d1, d2] }
  | _ => none }
def stretchRisesRow : OpenClaim := { program := "ytildelmffhbhiaadoor", sum := "fef958577646a29a1ada33f3f8ba9eb257cb1546b46382827aaf38389ef8f916", func := "descant/descantlaw6.StretchRises", spec := "stretchRises", unfollowed := true, recurses := true, named := ["descant/stretch.places"], apart := false, laid := [("descant/stretch.places", laid_descant_stretch_places)] }
def StretchRisesSaid : Prop := stretchRisesRow.holds Tryd.pinned (OpenSpec.ofChange stretchRisesSpec)

/-- ITS FALSE NEIGHBOUR: 'it returns false'. Refute it at one input. -/
def stretchRisesWrong : ChangeSpec := { name := "stretchRises", fn := fun _ => fun
  | [d1, d2] => { results := [.lit (.bool false)], args := [d1, d2] }
  | _ => none }
def StretchRisesWrongFalsely : Prop := stretchRisesRow.holds Tryd.pinned (OpenSpec.ofChange stretchRisesWrong)

/-- 'descantlaw6.StretchForms': WHATEVER THE INPUT: true; the input reads as it did. -/
def stretchFormsSpec : ChangeSpec := { name := "stretchForms", fn := fun _ => fun
  | [d] => { results := [.lit (.bool true)], args := [d] }
  | _ => none }
def stretchFormsRow : OpenClaim := { program := "ytildelmffhbhiaadoor", sum := "fef958577646a29a1ada33f3f8ba9eb257cb1546b46382827aaf38389ef8f916", func := "descant/descantlaw6.StretchForms", spec := "stretchForms", unfollowed := true, recurses := true, named := ["descant/stretch.places"], apart := false, laid := [("descant/stretch.places", laid_descant_stretch_places)] }
def StretchFormsSaid : Prop := stretchFormsRow.holds Tryd.pinned (OpenSpec.ofChange stretchFormsSpec)

/-- ITS FALSE NEIGHBOUR: 'it returns false'. Refute it at one input. -/
def stretchFormsWrong : ChangeSpec := { name := "stretchForms", fn := fun _ => fun
  | [d] => { results := [.lit (.bool false)], args := [d] }
  | _ => none }
def StretchFormsWrongFalsely : Prop := stretchFormsRow.holds Tryd.pinned (OpenSpec.ofChange stretchFormsWrong)

/-- 'descantlaw6.StretchBack': WHATEVER THE INPUT: true; the input reads as it did. -/
def stretchBackSpec : ChangeSpec := { name := "stretchBack", fn := fun _ => fun
  | [d] => { results := [.lit (.bool true)], args := [d] }
  | _ => none }
def stretchBackRow : OpenClaim := { program := "ytildelmffhbhiaadoor", sum := "fef958577646a29a1ada33f3f8ba9eb257cb1546b46382827aaf38389ef8f916", func := "descant/descantlaw6.StretchBack", spec := "stretchBack", unfollowed := true, recurses := true, named := ["descant/stretch.places"], apart := false, laid := [("descant/stretch.places", laid_descant_stretch_places)] }
def StretchBackSaid : Prop := stretchBackRow.holds Tryd.pinned (OpenSpec.ofChange stretchBackSpec)

/-- ITS FALSE NEIGHBOUR: 'it returns false'. Refute it at one input. -/
def stretchBackWrong : ChangeSpec := { name := "stretchBack", fn := fun _ => fun
  | [d] => { results := [.lit (.bool false)], args := [d] }
  | _ => none }
def StretchBackWrongFalsely : Prop := stretchBackRow.holds Tryd.pinned (OpenSpec.ofChange stretchBackWrong)

/-- 'descantlaw6.StretchKnots': WHATEVER THE INPUT: true; the input reads as it did. -/
def stretchKnotsSpec : ChangeSpec := { name := "stretchKnots", fn := fun _ => fun
  | [d] => { results := [.lit (.bool true)], args := [d] }
  | _ => none }
def stretchKnotsRow : OpenClaim := { program := "ytildelmffhbhiaadoor", sum := "fef958577646a29a1ada33f3f8ba9eb257cb1546b46382827aaf38389ef8f916", func := "descant/descantlaw6.StretchKnots", spec := "stretchKnots", unfollowed := true, recurses := true, named := ["descant/stretch.places"], apart := false, laid := [("descant/stretch.places", laid_descant_stretch_places)] }
def StretchKnotsSaid : Prop := stretchKnotsRow.holds Tryd.pinned (OpenSpec.ofChange stretchKnotsSpec)

/-- ITS FALSE NEIGHBOUR: 'it returns false'. Refute it at one input. -/
def stretchKnotsWrong : ChangeSpec := { name := "stretchKnots", fn := fun _ => fun
  | [d] => { results := [.lit (.bool false)], args := [d] }
  | _ => none }
def StretchKnotsWrongFalsely : Prop := stretchKnotsRow.holds Tryd.pinned (OpenSpec.ofChange stretchKnotsWrong)

/-- 'descantlaw6.StretchMirror': WHATEVER THE INPUT: true; the input reads as it did. -/
def stretchMirrorSpec : ChangeSpec := { name := "stretchMirror", fn := fun _ => fun
  | [d] => { results := [.lit (.bool true)], args := [d] }
  | _ => none }
def stretchMirrorRow : OpenClaim := { program := "ytildelmffhbhiaadoor", sum := "fef958577646a29a1ada33f3f8ba9eb257cb1546b46382827aaf38389ef8f916", func := "descant/descantlaw6.StretchMirror", spec := "stretchMirror", unfollowed := true, recurses := true, named := ["descant/stretch.places"], apart := false, laid := [("descant/stretch.places", laid_descant_stretch_places)] }
def StretchMirrorSaid : Prop := stretchMirrorRow.holds Tryd.pinned (OpenSpec.ofChange stretchMirrorSpec)

/-- ITS FALSE NEIGHBOUR: 'it returns false'. Refute it at one input. -/
def stretchMirrorWrong : ChangeSpec := { name := "stretchMirror", fn := fun _ => fun
  | [d] => { results := [.lit (.bool false)], args := [d] }
  | _ => none }
def StretchMirrorWrongFalsely : Prop := stretchMirrorRow.holds Tryd.pinned (OpenSpec.ofChange stretchMirrorWrong)

/- THE SECOND FORM. 'bulk': how many values and letters a reading holds, each counted each time it is reached (what is shared counts as often as it is met; a slice's spare places count too). A statement '..UptoSaid' is the law's where the arguments, and the package variables that the reading takes, are together of bulk at most 1048576: NARROWER than '..Said'. Prove '..Said' where nothing that the law and all that it calls make is longer than what came in: it says more and counts as full. Else prove '..UptoSaid'. A law counts once. -/
mutual
def uptoBulk {H : Type} : DataW H → Nat
  | .lit (.string bytes) => bytes.length + 1
  | .lit _ => 1
  | .nil => 1
  | .ptr d => uptoBulk d + 1
  | .slice elems spare => uptoBulkAll elems + uptoBulkAll spare + 1
  | .agg parts => uptoBulkAll parts + 1
  | .iface _ d => uptoBulk d + 1
  | .map entries => uptoBulkEntries entries + 1
  | .held _ => 1
def uptoBulkAll {H : Type} : List (DataW H) → Nat
  | [] => 0
  | d :: r => uptoBulk d + uptoBulkAll r
def uptoBulkEntries {H : Type} : List (Lit × DataW H) → Nat
  | [] => 0
  | x :: r => uptoBulkEntry x + uptoBulkEntries r
def uptoBulkEntry {H : Type} : Lit × DataW H → Nat
  | (.string bytes, d) => bytes.length + uptoBulk d + 1
  | (_, d) => uptoBulk d + 1
 end
def uptoSmall : (H : Type) → List (DataW H) → Bool := fun _ ds => decide (uptoBulkAll ds ≤ 1048576)
def OpenSpec.upto (s : _root_.Go.ChangeSpec) : _root_.Go.OpenSpec := { _root_.Go.OpenSpec.ofChange s with cond := some uptoSmall }

/-- 'descantlaw6.Stretches', WHERE WHAT IT READS IS OF BULK AT MOST 1048576: true; the input reads as it did. -/
def stretchesUptoRow : OpenClaim := { program := "ytildelmffhbhiaadoor", sum := "fef958577646a29a1ada33f3f8ba9eb257cb1546b46382827aaf38389ef8f916", func := "descant/descantlaw6.Stretches", spec := "stretches", unfollowed := true, recurses := true, named := ["descant/stretch.places"], apart := false, laid := [("descant/stretch.places", laid_descant_stretch_places)], narrowed := true }
def StretchesUptoSaid : Prop := stretchesUptoRow.holds Tryd.pinned (OpenSpec.upto stretchesSpec)

/-- 'descantlaw6.StretchRises', WHERE WHAT IT READS IS OF BULK AT MOST 1048576: true; the input reads as it did. -/
def stretchRisesUptoRow : OpenClaim := { program := "ytildelmffhbhiaadoor", sum := "fef958577646a29a1ada33f3f8ba9eb257cb1546b46382827aaf38389ef8f916", func := "descant/descantlaw6.StretchRises", spec := "stretchRises", unfollowed := true, recurses := true, named := ["descant/stretch.places"], apart := false, laid := [("descant/stretch.places", laid_descant_stretch_places)], narrowed := true }
def StretchRisesUptoSaid : Prop := stretchRisesUptoRow.holds Tryd.pinned (OpenSpec.upto stretchRisesSpec)

/-- 'descantlaw6.StretchForms', WHERE WHAT IT READS IS OF BULK AT MOST 1048576: true; the input reads as it did. -/
def stretchFormsUptoRow : OpenClaim := { program := "ytildelmffhbhiaadoor", sum := "fef958577646a29a1ada33f3f8ba9eb257cb1546b46382827aaf38389ef8f916", func := "descant/descantlaw6.StretchForms", spec := "stretchForms", unfollowed := true, recurses := true, named := ["descant/stretch.places"], apart := false, laid := [("descant/stretch.places", laid_descant_stretch_places)], narrowed := true }
def StretchFormsUptoSaid : Prop := stretchFormsUptoRow.holds Tryd.pinned (OpenSpec.upto stretchFormsSpec)

/-- 'descantlaw6.StretchBack', WHERE WHAT IT READS IS OF BULK AT MOST 1048576: true; the input reads as it did. -/
def stretchBackUptoRow : OpenClaim := { program := "ytildelmffhbhiaadoor", sum := "fef958577646a29a1ada33f3f8ba9eb257cb1546b46382827aaf38389ef8f916", func := "descant/descantlaw6.StretchBack", spec := "stretchBack", unfollowed := true, recurses := true, named := ["descant/stretch.places"], apart := false, laid := [("descant/stretch.places", laid_descant_stretch_places)], narrowed := true }
def StretchBackUptoSaid : Prop := stretchBackUptoRow.holds Tryd.pinned (OpenSpec.upto stretchBackSpec)

/-- 'descantlaw6.StretchKnots', WHERE WHAT IT READS IS OF BULK AT MOST 1048576: true; the input reads as it did. -/
def stretchKnotsUptoRow : OpenClaim := { program := "ytildelmffhbhiaadoor", sum := "fef958577646a29a1ada33f3f8ba9eb257cb1546b46382827aaf38389ef8f916", func := "descant/descantlaw6.StretchKnots", spec := "stretchKnots", unfollowed := true, recurses := true, named := ["descant/stretch.places"], apart := false, laid := [("descant/stretch.places", laid_descant_stretch_places)], narrowed := true }
def StretchKnotsUptoSaid : Prop := stretchKnotsUptoRow.holds Tryd.pinned (OpenSpec.upto stretchKnotsSpec)

/-- 'descantlaw6.StretchMirror', WHERE WHAT IT READS IS OF BULK AT MOST 1048576: true; the input reads as it did. -/
def stretchMirrorUptoRow : OpenClaim := { program := "ytildelmffhbhiaadoor", sum := "fef958577646a29a1ada33f3f8ba9eb257cb1546b46382827aaf38389ef8f916", func := "descant/descantlaw6.StretchMirror", spec := "stretchMirror", unfollowed := true, recurses := true, named := ["descant/stretch.places"], apart := false, laid := [("descant/stretch.places", laid_descant_stretch_places)], narrowed := true }
def StretchMirrorUptoSaid : Prop := stretchMirrorUptoRow.holds Tryd.pinned (OpenSpec.upto stretchMirrorSpec)

end Rows
end Go.Proofs.YtildelmffhbhiaaDoor
