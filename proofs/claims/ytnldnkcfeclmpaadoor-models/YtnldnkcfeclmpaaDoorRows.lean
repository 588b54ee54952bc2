/-
  NARROWER THAN 'FOR EVERY INPUT', by the rows' own cells (each row's printed sentence says how): Models: laid · ModelForms: laid · ModelOwn: laid · ModelLearns: laid · ModelEven: laid.
  DERIVED. THE GIVEN ROWS OF THIS SEAT. 5 by the template 'for every input the law returns true; each argument reads behind the call as it read before'; 0 by the template 'total and deterministic' (their statements: YtnldnkcfeclmpaaDoorTotals.lean).
  GIVEN WITH THE SEED: the statements are not yours to turn. If you find one false, say at which input.
  Laid BY PROGRAM, IN A SANDBOX (cutbox-rows.mjs): the forced cells as the released guide's own fill.sh prints them over the translation 42900c8f13454f1c… (all of the seat's roots in one cut). By AI agents, Wed Nov 11 2026. No macro, syntax, notation, axiom, sorry.
-/
import Derived.Test.YtnldnkcfeclmpaaDoorChecked
import GoSem.Claim
import GoSem.ClaimJoined
import GoSem.ClaimMapViews
import Derived.JoinedTies
import Derived.KernelRfl
namespace Go.Proofs.YtnldnkcfeclmpaaDoor
/- THE CELL 'sum', in the pinned program and in every row, IS THE sha256 OF THE DUMP (.gsa) THAT YtnldnkcfeclmpaaDoorProg.lean LOADS. Nothing in Lean hashes anything: it is a label: what it is worth is what the hold of that sum in a sandbox is worth. -/
noncomputable def Tryd.pinned : Pinned := { name := "ytnldnkcfeclmpaadoor", sum := "42900c8f13454f1ca306ec6c82270561e7ed30d4e5550c9a85adcab1ebf6a973", checked := Tryd.checked }
namespace Rows
def none {H : Type} : Left H := { results := [], args := [] }

/- WHAT THE LISTED PACKAGE-LEVEL VARIABLES READ AS WHEN THE CALL BEGINS. Each datum BY PROGRAM (the guide's laid-datum.mjs) off the statement by which the dump's own 'gosem.cut.vars' lays the variable. In a bare row this is a premise. The card (YtnldnkcfeclmpaaDoorCards.lean) ties it to the program's text. -/
def laid_descant_stretch_places {H : Type} : DataW H := .agg [.lit (.int .i64 1), .lit (.int .i64 2), .lit (.int .i64 3), .lit (.int .i64 6), .lit (.int .i64 10), .lit (.int .i64 16), .lit (.int .i64 27), .lit (.int .i64 45), .lit (.int .i64 73), .lit (.int .i64 120), .lit (.int .i64 194), .lit (.int .i64 310), .lit (.int .i64 488), .lit (.int .i64 747), .lit (.int .i64 1101), .lit (.int .i64 1546), .lit (.int .i64 2047), .lit (.int .i64 2549), .lit (.int .i64 2994), .lit (.int .i64 3348), .lit (.int .i64 3607), .lit (.int .i64 3785), .lit (.int .i64 3901), .lit (.int .i64 3975), .lit (.int .i64 4022), .lit (.int .i64 4050), .lit (.int .i64 4068), .lit (.int .i64 4079), .lit (.int .i64 4085), .lit (.int .i64 4089), .lit (.int .i64 4092), .lit (.int .i64 4093), .lit (.int .i64 4094)]

/-- 'descantlaw9.Models': WHATEVER THE INPUT: true; the input reads as it did. -/
def modelsSpec : ChangeSpec := { name := "models", fn := fun _ => fun
  | [d1, d2, d3] => { results := [.lit (.bool true)], args := [d1, d2, d3] }
  | _ => none }
def modelsRow : OpenClaim := { program := "ytnldnkcfeclmpaadoor", sum := "42900c8f13454f1ca306ec6c82270561e7ed30d4e5550c9a85adcab1ebf6a973", func := "descant/descantlaw9.Models", spec := "models", unfollowed := true, recurses := true, named := ["descant/stretch.places"], apart := false, laid := [("descant/stretch.places", laid_descant_stretch_places)] }
def ModelsSaid : Prop := modelsRow.holds Tryd.pinned (OpenSpec.ofChange modelsSpec)

/-- ITS FALSE NEIGHBOUR: 'it returns false'. Refute it at one input. -/
def modelsWrong : ChangeSpec := { name := "models", fn := fun _ => fun
  | [d1, d2, d3] => { results := [.lit (.bool false)], args := [d1, d2, d3] }
  | _ => none }
def ModelsWrongFalsely : Prop := modelsRow.holds Tryd.pinned (OpenSpec.ofChange modelsWrong)

/-- 'descantlaw9.ModelForms': WHATEVER THE INPUT: true; the input reads as it did. -/
def modelFormsSpec : ChangeSpec := { name := "modelForms", fn := fun _ => fun
  | [d1, d2] => { results := [.lit (.bool true)], args := [d1, d2] }
  | _ => none }
def modelFormsRow : OpenClaim := { program := "ytnldnkcfeclmpaadoor", sum := "42900c8f13454f1ca306ec6c82270561e7ed30d4e5550c9a85adcab1ebf6a973", func := "descant/descantlaw9.ModelForms", spec := "modelForms", unfollowed := true, recurses := true, named := ["descant/stretch.places"], apart := false, laid := [("descant/stretch.places", laid_descant_stretch_places)] }
def ModelFormsSaid : Prop := modelFormsRow.holds Tryd.pinned (OpenSpec.ofChange modelFormsSpec)

/-- ITS FALSE NEIGHBOUR: 'it returns false'. Refute it at one input. -/
def modelFormsWrong : ChangeSpec := { name := "modelForms", fn := fun _ => fun
  | [d1, d2] => { results := [.lit (.bool false)], args := [d1, d2] }
  | _ => none }
def ModelFormsWrongFalsely : Prop := modelFormsRow.holds Tryd.pinned (OpenSpec.ofChange modelFormsWrong)

/-- 'descantlaw9.ModelOwn': WHATEVER THE INPUT: true; the input reads as it did. -/
def modelOwnSpec : ChangeSpec := { name := "modelOwn", fn := fun _ => fun
  | [d1, d2, d3] => { results := [.lit (.bool true)], args := [d1, d2, d3] }
  | _ => none }
def modelOwnRow : OpenClaim := { program := "ytnldnkcfeclmpaadoor", sum := "42900c8f13454f1ca306ec6c82270561e7ed30d4e5550c9a85adcab1ebf6a973", func := "descant/descantlaw9.ModelOwn", spec := "modelOwn", unfollowed := true, recurses := true, named := ["descant/stretch.places"], apart := false, laid := [("descant/stretch.places", laid_descant_stretch_places)] }
def ModelOwnSaid : Prop := modelOwnRow.holds Tryd.pinned (OpenSpec.ofChange modelOwnSpec)

/-- ITS FALSE NEIGHBOUR: 'it returns false'. Refute it at one input. -/
def modelOwnWrong : ChangeSpec := { name := "modelOwn", fn := fun _ => fun
  | [d1, d2, d3] => { results := [.lit (.bool false)], args := [d1, d2, d3] }
  | _ => none }
def ModelOwnWrongFalsely : Prop := modelOwnRow.holds Tryd.pinned (OpenSpec.ofChange modelOwnWrong)

/-- 'descantlaw9.ModelLearns': WHATEVER THE INPUT: true; the input reads as it did. -/
def modelLearnsSpec : ChangeSpec := { name := "modelLearns", fn := fun _ => fun
  | [d1, d2] => { results := [.lit (.bool true)], args := [d1, d2] }
  | _ => none }
def modelLearnsRow : OpenClaim := { program := "ytnldnkcfeclmpaadoor", sum := "42900c8f13454f1ca306ec6c82270561e7ed30d4e5550c9a85adcab1ebf6a973", func := "descant/descantlaw9.ModelLearns", spec := "modelLearns", unfollowed := true, recurses := true, named := ["descant/stretch.places"], apart := false, laid := [("descant/stretch.places", laid_descant_stretch_places)] }
def ModelLearnsSaid : Prop := modelLearnsRow.holds Tryd.pinned (OpenSpec.ofChange modelLearnsSpec)

/-- ITS FALSE NEIGHBOUR: 'it returns false'. Refute it at one input. -/
def modelLearnsWrong : ChangeSpec := { name := "modelLearns", fn := fun _ => fun
  | [d1, d2] => { results := [.lit (.bool false)], args := [d1, d2] }
  | _ => none }
def ModelLearnsWrongFalsely : Prop := modelLearnsRow.holds Tryd.pinned (OpenSpec.ofChange modelLearnsWrong)

/-- 'descantlaw9.ModelEven': WHATEVER THE INPUT: true; the input reads as it did. -/
def modelEvenSpec : ChangeSpec := { name := "modelEven", fn := fun _ => fun
  | [d1, d2] => { results := [.lit (.bool true)], args := [d1, d2] }
  | _ => none }
def modelEvenRow : OpenClaim := { program := "ytnldnkcfeclmpaadoor", sum := "42900c8f13454f1ca306ec6c82270561e7ed30d4e5550c9a85adcab1ebf6a973", func := "descant/descantlaw9.ModelEven", spec := "modelEven", unfollowed := true, recurses := true, named := ["descant/stretch.places"], apart := false, laid := [("descant/stretch.places", laid_descant_stretch_places)] }
def ModelEvenSaid : Prop := modelEvenRow.holds Tryd.pinned (OpenSpec.ofChange modelEvenSpec)

/-- ITS FALSE NEIGHBOUR: 'it returns false'. Refute it at one input. -/
def modelEvenWrong : ChangeSpec := { name := "modelEven", fn := fun _ => fun
  | [d1, d2] => { results := [.lit (.bool false)], args := [d1, d2] }
  | _ => none }
def ModelEvenWrongFalsely : Prop := modelEvenRow.holds Tryd.pinned (OpenSpec.ofChange modelEvenWrong)

/- THE SECOND FORM. 'bulk': how many values and letters a reading holds, each counted each time it is reached (what is shared counts as often as it is met; a slice's spare places count too). A statement '..UptoSaid' is the law's where the arguments, and the package variables that the reading takes, are together of bulk at most 1048576: NARROWER than '..Said'. Prove '..Said' where nothing that the law and all that it calls make is longer than what came in: it says more and counts as full. Else prove '..UptoSaid'. A law counts once. -/
mutual
def uptoBulk {H : Type} : DataW H → Nat
  | .lit (.string bytes) => bytes.length + 1
  | .lit _ => 1
  | .nil => 1
  | .ptr d => uptoBulk d + 1
  | .slice elems spare => uptoBulkAll elems + uptoBulkAll spare + 1
  | .agg parts => uptoBulkAll parts + 1
  | .iface _ d => uptoBulk d + 1
  | .map entries => uptoBulkEntries entries + 1
  | .held _ => 1
def uptoBulkAll {H : Type} : List (DataW H) → Nat
  | [] => 0
  | d :: r => uptoBulk d + uptoBulkAll r
def uptoBulkEntries {H : Type} : List (Lit × DataW H) → Nat
  | [] => 0
  | x :: r => uptoBulkEntry x + uptoBulkEntries r
def uptoBulkEntry {H : Type} : Lit × DataW H → Nat
  | (.string bytes, d) => bytes.length + uptoBulk d + 1
  | (_, d) => uptoBulk d + 1
 end
def uptoSmall : (H : Type) → List (DataW H) → Bool := fun _ ds => decide (uptoBulkAll ds ≤ 1048576)
def OpenSpec.upto (s : _root_.Go.ChangeSpec) : _root_.Go.OpenSpec := { _root_.Go.OpenSpec.ofChange s with cond := some uptoSmall }

/-- 'descantlaw9.Models', WHERE WHAT IT READS IS OF BULK AT MOST 1048576: true; the input reads as it did. -/
def modelsUptoRow : OpenClaim := { program := "ytnldnkcfeclmpaadoor", sum := "42900c8f13454f1ca306ec6c82270561e7ed30d4e5550c9a85adcab1ebf6a973", func := "descant/descantlaw9.Models", spec := "models", unfollowed := true, recurses := true, named := ["descant/stretch.places"], apart := false, laid := [("descant/stretch.places", laid_descant_stretch_places)], narrowed := true }
def ModelsUptoSaid : Prop := modelsUptoRow.holds Tryd.pinned (OpenSpec.upto modelsSpec)

/-- 'descantlaw9.ModelForms', WHERE WHAT IT READS IS OF BULK AT MOST 1048576: true; the input reads as it did. -/
def modelFormsUptoRow : OpenClaim := { program := "ytnldnkcfeclmpaadoor", sum := "42900c8f13454f1ca306ec6c82270561e7ed30d4e5550c9a85adcab1ebf6a973", func := "descant/descantlaw9.ModelForms", spec := "modelForms", unfollowed := true, recurses := true, named := ["descant/stretch.places"], apart := false, laid := [("descant/stretch.places", laid_descant_stretch_places)], narrowed := true }
def ModelFormsUptoSaid : Prop := modelFormsUptoRow.holds Tryd.pinned (OpenSpec.upto modelFormsSpec)

/-- 'descantlaw9.ModelOwn', WHERE WHAT IT READS IS OF BULK AT MOST 1048576: true; the input reads as it did. -/
def modelOwnUptoRow : OpenClaim := { program := "ytnldnkcfeclmpaadoor", sum := "42900c8f13454f1ca306ec6c82270561e7ed30d4e5550c9a85adcab1ebf6a973", func := "descant/descantlaw9.ModelOwn", spec := "modelOwn", unfollowed := true, recurses := true, named := ["descant/stretch.places"], apart := false, laid := [("descant/stretch.places", laid_descant_stretch_places)], narrowed := true }
def ModelOwnUptoSaid : Prop := modelOwnUptoRow.holds Tryd.pinned (OpenSpec.upto modelOwnSpec)

/-- 'descantlaw9.ModelLearns', WHERE WHAT IT READS IS OF BULK AT MOST 1048576: true; the input reads as it did. -/
def modelLearnsUptoRow : OpenClaim := { program := "ytnldnkcfeclmpaadoor", sum := "42900c8f13454f1ca306ec6c82270561e7ed30d4e5550c9a85adcab1ebf6a973", func := "descant/descantlaw9.ModelLearns", spec := "modelLearns", unfollowed := true, recurses := true, named := ["descant/stretch.places"], apart := false, laid := [("descant/stretch.places", laid_descant_stretch_places)], narrowed := true }
def ModelLearnsUptoSaid : Prop := modelLearnsUptoRow.holds Tryd.pinned (OpenSpec.upto modelLearnsSpec)

/-- 'descantlaw9.ModelEven', WHERE WHAT IT READS IS OF BULK AT MOST 1048576: true; the input reads as it did. -/
def modelEvenUptoRow : OpenClaim := { program := "ytnldnkcfeclmpaadoor", sum := "42900c8f13454f1ca306ec6c82270561e7ed30d4e5550c9a85adcab1ebf6a973", func := "descant/descantlaw9.ModelEven", spec := "modelEven", unfollowed := true, recurses := true, named := ["descant/stretch.places"], apart := false, laid := [("descant/stretch.places", laid_descant_stretch_places)], narrowed := true }
def ModelEvenUptoSaid : Prop := modelEvenUptoRow.holds Tryd.pinned (OpenSpec.upto modelEvenSpec)

end Rows
end Go.Proofs.YtnldnkcfeclmpaaDoor
