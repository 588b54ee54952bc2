/-
  NARROWER THAN 'FOR EVERY INPUT', by the rows' own cells (each row's printed sentence says how): Residuals: laid · ResidualUnlike: laid.
  DERIVED. THE GIVEN ROWS OF THIS SEAT. 2 by the template 'for every input the law returns true; each argument reads behind the call as it read before'; 0 by the template 'total and deterministic' (their statements: YtocnlefpbcnlmaaGreatDoorTotals.lean).
  GIVEN WITH THE SEED: the statements are not yours to turn. If you find one false, say at which input.
  Laid BY PROGRAM, IN A SANDBOX (cutbox-rows.mjs): the forced cells as the released guide's own fill.sh prints them over the translation ee7accd234f7e2aa… (all of the seat's roots in one cut). By AI agents, Wed Nov 11 2026. No macro, syntax, notation, axiom, sorry.
-/
import Derived.Test.YtocnlefpbcnlmaaGreatDoorChecked
import GoSem.Claim
import GoSem.ClaimJoined
import GoSem.ClaimMapViews
import Derived.JoinedTies
import Derived.KernelRfl
namespace Go.Proofs.YtocnlefpbcnlmaaGreatDoor
/- THE CELL 'sum', in the pinned program and in every row, IS THE sha256 OF THE DUMP (.gsa) THAT YtocnlefpbcnlmaaGreatDoorProg.lean LOADS. Nothing in Lean hashes anything: it is a label: what it is worth is what the hold of that sum in a sandbox is worth. -/
noncomputable def Tryz.pinned : Pinned := { name := "ytocnlefpbcnlmaagreatdoor", sum := "ee7accd234f7e2aacdd9091d3ac45268da8d79f5fe058852492ae73fde5a01dd", checked := Tryz.checked }
namespace Rows
def none {H : Type} : Left H := { results := [], args := [] }

/- WHAT THE LISTED PACKAGE-LEVEL VARIABLES READ AS WHEN THE CALL BEGINS. Each datum BY PROGRAM (the guide's laid-datum.mjs) off the statement by which the dump's own 'gosem.cut.vars' lays the variable. In a bare row this is a premise. The card (YtocnlefpbcnlmaaGreatDoorCards.lean) ties it to the program's text. -/
def laid_descant_stretch_places {H : Type} : DataW H := .agg [.lit (.int .i64 1), .lit (.int .i64 2), .lit (.int .i64 3), .lit (.int .i64 6), .lit (.int .i64 10), .lit (.int .i64 16), .lit (.int .i64 27), .lit (.int .i64 45), .lit (.int .i64 73), .lit (.int .i64 120), .lit (.int .i64 194), .lit (.int .i64 310), .lit (.int .i64 488), .lit (.int .i64 747), .lit (.int .i64 1101), .lit (.int .i64 1546), .lit (.int .i64 2047), .lit (.int .i64 2549), .lit (.int .i64 2994), .lit (.int .i64 3348), .lit (.int .i64 3607), .lit (.int .i64 3785), .lit (.int .i64 3901), .lit (.int .i64 3975), .lit (.int .i64 4022), .lit (.int .i64 4050), .lit (.int .i64 4068), .lit (.int .i64 4079), .lit (.int .i64 4085), .lit (.int .i64 4089), .lit (.int .i64 4092), .lit (.int .i64 4093), .lit (.int .i64 4094)]

/-- 'descantlaw13.Residuals': WHATEVER THE INPUT: true; the input reads as it did. -/
def residualsSpec : ChangeSpec := { name := "residuals", fn := fun _ => fun
  | [d1, d2, d3] => { results := [.lit (.bool true)], args := [d1, d2, d3] }
  | _ => none }
def residualsRow : OpenClaim := { program := "ytocnlefpbcnlmaagreatdoor", sum := "ee7accd234f7e2aacdd9091d3ac45268da8d79f5fe058852492ae73fde5a01dd", func := "descant/descantlaw13.Residuals", spec := "residuals", unfollowed := true, recurses := true, named := ["descant/stretch.places"], apart := false, laid := [("descant/stretch.places", laid_descant_stretch_places)] }
def ResidualsSaid : Prop := residualsRow.holds Tryz.pinned (OpenSpec.ofChange residualsSpec)

/-- ITS FALSE NEIGHBOUR: 'it returns false'. Refute it at one input. -/
def residualsWrong : ChangeSpec := { name := "residuals", fn := fun _ => fun
  | [d1, d2, d3] => { results := [.lit (.bool false)], args := [d1, d2, d3] }
  | _ => none }
def ResidualsWrongFalsely : Prop := residualsRow.holds Tryz.pinned (OpenSpec.ofChange residualsWrong)

/-- 'descantlaw13.ResidualUnlike': WHATEVER THE INPUT: true; the input reads as it did. -/
def residualUnlikeSpec : ChangeSpec := { name := "residualUnlike", fn := fun _ => fun
  | [d1, d2, d3] => { results := [.lit (.bool true)], args := [d1, d2, d3] }
  | _ => none }
def residualUnlikeRow : OpenClaim := { program := "ytocnlefpbcnlmaagreatdoor", sum := "ee7accd234f7e2aacdd9091d3ac45268da8d79f5fe058852492ae73fde5a01dd", func := "descant/descantlaw13.ResidualUnlike", spec := "residualUnlike", unfollowed := true, recurses := true, named := ["descant/stretch.places"], apart := false, laid := [("descant/stretch.places", laid_descant_stretch_places)] }
def ResidualUnlikeSaid : Prop := residualUnlikeRow.holds Tryz.pinned (OpenSpec.ofChange residualUnlikeSpec)

/-- ITS FALSE NEIGHBOUR: 'it returns false'. Refute it at one input. -/
def residualUnlikeWrong : ChangeSpec := { name := "residualUnlike", fn := fun _ => fun
  | [d1, d2, d3] => { results := [.lit (.bool false)], args := [d1, d2, d3] }
  | _ => none }
def ResidualUnlikeWrongFalsely : Prop := residualUnlikeRow.holds Tryz.pinned (OpenSpec.ofChange residualUnlikeWrong)

/- THE SECOND FORM. 'bulk': how many values and letters a reading holds, each counted each time it is reached (what is shared counts as often as it is met; a slice's spare places count too). A statement '..UptoSaid' is the law's where the arguments, and the package variables that the reading takes, are together of bulk at most 1048576: NARROWER than '..Said'. Prove '..Said' where nothing that the law and all that it calls make is longer than what came in: it says more and counts as full. Else prove '..UptoSaid'. A law counts once. -/
mutual
def uptoBulk {H : Type} : DataW H → Nat
  | .lit (.string bytes) => bytes.length + 1
  | .lit _ => 1
  | .nil => 1
  | .ptr d => uptoBulk d + 1
  | .slice elems spare => uptoBulkAll elems + uptoBulkAll spare + 1
  | .agg parts => uptoBulkAll parts + 1
  | .iface _ d => uptoBulk d + 1
  | .map entries => uptoBulkEntries entries + 1
  | .held _ => 1
def uptoBulkAll {H : Type} : List (DataW H) → Nat
  | [] => 0
  | d :: r => uptoBulk d + uptoBulkAll r
def uptoBulkEntries {H : Type} : List (Lit × DataW H) → Nat
  | [] => 0
  | x :: r => uptoBulkEntry x + uptoBulkEntries r
def uptoBulkEntry {H : Type} : Lit × DataW H → Nat
  | (.string bytes, d) => bytes.length + uptoBulk d + 1
  | (_, d) => uptoBulk d + 1
 end
def uptoSmall : (H : Type) → List (DataW H) → Bool := fun _ ds => decide (uptoBulkAll ds ≤ 1048576)
def OpenSpec.upto (s : _root_.Go.ChangeSpec) : _root_.Go.OpenSpec := { _root_.Go.OpenSpec.ofChange s with cond := some uptoSmall }

/-- 'descantlaw13.Residuals', WHERE WHAT IT READS IS OF BULK AT MOST 1048576: true; the input reads as it did. -/
def residualsUptoRow : OpenClaim := { program := "ytocnlefpbcnlmaagreatdoor", sum := "ee7accd234f7e2aacdd9091d3ac45268da8d79f5fe058852492ae73fde5a01dd", func := "descant/descantlaw13.Residuals", spec := "residuals", unfollowed := true, recurses := true, named := ["descant/stretch.places"], apart := false, laid := [("descant/stretch.places", laid_descant_stretch_places)], narrowed := true }
def ResidualsUptoSaid : Prop := residualsUptoRow.holds Tryz.pinned (OpenSpec.upto residualsSpec)

/-- 'descantlaw13.ResidualUnlike', WHERE WHAT IT READS IS OF BULK AT MOST 1048576: true; the input reads as it did. -/
def residualUnlikeUptoRow : OpenClaim := { program := "ytocnlefpbcnlmaagreatdoor", sum := "ee7accd234f7e2aacdd9091d3ac45268da8d79f5fe058852492ae73fde5a01dd", func := "descant/descantlaw13.ResidualUnlike", spec := "residualUnlike", unfollowed := true, recurses := true, named := ["descant/stretch.places"], apart := false, laid := [("descant/stretch.places", laid_descant_stretch_places)], narrowed := true }
def ResidualUnlikeUptoSaid : Prop := residualUnlikeUptoRow.holds Tryz.pinned (OpenSpec.upto residualUnlikeSpec)

end Rows
end Go.Proofs.YtocnlefpbcnlmaaGreatDoor
