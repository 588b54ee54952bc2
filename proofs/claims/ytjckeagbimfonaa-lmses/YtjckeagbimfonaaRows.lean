/-
  No cell of these rows narrows 'for every input' (looked for: loops, veiled, ifaces, maps, wideKeys, modest, calm, conditions, laid).
  DERIVED. THE GIVEN ROWS OF THIS SEAT. 6 by the template 'for every input the law returns true; each argument reads behind the call as it read before'; 0 by the template 'total and deterministic' (their statements: YtjckeagbimfonaaTotals.lean).
  GIVEN WITH THE SEED: the statements are not yours to turn. If you find one false, say at which input.
  Laid BY PROGRAM, IN A SANDBOX (cutbox-rows.mjs): the forced cells as the released guide's own fill.sh prints them over the translation 89680c70ef61b70b… (all of the seat's roots in one cut). By AI agents, Wed Nov 11 2026. No macro, syntax, notation, axiom, sorry.
-/
import Derived.Test.YtjckeagbimfonaaChecked
import GoSem.Claim
import GoSem.ClaimJoined
import GoSem.ClaimMapViews
import Derived.JoinedTies
import Derived.KernelRfl
namespace Go.Proofs.Ytjckeagbimfonaa
/- THE CELL 'sum', in the pinned program and in every row, IS THE sha256 OF THE DUMP (.gsa) THAT YtjckeagbimfonaaProg.lean LOADS. Nothing in Lean hashes anything: it is a label: what it is worth is what the hold of that sum in a sandbox is worth. -/
noncomputable def Try.pinned : Pinned := { name := "ytjckeagbimfonaa", sum := "89680c70ef61b70b9bad5675211a00ce462e832eeaa27c79d440d5bf4ac93a65", checked := Try.checked }
namespace Rows
def none {H : Type} : Left H := { results := [], args := [] }

/-- 'descantlaw14.Lmses': WHATEVER THE INPUT: true; the input reads as it did. -/
def lmsesSpec : ChangeSpec := { name := "lmses", fn := fun _ => fun
  | [d1, d2] => { results := [.lit (.bool true)], args := [d1, d2] }
  | _ => none }
def lmsesRow : OpenClaim := { program := "ytjckeagbimfonaa", sum := "89680c70ef61b70b9bad5675211a00ce462e832eeaa27c79d440d5bf4ac93a65", func := "descant/descantlaw14.Lmses", spec := "lmses", unfollowed := true, recurses := true, apart := false }
def LmsesSaid : Prop := lmsesRow.holds Try.pinned (OpenSpec.ofChange lmsesSpec)

/-- ITS FALSE NEIGHBOUR: 'it returns false'. Refute it at one input. -/
def lmsesWrong : ChangeSpec := { name := "lmses", fn := fun _ => fun
  | [d1, d2] => { results := [.lit (.bool false)], args := [d1, d2] }
  | _ => none }
def LmsesWrongFalsely : Prop := lmsesRow.holds Try.pinned (OpenSpec.ofChange lmsesWrong)

/-- 'descantlaw14.LmsForms': WHATEVER THE INPUT: true; the input reads as it did. -/
def lmsFormsSpec : ChangeSpec := { name := "lmsForms", fn := fun _ => fun
  | [d1, d2] => { results := [.lit (.bool true)], args := [d1, d2] }
  | _ => none }
def lmsFormsRow : OpenClaim := { program := "ytjckeagbimfonaa", sum := "89680c70ef61b70b9bad5675211a00ce462e832eeaa27c79d440d5bf4ac93a65", func := "descant/descantlaw14.LmsForms", spec := "lmsForms", unfollowed := true, recurses := true, apart := false }
def LmsFormsSaid : Prop := lmsFormsRow.holds Try.pinned (OpenSpec.ofChange lmsFormsSpec)

/-- ITS FALSE NEIGHBOUR: 'it returns false'. Refute it at one input. -/
def lmsFormsWrong : ChangeSpec := { name := "lmsForms", fn := fun _ => fun
  | [d1, d2] => { results := [.lit (.bool false)], args := [d1, d2] }
  | _ => none }
def LmsFormsWrongFalsely : Prop := lmsFormsRow.holds Try.pinned (OpenSpec.ofChange lmsFormsWrong)

/-- 'descantlaw14.LmsHistory': WHATEVER THE INPUT: true; the input reads as it did. -/
def lmsHistorySpec : ChangeSpec := { name := "lmsHistory", fn := fun _ => fun
  | [d] => { results := [.lit (.bool true)], args := [d] }
  | _ => none }
def lmsHistoryRow : OpenClaim := { program := "ytjckeagbimfonaa", sum := "89680c70ef61b70b9bad5675211a00ce462e832eeaa27c79d440d5bf4ac93a65", func := "descant/descantlaw14.LmsHistory", spec := "lmsHistory", unfollowed := true, recurses := true, apart := false }
def LmsHistorySaid : Prop := lmsHistoryRow.holds Try.pinned (OpenSpec.ofChange lmsHistorySpec)

/-- ITS FALSE NEIGHBOUR: 'it returns false'. Refute it at one input. -/
def lmsHistoryWrong : ChangeSpec := { name := "lmsHistory", fn := fun _ => fun
  | [d] => { results := [.lit (.bool false)], args := [d] }
  | _ => none }
def LmsHistoryWrongFalsely : Prop := lmsHistoryRow.holds Try.pinned (OpenSpec.ofChange lmsHistoryWrong)

/-- 'descantlaw14.LmsLearns': WHATEVER THE INPUT: true; the input reads as it did. -/
def lmsLearnsSpec : ChangeSpec := { name := "lmsLearns", fn := fun _ => fun
  | [d] => { results := [.lit (.bool true)], args := [d] }
  | _ => none }
def lmsLearnsRow : OpenClaim := { program := "ytjckeagbimfonaa", sum := "89680c70ef61b70b9bad5675211a00ce462e832eeaa27c79d440d5bf4ac93a65", func := "descant/descantlaw14.LmsLearns", spec := "lmsLearns", unfollowed := true, recurses := true, apart := false }
def LmsLearnsSaid : Prop := lmsLearnsRow.holds Try.pinned (OpenSpec.ofChange lmsLearnsSpec)

/-- ITS FALSE NEIGHBOUR: 'it returns false'. Refute it at one input. -/
def lmsLearnsWrong : ChangeSpec := { name := "lmsLearns", fn := fun _ => fun
  | [d] => { results := [.lit (.bool false)], args := [d] }
  | _ => none }
def LmsLearnsWrongFalsely : Prop := lmsLearnsRow.holds Try.pinned (OpenSpec.ofChange lmsLearnsWrong)

/-- 'descantlaw14.LmsSteps': WHATEVER THE INPUT: true; the input reads as it did. -/
def lmsStepsSpec : ChangeSpec := { name := "lmsSteps", fn := fun _ => fun
  | [d1, d2] => { results := [.lit (.bool true)], args := [d1, d2] }
  | _ => none }
def lmsStepsRow : OpenClaim := { program := "ytjckeagbimfonaa", sum := "89680c70ef61b70b9bad5675211a00ce462e832eeaa27c79d440d5bf4ac93a65", func := "descant/descantlaw14.LmsSteps", spec := "lmsSteps", unfollowed := true, recurses := true, apart := false }
def LmsStepsSaid : Prop := lmsStepsRow.holds Try.pinned (OpenSpec.ofChange lmsStepsSpec)

/-- ITS FALSE NEIGHBOUR: 'it returns false'. Refute it at one input. -/
def lmsStepsWrong : ChangeSpec := { name := "lmsSteps", fn := fun _ => fun
  | [d1, d2] => { results := [.lit (.bool false)], args := [d1, d2] }
  | _ => none }
def LmsStepsWrongFalsely : Prop := lmsStepsRow.holds Try.pinned (OpenSpec.ofChange lmsStepsWrong)

/-- 'descantlaw14.LmsMirror': WHATEVER THE INPUT: true; the input reads as it did. -/
def lmsMirrorSpec : ChangeSpec := { name := "lmsMirror", fn := fun _ => fun
  | [d] => { results := [.lit (.bool true)], args := [d] }
  | _ => none }
def lmsMirrorRow : OpenClaim := { program := "ytjckeagbimfonaa", sum := "89680c70ef61b70b9bad5675211a00ce462e832eeaa27c79d440d5bf4ac93a65", func := "descant/descantlaw14.LmsMirror", spec := "lmsMirror", unfollowed := true, recurses := true, apart := false }
def LmsMirrorSaid : Prop := lmsMirrorRow.holds Try.pinned (OpenSpec.ofChange lmsMirrorSpec)

/-- ITS FALSE NEIGHBOUR: 'it returns false'. Refute it at one input. -/
def lmsMirrorWrong : ChangeSpec := { name := "lmsMirror", fn := fun _ => fun
  | [d] => { results := [.lit (.bool false)], args := [d] }
  | _ => none }
def LmsMirrorWrongFalsely : Prop := lmsMirrorRow.holds Try.pinned (OpenSpec.ofChange lmsMirrorWrong)

/- THE SECOND FORM. 'bulk': how many values and letters a reading holds, each counted each time it is reached (what is shared counts as often as it is met; a slice's spare places count too). A statement '..UptoSaid' is the law's where the arguments, and the package variables that the reading takes, are together of bulk at most 1048576: NARROWER than '..Said'. Prove '..Said' where nothing that the law and all that it calls make is longer than what came in: it says more and counts as full. Else prove '..UptoSaid'. A law counts once. -/
mutual
def uptoBulk {H : Type} : DataW H → Nat
  | .lit (.string bytes) => bytes.length + 1
  | .lit _ => 1
  | .nil => 1
  | .ptr d => uptoBulk d + 1
  | .slice elems spare => uptoBulkAll elems + uptoBulkAll spare + 1
  | .agg parts => uptoBulkAll parts + 1
  | .iface _ d => uptoBulk d + 1
  | .map entries => uptoBulkEntries entries + 1
  | .held _ => 1
def uptoBulkAll {H : Type} : List (DataW H) → Nat
  | [] => 0
  | d :: r => uptoBulk d + uptoBulkAll r
def uptoBulkEntries {H : Type} : List (Lit × DataW H) → Nat
  | [] => 0
  | x :: r => uptoBulkEntry x + uptoBulkEntries r
def uptoBulkEntry {H : Type} : Lit × DataW H → Nat
  | (.string bytes, d) => bytes.length + uptoBulk d + 1
  | (_, d) => uptoBulk d + 1
 end
def uptoSmall : (H : Type) → List (DataW H) → Bool := fun _ ds => decide (uptoBulkAll ds ≤ 1048576)
def OpenSpec.upto (s : _root_.Go.ChangeSpec) : _root_.Go.OpenSpec := { _root_.Go.OpenSpec.ofChange s with cond := some uptoSmall }

/-- 'descantlaw14.Lmses', WHERE WHAT IT READS IS OF BULK AT MOST 1048576: true; the input reads as it did. -/
def lmsesUptoRow : OpenClaim := { program := "ytjckeagbimfonaa", sum := "89680c70ef61b70b9bad5675211a00ce462e832eeaa27c79d440d5bf4ac93a65", func := "descant/descantlaw14.Lmses", spec := "lmses", unfollowed := true, recurses := true, apart := false, narrowed := true }
def LmsesUptoSaid : Prop := lmsesUptoRow.holds Try.pinned (OpenSpec.upto lmsesSpec)

/-- 'descantlaw14.LmsForms', WHERE WHAT IT READS IS OF BULK AT MOST 1048576: true; the input reads as it did. -/
def lmsFormsUptoRow : OpenClaim := { program := "ytjckeagbimfonaa", sum := "89680c70ef61b70b9bad5675211a00ce462e832eeaa27c79d440d5bf4ac93a65", func := "descant/descantlaw14.LmsForms", spec := "lmsForms", unfollowed := true, recurses := true, apart := false, narrowed := true }
def LmsFormsUptoSaid : Prop := lmsFormsUptoRow.holds Try.pinned (OpenSpec.upto lmsFormsSpec)

/-- 'descantlaw14.LmsHistory', WHERE WHAT IT READS IS OF BULK AT MOST 1048576: true; the input reads as it did. -/
def lmsHistoryUptoRow : OpenClaim := { program := "ytjckeagbimfonaa", sum := "89680c70ef61b70b9bad5675211a00ce462e832eeaa27c79d440d5bf4ac93a65", func := "descant/descantlaw14.LmsHistory", spec := "lmsHistory", unfollowed := true, recurses := true, apart := false, narrowed := true }
def LmsHistoryUptoSaid : Prop := lmsHistoryUptoRow.holds Try.pinned (OpenSpec.upto lmsHistorySpec)

/-- 'descantlaw14.LmsLearns', WHERE WHAT IT READS IS OF BULK AT MOST 1048576: true; the input reads as it did. -/
def lmsLearnsUptoRow : OpenClaim := { program := "ytjckeagbimfonaa", sum := "89680c70ef61b70b9bad5675211a00ce462e832eeaa27c79d440d5bf4ac93a65", func := "descant/descantlaw14.LmsLearns", spec := "lmsLearns", unfollowed := true, recurses := true, apart := false, narrowed := true }
def LmsLearnsUptoSaid : Prop := lmsLearnsUptoRow.holds Try.pinned (OpenSpec.upto lmsLearnsSpec)

/-- 'descantlaw14.LmsSteps', WHERE WHAT IT READS IS OF BULK AT MOST 1048576: true; the input reads as it did. -/
def lmsStepsUptoRow : OpenClaim := { program := "ytjckeagbimfonaa", sum := "89680c70ef61b70b9bad5675211a00ce462e832eeaa27c79d440d5bf4ac93a65", func := "descant/descantlaw14.LmsSteps", spec := "lmsSteps", unfollowed := true, recurses := true, apart := false, narrowed := true }
def LmsStepsUptoSaid : Prop := lmsStepsUptoRow.holds Try.pinned (OpenSpec.upto lmsStepsSpec)

/-- 'descantlaw14.LmsMirror', WHERE WHAT IT READS IS OF BULK AT MOST 1048576: true; the input reads as it did. -/
def lmsMirrorUptoRow : OpenClaim := { program := "ytjckeagbimfonaa", sum := "89680c70ef61b70b9bad5675211a00ce462e832eeaa27c79d440d5bf4ac93a65", func := "descant/descantlaw14.LmsMirror", spec := "lmsMirror", unfollowed := true, recurses := true, apart := false, narrowed := true }
def LmsMirrorUptoSaid : Prop := lmsMirrorUptoRow.holds Try.pinned (OpenSpec.upto lmsMirrorSpec)

end Rows
end Go.Proofs.Ytjckeagbimfonaa
