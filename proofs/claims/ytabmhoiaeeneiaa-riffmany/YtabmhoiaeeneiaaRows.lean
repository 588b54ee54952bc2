/-
  No cell of these rows narrows 'for every input' (looked for: loops, veiled, ifaces, maps, wideKeys, modest, calm, conditions, laid).
  DERIVED. THE GIVEN ROWS OF THIS SEAT. 5 by the template 'for every input the law returns true; each argument reads behind the call as it read before'; 0 by the template 'total and deterministic' (their statements: YtabmhoiaeeneiaaTotals.lean).
  GIVEN WITH THE SEED: the statements are not yours to turn. If you find one false, say at which input.
  Laid BY PROGRAM, IN A SANDBOX (cutbox-rows.mjs): the forced cells as the released guide's own fill.sh prints them over the translation 64633a2c7204aca0… (all of the seat's roots in one cut). By AI agents, Wed Nov 11 2026. No macro, syntax, notation, axiom, sorry.
-/
import Derived.Test.YtabmhoiaeeneiaaChecked
import GoSem.Claim
import GoSem.ClaimJoined
import GoSem.ClaimMapViews
import Derived.JoinedTies
import Derived.KernelRfl
namespace Go.Proofs.Ytabmhoiaeeneiaa
/- THE CELL 'sum', in the pinned program and in every row, IS THE sha256 OF THE DUMP (.gsa) THAT YtabmhoiaeeneiaaProg.lean LOADS. Nothing in Lean hashes anything: it is a label: what it is worth is what the hold of that sum in a sandbox is worth. -/
noncomputable def Try.pinned : Pinned := { name := "ytabmhoiaeeneiaa", sum := "64633a2c7204aca052d5b644077d7bc52169bc82549264f5c7a66b605e7ef64d", checked := Try.checked }
namespace Rows
def none {H : Type} : Left H := { results := [], args := [] }

/-- 'descantlaw20.Riffs': WHATEVER THE INPUT: true; the input reads as it did. -/
def riffsSpec : ChangeSpec := { name := "riffs", fn := fun _ => fun
  | [d] => { results := [.lit (.bool true)], args := [d] }
  | _ => none }
def riffsRow : OpenClaim := { program := "ytabmhoiaeeneiaa", sum := "64633a2c7204aca052d5b644077d7bc52169bc82549264f5c7a66b605e7ef64d", func := "descant/descantlaw20.Riffs", spec := "riffs", apart := false }
def RiffsSaid : Prop := riffsRow.holds Try.pinned (OpenSpec.ofChange riffsSpec)

/-- ITS FALSE NEIGHBOUR: 'it returns false'. Refute it at one input. -/
def riffsWrong : ChangeSpec := { name := "riffs", fn := fun _ => fun
  | [d] => { results := [.lit (.bool false)], args := [d] }
  | _ => none }
def RiffsWrongFalsely : Prop := riffsRow.holds Try.pinned (OpenSpec.ofChange riffsWrong)

/-- 'descantlaw20.RiffRow': WHATEVER THE INPUT: true; the input reads as it did. -/
def riffRowSpec : ChangeSpec := { name := "riffRow", fn := fun _ => fun
  | [d] => { results := [.lit (.bool true)], args := [d] }
  | _ => none }
def riffRowRow : OpenClaim := { program := "ytabmhoiaeeneiaa", sum := "64633a2c7204aca052d5b644077d7bc52169bc82549264f5c7a66b605e7ef64d", func := "descant/descantlaw20.RiffRow", spec := "riffRow", apart := false }
def RiffRowSaid : Prop := riffRowRow.holds Try.pinned (OpenSpec.ofChange riffRowSpec)

/-- ITS FALSE NEIGHBOUR: 'it returns false'. Refute it at one input. -/
def riffRowWrong : ChangeSpec := { name := "riffRow", fn := fun _ => fun
  | [d] => { results := [.lit (.bool false)], args := [d] }
  | _ => none }
def RiffRowWrongFalsely : Prop := riffRowRow.holds Try.pinned (OpenSpec.ofChange riffRowWrong)

/-- 'descantlaw20.RiffForms': WHATEVER THE INPUT: true; the input reads as it did. -/
def riffFormsSpec : ChangeSpec := { name := "riffForms", fn := fun _ => fun
  | [d1, d2] => { results := [.lit (.bool true)], args := [d1, d2] }
  | _ => none }
def riffFormsRow : OpenClaim := { program := "ytabmhoiaeeneiaa", sum := "64633a2c7204aca052d5b644077d7bc52169bc82549264f5c7a66b605e7ef64d", func := "descant/descantlaw20.RiffForms", spec := "riffForms", apart := false }
def RiffFormsSaid : Prop := riffFormsRow.holds Try.pinned (OpenSpec.ofChange riffFormsSpec)

/-- ITS FALSE NEIGHBOUR: 'it returns false'. Refute it at one input. -/
def riffFormsWrong : ChangeSpec := { name := "riffForms", fn := fun _ => fun
  | [d1, d2] => { results := [.lit (.bool false)], args := [d1, d2] }
  | _ => none }
def RiffFormsWrongFalsely : Prop := riffFormsRow.holds Try.pinned (OpenSpec.ofChange riffFormsWrong)

/-- 'descantlaw20.RiffMany': WHATEVER THE INPUT: true; the input reads as it did. -/
def riffManySpec : ChangeSpec := { name := "riffMany", fn := fun _ => fun
  | [d1, d2] => { results := [.lit (.bool true)], args := [d1, d2] }
  | _ => none }
def riffManyRow : OpenClaim := { program := "ytabmhoiaeeneiaa", sum := "64633a2c7204aca052d5b644077d7bc52169bc82549264f5c7a66b605e7ef64d", func := "descant/descantlaw20.RiffMany", spec := "riffMany", apart := false }
def RiffManySaid : Prop := riffManyRow.holds Try.pinned (OpenSpec.ofChange riffManySpec)

/-- ITS FALSE NEIGHBOUR: 'it returns false'. Refute it at one input. -/
def riffManyWrong : ChangeSpec := { name := "riffMany", fn := fun _ => fun
  | [d1, d2] => { results := [.lit (.bool false)], args := [d1, d2] }
  | _ => none }
def RiffManyWrongFalsely : Prop := riffManyRow.holds Try.pinned (OpenSpec.ofChange riffManyWrong)

/-- 'descantlaw20.RiffCut': WHATEVER THE INPUT: true; the input reads as it did. -/
def riffCutSpec : ChangeSpec := { name := "riffCut", fn := fun _ => fun
  | [d1, d2] => { results := [.lit (.bool true)], args := [d1, d2] }
  | _ => none }
def riffCutRow : OpenClaim := { program := "ytabmhoiaeeneiaa", sum := "64633a2c7204aca052d5b644077d7bc52169bc82549264f5c7a66b605e7ef64d", func := "descant/descantlaw20.RiffCut", spec := "riffCut", apart := false }
def RiffCutSaid : Prop := riffCutRow.holds Try.pinned (OpenSpec.ofChange riffCutSpec)

/-- ITS FALSE NEIGHBOUR: 'it returns false'. Refute it at one input. -/
def riffCutWrong : ChangeSpec := { name := "riffCut", fn := fun _ => fun
  | [d1, d2] => { results := [.lit (.bool false)], args := [d1, d2] }
  | _ => none }
def RiffCutWrongFalsely : Prop := riffCutRow.holds Try.pinned (OpenSpec.ofChange riffCutWrong)

/- THE SECOND FORM. 'bulk': how many values and letters a reading holds, each counted each time it is reached (what is shared counts as often as it is met; a slice's spare places count too). A statement '..UptoSaid' is the law's where the arguments, and the package variables that the reading takes, are together of bulk at most 1048576: NARROWER than '..Said'. Prove '..Said' where nothing that the law and all that it calls make is longer than what came in: it says more and counts as full. Else prove '..UptoSaid'. A law counts once. -/
mutual
def uptoBulk {H : Type} : DataW H → Nat
  | .lit (.string bytes) => bytes.length + 1
  | .lit _ => 1
  | .nil => 1
  | .ptr d => uptoBulk d + 1
  | .slice elems spare => uptoBulkAll elems + uptoBulkAll spare + 1
  | .agg parts => uptoBulkAll parts + 1
  | .iface _ d => uptoBulk d + 1
  | .map entries => uptoBulkEntries entries + 1
  | .held _ => 1
def uptoBulkAll {H : Type} : List (DataW H) → Nat
  | [] => 0
  | d :: r => uptoBulk d + uptoBulkAll r
def uptoBulkEntries {H : Type} : List (Lit × DataW H) → Nat
  | [] => 0
  | x :: r => uptoBulkEntry x + uptoBulkEntries r
def uptoBulkEntry {H : Type} : Lit × DataW H → Nat
  | (.string bytes, d) => bytes.length + uptoBulk d + 1
  | (_, d) => uptoBulk d + 1
 end
def uptoSmall : (H : Type) → List (DataW H) → Bool := fun _ ds => decide (uptoBulkAll ds ≤ 1048576)
def OpenSpec.upto (s : _root_.Go.ChangeSpec) : _root_.Go.OpenSpec := { _root_.Go.OpenSpec.ofChange s with cond := some uptoSmall }

/-- 'descantlaw20.Riffs', WHERE WHAT IT READS IS OF BULK AT MOST 1048576: true; the input reads as it did. -/
def riffsUptoRow : OpenClaim := { program := "ytabmhoiaeeneiaa", sum := "64633a2c7204aca052d5b644077d7bc52169bc82549264f5c7a66b605e7ef64d", func := "descant/descantlaw20.Riffs", spec := "riffs", apart := false, narrowed := true }
def RiffsUptoSaid : Prop := riffsUptoRow.holds Try.pinned (OpenSpec.upto riffsSpec)

/-- 'descantlaw20.RiffRow', WHERE WHAT IT READS IS OF BULK AT MOST 1048576: true; the input reads as it did. -/
def riffRowUptoRow : OpenClaim := { program := "ytabmhoiaeeneiaa", sum := "64633a2c7204aca052d5b644077d7bc52169bc82549264f5c7a66b605e7ef64d", func := "descant/descantlaw20.RiffRow", spec := "riffRow", apart := false, narrowed := true }
def RiffRowUptoSaid : Prop := riffRowUptoRow.holds Try.pinned (OpenSpec.upto riffRowSpec)

/-- 'descantlaw20.RiffForms', WHERE WHAT IT READS IS OF BULK AT MOST 1048576: true; the input reads as it did. -/
def riffFormsUptoRow : OpenClaim := { program := "ytabmhoiaeeneiaa", sum := "64633a2c7204aca052d5b644077d7bc52169bc82549264f5c7a66b605e7ef64d", func := "descant/descantlaw20.RiffForms", spec := "riffForms", apart := false, narrowed := true }
def RiffFormsUptoSaid : Prop := riffFormsUptoRow.holds Try.pinned (OpenSpec.upto riffFormsSpec)

/-- 'descantlaw20.RiffMany', WHERE WHAT IT READS IS OF BULK AT MOST 1048576: true; the input reads as it did. -/
def riffManyUptoRow : OpenClaim := { program := "ytabmhoiaeeneiaa", sum := "64633a2c7204aca052d5b644077d7bc52169bc82549264f5c7a66b605e7ef64d", func := "descant/descantlaw20.RiffMany", spec := "riffMany", apart := false, narrowed := true }
def RiffManyUptoSaid : Prop := riffManyUptoRow.holds Try.pinned (OpenSpec.upto riffManySpec)

/-- 'descantlaw20.RiffCut', WHERE WHAT IT READS IS OF BULK AT MOST 1048576: true; the input reads as it did. -/
def riffCutUptoRow : OpenClaim := { program := "ytabmhoiaeeneiaa", sum := "64633a2c7204aca052d5b644077d7bc52169bc82549264f5c7a66b605e7ef64d", func := "descant/descantlaw20.RiffCut", spec := "riffCut", apart := false, narrowed := true }
def RiffCutUptoSaid : Prop := riffCutUptoRow.holds Try.pinned (OpenSpec.upto riffCutSpec)

end Rows
end Go.Proofs.Ytabmhoiaeeneiaa
