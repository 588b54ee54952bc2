/-
  No cell of these rows narrows 'for every input' (looked for: loops, veiled, ifaces, maps, wideKeys, modest, calm, conditions, laid).
  DERIVED. THE GIVEN ROWS OF THIS SEAT. 4 by the template 'for every input the law returns true; each argument reads behind the call as it read before'; 0 by the template 'total and deterministic' (their statements: YtigchgibhegdiaaTotals.lean).
  GIVEN WITH THE SEED: the statements are not yours to turn. If you find one false, say at which input.
  Laid BY PROGRAM, IN A SANDBOX (cutbox-rows.mjs): the forced cells as the released guide's own fill.sh prints them over the translation 194c142f63f76598… (all of the seat's roots in one cut). By AI agents, Wed Nov 11 2026. No macro, syntax, notation, axiom, sorry.
-/
import Derived.Test.YtigchgibhegdiaaChecked
import GoSem.Claim
import GoSem.ClaimJoined
import GoSem.ClaimMapViews
import Derived.JoinedTies
import Derived.KernelRfl
namespace Go.Proofs.Ytigchgibhegdiaa
/- THE CELL 'sum', in the pinned program and in every row, IS THE sha256 OF THE DUMP (.gsa) THAT YtigchgibhegdiaaProg.lean LOADS. Nothing in Lean hashes anything: it is a label: what it is worth is what the hold of that sum in a sandbox is worth. -/
noncomputable def Try.pinned : Pinned := { name := "ytigchgibhegdiaa", sum := "194c142f63f7659848844c5baf16089a582bf87ddd8ba0d4e433e35f50eb2e77", checked := Try.checked }
namespace Rows
def none {H : Type} : Left H := { results := [], args := [] }

/-- 'descantlaw10.Folds': WHATEVER THE INPUT: true; the input reads as it did. -/
def foldsSpec : ChangeSpec := { name := "folds", fn := fun _ => fun
  | [d1, d2] => { results := [.lit (.bool true)], args := [d1, d2] }
  | _ => none }
def foldsRow : OpenClaim := { program := "ytigchgibhegdiaa", sum := "194c142f63f7659848844c5baf16089a582bf87ddd8ba0d4e433e35f50eb2e77", func := "descant/descantlaw10.Folds", spec := "folds", apart := false }
def FoldsSaid : Prop := foldsRow.holds Try.pinned (OpenSpec.ofChange foldsSpec)

/-- ITS FALSE NEIGHBOUR: 'it returns false'. Refute it at one input. -/
def foldsWrong : ChangeSpec := { name := "folds", fn := fun _ => fun
  | [d1, d2] => { results := [.lit (.bool false)], args := [d1, d2] }
  | _ => none }
def FoldsWrongFalsely : Prop := foldsRow.holds Try.pinned (OpenSpec.ofChange foldsWrong)

/-- 'descantlaw10.FoldForms': WHATEVER THE INPUT: true; the input reads as it did. -/
def foldFormsSpec : ChangeSpec := { name := "foldForms", fn := fun _ => fun
  | [d] => { results := [.lit (.bool true)], args := [d] }
  | _ => none }
def foldFormsRow : OpenClaim := { program := "ytigchgibhegdiaa", sum := "194c142f63f7659848844c5baf16089a582bf87ddd8ba0d4e433e35f50eb2e77", func := "descant/descantlaw10.FoldForms", spec := "foldForms", apart := false }
def FoldFormsSaid : Prop := foldFormsRow.holds Try.pinned (OpenSpec.ofChange foldFormsSpec)

/-- ITS FALSE NEIGHBOUR: 'it returns false'. Refute it at one input. -/
def foldFormsWrong : ChangeSpec := { name := "foldForms", fn := fun _ => fun
  | [d] => { results := [.lit (.bool false)], args := [d] }
  | _ => none }
def FoldFormsWrongFalsely : Prop := foldFormsRow.holds Try.pinned (OpenSpec.ofChange foldFormsWrong)

/-- 'descantlaw10.FoldRow': WHATEVER THE INPUT: true; the input reads as it did. -/
def foldRowSpec : ChangeSpec := { name := "foldRow", fn := fun _ => fun
  | [d1, d2] => { results := [.lit (.bool true)], args := [d1, d2] }
  | _ => none }
def foldRowRow : OpenClaim := { program := "ytigchgibhegdiaa", sum := "194c142f63f7659848844c5baf16089a582bf87ddd8ba0d4e433e35f50eb2e77", func := "descant/descantlaw10.FoldRow", spec := "foldRow", apart := false }
def FoldRowSaid : Prop := foldRowRow.holds Try.pinned (OpenSpec.ofChange foldRowSpec)

/-- ITS FALSE NEIGHBOUR: 'it returns false'. Refute it at one input. -/
def foldRowWrong : ChangeSpec := { name := "foldRow", fn := fun _ => fun
  | [d1, d2] => { results := [.lit (.bool false)], args := [d1, d2] }
  | _ => none }
def FoldRowWrongFalsely : Prop := foldRowRow.holds Try.pinned (OpenSpec.ofChange foldRowWrong)

/-- 'descantlaw10.FoldPairs': WHATEVER THE INPUT: true; the input reads as it did. -/
def foldPairsSpec : ChangeSpec := { name := "foldPairs", fn := fun _ => fun
  | [d] => { results := [.lit (.bool true)], args := [d] }
  | _ => none }
def foldPairsRow : OpenClaim := { program := "ytigchgibhegdiaa", sum := "194c142f63f7659848844c5baf16089a582bf87ddd8ba0d4e433e35f50eb2e77", func := "descant/descantlaw10.FoldPairs", spec := "foldPairs", apart := false }
def FoldPairsSaid : Prop := foldPairsRow.holds Try.pinned (OpenSpec.ofChange foldPairsSpec)

/-- ITS FALSE NEIGHBOUR: 'it returns false'. Refute it at one input. -/
def foldPairsWrong : ChangeSpec := { name := "foldPairs", fn := fun _ => fun
  | [d] => { results := [.lit (.bool false)], args := [d] }
  | _ => none }
def FoldPairsWrongFalsely : Prop := foldPairsRow.holds Try.pinned (OpenSpec.ofChange foldPairsWrong)

/- THE SECOND FORM. 'bulk': how many values and letters a reading holds, each counted each time it is reached (what is shared counts as often as it is met; a slice's spare places count too). A statement '..UptoSaid' is the law's where the arguments, and the package variables that the reading takes, are together of bulk at most 1048576: NARROWER than '..Said'. Prove '..Said' where nothing that the law and all that it calls make is longer than what came in: it says more and counts as full. Else prove '..UptoSaid'. A law counts once. -/
mutual
def uptoBulk {H : Type} : DataW H → Nat
  | .lit (.string bytes) => bytes.length + 1
  | .lit _ => 1
  | .nil => 1
  | .ptr d => uptoBulk d + 1
  | .slice elems spare => uptoBulkAll elems + uptoBulkAll spare + 1
  | .agg parts => uptoBulkAll parts + 1
  | .iface _ d => uptoBulk d + 1
  | .map entries => uptoBulkEntries entries + 1
  | .held _ => 1
def uptoBulkAll {H : Type} : List (DataW H) → Nat
  | [] => 0
  | d :: r => uptoBulk d + uptoBulkAll r
def uptoBulkEntries {H : Type} : List (Lit × DataW H) → Nat
  | [] => 0
  | x :: r => uptoBulkEntry x + uptoBulkEntries r
def uptoBulkEntry {H : Type} : Lit × DataW H → Nat
  | (.string bytes, d) => bytes.length + uptoBulk d + 1
  | (_, d) => uptoBulk d + 1
 end
def uptoSmall : (H : Type) → List (DataW H) → Bool := fun _ ds => decide (uptoBulkAll ds ≤ 1048576)
def OpenSpec.upto (s : _root_.Go.ChangeSpec) : _root_.Go.OpenSpec := { _root_.Go.OpenSpec.ofChange s with cond := some uptoSmall }

/-- 'descantlaw10.Folds', WHERE WHAT IT READS IS OF BULK AT MOST 1048576: true; the input reads as it did. -/
def foldsUptoRow : OpenClaim := { program := "ytigchgibhegdiaa", sum := "194c142f63f7659848844c5baf16089a582bf87ddd8ba0d4e433e35f50eb2e77", func := "descant/descantlaw10.Folds", spec := "folds", apart := false, narrowed := true }
def FoldsUptoSaid : Prop := foldsUptoRow.holds Try.pinned (OpenSpec.upto foldsSpec)

/-- 'descantlaw10.FoldForms', WHERE WHAT IT READS IS OF BULK AT MOST 1048576: true; the input reads as it did. -/
def foldFormsUptoRow : OpenClaim := { program := "ytigchgibhegdiaa", sum := "194c142f63f7659848844c5baf16089a582bf87ddd8ba0d4e433e35f50eb2e77", func := "descant/descantlaw10.FoldForms", spec := "foldForms", apart := false, narrowed := true }
def FoldFormsUptoSaid : Prop := foldFormsUptoRow.holds Try.pinned (OpenSpec.upto foldFormsSpec)

/-- 'descantlaw10.FoldRow', WHERE WHAT IT READS IS OF BULK AT MOST 1048576: true; the input reads as it did. -/
def foldRowUptoRow : OpenClaim := { program := "ytigchgibhegdiaa", sum := "194c142f63f7659848844c5baf16089a582bf87ddd8ba0d4e433e35f50eb2e77", func := "descant/descantlaw10.FoldRow", spec := "foldRow", apart := false, narrowed := true }
def FoldRowUptoSaid : Prop := foldRowUptoRow.holds Try.pinned (OpenSpec.upto foldRowSpec)

/-- 'descantlaw10.FoldPairs', WHERE WHAT IT READS IS OF BULK AT MOST 1048576: true; the input reads as it did. -/
def foldPairsUptoRow : OpenClaim := { program := "ytigchgibhegdiaa", sum := "194c142f63f7659848844c5baf16089a582bf87ddd8ba0d4e433e35f50eb2e77", func := "descant/descantlaw10.FoldPairs", spec := "foldPairs", apart := false, narrowed := true }
def FoldPairsUptoSaid : Prop := foldPairsUptoRow.holds Try.pinned (OpenSpec.upto foldPairsSpec)

end Rows
end Go.Proofs.Ytigchgibhegdiaa
