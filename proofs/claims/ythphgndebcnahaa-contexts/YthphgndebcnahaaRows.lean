/-
  No cell of these rows narrows 'for every input' (looked for: loops, veiled, ifaces, maps, wideKeys, modest, calm, conditions, laid).
  DERIVED. THE GIVEN ROWS OF THIS SEAT. 4 by the template 'for every input the law returns true; each argument reads behind the call as it read before'; 0 by the template 'total and deterministic' (their statements: YthphgndebcnahaaTotals.lean).
  GIVEN WITH THE SEED: the statements are not yours to turn. If you find one false, say at which input.
  Laid BY PROGRAM, IN A SANDBOX (cutbox-rows.mjs): the forced cells as the released guide's own fill.sh prints them over the translation 920aa3598a44dcb6… (all of the seat's roots in one cut). By AI agents, Wed Nov 11 2026. No macro, syntax, notation, axiom, sorry.
-/
import Derived.Test.YthphgndebcnahaaChecked
import GoSem.Claim
import GoSem.ClaimJoined
import GoSem.ClaimMapViews
import Derived.JoinedTies
import Derived.KernelRfl
namespace Go.Proofs.Ythphgndebcnahaa
/- THE CELL 'sum', in the pinned program and in every row, IS THE sha256 OF THE DUMP (.gsa) THAT YthphgndebcnahaaProg.lean LOADS. Nothing in Lean hashes anything: it is a label: what it is worth is what the hold of that sum in a sandbox is worth. -/
noncomputable def Try.pinned : Pinned := { name := "ythphgndebcnahaa", sum := "920aa3598a44dcb635fb7014013ba978752df7ebe8407e0564be3659ff117511", checked := Try.checked }
namespace Rows
def none {H : Type} : Left H := { results := [], args := [] }

/-- 'descantlaw12.Contexts': WHATEVER THE INPUT: true; the input reads as it did. -/
def contextsSpec : ChangeSpec := { name := "contexts", fn := fun _ => fun
  | [d1, d2] => { results := [.lit (.bool true)], args := [d1, d2] }
  | _ => none }
def contextsRow : OpenClaim := { program := "ythphgndebcnahaa", sum := "920aa3598a44dcb635fb7014013ba978752df7ebe8407e0564be3659ff117511", func := "descant/descantlaw12.Contexts", spec := "contexts", unfollowed := true, recurses := true, apart := false }
def ContextsSaid : Prop := contextsRow.holds Try.pinned (OpenSpec.ofChange contextsSpec)

/-- ITS FALSE NEIGHBOUR: 'it returns false'. Refute it at one input. -/
def contextsWrong : ChangeSpec := { name := "contexts", fn := fun _ => fun
  | [d1, d2] => { results := [.lit (.bool false)], args := [d1, d2] }
  | _ => none }
def ContextsWrongFalsely : Prop := contextsRow.holds Try.pinned (OpenSpec.ofChange contextsWrong)

/-- 'descantlaw12.ContextForms': WHATEVER THE INPUT: true; the input reads as it did. -/
def contextFormsSpec : ChangeSpec := { name := "contextForms", fn := fun _ => fun
  | [d1, d2] => { results := [.lit (.bool true)], args := [d1, d2] }
  | _ => none }
def contextFormsRow : OpenClaim := { program := "ythphgndebcnahaa", sum := "920aa3598a44dcb635fb7014013ba978752df7ebe8407e0564be3659ff117511", func := "descant/descantlaw12.ContextForms", spec := "contextForms", unfollowed := true, recurses := true, apart := false }
def ContextFormsSaid : Prop := contextFormsRow.holds Try.pinned (OpenSpec.ofChange contextFormsSpec)

/-- ITS FALSE NEIGHBOUR: 'it returns false'. Refute it at one input. -/
def contextFormsWrong : ChangeSpec := { name := "contextForms", fn := fun _ => fun
  | [d1, d2] => { results := [.lit (.bool false)], args := [d1, d2] }
  | _ => none }
def ContextFormsWrongFalsely : Prop := contextFormsRow.holds Try.pinned (OpenSpec.ofChange contextFormsWrong)

/-- 'descantlaw12.ContextRanges': WHATEVER THE INPUT: true; the input reads as it did. -/
def contextRangesSpec : ChangeSpec := { name := "contextRanges", fn := fun _ => fun
  | [d1, d2, d3] => { results := [.lit (.bool true)], args := [d1, d2, d3] }
  | _ => none }
def contextRangesRow : OpenClaim := { program := "ythphgndebcnahaa", sum := "920aa3598a44dcb635fb7014013ba978752df7ebe8407e0564be3659ff117511", func := "descant/descantlaw12.ContextRanges", spec := "contextRanges", unfollowed := true, recurses := true, apart := false }
def ContextRangesSaid : Prop := contextRangesRow.holds Try.pinned (OpenSpec.ofChange contextRangesSpec)

/-- ITS FALSE NEIGHBOUR: 'it returns false'. Refute it at one input. -/
def contextRangesWrong : ChangeSpec := { name := "contextRanges", fn := fun _ => fun
  | [d1, d2, d3] => { results := [.lit (.bool false)], args := [d1, d2, d3] }
  | _ => none }
def ContextRangesWrongFalsely : Prop := contextRangesRow.holds Try.pinned (OpenSpec.ofChange contextRangesWrong)

/-- 'descantlaw12.ContextGrows': WHATEVER THE INPUT: true; the input reads as it did. -/
def contextGrowsSpec : ChangeSpec := { name := "contextGrows", fn := fun _ => fun
  | [d1, d2] => { results := [.lit (.bool true)], args := [d1, d2] }
  | _ => none }
def contextGrowsRow : OpenClaim := { program := "ythphgndebcnahaa", sum := "920aa3598a44dcb635fb7014013ba978752df7ebe8407e0564be3659ff117511", func := "descant/descantlaw12.ContextGrows", spec := "contextGrows", unfollowed := true, recurses := true, apart := false }
def ContextGrowsSaid : Prop := contextGrowsRow.holds Try.pinned (OpenSpec.ofChange contextGrowsSpec)

/-- ITS FALSE NEIGHBOUR: 'it returns false'. Refute it at one input. -/
def contextGrowsWrong : ChangeSpec := { name := "contextGrows", fn := fun _ => fun
  | [d1, d2] => { results := [.lit (.bool false)], args := [d1, d2] }
  | _ => none }
def ContextGrowsWrongFalsely : Prop := contextGrowsRow.holds Try.pinned (OpenSpec.ofChange contextGrowsWrong)

/- THE SECOND FORM. 'bulk': how many values and letters a reading holds, each counted each time it is reached (what is shared counts as often as it is met; a slice's spare places count too). A statement '..UptoSaid' is the law's where the arguments, and the package variables that the reading takes, are together of bulk at most 1048576: NARROWER than '..Said'. Prove '..Said' where nothing that the law and all that it calls make is longer than what came in: it says more and counts as full. Else prove '..UptoSaid'. A law counts once. -/
mutual
def uptoBulk {H : Type} : DataW H → Nat
  | .lit (.string bytes) => bytes.length + 1
  | .lit _ => 1
  | .nil => 1
  | .ptr d => uptoBulk d + 1
  | .slice elems spare => uptoBulkAll elems + uptoBulkAll spare + 1
  | .agg parts => uptoBulkAll parts + 1
  | .iface _ d => uptoBulk d + 1
  | .map entries => uptoBulkEntries entries + 1
  | .held _ => 1
def uptoBulkAll {H : Type} : List (DataW H) → Nat
  | [] => 0
  | d :: r => uptoBulk d + uptoBulkAll r
def uptoBulkEntries {H : Type} : List (Lit × DataW H) → Nat
  | [] => 0
  | x :: r => uptoBulkEntry x + uptoBulkEntries r
def uptoBulkEntry {H : Type} : Lit × DataW H → Nat
  | (.string bytes, d) => bytes.length + uptoBulk d + 1
  | (_, d) => uptoBulk d + 1
 end
def uptoSmall : (H : Type) → List (DataW H) → Bool := fun _ ds => decide (uptoBulkAll ds ≤ 1048576)
def OpenSpec.upto (s : _root_.Go.ChangeSpec) : _root_.Go.OpenSpec := { _root_.Go.OpenSpec.ofChange s with cond := some uptoSmall }

/-- 'descantlaw12.Contexts', WHERE WHAT IT READS IS OF BULK AT MOST 1048576: true; the input reads as it did. -/
def contextsUptoRow : OpenClaim := { program := "ythphgndebcnahaa", sum := "920aa3598a44dcb635fb7014013ba978752df7ebe8407e0564be3659ff117511", func := "descant/descantlaw12.Contexts", spec := "contexts", unfollowed := true, recurses := true, apart := false, narrowed := true }
def ContextsUptoSaid : Prop := contextsUptoRow.holds Try.pinned (OpenSpec.upto contextsSpec)

/-- 'descantlaw12.ContextForms', WHERE WHAT IT READS IS OF BULK AT MOST 1048576: true; the input reads as it did. -/
def contextFormsUptoRow : OpenClaim := { program := "ythphgndebcnahaa", sum := "920aa3598a44dcb635fb7014013ba978752df7ebe8407e0564be3659ff117511", func := "descant/descantlaw12.ContextForms", spec := "contextForms", unfollowed := true, recurses := true, apart := false, narrowed := true }
def ContextFormsUptoSaid : Prop := contextFormsUptoRow.holds Try.pinned (OpenSpec.upto contextFormsSpec)

/-- 'descantlaw12.ContextRanges', WHERE WHAT IT READS IS OF BULK AT MOST 1048576: true; the input reads as it did. -/
def contextRangesUptoRow : OpenClaim := { program := "ythphgndebcnahaa", sum := "920aa3598a44dcb635fb7014013ba978752df7ebe8407e0564be3659ff117511", func := "descant/descantlaw12.ContextRanges", spec := "contextRanges", unfollowed := true, recurses := true, apart := false, narrowed := true }
def ContextRangesUptoSaid : Prop := contextRangesUptoRow.holds Try.pinned (OpenSpec.upto contextRangesSpec)

/-- 'descantlaw12.ContextGrows', WHERE WHAT IT READS IS OF BULK AT MOST 1048576: true; the input reads as it did. -/
def contextGrowsUptoRow : OpenClaim := { program := "ythphgndebcnahaa", sum := "920aa3598a44dcb635fb7014013ba978752df7ebe8407e0564be3659ff117511", func := "descant/descantlaw12.ContextGrows", spec := "contextGrows", unfollowed := true, recurses := true, apart := false, narrowed := true }
def ContextGrowsUptoSaid : Prop := contextGrowsUptoRow.holds Try.pinned (OpenSpec.upto contextGrowsSpec)

end Rows
end Go.Proofs.Ythphgndebcnahaa
