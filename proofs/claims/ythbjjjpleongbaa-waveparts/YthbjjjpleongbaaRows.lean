/-
  No cell of these rows narrows 'for every input' (looked for: loops, veiled, ifaces, maps, wideKeys, modest, calm, conditions, laid).
  DERIVED. THE GIVEN ROWS OF THIS SEAT. 5 by the template 'for every input the law returns true; each argument reads behind the call as it read before'; 0 by the template 'total and deterministic' (their statements: YthbjjjpleongbaaTotals.lean).
  GIVEN WITH THE SEED: the statements are not yours to turn. If you find one false, say at which input.
  Laid BY PROGRAM, IN A SANDBOX (cutbox-rows.mjs): the forced cells as the released guide's own fill.sh prints them over the translation 5b31cde177b5054d… (all of the seat's roots in one cut). By AI agents, Wed Nov 11 2026. No macro, syntax, notation, axiom, sorry.
-/
import Derived.Test.YthbjjjpleongbaaChecked
import GoSem.Claim
import GoSem.ClaimJoined
import GoSem.ClaimMapViews
import Derived.JoinedTies
import Derived.KernelRfl
namespace Go.Proofs.Ythbjjjpleongbaa
/- THE CELL 'sum', in the pinned program and in every row, IS THE sha256 OF THE DUMP (.gsa) THAT YthbjjjpleongbaaProg.lean LOADS. Nothing in Lean hashes anything: it is a label: what it is worth is what the hold of that sum in a sandbox is worth. -/
noncomputable def Try.pinned : Pinned := { name := "ythbjjjpleongbaa", sum := "5b31cde177b5054dce1ef064d4a77c6a819fbc4764619c5a00e218a0b0ba1335", checked := Try.checked }
namespace Rows
def none {H : Type} : Left H := { results := [], args := [] }

/-- 'descantlaw21.Waves': WHATEVER THE INPUT: true; the input reads as it did. -/
def wavesSpec : ChangeSpec := { name := "waves", fn := fun _ => fun
  | [d1, d2] => { results := [.lit (.bool true)], args := [d1, d2] }
  | _ => none }
def wavesRow : OpenClaim := { program := "ythbjjjpleongbaa", sum := "5b31cde177b5054dce1ef064d4a77c6a819fbc4764619c5a00e218a0b0ba1335", func := "descant/descantlaw21.Waves", spec := "waves", inPlace := ["internal/abi.NoEscape", "internal/bytealg.MakeNoZero"], unfollowed := true, recurses := true, apart := false }
def WavesSaid : Prop := wavesRow.holds Try.pinned (OpenSpec.ofChange wavesSpec)

/-- ITS FALSE NEIGHBOUR: 'it returns false'. Refute it at one input. -/
def wavesWrong : ChangeSpec := { name := "waves", fn := fun _ => fun
  | [d1, d2] => { results := [.lit (.bool false)], args := [d1, d2] }
  | _ => none }
def WavesWrongFalsely : Prop := wavesRow.holds Try.pinned (OpenSpec.ofChange wavesWrong)

/-- 'descantlaw21.WaveForms': WHATEVER THE INPUT: true; the input reads as it did. -/
def waveFormsSpec : ChangeSpec := { name := "waveForms", fn := fun _ => fun
  | [d1, d2] => { results := [.lit (.bool true)], args := [d1, d2] }
  | _ => none }
def waveFormsRow : OpenClaim := { program := "ythbjjjpleongbaa", sum := "5b31cde177b5054dce1ef064d4a77c6a819fbc4764619c5a00e218a0b0ba1335", func := "descant/descantlaw21.WaveForms", spec := "waveForms", inPlace := ["internal/abi.NoEscape", "internal/bytealg.MakeNoZero"], unfollowed := true, recurses := true, apart := false }
def WaveFormsSaid : Prop := waveFormsRow.holds Try.pinned (OpenSpec.ofChange waveFormsSpec)

/-- ITS FALSE NEIGHBOUR: 'it returns false'. Refute it at one input. -/
def waveFormsWrong : ChangeSpec := { name := "waveForms", fn := fun _ => fun
  | [d1, d2] => { results := [.lit (.bool false)], args := [d1, d2] }
  | _ => none }
def WaveFormsWrongFalsely : Prop := waveFormsRow.holds Try.pinned (OpenSpec.ofChange waveFormsWrong)

/-- 'descantlaw21.WaveAny': WHATEVER THE INPUT: true; the input reads as it did. -/
def waveAnySpec : ChangeSpec := { name := "waveAny", fn := fun _ => fun
  | [d1, d2, d3] => { results := [.lit (.bool true)], args := [d1, d2, d3] }
  | _ => none }
def waveAnyRow : OpenClaim := { program := "ythbjjjpleongbaa", sum := "5b31cde177b5054dce1ef064d4a77c6a819fbc4764619c5a00e218a0b0ba1335", func := "descant/descantlaw21.WaveAny", spec := "waveAny", inPlace := ["internal/abi.NoEscape", "internal/bytealg.MakeNoZero"], unfollowed := true, recurses := true, apart := false }
def WaveAnySaid : Prop := waveAnyRow.holds Try.pinned (OpenSpec.ofChange waveAnySpec)

/-- ITS FALSE NEIGHBOUR: 'it returns false'. Refute it at one input. -/
def waveAnyWrong : ChangeSpec := { name := "waveAny", fn := fun _ => fun
  | [d1, d2, d3] => { results := [.lit (.bool false)], args := [d1, d2, d3] }
  | _ => none }
def WaveAnyWrongFalsely : Prop := waveAnyRow.holds Try.pinned (OpenSpec.ofChange waveAnyWrong)

/-- 'descantlaw21.WaveParts': WHATEVER THE INPUT: true; the input reads as it did. -/
def wavePartsSpec : ChangeSpec := { name := "waveParts", fn := fun _ => fun
  | [d1, d2] => { results := [.lit (.bool true)], args := [d1, d2] }
  | _ => none }
def wavePartsRow : OpenClaim := { program := "ythbjjjpleongbaa", sum := "5b31cde177b5054dce1ef064d4a77c6a819fbc4764619c5a00e218a0b0ba1335", func := "descant/descantlaw21.WaveParts", spec := "waveParts", inPlace := ["internal/abi.NoEscape", "internal/bytealg.MakeNoZero"], unfollowed := true, recurses := true, apart := false }
def WavePartsSaid : Prop := wavePartsRow.holds Try.pinned (OpenSpec.ofChange wavePartsSpec)

/-- ITS FALSE NEIGHBOUR: 'it returns false'. Refute it at one input. -/
def wavePartsWrong : ChangeSpec := { name := "waveParts", fn := fun _ => fun
  | [d1, d2] => { results := [.lit (.bool false)], args := [d1, d2] }
  | _ => none }
def WavePartsWrongFalsely : Prop := wavePartsRow.holds Try.pinned (OpenSpec.ofChange wavePartsWrong)

/-- 'descantlaw21.WaveMore': WHATEVER THE INPUT: true; the input reads as it did. -/
def waveMoreSpec : ChangeSpec := { name := "waveMore", fn := fun _ => fun
  | [d1, d2] => { results := [.lit (.bool true)], args := [d1, d2] }
  | _ => none }
def waveMoreRow : OpenClaim := { program := "ythbjjjpleongbaa", sum := "5b31cde177b5054dce1ef064d4a77c6a819fbc4764619c5a00e218a0b0ba1335", func := "descant/descantlaw21.WaveMore", spec := "waveMore", inPlace := ["internal/abi.NoEscape", "internal/bytealg.MakeNoZero"], unfollowed := true, recurses := true, apart := false }
def WaveMoreSaid : Prop := waveMoreRow.holds Try.pinned (OpenSpec.ofChange waveMoreSpec)

/-- ITS FALSE NEIGHBOUR: 'it returns false'. Refute it at one input. -/
def waveMoreWrong : ChangeSpec := { name := "waveMore", fn := fun _ => fun
  | [d1, d2] => { results := [.lit (.bool false)], args := [d1, d2] }
  | _ => none }
def WaveMoreWrongFalsely : Prop := waveMoreRow.holds Try.pinned (OpenSpec.ofChange waveMoreWrong)

/- THE SECOND FORM. 'bulk': how many values and letters a reading holds, each counted each time it is reached (what is shared counts as often as it is met; a slice's spare places count too). A statement '..UptoSaid' is the law's where the arguments, and the package variables that the reading takes, are together of bulk at most 1048576: NARROWER than '..Said'. Prove '..Said' where nothing that the law and all that it calls make is longer than what came in: it says more and counts as full. Else prove '..UptoSaid'. A law counts once. -/
mutual
def uptoBulk {H : Type} : DataW H → Nat
  | .lit (.string bytes) => bytes.length + 1
  | .lit _ => 1
  | .nil => 1
  | .ptr d => uptoBulk d + 1
  | .slice elems spare => uptoBulkAll elems + uptoBulkAll spare + 1
  | .agg parts => uptoBulkAll parts + 1
  | .iface _ d => uptoBulk d + 1
  | .map entries => uptoBulkEntries entries + 1
  | .held _ => 1
def uptoBulkAll {H : Type} : List (DataW H) → Nat
  | [] => 0
  | d :: r => uptoBulk d + uptoBulkAll r
def uptoBulkEntries {H : Type} : List (Lit × DataW H) → Nat
  | [] => 0
  | x :: r => uptoBulkEntry x + uptoBulkEntries r
def uptoBulkEntry {H : Type} : Lit × DataW H → Nat
  | (.string bytes, d) => bytes.length + uptoBulk d + 1
  | (_, d) => uptoBulk d + 1
 end
def uptoSmall : (H : Type) → List (DataW H) → Bool := fun _ ds => decide (uptoBulkAll ds ≤ 1048576)
def OpenSpec.upto (s : _root_.Go.ChangeSpec) : _root_.Go.OpenSpec := { _root_.Go.OpenSpec.ofChange s with cond := some uptoSmall }

/-- 'descantlaw21.Waves', WHERE WHAT IT READS IS OF BULK AT MOST 1048576: true; the input reads as it did. -/
def wavesUptoRow : OpenClaim := { program := "ythbjjjpleongbaa", sum := "5b31cde177b5054dce1ef064d4a77c6a819fbc4764619c5a00e218a0b0ba1335", func := "descant/descantlaw21.Waves", spec := "waves", inPlace := ["internal/abi.NoEscape", "internal/bytealg.MakeNoZero"], unfollowed := true, recurses := true, apart := false, narrowed := true }
def WavesUptoSaid : Prop := wavesUptoRow.holds Try.pinned (OpenSpec.upto wavesSpec)

/-- 'descantlaw21.WaveForms', WHERE WHAT IT READS IS OF BULK AT MOST 1048576: true; the input reads as it did. -/
def waveFormsUptoRow : OpenClaim := { program := "ythbjjjpleongbaa", sum := "5b31cde177b5054dce1ef064d4a77c6a819fbc4764619c5a00e218a0b0ba1335", func := "descant/descantlaw21.WaveForms", spec := "waveForms", inPlace := ["internal/abi.NoEscape", "internal/bytealg.MakeNoZero"], unfollowed := true, recurses := true, apart := false, narrowed := true }
def WaveFormsUptoSaid : Prop := waveFormsUptoRow.holds Try.pinned (OpenSpec.upto waveFormsSpec)

/-- 'descantlaw21.WaveAny', WHERE WHAT IT READS IS OF BULK AT MOST 1048576: true; the input reads as it did. -/
def waveAnyUptoRow : OpenClaim := { program := "ythbjjjpleongbaa", sum := "5b31cde177b5054dce1ef064d4a77c6a819fbc4764619c5a00e218a0b0ba1335", func := "descant/descantlaw21.WaveAny", spec := "waveAny", inPlace := ["internal/abi.NoEscape", "internal/bytealg.MakeNoZero"], unfollowed := true, recurses := true, apart := false, narrowed := true }
def WaveAnyUptoSaid : Prop := waveAnyUptoRow.holds Try.pinned (OpenSpec.upto waveAnySpec)

/-- 'descantlaw21.WaveParts', WHERE WHAT IT READS IS OF BULK AT MOST 1048576: true; the input reads as it did. -/
def wavePartsUptoRow : OpenClaim := { program := "ythbjjjpleongbaa", sum := "5b31cde177b5054dce1ef064d4a77c6a819fbc4764619c5a00e218a0b0ba1335", func := "descant/descantlaw21.WaveParts", spec := "waveParts", inPlace := ["internal/abi.NoEscape", "internal/bytealg.MakeNoZero"], unfollowed := true, recurses := true, apart := false, narrowed := true }
def WavePartsUptoSaid : Prop := wavePartsUptoRow.holds Try.pinned (OpenSpec.upto wavePartsSpec)

/-- 'descantlaw21.WaveMore', WHERE WHAT IT READS IS OF BULK AT MOST 1048576: true; the input reads as it did. -/
def waveMoreUptoRow : OpenClaim := { program := "ythbjjjpleongbaa", sum := "5b31cde177b5054dce1ef064d4a77c6a819fbc4764619c5a00e218a0b0ba1335", func := "descant/descantlaw21.WaveMore", spec := "waveMore", inPlace := ["internal/abi.NoEscape", "internal/bytealg.MakeNoZero"], unfollowed := true, recurses := true, apart := false, narrowed := true }
def WaveMoreUptoSaid : Prop := waveMoreUptoRow.holds Try.pinned (OpenSpec.upto waveMoreSpec)

end Rows
end Go.Proofs.Ythbjjjpleongbaa
