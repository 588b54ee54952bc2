/-
  ChainBounds answers true: the walk, of a row as the frame hands it. No condition.
-/
import Derived.Test.YteihdihplgjclaaChainBoundsWalk
import Derived.Test.YteihdihplgjclaaGOf
namespace Go.Proofs.Yteihdihplgjclaa.Chn
open Go.RowKit Go.Proofs.Yteihdihplgjclaa.Mod
set_option linter.unusedVariables false

theorem bounds_row (a : Option Addr) (len cap : Nat) (zs : List Int) (w : World)
    (h : (a = none ∧ len = 0 ∧ cap = 0 ∧ zs = []) ∨ ∃ x, a = some x ∧ len ≤ cap ∧ cap ≤ maxLen ∧ zs.length = cap ∧ (∀ i, i < zs.length → w.cell? (x.add i) = some (.int .i64 (zs.getD i 0))) ∧ ∀ n ∈ zs, (Lit.int .i64 n).wf = true) :
    Calls Try.prog 5 #[.slice a len cap] w fun e w' => e = .returned (.bool true) ∧ Bel w w' := by
  obtain ⟨q1, q2, q3, q4, q5⟩ := of_row h
  exact bounds_walk a (zs.take len) len cap q1 (Nat.le_trans q2 q3) w q5

end Go.Proofs.Yteihdihplgjclaa.Chn
