/-
  A row of ints as the frame hands it. No condition.
-/
import Derived.Test.YteihdihplgjclaaGRow
namespace Go.Proofs.Yteihdihplgjclaa.Mod
open Go.RowKit
set_option linter.unusedVariables false

theorem of_row {w : World} {a : Option Addr} {len cap : Nat} {zs : List Int}
    (h : (a = none ∧ len = 0 ∧ cap = 0 ∧ zs = []) ∨ ∃ x, a = some x ∧ len ≤ cap ∧ cap ≤ maxLen ∧ zs.length = cap ∧ (∀ i, i < zs.length → w.cell? (x.add i) = some (.int .i64 (zs.getD i 0))) ∧ ∀ n ∈ zs, (Lit.int .i64 n).wf = true) :
    len = (zs.take len).length ∧ len ≤ cap ∧ cap ≤ maxLen ∧ (a = none → cap = 0) ∧ Slc w a (zs.take len) := by
  rcases h with ⟨rfl, rfl, rfl, rfl⟩ | ⟨x, rfl, h1, h2, h3, h4, h5⟩
  · exact ⟨rfl, Nat.le_refl _, Nat.zero_le _, fun _ => rfl, slc_nil _ _⟩
  · refine ⟨by simp; omega, h1, h2, fun q => absurd q (by simp), ?_⟩
    have : Slc w (some x) zs := fun k hk => ⟨x, rfl, h4 k hk⟩
    exact this.take len

end Go.Proofs.Yteihdihplgjclaa.Mod
