/-
  SideOne, SideSwap answer true: the walks, of rows as the frame hands them. Conditions: the rows are within the reach.
-/
import Derived.Test.YtkkdlnolpjbjeaaSideSwapWalk
namespace Go.Proofs.Ytkkdlnolpjbjeaa.Sid
open Go.RowKit Go.Proofs.Ytkkdlnolpjbjeaa.Mod
set_option linter.unusedVariables false

/-- A row as the frame hands it. -/
abbrev Row (w : World) (a : Option Addr) (len cap : Nat) (zs : List Int) : Prop :=
  (a = none ∧ len = 0 ∧ cap = 0 ∧ zs = []) ∨ ∃ x, a = some x ∧ len ≤ cap ∧ cap ≤ maxLen ∧ zs.length = cap ∧ (∀ i, i < zs.length → w.cell? (x.add i) = some (.int .i64 (zs.getD i 0))) ∧ ∀ n ∈ zs, (Lit.int .i64 n).wf = true

theorem one_row (a : Option Addr) (len cap : Nat) (zs : List Int) (w : World) (h : Row w a len cap zs) (s : cap * 8 ≤ 140737488351232) :
    Calls Try.prog 5 #[.slice a len cap] w fun e w' => e = .returned (.bool true) ∧ Bel w w' := by
  obtain ⟨q1, q2, _, q4, q5⟩ := Ints.of_row h
  exact one_walk a _ len cap q1 q2 s w q5
theorem swap_row (a : Option Addr) (len cap : Nat) (zs : List Int) (b : Option Addr) (ken dap : Nat) (ys : List Int) (w : World) (h : Row w a len cap zs) (k : Row w b ken dap ys) (s : cap * 8 ≤ 140737488351232) (t : dap * 8 ≤ 140737488351232) :
    Calls Try.prog 6 #[.slice a len cap, .slice b ken dap] w fun e w' => e = .returned (.bool true) ∧ Bel w w' := by
  obtain ⟨q1, q2, _, q4, q5⟩ := Ints.of_row h
  obtain ⟨p1, p2, _, p4, p5⟩ := Ints.of_row k
  exact swap_walk a _ len cap q1 q2 s b _ ken dap p1 p2 t w q5 p5

end Go.Proofs.Ytkkdlnolpjbjeaa.Sid
