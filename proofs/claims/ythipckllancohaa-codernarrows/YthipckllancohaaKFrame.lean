/-
  A coder as an argument: what it is where it comes in, and that it reads so again. No condition.
-/
import Derived.Test.YthipckllancohaaKNum
import Derived.Test.YthipckllancohaaRows
import Derived.WalkKit
import Derived.ProofKit
import Derived.OpenShut
import Derived.ShutString
import Derived.Deep.Strs
namespace Go.Proofs.Ythipckllancohaa.Coder
open Go.ChangeShapes Go.WideShapes Go.ChangeAt Go.RowKit Go.Deep
open Go.ChangeMaps (open_string shut_string)
set_option linter.unusedVariables false

theorem cells_coder : Try.prog.cellsOf 23 = 3 := by kernel_rfl
theorem cells_int : Try.prog.cellsOf 3 = 1 := by kernel_rfl
theorem cells_string : Try.prog.cellsOf 9 = 1 := by kernel_rfl

section
variable {H : Type} {enc : TypeId × Value → H} {w : World} {base : Nat} {sp : Nat → Bool} {held : Bool}

theorem open_coder {r : Reach} {b0 : Nat} {v : Value} {d : DataW H} {ps : List MemPlace} (hval : Value.okWide Try.prog w r b0 23 v) (hd : DataW.Trod enc Try.prog w base sp held 23 v d ps) :
    ∃ (l h : Int) (s : ByteArray), v = .agg #[.int .i64 l, .int .i64 h, .string s] ∧ d = .agg [.lit (.int .i64 l), .lit (.int .i64 h), .lit (.string s.data.toList)] ∧ ps = [] ∧ (Lit.int .i64 l).wf = true ∧ (Lit.int .i64 h).wf = true ∧ s.size ≤ maxLen := by
  obtain ⟨cs, rfl, hsz⟩ := okWide_struct Try.underlying23 hval
  rw [cells_coder] at hsz
  obtain ⟨l⟩ := cs
  match l, hsz with
  | [c0, c1, c2], _ =>
    obtain ⟨fuel, hf⟩ := hd
    obtain ⟨y0, y1, y2, m, hx, _, hy0, hy1, hy2⟩ := trod_struct3 Try.underlying23 hf
    obtain ⟨a, e0, rfl, wa⟩ := DataW.trod_int Try.underlying3 hy0
    obtain ⟨b, e1, rfl, wb⟩ := DataW.trod_int Try.underlying3 hy1
    obtain ⟨s, e2, rfl, ws⟩ := DataW.trod_string Try.underlying9 hy2
    simp [Value.cells, cells_int, cells_string] at e0 e1 e2
    subst e0 e1 e2
    simp only [Prod.mk.injEq] at hx
    obtain ⟨rfl, rfl⟩ := hx
    exact ⟨a, b, s, rfl, rfl, rfl, wa, wb, ws⟩

theorem shut_coder {l h : Int} {s : ByteArray} (wl : (Lit.int .i64 l).wf = true) (wh : (Lit.int .i64 h).wf = true) (ws : s.size ≤ maxLen) :
    DataW.Trod enc Try.prog w base sp held 23 (.agg #[.int .i64 l, .int .i64 h, .string s]) (.agg [.lit (.int .i64 l), .lit (.int .i64 h), .lit (.string s.data.toList)]) [] := ⟨2, by
  have f0 : DataW.trod enc Try.prog w base sp held 1 3 [.int .i64 l] = some (.lit (.int .i64 l), []) := by simp [DataW.trod, Try.underlying3, wl]
  have f1 : DataW.trod enc Try.prog w base sp held 1 3 [.int .i64 h] = some (.lit (.int .i64 h), []) := by simp [DataW.trod, Try.underlying3, wh]
  have f2 : DataW.trod enc Try.prog w base sp held 1 9 [.string s] = some (.lit (.string s.data.toList), []) := by simp [DataW.trod, Try.underlying9, ws]
  have := trod_struct3_mk (enc := enc) (w := w) (base := base) (spare := sp) (held := held) (n := 1) (cs := [.int .i64 l, .int .i64 h, .string s]) Try.underlying23 (by simp [cells_coder]) (by simpa [cells_int] using f0) (by simpa [cells_int] using f1) (by simpa [cells_string] using f2)
  simpa [Value.cells] using this⟩
end

end Go.Proofs.Ythipckllancohaa.Coder
