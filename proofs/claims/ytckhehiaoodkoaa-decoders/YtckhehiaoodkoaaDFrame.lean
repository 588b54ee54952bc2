/-
  A decoder as an argument: what it is where it comes in, and that it reads so again. No condition.
-/
import Derived.Test.YtckhehiaoodkoaaKNum
import Derived.Test.YtckhehiaoodkoaaRows
import Derived.WalkKit
import Derived.ProofKit
import Derived.OpenShut
import Derived.ShutString
import Derived.Deep.Strs
namespace Go.Proofs.Ytckhehiaoodkoaa.Coder
open Go.ChangeShapes Go.WideShapes Go.ChangeAt Go.RowKit Go.Deep
open Go.ChangeMaps (open_string shut_string)
set_option linter.unusedVariables false

theorem cells_decoder : Try.prog.cellsOf 23 = 5 := by kernel_rfl
theorem dcells_int : Try.prog.cellsOf 3 = 1 := by kernel_rfl
theorem dcells_string : Try.prog.cellsOf 9 = 1 := by kernel_rfl

section
variable {H : Type} {enc : TypeId × Value → H} {w : World} {base : Nat} {sp : Nat → Bool} {held : Bool}

theorem open_decoder {r : Reach} {b0 : Nat} {v : Value} {d : DataW H} {ps : List MemPlace} (hval : Value.okWide Try.prog w r b0 23 v) (hd : DataW.Trod enc Try.prog w base sp held 23 v d ps) :
    ∃ (l h x : Int) (s : ByteArray) (k : Int), v = .agg #[.int .i64 l, .int .i64 h, .int .i64 x, .string s, .int .i64 k] ∧ d = .agg [.lit (.int .i64 l), .lit (.int .i64 h), .lit (.int .i64 x), .lit (.string s.data.toList), .lit (.int .i64 k)] ∧ ps = [] ∧ (Lit.int .i64 l).wf = true ∧ (Lit.int .i64 h).wf = true ∧ (Lit.int .i64 x).wf = true ∧ s.size ≤ maxLen ∧ (Lit.int .i64 k).wf = true := by
  obtain ⟨cs, rfl, hsz⟩ := okWide_struct Try.underlying23 hval
  rw [cells_decoder] at hsz
  obtain ⟨l⟩ := cs
  match l, hsz with
  | [c0, c1, c2, c3, c4], _ =>
    obtain ⟨fuel, hf⟩ := hd
    obtain ⟨xs, n, _, hx, _, hlen, hf⟩ := DataW.trod_struct Try.underlying23 hf
    match xs, hlen with
    | [y0, y1, y2, y3, y4], _ =>
      have hy0 := hf 0 _ rfl
      have hy1 := hf 1 _ rfl
      have hy2 := hf 2 _ rfl
      have hy3 := hf 3 _ rfl
      have hy4 := hf 4 _ rfl
      obtain ⟨a, e0, f0, wa⟩ := DataW.trod_int Try.underlying3 hy0
      obtain ⟨b, e1, f1, wb⟩ := DataW.trod_int Try.underlying3 hy1
      obtain ⟨c, e2, f2, wc⟩ := DataW.trod_int Try.underlying3 hy2
      obtain ⟨s, e3, f3, ws⟩ := DataW.trod_string Try.underlying9 hy3
      obtain ⟨k, e4, f4, wk⟩ := DataW.trod_int Try.underlying3 hy4
      simp [Value.cells, dcells_int, dcells_string] at e0 e1 e2 e3 e4 f0 f1 f2 f3 f4
      subst e0 e1 e2 e3 e4 f0 f1 f2 f3 f4
      simp only [Prod.mk.injEq] at hx
      obtain ⟨rfl, rfl⟩ := hx
      exact ⟨a, b, c, s, k, rfl, rfl, rfl, wa, wb, wc, ws, wk⟩

theorem shut_decoder {l h x : Int} {s : ByteArray} {k : Int} (wl : (Lit.int .i64 l).wf = true) (wh : (Lit.int .i64 h).wf = true) (wx : (Lit.int .i64 x).wf = true) (ws : s.size ≤ maxLen) (wk : (Lit.int .i64 k).wf = true) :
    DataW.Trod enc Try.prog w base sp held 23 (.agg #[.int .i64 l, .int .i64 h, .int .i64 x, .string s, .int .i64 k]) (.agg [.lit (.int .i64 l), .lit (.int .i64 h), .lit (.int .i64 x), .lit (.string s.data.toList), .lit (.int .i64 k)]) [] := ⟨2, by
  have f : ∀ n : Int, (Lit.int .i64 n).wf = true → DataW.trod enc Try.prog w base sp held 1 3 [.int .i64 n] = some (.lit (.int .i64 n), []) := fun n hn => by simp [DataW.trod, Try.underlying3, hn]
  have f3 : DataW.trod enc Try.prog w base sp held 1 9 [.string s] = some (.lit (.string s.data.toList), []) := by simp [DataW.trod, Try.underlying9, ws]
  have := trod_struct_mk (enc := enc) (w := w) (base := base) (spare := sp) (held := held) (n := 1) (cs := [.int .i64 l, .int .i64 h, .int .i64 x, .string s, .int .i64 k]) (xs := [(.lit (.int .i64 l), []), (.lit (.int .i64 h), []), (.lit (.int .i64 x), []), (.lit (.string s.data.toList), []), (.lit (.int .i64 k), [])]) Try.underlying23 (by simp [cells_decoder]) (by simp [dcells_int, dcells_string, f l wl, f h wh, f x wx, f3, f k wk])
  simpa [Value.cells] using this⟩
end

end Go.Proofs.Ytckhehiaoodkoaa.Coder
