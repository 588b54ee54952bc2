/-
  A wave as an argument: what it is where it comes in, and that it reads so again. No condition.
-/
import Derived.Test.YthbjjjpleongbaaNum
import Derived.Test.YthbjjjpleongbaaRows
import Derived.WalkKit
import Derived.ProofKit
import Derived.OpenShut
import Derived.ShutString
import Derived.SizedLaws
import Derived.Deep.Strs
namespace Go.Proofs.Ythbjjjpleongbaa.Wvf
open Go.ChangeShapes Go.WideShapes Go.ChangeAt Go.RowKit Go.Deep
open Go.ChangeMaps (open_string shut_string)
set_option linter.unusedVariables false

theorem cells_wave : Try.prog.cellsOf 25 = 5 := by kernel_rfl
theorem cells_fmt : Try.prog.cellsOf 23 = 2 := by kernel_rfl
theorem cells_int : Try.prog.cellsOf 3 = 1 := by kernel_rfl
theorem cells_str : Try.prog.cellsOf 9 = 1 := by kernel_rfl

section
variable {H : Type} {enc : TypeId × Value → H} {w : World} {base : Nat} {sp : Nat → Bool} {held : Bool}

/-- What is told of a wave's parts. -/
abbrev wdata (c b : Int) (h d t : ByteArray) : DataW H := .agg [.agg [.lit (.int .i64 c), .lit (.int .i64 b)], .lit (.string h.data.toList), .lit (.string d.data.toList), .lit (.string t.data.toList)]

theorem open_wave {r : Reach} {b0 : Nat} {v : Value} {d : DataW H} {ps : List MemPlace} (hval : Value.okWide Try.prog w r b0 25 v) (hd : DataW.Trod enc Try.prog w base sp held 25 v d ps) :
    ∃ (c b : Int) (h x t : ByteArray), v = .agg #[.int .i64 c, .int .i64 b, .string h, .string x, .string t] ∧ d = wdata c b h x t ∧ ps = [] ∧ (Lit.int .i64 c).wf = true ∧ (Lit.int .i64 b).wf = true ∧ h.size ≤ maxLen ∧ x.size ≤ maxLen ∧ t.size ≤ maxLen := by
  obtain ⟨cs, rfl, hsz⟩ := okWide_struct Try.underlying25 hval
  rw [cells_wave] at hsz
  obtain ⟨l⟩ := cs
  match l, hsz with
  | [c0, c1, c2, c3, c4], _ =>
    obtain ⟨fuel, hf⟩ := hd
    obtain ⟨xs, n, _, hx, _, hlen, hf⟩ := DataW.trod_struct Try.underlying25 hf
    match xs, hlen with
    | [y0, y1, y2, y3], _ =>
      have hy0 := hf 0 _ rfl
      have hy1 := hf 1 _ rfl
      have hy2 := hf 2 _ rfl
      have hy3 := hf 3 _ rfl
      obtain ⟨zs, m, _, gx, _, glen, gf⟩ := DataW.trod_struct Try.underlying23 hy0
      match zs, glen with
      | [u0, u1], _ =>
        obtain ⟨a, e0, f0, wa⟩ := DataW.trod_int Try.underlying3 (gf 0 _ rfl)
        obtain ⟨b, e1, f1, wb⟩ := DataW.trod_int Try.underlying3 (gf 1 _ rfl)
        obtain ⟨s1, e2, f2, w1⟩ := DataW.trod_string Try.underlying9 hy1
        obtain ⟨s2, e3, f3, w2⟩ := DataW.trod_string Try.underlying9 hy2
        obtain ⟨s3, e4, f4, w3⟩ := DataW.trod_string Try.underlying9 hy3
        simp [Value.cells, cells_int, cells_str, cells_fmt] at e0 e1 e2 e3 e4 f0 f1 f2 f3 f4
        subst e0 e1 e2 e3 e4 f0 f1 f2 f3 f4
        subst gx
        simp only [Prod.mk.injEq] at hx
        obtain ⟨rfl, rfl⟩ := hx
        exact ⟨a, b, s1, s2, s3, rfl, rfl, rfl, wa, wb, w1, w2, w3⟩

theorem shut_wave {c b : Int} {h x t : ByteArray} (wc : (Lit.int .i64 c).wf = true) (wb : (Lit.int .i64 b).wf = true) (wh : h.size ≤ maxLen) (wx : x.size ≤ maxLen) (wt : t.size ≤ maxLen) :
    DataW.Trod enc Try.prog w base sp held 25 (.agg #[.int .i64 c, .int .i64 b, .string h, .string x, .string t]) (wdata c b h x t) [] := ⟨3, by
  have f : ∀ n : Int, (Lit.int .i64 n).wf = true → DataW.trod enc Try.prog w base sp held 1 3 [.int .i64 n] = some (.lit (.int .i64 n), []) := fun n hn => by simp [DataW.trod, Try.underlying3, hn]
  have fs : ∀ s : ByteArray, s.size ≤ maxLen → DataW.trod enc Try.prog w base sp held 2 9 [.string s] = some (.lit (.string s.data.toList), []) := fun s hs => by simp [DataW.trod, Try.underlying9, hs]
  have ff := trod_struct_mk (enc := enc) (w := w) (base := base) (spare := sp) (held := held) (n := 1) (cs := [.int .i64 c, .int .i64 b]) (xs := [(.lit (.int .i64 c), []), (.lit (.int .i64 b), [])]) Try.underlying23 (by simp [cells_fmt]) (by simp [cells_int, f c wc, f b wb])
  have ff2 : DataW.trod enc Try.prog w base sp held 2 23 [.int .i64 c, .int .i64 b] = some (.agg [.lit (.int .i64 c), .lit (.int .i64 b)], []) := by simpa using ff
  have := trod_struct_mk (enc := enc) (w := w) (base := base) (spare := sp) (held := held) (n := 2) (cs := [.int .i64 c, .int .i64 b, .string h, .string x, .string t]) (xs := [(.agg [.lit (.int .i64 c), .lit (.int .i64 b)], []), (.lit (.string h.data.toList), []), (.lit (.string x.data.toList), []), (.lit (.string t.data.toList), [])]) Try.underlying25 (by simp [cells_wave]) (by simp [cells_fmt, cells_str, fs h wh, fs x wx, fs t wt, ff2])
  simpa [Value.cells] using this⟩

/-- Within the reach, where all that came in is. -/
theorem sized_wave {ts : List TypeId} {ds : List (DataW H)} (hs : (DataW.weightsEach Try.prog ts ds).all (· ≤ reachBytes) = true) {j : Nat} {c b : Int} {h x t : ByteArray} (ht : ts[j]? = some 25) (hd : ds[j]? = some (wdata c b h x t)) :
    h.size ≤ 140737488351232 ∧ x.size ≤ 140737488351232 ∧ t.size ≤ 140737488351232 := by
  have key : ∀ s : ByteArray, s.data.toList.length ∈ (wdata c b h x t : DataW H).weights Try.prog 25 → s.size ≤ 140737488351232 := fun s hm => by
    have := List.all_eq_true.1 hs _ (DataW.weights_mem_each ht hd _ hm)
    have e : s.size = s.data.toList.length := by rw [Array.length_toList]; rfl
    rw [e]
    exact of_decide_eq_true this
  refine ⟨key h ?_, key x ?_, key t ?_⟩ <;> simp [DataW.weights, DataW.weightsEach, Try.underlying25]
end

end Go.Proofs.Ythbjjjpleongbaa.Wvf
