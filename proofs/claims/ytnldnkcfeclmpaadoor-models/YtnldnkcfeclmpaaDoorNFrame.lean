/-
  A model as an argument: what it is where it comes in, and that it reads so again. No condition.
-/
import Derived.Test.YtnldnkcfeclmpaaDoorNLaw
import Derived.Test.YtnldnkcfeclmpaaDoorGPlain
import Derived.Test.YtnldnkcfeclmpaaDoorRows
import Derived.WalkKit
import Derived.ProofKit
import Derived.OpenShut
import Derived.Deep.Strs
namespace Go.Proofs.YtnldnkcfeclmpaaDoor.Mod
open Go.ChangeShapes Go.WideShapes Go.ChangeAt Go.RowKit Go.Deep
set_option linter.unusedVariables false
set_option linter.unusedSimpArgs false

section
variable {H : Type} {enc : TypeId × Value → H} {w : World} {base : Nat} {sp : Nat → Bool} {held : Bool}

theorem cells3 : Tryd.prog.cellsOf 3 = 1 := by kernel_rfl
theorem cells22 : Tryd.prog.cellsOf 22 = 64 := by kernel_rfl
theorem cells23 : Tryd.prog.cellsOf 23 = 192 := by kernel_rfl
theorem cells24 : Tryd.prog.cellsOf 24 = 3 := by kernel_rfl
theorem cells26 : Tryd.prog.cellsOf 26 = 195 := by kernel_rfl

theorem plain_model (fuel : Nat) (cs : List Value) (y : DataW H × List MemPlace) (h : DataW.trod enc Tryd.prog w base sp held fuel 26 cs = some y) : Plain enc 26 fuel cs y := by
  have row := plain_array (enc := enc) (w := w) (base := base) (sp := sp) (held := held) Tryd.underlying22 cells3 (cells22.trans (by decide)) (by decide) plain_int
  have grid := plain_array (enc := enc) (w := w) (base := base) (sp := sp) (held := held) Tryd.underlying23 cells22 (cells23.trans (by decide)) (by decide) row
  have wts := plain_array (enc := enc) (w := w) (base := base) (sp := sp) (held := held) Tryd.underlying24 cells3 (cells24.trans (by decide)) (by decide) plain_int
  have h0 := h
  obtain ⟨xs, m, rfl, hy, hl, hn, hel⟩ := DataW.trod_struct Tryd.underlying26 h
  rw [cells26] at hl
  match xs, hn with
  | [y0, y1], _ =>
    have g0 : DataW.trod enc Tryd.prog w base sp held m 23 ((cs.drop 0).take (Tryd.prog.cellsOf 23)) = some y0 := hel 0 _ rfl
    have g1 : DataW.trod enc Tryd.prog w base sp held m 24 ((cs.drop 192).take (Tryd.prog.cellsOf 24)) = some y1 := hel 1 _ rfl
    have p0 := grid _ _ _ g0
    have p1 := wts _ _ _ g1
    refine ⟨fun v hv => ?_, ?_, fun w' base' sp' held' => ?_⟩
    · obtain ⟨k, hk, rfl⟩ := List.mem_iff_getElem.1 hv
      by_cases hk1 : k < 192
      · refine p0.1 _ ?_
        rw [List.mem_iff_getElem?]
        refine ⟨k, ?_⟩
        rw [cells23, List.getElem?_take_of_lt hk1, List.getElem?_drop, Nat.zero_add, List.getElem?_eq_getElem]
      · refine p1.1 _ ?_
        rw [List.mem_iff_getElem?]
        refine ⟨k - 192, ?_⟩
        rw [cells24, List.getElem?_take_of_lt (by omega), List.getElem?_drop, show 192 + (k - 192) = k by omega, List.getElem?_eq_getElem]
    · rw [hy]
      show y0.2 ++ (y1.2 ++ []) = []
      rw [p0.2.1, p1.2.1]
      rfl
    · rw [← h0]
      unfold DataW.trod
      simp only [Tryd.underlying26]
      rw [mapM_same _ (g := fun f => DataW.trod enc Tryd.prog w base sp held m f.type ((cs.drop f.offset).take (Tryd.prog.cellsOf f.type)))]
      intro f hf
      simp only [List.mem_cons, List.not_mem_nil, or_false] at hf
      rcases hf with rfl | rfl
      · exact (p0.2.2 w' base' sp' held').trans g0.symm
      · exact (p1.2.2 w' base' sp' held').trans g1.symm

theorem open_model {r : Reach} {b0 : Nat} {v : Value} {d : DataW H} {ps : List MemPlace} (hval : Value.okWide Tryd.prog w r b0 26 v) (hd : DataW.Trod enc Tryd.prog w base sp held 26 v d ps) :
    ∃ L : List Int, v = mdl L ∧ L.length = 195 ∧ ps = [] ∧ ∀ (w' : World) (base' : Nat) (sp' : Nat → Bool) (held' : Bool), DataW.Trod enc Tryd.prog w' base' sp' held' 26 (mdl L) d [] := by
  obtain ⟨cs, rfl, hsz⟩ := okWide_struct Tryd.underlying26 hval
  rw [cells26] at hsz
  obtain ⟨fuel, hf⟩ := hd
  obtain ⟨p1, p2, p3⟩ := plain_model fuel _ _ hf
  have e : (Value.agg cs).cells.toList = cs.toList := rfl
  rw [e] at p1
  have ev := ints_of _ p1
  have em : Value.agg cs = mdl (cs.toList.map intOf) := by
    show Value.agg cs = Value.agg (vals (cs.toList.map intOf)).toArray
    rw [← ev, Array.toArray_toList]
  refine ⟨cs.toList.map intOf, em, by simpa using hsz, p2, fun w' base' sp' held' => ?_⟩
  have q := p3 w' base' sp' held'
  have ps0 : ps = [] := p2
  subst ps0
  rw [← em]
  exact ⟨fuel, q⟩
end

end Go.Proofs.YtnldnkcfeclmpaaDoor.Mod
