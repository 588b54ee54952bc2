/-
  A format as an argument: what it is where it comes in, and that it reads so again. No condition.
-/
import Derived.Test.YtpakcajdbibbbaaGPlain
import Derived.Test.YtpakcajdbibbbaaRows
import Derived.WalkKit
import Derived.ProofKit
import Derived.OpenShut
import Derived.Deep.Strs
namespace Go.Proofs.Ytpakcajdbibbbaa.Fmt
open Go.ChangeShapes Go.WideShapes Go.ChangeAt Go.RowKit Go.Deep Go.Proofs.Ytpakcajdbibbbaa.Mod
set_option linter.unusedVariables false
set_option linter.unusedSimpArgs false

section
variable {H : Type} {enc : TypeId × Value → H} {w : World} {base : Nat} {sp : Nat → Bool} {held : Bool}

theorem cells_int : Try.prog.cellsOf 3 = 1 := by kernel_rfl
theorem cells_fmt : Try.prog.cellsOf 24 = 2 := by kernel_rfl

theorem plain_fmt (fuel : Nat) (cs : List Value) (y : DataW H × List MemPlace) (h : DataW.trod enc Try.prog w base sp held fuel 24 cs = some y) : Plain enc 24 fuel cs y := by
  have h0 := h
  obtain ⟨xs, m, rfl, hy, hl, hn, hel⟩ := DataW.trod_struct Try.underlying24 h
  rw [cells_fmt] at hl
  match xs, hn with
  | [y0, y1], _ =>
    have g0 : DataW.trod enc Try.prog w base sp held m 3 ((cs.drop 0).take (Try.prog.cellsOf 3)) = some y0 := hel 0 _ rfl
    have g1 : DataW.trod enc Try.prog w base sp held m 3 ((cs.drop 1).take (Try.prog.cellsOf 3)) = some y1 := hel 1 _ rfl
    have p0 : Plain enc 3 m _ y0 := plain_int (enc := enc) (w := w) (base := base) (sp := sp) (held := held) m ((cs.drop 0).take 1) y0 (cells_int ▸ g0)
    have p1 : Plain enc 3 m _ y1 := plain_int (enc := enc) (w := w) (base := base) (sp := sp) (held := held) m ((cs.drop 1).take 1) y1 (cells_int ▸ g1)
    refine ⟨fun v hv => ?_, ?_, fun w' base' sp' held' => ?_⟩
    · obtain ⟨k, hk, rfl⟩ := List.mem_iff_getElem.1 hv
      by_cases hk1 : k < 1
      · refine p0.1 _ ?_
        rw [List.mem_iff_getElem?]
        refine ⟨k, ?_⟩
        rw [List.getElem?_take_of_lt hk1, List.getElem?_drop, Nat.zero_add, List.getElem?_eq_getElem]
      · refine p1.1 _ ?_
        rw [List.mem_iff_getElem?]
        refine ⟨k - 1, ?_⟩
        rw [List.getElem?_take_of_lt (by omega), List.getElem?_drop, show 1 + (k - 1) = k by omega, List.getElem?_eq_getElem]
    · rw [hy]
      show y0.2 ++ (y1.2 ++ []) = []
      rw [p0.2.1, p1.2.1]
      rfl
    · rw [← h0]
      unfold DataW.trod
      simp only [Try.underlying24]
      rw [mapM_same _ (g := fun f => DataW.trod enc Try.prog w base sp held m f.type ((cs.drop f.offset).take (Try.prog.cellsOf f.type)))]
      intro f hf
      simp only [List.mem_cons, List.not_mem_nil, or_false] at hf
      rcases hf with rfl | rfl
      · exact (by rw [cells_int]; exact p0.2.2 w' base' sp' held' : DataW.trod enc Try.prog w' base' sp' held' m 3 ((cs.drop 0).take (Try.prog.cellsOf 3)) = some y0).trans g0.symm
      · exact (by rw [cells_int]; exact p1.2.2 w' base' sp' held' : DataW.trod enc Try.prog w' base' sp' held' m 3 ((cs.drop 1).take (Try.prog.cellsOf 3)) = some y1).trans g1.symm

theorem open_fmt {r : Reach} {b0 : Nat} {v : Value} {d : DataW H} {ps : List MemPlace} (hval : Value.okWide Try.prog w r b0 24 v) (hd : DataW.Trod enc Try.prog w base sp held 24 v d ps) :
    ∃ L : List Int, v = mdl L ∧ L.length = 2 ∧ ps = [] ∧ ∀ (w' : World) (base' : Nat) (sp' : Nat → Bool) (held' : Bool), DataW.Trod enc Try.prog w' base' sp' held' 24 (mdl L) d [] := by
  obtain ⟨cs, rfl, hsz⟩ := okWide_struct Try.underlying24 hval
  rw [cells_fmt] at hsz
  obtain ⟨fuel, hf⟩ := hd
  obtain ⟨p1, p2, p3⟩ := plain_fmt fuel _ _ hf
  have e : (Value.agg cs).cells.toList = cs.toList := rfl
  rw [e] at p1
  have ev := ints_of _ p1
  have em : Value.agg cs = mdl (cs.toList.map intOf) := by
    show Value.agg cs = Value.agg (vals (cs.toList.map intOf)).toArray
    rw [← ev, Array.toArray_toList]
  refine ⟨cs.toList.map intOf, em, by simpa using hsz, p2, fun w' base' sp' held' => ?_⟩
  have q := p3 w' base' sp' held'
  have ps0 : ps = [] := p2
  subst ps0
  rw [← em]
  exact ⟨fuel, q⟩
end

end Go.Proofs.Ytpakcajdbibbbaa.Fmt
