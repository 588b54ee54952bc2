/-
  A chain as an argument: what it is where it comes in, and that it reads so again. No condition.
-/
import Derived.Test.YteihdihplgjclaaLFrame
namespace Go.Proofs.Yteihdihplgjclaa.Chn
open Go.ChangeShapes Go.WideShapes Go.ChangeAt Go.RowKit Go.Deep Go.Proofs.Yteihdihplgjclaa.Mod Go.Proofs.Yteihdihplgjclaa.Lin
set_option linter.unusedVariables false
set_option linter.unusedSimpArgs false

section
variable {H : Type} {enc : TypeId × Value → H} {w : World} {base : Nat} {sp : Nat → Bool} {held : Bool}

theorem cells33 : Try.prog.cellsOf 26 = 33 := by kernel_rfl

theorem plain_chain (fuel : Nat) (cs : List Value) (y : DataW H × List MemPlace) (h : DataW.trod enc Try.prog w base sp held fuel 26 cs = some y) : Plain enc 26 fuel cs y := by
  have h0 := h
  obtain ⟨xs, m, rfl, hy, hl, hn, hel⟩ := DataW.trod_struct Try.underlying26 h
  rw [cells33] at hl
  match xs, hn with
  | [y0, y1, y2], _ =>
    have g0 : DataW.trod enc Try.prog w base sp held m 3 ((cs.drop 0).take (Try.prog.cellsOf 3)) = some y0 := hel 0 _ rfl
    have g1 : DataW.trod enc Try.prog w base sp held m 24 ((cs.drop 1).take (Try.prog.cellsOf 24)) = some y1 := hel 1 _ rfl
    have g2 : DataW.trod enc Try.prog w base sp held m 24 ((cs.drop 17).take (Try.prog.cellsOf 24)) = some y2 := hel 2 _ rfl
    have p0 : Plain enc 3 m _ y0 := plain_int (enc := enc) (w := w) (base := base) (sp := sp) (held := held) m ((cs.drop 0).take 1) y0 (cells3 ▸ g0)
    have p1 := plain_lms _ _ _ g1
    have p2 := plain_lms _ _ _ g2
    refine ⟨fun v hv => ?_, ?_, fun w' base' sp' held' => ?_⟩
    · obtain ⟨k, hk, rfl⟩ := List.mem_iff_getElem.1 hv
      rcases (by omega : k < 1 ∨ (1 ≤ k ∧ k < 17) ∨ 17 ≤ k) with hk1 | hk1 | hk1
      · refine p0.1 _ ?_
        rw [List.mem_iff_getElem?]
        refine ⟨k, ?_⟩
        rw [List.getElem?_take_of_lt hk1, List.getElem?_drop, Nat.zero_add, List.getElem?_eq_getElem]
      · refine p1.1 _ ?_
        rw [List.mem_iff_getElem?]
        refine ⟨k - 1, ?_⟩
        rw [cells16, List.getElem?_take_of_lt (by omega), List.getElem?_drop, show 1 + (k - 1) = k by omega, List.getElem?_eq_getElem]
      · refine p2.1 _ ?_
        rw [List.mem_iff_getElem?]
        refine ⟨k - 17, ?_⟩
        rw [cells16, List.getElem?_take_of_lt (by omega), List.getElem?_drop, show 17 + (k - 17) = k by omega, List.getElem?_eq_getElem]
    · rw [hy]
      show y0.2 ++ (y1.2 ++ (y2.2 ++ [])) = []
      rw [p0.2.1, p1.2.1, p2.2.1]
      rfl
    · rw [← h0]
      unfold DataW.trod
      simp only [Try.underlying26]
      rw [mapM_same _ (g := fun f => DataW.trod enc Try.prog w base sp held m f.type ((cs.drop f.offset).take (Try.prog.cellsOf f.type)))]
      intro f hf
      simp only [List.mem_cons, List.not_mem_nil, or_false] at hf
      rcases hf with rfl | rfl | rfl
      · exact (by rw [cells3]; exact p0.2.2 w' base' sp' held' : DataW.trod enc Try.prog w' base' sp' held' m 3 ((cs.drop 0).take (Try.prog.cellsOf 3)) = some y0).trans g0.symm
      · exact (p1.2.2 w' base' sp' held').trans g1.symm
      · exact (p2.2.2 w' base' sp' held').trans g2.symm

theorem open_chain {r : Reach} {b0 : Nat} {v : Value} {d : DataW H} {ps : List MemPlace} (hval : Value.okWide Try.prog w r b0 26 v) (hd : DataW.Trod enc Try.prog w base sp held 26 v d ps) :
    ∃ L : List Int, v = mdl L ∧ L.length = 33 ∧ ps = [] ∧ ∀ (w' : World) (base' : Nat) (sp' : Nat → Bool) (held' : Bool), DataW.Trod enc Try.prog w' base' sp' held' 26 (mdl L) d [] := by
  obtain ⟨cs, rfl, hsz⟩ := okWide_struct Try.underlying26 hval
  rw [cells33] at hsz
  obtain ⟨fuel, hf⟩ := hd
  obtain ⟨p1, p2, p3⟩ := plain_chain fuel _ _ hf
  have e : (Value.agg cs).cells.toList = cs.toList := rfl
  rw [e] at p1
  have ev := ints_of _ p1
  have em : Value.agg cs = mdl (cs.toList.map intOf) := by
    show Value.agg cs = Value.agg (vals (cs.toList.map intOf)).toArray
    rw [← ev, Array.toArray_toList]
  refine ⟨cs.toList.map intOf, em, by simpa using hsz, p2, fun w' base' sp' held' => ?_⟩
  have q := p3 w' base' sp' held'
  have ps0 : ps = [] := p2
  subst ps0
  rw [← em]
  exact ⟨fuel, q⟩
end

end Go.Proofs.Yteihdihplgjclaa.Chn
