/-
  A model as an argument: what it is where it comes in, and that it reads so again. No condition.
-/
import Derived.Test.YtpljlekidfbemaaDoorNLaw
import Derived.Test.YtpljlekidfbemaaDoorRows
import Derived.WalkKit
import Derived.ProofKit
import Derived.OpenShut
import Derived.Deep.Strs
namespace Go.Proofs.YtpljlekidfbemaaDoor.Mod
open Go.ChangeShapes Go.WideShapes Go.ChangeAt Go.RowKit Go.Deep
set_option linter.unusedVariables false
set_option linter.unusedSimpArgs false

theorem mapM_same {α β : Type} {f g : α → Option β} : ∀ (l : List α), (∀ a ∈ l, f a = g a) → l.mapM f = l.mapM g
  | [], _ => rfl
  | a :: r, h => by
    rw [List.mapM_cons, List.mapM_cons, h a (by simp), mapM_same r (fun b hb => h b (by simp [hb]))]

theorem ints_of : ∀ (l : List Value), (∀ v ∈ l, ∃ x : Int, v = .int .i64 x) → l = vals (l.map intOf)
  | [], _ => rfl
  | v :: r, h => by
    obtain ⟨x, rfl⟩ := h v (by simp)
    have := ints_of r (fun u hu => h u (by simp [hu]))
    simp only [vals, List.map_cons] at this ⊢
    rw [← this]
    rfl

section
variable {H : Type} {enc : TypeId × Value → H} {w : World} {base : Nat} {sp : Nat → Bool} {held : Bool}

/-- The cells are ints, what is read names no place, and it is read so in every world. -/
def Plain (enc : TypeId × Value → H) (t : TypeId) (fuel : Nat) (cs : List Value) (y : DataW H × List MemPlace) : Prop :=
  (∀ v ∈ cs, ∃ x : Int, v = .int .i64 x) ∧ y.2 = [] ∧ ∀ (w' : World) (base' : Nat) (sp' : Nat → Bool) (held' : Bool), DataW.trod enc Tryd.prog w' base' sp' held' fuel t cs = some y

theorem plain_int (fuel : Nat) (cs : List Value) (y : DataW H × List MemPlace) (h : DataW.trod enc Tryd.prog w base sp held fuel 3 cs = some y) : Plain enc 3 fuel cs y := by
  obtain ⟨x, e0, f0, wx⟩ := DataW.trod_int Tryd.underlying3 h
  cases fuel with
  | zero => simp [DataW.trod] at h
  | succ m =>
    subst e0 f0
    refine ⟨fun v hv => ⟨x, by simpa using hv⟩, rfl, fun w' base' sp' held' => ?_⟩
    simp [DataW.trod, Tryd.underlying3, wx]

theorem plain_array {t e : TypeId} {n c : Nat} (hu : Tryd.prog.underlying t = some (.array n e)) (he : Tryd.prog.cellsOf e = c) (ht : Tryd.prog.cellsOf t = n * c) (hc : 0 < c)
    (IH : ∀ (fuel : Nat) (cs : List Value) (y : DataW H × List MemPlace), DataW.trod enc Tryd.prog w base sp held fuel e cs = some y → Plain enc e fuel cs y)
    (fuel : Nat) (cs : List Value) (y : DataW H × List MemPlace) (h : DataW.trod enc Tryd.prog w base sp held fuel t cs = some y) : Plain enc t fuel cs y := by
  obtain ⟨xs, m, rfl, hy, hl, hn, hel⟩ := DataW.trod_array hu h
  rw [ht] at hl
  rw [he] at hel
  have hp : ∀ i (hi : i < n), Plain enc e m ((cs.drop (i * c)).take c) (xs[i]'(by omega)) := fun i hi => IH m _ _ (by rw [hel i hi, List.getElem?_eq_getElem])
  refine ⟨fun v hv => ?_, ?_, fun w' base' sp' held' => ?_⟩
  · obtain ⟨k, hk, rfl⟩ := List.mem_iff_getElem.1 hv
    have h1 : k / c < n := Nat.div_lt_of_lt_mul (by rw [Nat.mul_comm]; omega)
    refine (hp (k / c) h1).1 _ ?_
    have h2 : k % c < c := Nat.mod_lt _ hc
    have h3 : k / c * c + k % c = k := by rw [Nat.mul_comm]; exact Nat.div_add_mod k c
    rw [List.mem_iff_getElem?]
    refine ⟨k % c, ?_⟩
    rw [List.getElem?_take_of_lt h2, List.getElem?_drop, h3, List.getElem?_eq_getElem]
  · rw [hy]
    show xs.flatMap (·.2) = []
    rw [List.flatMap_eq_nil_iff]
    intro z hz
    obtain ⟨i, hi, rfl⟩ := List.mem_iff_getElem.1 hz
    exact (hp i (by omega)).2.1
  · rw [← h]
    unfold DataW.trod
    simp only [hu]
    rw [mapM_same (List.range n) (g := fun i => DataW.trod enc Tryd.prog w base sp held m e ((cs.drop (i * Tryd.prog.cellsOf e)).take (Tryd.prog.cellsOf e)))]
    intro i hi
    have hi' : i < n := by simpa using hi
    rw [he, hel i hi', (hp i hi').2.2 w' base' sp' held', List.getElem?_eq_getElem]

theorem cells3 : Tryd.prog.cellsOf 3 = 1 := by kernel_rfl
theorem cells22 : Tryd.prog.cellsOf 22 = 64 := by kernel_rfl
theorem cells23 : Tryd.prog.cellsOf 23 = 192 := by kernel_rfl
theorem cells24 : Tryd.prog.cellsOf 24 = 3 := by kernel_rfl
theorem cells26 : Tryd.prog.cellsOf 26 = 195 := by kernel_rfl

theorem plain_model (fuel : Nat) (cs : List Value) (y : DataW H × List MemPlace) (h : DataW.trod enc Tryd.prog w base sp held fuel 26 cs = some y) : Plain enc 26 fuel cs y := by
  have row := plain_array (enc := enc) (w := w) (base := base) (sp := sp) (held := held) Tryd.underlying22 cells3 (cells22.trans (by decide)) (by decide) plain_int
  have grid := plain_array (enc := enc) (w := w) (base := base) (sp := sp) (held := held) Tryd.underlying23 cells22 (cells23.trans (by decide)) (by decide) row
  have wts := plain_array (enc := enc) (w := w) (base := base) (sp := sp) (held := held) Tryd.underlying24 cells3 (cells24.trans (by decide)) (by decide) plain_int
  have h0 := h
  obtain ⟨xs, m, rfl, hy, hl, hn, hel⟩ := DataW.trod_struct Tryd.underlying26 h
  rw [cells26] at hl
  match xs, hn with
  | [y0, y1], _ =>
    have g0 : DataW.trod enc Tryd.prog w base sp held m 23 ((cs.drop 0).take (Tryd.prog.cellsOf 23)) = some y0 := hel 0 _ rfl
    have g1 : DataW.trod enc Tryd.prog w base sp held m 24 ((cs.drop 192).take (Tryd.prog.cellsOf 24)) = some y1 := hel 1 _ rfl
    have p0 := grid _ _ _ g0
    have p1 := wts _ _ _ g1
    refine ⟨fun v hv => ?_, ?_, fun w' base' sp' held' => ?_⟩
    · obtain ⟨k, hk, rfl⟩ := List.mem_iff_getElem.1 hv
      by_cases hk1 : k < 192
      · refine p0.1 _ ?_
        rw [List.mem_iff_getElem?]
        refine ⟨k, ?_⟩
        rw [cells23, List.getElem?_take_of_lt hk1, List.getElem?_drop, Nat.zero_add, List.getElem?_eq_getElem]
      · refine p1.1 _ ?_
        rw [List.mem_iff_getElem?]
        refine ⟨k - 192, ?_⟩
        rw [cells24, List.getElem?_take_of_lt (by omega), List.getElem?_drop, show 192 + (k - 192) = k by omega, List.getElem?_eq_getElem]
    · rw [hy]
      show y0.2 ++ (y1.2 ++ []) = []
      rw [p0.2.1, p1.2.1]
      rfl
    · rw [← h0]
      unfold DataW.trod
      simp only [Tryd.underlying26]
      rw [mapM_same _ (g := fun f => DataW.trod enc Tryd.prog w base sp held m f.type ((cs.drop f.offset).take (Tryd.prog.cellsOf f.type)))]
      intro f hf
      simp only [List.mem_cons, List.not_mem_nil, or_false] at hf
      rcases hf with rfl | rfl
      · exact (p0.2.2 w' base' sp' held').trans g0.symm
      · exact (p1.2.2 w' base' sp' held').trans g1.symm

theorem open_model {r : Reach} {b0 : Nat} {v : Value} {d : DataW H} {ps : List MemPlace} (hval : Value.okWide Tryd.prog w r b0 26 v) (hd : DataW.Trod enc Tryd.prog w base sp held 26 v d ps) :
    ∃ L : List Int, v = mdl L ∧ L.length = 195 ∧ ps = [] ∧ ∀ (w' : World) (base' : Nat) (sp' : Nat → Bool) (held' : Bool), DataW.Trod enc Tryd.prog w' base' sp' held' 26 (mdl L) d [] := by
  obtain ⟨cs, rfl, hsz⟩ := okWide_struct Tryd.underlying26 hval
  rw [cells26] at hsz
  obtain ⟨fuel, hf⟩ := hd
  obtain ⟨p1, p2, p3⟩ := plain_model fuel _ _ hf
  have e : (Value.agg cs).cells.toList = cs.toList := rfl
  rw [e] at p1
  have ev := ints_of _ p1
  have em : Value.agg cs = mdl (cs.toList.map intOf) := by
    show Value.agg cs = Value.agg (vals (cs.toList.map intOf)).toArray
    rw [← ev, Array.toArray_toList]
  refine ⟨cs.toList.map intOf, em, by simpa using hsz, p2, fun w' base' sp' held' => ?_⟩
  have q := p3 w' base' sp' held'
  have ps0 : ps = [] := p2
  subst ps0
  rw [← em]
  exact ⟨fuel, q⟩
end

end Go.Proofs.YtpljlekidfbemaaDoor.Mod
