/-
  Arguments whose cells are ints: what is read of them names no place, and is read so in every world. No condition.
-/
import Derived.Test.YtpakcajdbibbbaaGLaw
import Derived.WalkKit
import Derived.ProofKit
import Derived.OpenShut
import Derived.Deep.Strs
namespace Go.Proofs.Ytpakcajdbibbbaa.Mod
open Go.ChangeShapes Go.WideShapes Go.ChangeAt Go.RowKit Go.Deep
set_option linter.unusedVariables false
set_option linter.unusedSimpArgs false

theorem mapM_same {α β : Type} {f g : α → Option β} : ∀ (l : List α), (∀ a ∈ l, f a = g a) → l.mapM f = l.mapM g
  | [], _ => rfl
  | a :: r, h => by
    rw [List.mapM_cons, List.mapM_cons, h a (by simp), mapM_same r (fun b hb => h b (by simp [hb]))]

theorem ints_of : ∀ (l : List Value), (∀ v ∈ l, ∃ x : Int, v = .int .i64 x) → l = vals (l.map intOf)
  | [], _ => rfl
  | v :: r, h => by
    obtain ⟨x, rfl⟩ := h v (by simp)
    have := ints_of r (fun u hu => h u (by simp [hu]))
    simp only [vals, List.map_cons] at this ⊢
    rw [← this]
    rfl

section
variable {H : Type} {enc : TypeId × Value → H} {w : World} {base : Nat} {sp : Nat → Bool} {held : Bool}

/-- The cells are ints, what is read names no place, and it is read so in every world. -/
def Plain (enc : TypeId × Value → H) (t : TypeId) (fuel : Nat) (cs : List Value) (y : DataW H × List MemPlace) : Prop :=
  (∀ v ∈ cs, ∃ x : Int, v = .int .i64 x) ∧ y.2 = [] ∧ ∀ (w' : World) (base' : Nat) (sp' : Nat → Bool) (held' : Bool), DataW.trod enc Try.prog w' base' sp' held' fuel t cs = some y

theorem plain_int (fuel : Nat) (cs : List Value) (y : DataW H × List MemPlace) (h : DataW.trod enc Try.prog w base sp held fuel 3 cs = some y) : Plain enc 3 fuel cs y := by
  obtain ⟨x, e0, f0, wx⟩ := DataW.trod_int Try.underlying3 h
  cases fuel with
  | zero => simp [DataW.trod] at h
  | succ m =>
    subst e0 f0
    refine ⟨fun v hv => ⟨x, by simpa using hv⟩, rfl, fun w' base' sp' held' => ?_⟩
    simp [DataW.trod, Try.underlying3, wx]

theorem plain_array {t e : TypeId} {n c : Nat} (hu : Try.prog.underlying t = some (.array n e)) (he : Try.prog.cellsOf e = c) (ht : Try.prog.cellsOf t = n * c) (hc : 0 < c)
    (IH : ∀ (fuel : Nat) (cs : List Value) (y : DataW H × List MemPlace), DataW.trod enc Try.prog w base sp held fuel e cs = some y → Plain enc e fuel cs y)
    (fuel : Nat) (cs : List Value) (y : DataW H × List MemPlace) (h : DataW.trod enc Try.prog w base sp held fuel t cs = some y) : Plain enc t fuel cs y := by
  obtain ⟨xs, m, rfl, hy, hl, hn, hel⟩ := DataW.trod_array hu h
  rw [ht] at hl
  rw [he] at hel
  have hp : ∀ i (hi : i < n), Plain enc e m ((cs.drop (i * c)).take c) (xs[i]'(by omega)) := fun i hi => IH m _ _ (by rw [hel i hi, List.getElem?_eq_getElem])
  refine ⟨fun v hv => ?_, ?_, fun w' base' sp' held' => ?_⟩
  · obtain ⟨k, hk, rfl⟩ := List.mem_iff_getElem.1 hv
    have h1 : k / c < n := Nat.div_lt_of_lt_mul (by rw [Nat.mul_comm]; omega)
    refine (hp (k / c) h1).1 _ ?_
    have h2 : k % c < c := Nat.mod_lt _ hc
    have h3 : k / c * c + k % c = k := by rw [Nat.mul_comm]; exact Nat.div_add_mod k c
    rw [List.mem_iff_getElem?]
    refine ⟨k % c, ?_⟩
    rw [List.getElem?_take_of_lt h2, List.getElem?_drop, h3, List.getElem?_eq_getElem]
  · rw [hy]
    show xs.flatMap (·.2) = []
    rw [List.flatMap_eq_nil_iff]
    intro z hz
    obtain ⟨i, hi, rfl⟩ := List.mem_iff_getElem.1 hz
    exact (hp i (by omega)).2.1
  · rw [← h]
    unfold DataW.trod
    simp only [hu]
    rw [mapM_same (List.range n) (g := fun i => DataW.trod enc Try.prog w base sp held m e ((cs.drop (i * Try.prog.cellsOf e)).take (Try.prog.cellsOf e)))]
    intro i hi
    have hi' : i < n := by simpa using hi
    rw [he, hel i hi', (hp i hi').2.2 w' base' sp' held', List.getElem?_eq_getElem]
end

end Go.Proofs.Ytpakcajdbibbbaa.Mod
