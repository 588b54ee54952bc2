/-
  Plain facts on channels: which may be, what is told, there and back. No condition.
-/
import Derived.Test.YtpakcajdbibbbaaLNum
import Derived.Test.YtpakcajdbibbbaaLInts
namespace Go.Proofs.Ytpakcajdbibbbaa.Sid
open Go.RowKit Go.Proofs.Ytpakcajdbibbbaa.Mod Go.Proofs.Ytpakcajdbibbbaa.Lin
set_option linter.unusedVariables false

/-- May all samples of a channel be? -/
def okRow (L : List Int) : Bool := !anyOf (passed 131072) (fun j => L.getD j 0) L.length
def rowsMay (Ls : List (List Int)) : Bool := Ls.all fun L => decide (L.length = (Ls.getD 0 []).length) && okRow L
def chsMay (Ls : List (List Int)) : Bool := decide (1 ≤ Ls.length) && (decide (Ls.length ≤ 2) && rowsMay Ls)

theorem chsMay_none {Ls : List (List Int)} (h : Ls.length < 1) : chsMay Ls = false := by
  unfold chsMay
  rw [decide_eq_false (by omega), Bool.false_and]
theorem chsMay_many {Ls : List (List Int)} (h : 2 < Ls.length) : chsMay Ls = false := by
  unfold chsMay
  rw [decide_eq_false (by omega : ¬ Ls.length ≤ 2), Bool.false_and, Bool.and_false]
theorem chsMay_some {Ls : List (List Int)} (h1 : 1 ≤ Ls.length) (h2 : Ls.length ≤ 2) : chsMay Ls = rowsMay Ls := by
  unfold chsMay
  rw [decide_eq_true h1, decide_eq_true h2, Bool.true_and, Bool.true_and]
theorem rowsMay_yes {Ls : List (List Int)} (h : ∀ k, k < Ls.length → (Ls.getD k []).length = (Ls.getD 0 []).length ∧ okRow (Ls.getD k []) = true) : rowsMay Ls = true := by
  unfold rowsMay
  rw [List.all_eq_true]
  intro L hL
  obtain ⟨k, hk, rfl⟩ := List.getElem_of_mem hL
  have := h k hk
  rw [show Ls.getD k [] = Ls[k] by rw [List.getD_eq_getElem?_getD, List.getElem?_eq_getElem hk]; rfl] at this
  rw [decide_eq_true this.1, this.2]; rfl
theorem rowsMay_no {Ls : List (List Int)} (k : Nat) (hk : k < Ls.length) (h : (Ls.getD k []).length ≠ (Ls.getD 0 []).length ∨ okRow (Ls.getD k []) = false) : rowsMay Ls = false := by
  unfold rowsMay
  rw [List.all_eq_false]
  refine ⟨Ls[k], List.getElem_mem _, ?_⟩
  rw [show Ls.getD k [] = Ls[k] by rw [List.getD_eq_getElem?_getD, List.getElem?_eq_getElem hk]; rfl] at h
  rcases h with h | h
  · rw [decide_eq_false h, Bool.false_and]; decide
  · rw [h, Bool.and_false]; decide
theorem chsMay_1 (A : List Int) : chsMay [A] = okRow A := by
  rw [chsMay_some (by simp) (by simp)]
  simp [rowsMay]
theorem chsMay_2 (A B : List Int) : chsMay [A, B] = (okRow A && (decide (B.length = A.length) && okRow B)) := by
  rw [chsMay_some (by simp) (by simp)]
  simp [rowsMay]

theorem okRow_iff {L : List Int} : okRow L = true ↔ ∀ k, k < L.length → -131072 ≤ L.getD k 0 ∧ L.getD k 0 ≤ 131072 := by
  unfold okRow
  rw [Bool.not_eq_true']
  constructor
  · intro h k hk
    exact passed_no.1 (anyOf_false h k hk)
  · intro h
    exact anyOf_no fun k hk => passed_no.2 (h k hk)

/-- The second channel by s times the first one. -/
def byFirst (s : Int) (A B : List Int) : List Int := (List.range A.length).map fun j => B.getD j 0 + s * A.getD j 0
def told (s : Int) : List (List Int) → List (List Int)
  | [A, B] => [A, byFirst s A B]
  | Ls => Ls
def okS (s : Int) (Ls : List (List Int)) : Bool := chsMay Ls && chsMay (told s Ls)
/-- The rows that are answered, and the error. -/
def ansS (s : Int) (Ls : List (List Int)) : List (List Int) := if okS s Ls then told s Ls else []
def errS (s : Int) (Ls : List (List Int)) : Int := if okS s Ls then 0 else 1700

theorem byFirst_length (s : Int) (A B : List Int) : (byFirst s A B).length = A.length := by simp [byFirst]
theorem byFirst_get (s : Int) (A B : List Int) (k : Nat) (h : k < A.length) : (byFirst s A B).getD k 0 = B.getD k 0 + s * A.getD k 0 := by
  unfold byFirst
  rw [List.getD_eq_getElem?_getD, List.getElem?_map, List.getElem?_range h]
  rfl
theorem byFirst_back (s : Int) (hs : s = 1 ∨ s = -1) (A B : List Int) (h : B.length = A.length) : byFirst (-s) A (byFirst s A B) = B := by
  refine Mod.ext_getD _ _ (by rw [byFirst_length, h]) fun k hk => ?_
  rw [byFirst_length] at hk
  rw [byFirst_get _ _ _ _ hk, byFirst_get _ _ _ _ hk]
  rcases hs with rfl | rfl <;> omega

/-- Which channels there are that may be. -/
theorem chsMay_shape {Ls : List (List Int)} (h : chsMay Ls = true) : (∃ A, Ls = [A] ∧ okRow A = true) ∨ ∃ A B, Ls = [A, B] ∧ okRow A = true ∧ B.length = A.length ∧ okRow B = true := by
  match Ls, h with
  | [], h => exact absurd h (by decide)
  | [A], h => exact .inl ⟨A, rfl, by rwa [chsMay_1] at h⟩
  | [A, B], h =>
    rw [chsMay_2, Bool.and_eq_true, Bool.and_eq_true, decide_eq_true_eq] at h
    exact .inr ⟨A, B, rfl, h.1, h.2.1, h.2.2⟩
  | A :: B :: C :: r, h => rw [chsMay_many (by simp)] at h; cases h

/-- There and back. -/
theorem back (s : Int) (hs : s = 1 ∨ s = -1) (Ls : List (List Int)) (h : okS s Ls = true) : okS (-s) (ansS s Ls) = true ∧ ansS (-s) (ansS s Ls) = Ls := by
  have e : ansS s Ls = told s Ls := by unfold ansS; rw [if_pos h]
  unfold okS at h
  rw [Bool.and_eq_true] at h
  have k : told (-s) (told s Ls) = Ls := by
    rcases chsMay_shape h.1 with ⟨A, rfl, _⟩ | ⟨A, B, rfl, _, hl, _⟩
    · rfl
    · show [A, byFirst (-s) A (byFirst s A B)] = _
      rw [byFirst_back s hs A B hl]
  have o : okS (-s) (told s Ls) = true := by
    unfold okS
    rw [k, h.1, h.2]; rfl
  rw [e]
  exact ⟨o, by unfold ansS; rw [if_pos o, k]⟩

end Go.Proofs.Ytpakcajdbibbbaa.Sid
