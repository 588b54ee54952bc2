/-
  Plain facts on chains: a last sample and two lines that learn, 33 ints. No condition.
-/
import Derived.Test.YtamefddgpdhccaaLNum
namespace Go.Proofs.Ytamefddgpdhccaa.Chn
open Go.RowKit Go.Proofs.Ytamefddgpdhccaa.Mod Go.Proofs.Ytamefddgpdhccaa.Lin
set_option linter.unusedVariables false
set_option linter.unusedSimpArgs false

def partA (M : List Int) : List Int := (M.drop 1).take 16
def partB (M : List Int) : List Int := (M.drop 17).take 16
/-- A chain of its three parts. -/
def join (x : Int) (A B : List Int) : List Int := x :: (A ++ B)

theorem partA_len {M : List Int} (h : M.length = 33) : (partA M).length = 16 := by simp [partA]; omega
theorem partB_len {M : List Int} (h : M.length = 33) : (partB M).length = 16 := by simp [partB]; omega
theorem join_len {x : Int} {A B : List Int} (hA : A.length = 16) (hB : B.length = 16) : (join x A B).length = 33 := by simp [join]; omega
theorem join_last (x : Int) (A B : List Int) : (join x A B).getD 0 0 = x := rfl
theorem join_A {x : Int} {A B : List Int} (hA : A.length = 16) : partA (join x A B) = A := by
  show (A ++ B).take 16 = A
  rw [← hA]
  exact List.take_left
theorem join_B {x : Int} {A B : List Int} (hA : A.length = 16) (hB : B.length = 16) : partB (join x A B) = B := by
  show ((A ++ B).drop 16).take 16 = B
  rw [show (A ++ B).drop 16 = B by rw [← hA]; exact List.drop_left]
  exact List.take_of_length_le (by omega)
theorem join_parts {M : List Int} (h : M.length = 33) : join (M.getD 0 0) (partA M) (partB M) = M := by
  match M, h with
  | x :: r, h =>
    have hr : r.length = 32 := by simpa using h
    show x :: (r.take 16 ++ (r.drop 16).take 16) = x :: r
    rw [show (r.drop 16).take 16 = r.drop 16 from List.take_of_length_le (by simp; omega), List.take_append_drop]

def mayC (M : List Int) : Bool := !passed 131072 (M.getD 0 0) && (mayL (partA M) && mayL (partB M))
theorem mayC_iff (M : List Int) : mayC M = true ↔ (-131072 ≤ M.getD 0 0 ∧ M.getD 0 0 ≤ 131072) ∧ mayL (partA M) = true ∧ mayL (partB M) = true := by
  unfold mayC
  rw [Bool.and_eq_true, Bool.and_eq_true, Bool.not_eq_true', passed_no]

def guessC (M : List Int) : Int := M.getD 0 0 + guess (partA M) + guess (partB M)
def learnC (M : List Int) (x : Int) : List Int := join x (learn (partA M) (x - M.getD 0 0)) (learn (partB M) (x - M.getD 0 0 - guess (partA M)))

theorem learnC_len {M : List Int} (h : M.length = 33) (x : Int) : (learnC M x).length = 33 :=
  join_len ((learn_len _ _).trans (partA_len h)) ((learn_len _ _).trans (partB_len h))
theorem learnC_last (M : List Int) (x : Int) : (learnC M x).getD 0 0 = x := rfl
theorem learnC_A {M : List Int} (h : M.length = 33) (x : Int) : partA (learnC M x) = learn (partA M) (x - M.getD 0 0) := join_A ((learn_len _ _).trans (partA_len h))
theorem learnC_B {M : List Int} (h : M.length = 33) (x : Int) : partB (learnC M x) = learn (partB M) (x - M.getD 0 0 - guess (partA M)) := join_B ((learn_len _ _).trans (partA_len h)) ((learn_len _ _).trans (partB_len h))

/-- What the two lines learn may be learned. -/
theorem parts_may {M : List Int} (hm : mayC M = true) {x : Int} (hx : passed 131072 x = false) :
    passed 4194304 (x - M.getD 0 0) = false ∧ passed 4194304 (x - M.getD 0 0 - guess (partA M)) = false := by
  obtain ⟨h0, _, _⟩ := (mayC_iff M).1 hm
  have hx' := passed_no.1 hx
  have g := guess_range (partA M)
  exact ⟨passed_no.2 (by omega), passed_no.2 (by omega)⟩

theorem may_learnC {M : List Int} (h : M.length = 33) (hm : mayC M = true) {x : Int} (hx : passed 131072 x = false) : mayC (learnC M x) = true := by
  obtain ⟨h0, hA, hB⟩ := (mayC_iff M).1 hm
  obtain ⟨p, q⟩ := parts_may hm hx
  refine (mayC_iff _).2 ⟨by rw [learnC_last]; exact passed_no.1 hx, ?_, ?_⟩
  · rw [learnC_A h]; exact may_learn (partA_len h) hA _ p
  · rw [learnC_B h]; exact may_learn (partB_len h) hB _ q

/-- A guess is off by no more than a number may be. -/
theorem guessC_off {M : List Int} (hm : mayC M = true) {x : Int} (hx : passed 131072 x = false) : -16777216 ≤ x - guessC M ∧ x - guessC M ≤ 16777216 := by
  obtain ⟨h0, _, _⟩ := (mayC_iff M).1 hm
  have hx' := passed_no.1 hx
  have g := guess_range (partA M)
  have k := guess_range (partB M)
  unfold guessC
  omega

def zeros33 : List Int := List.replicate 33 0
theorem zeros33_len : zeros33.length = 33 := List.length_replicate
theorem zeros33_may : mayC zeros33 = true := by decide +kernel

/-! A sample that stays. -/
/-- A line that learned v once, and 0 ever after: n numbers in all. -/
structure Quiet (v : Int) (n : Nat) (L : List Int) : Prop where
  len : L.length = 16
  wt : ∀ k, k < 8 → L.getD k 0 = 0
  num : ∀ k, k < 8 → L.getD (8 + k) 0 = if k + 1 = n then v else 0

theorem dot_zero {L : List Int} (h : ∀ k, k < 8 → L.getD k 0 = 0) : ∀ n, n ≤ 8 → dot L n = 0
  | 0, _ => rfl
  | n + 1, hn => by rw [dot, dot_zero h n (by omega), h n (by omega), Int.zero_mul]; rfl

theorem Quiet.guess {v : Int} {n : Nat} {L : List Int} (h : Quiet v n L) : guess L = 0 := by
  unfold Lin.guess
  rw [dot_zero h.wt 8 (by decide)]
  decide

theorem hold_zero : hold 1048576 0 = 0 := by decide

theorem Quiet.step {v : Int} {n : Nat} {L : List Int} (h : Quiet v n L) (x : Int) (hx : (n = 0 ∧ x = v) ∨ (0 < n ∧ x = 0)) : Quiet v (n + 1) (learn L x) := by
  have g := h.guess
  refine ⟨(learn_len _ _).trans h.len, fun k hk => ?_, fun k hk => ?_⟩
  · rw [learn_get L x h.len k (by omega), if_pos hk, stp, h.wt k hk, g]
    rcases hx with ⟨h0, _⟩ | ⟨_, hx⟩
    · rw [h.num k hk, if_neg (by omega), sgn_zero, Int.mul_zero, Int.add_zero]
      exact hold_zero
    · rw [hx, Int.sub_self, sgn_zero, Int.mul_zero, Int.zero_mul, Int.add_zero]
      exact hold_zero
  · rw [learn_get L x h.len (8 + k) (by omega), if_neg (show ¬ 8 + k < 8 by omega)]
    by_cases e : k = 0
    · subst e
      rw [if_pos rfl]
      rcases hx with ⟨h0, hx⟩ | ⟨h0, hx⟩
      · rw [if_pos (by omega), hx]
      · rw [if_neg (by omega), hx]
    · rw [if_neg (by omega), show 8 + k - 1 = 8 + (k - 1) by omega, h.num (k - 1) (by omega)]
      by_cases f : k - 1 + 1 = n
      · rw [if_pos f, if_pos (by omega)]
      · rw [if_neg f, if_neg (by omega)]

/-- A chain that learned v again and again, n times. -/
structure Still (v : Int) (n : Nat) (M : List Int) : Prop where
  len : M.length = 33
  last : M.getD 0 0 = if n = 0 then 0 else v
  a : Quiet v n (partA M)
  b : Quiet v n (partB M)

theorem quiet_zero (v : Int) : Quiet v 0 zeros16 := ⟨zeros16_len, fun k _ => zeros16_get k, fun k _ => by rw [zeros16_get, if_neg (by omega)]⟩
theorem still_zero (v : Int) : Still v 0 zeros33 :=
  ⟨zeros33_len, rfl, (show partA zeros33 = zeros16 by decide +kernel) ▸ quiet_zero v, (show partB zeros33 = zeros16 by decide +kernel) ▸ quiet_zero v⟩

theorem Still.step {v : Int} {n : Nat} {M : List Int} (h : Still v n M) : Still v (n + 1) (learnC M v) := by
  have d : (n = 0 ∧ v - M.getD 0 0 = v) ∨ (0 < n ∧ v - M.getD 0 0 = 0) := by
    rw [h.last]
    by_cases e : n = 0
    · rw [if_pos e]; omega
    · rw [if_neg e]; omega
  refine ⟨learnC_len h.len v, by rw [learnC_last, if_neg (by omega)], ?_, ?_⟩
  · rw [learnC_A h.len]; exact h.a.step _ d
  · rw [learnC_B h.len, h.a.guess, Int.sub_zero]; exact h.b.step _ d

theorem Still.guess {v : Int} {n : Nat} {M : List Int} (h : Still v n M) (hn : 0 < n) : guessC M = v := by
  unfold guessC
  rw [h.a.guess, h.b.guess, h.last, if_neg (by omega)]
  omega

/-- Behind nine and more nothing is left in A's numbers. -/
theorem Still.gone {v : Int} {n : Nat} {M : List Int} (h : Still v n M) (hn : 9 ≤ n) (k : Nat) (hk : k < 8) : (partA M).getD (8 + k) 0 = 0 := by
  rw [h.a.num k hk, if_neg (by omega)]

theorem Still.may {v : Int} {n : Nat} {M : List Int} (h : Still v n M) (hv : passed 131072 v = false) : mayC M = true := by
  have q := passed_no.1 hv
  have l : ∀ L, Quiet v n L → mayL L = true := fun L q => (may_iff L).2 ⟨fun k hk => by rw [q.wt k hk]; omega, fun k hk => by rw [q.num k hk]; split <;> omega⟩
  refine (mayC_iff M).2 ⟨?_, l _ h.a, l _ h.b⟩
  rw [h.last]
  split <;> omega

end Go.Proofs.Ytamefddgpdhccaa.Chn
