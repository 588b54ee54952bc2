/-
  The contracts of package pcm's small functions, and of the reference's: which formats may be, how many bytes, numbers and samples. No condition but what each says.
-/
import Derived.Test.YthbjjjpleongbaaPcNum
import Derived.Test.YthbjjjpleongbaaGUp
import Derived.ProofKit
import Derived.WalkSpells
import Derived.BigQuiet
namespace Go.Proofs.Ythbjjjpleongbaa.Pcm
open Go.RowKit Go.Proofs.Ythbjjjpleongbaa.Mod Go.Proofs.Ythbjjjpleongbaa.Num
set_option linter.unusedVariables false

abbrev fmt (c b : Int) : Value := .agg #[.int .i64 c, .int .i64 b]

set_option maxHeartbeats 400000 in
theorem may_ok (c b : Int) (w : World) : Calls Try.prog 33 #[fmt c b] w fun e w' => e = .returned (.bool (okF c b)) ∧ Bel w w' := by
  by_cases h1 : 1 ≤ c
  · by_cases h2 : c ≤ 2
    · by_cases h3 : b = 8
      · subst h3
        rw [show okF c 8 = true by unfold okF; rw [decide_eq_true h1, decide_eq_true h2]; rfl]
        have d1 : decide (1 ≤ c) = true := decide_eq_true h1
        have d2 : decide (c ≤ 2) = true := decide_eq_true h2
        go_enter Try.func33, Try.ntmps33
        go_wp2
        go_ret
        exact ⟨rfl, (Bel.refl _).alloc _⟩
      · have d3 : (b == 8) = false := by simpa using h3
        rw [show okF c b = (b == 16) by unfold okF; rw [decide_eq_true h1, decide_eq_true h2, d3]; rfl]
        have d1 : decide (1 ≤ c) = true := decide_eq_true h1
        have d2 : decide (c ≤ 2) = true := decide_eq_true h2
        go_enter Try.func33, Try.ntmps33
        go_wp2
        go_ret
        exact ⟨rfl, (Bel.refl _).alloc _⟩
    · rw [show okF c b = false by unfold okF; rw [decide_eq_false h2, Bool.and_false, Bool.false_and]]
      have d1 : decide (1 ≤ c) = true := decide_eq_true h1
      have d2 : decide (c ≤ 2) = false := decide_eq_false h2
      go_enter Try.func33, Try.ntmps33
      go_wp2
      go_ret
      exact ⟨rfl, (Bel.refl _).alloc _⟩
  · rw [show okF c b = false by unfold okF; rw [decide_eq_false h1, Bool.false_and, Bool.false_and]]
    have d1 : decide (1 ≤ c) = false := decide_eq_false h1
    go_enter Try.func33, Try.ntmps33
    go_wp2
    go_ret
    exact ⟨rfl, (Bel.refl _).alloc _⟩

set_option maxHeartbeats 400000 in
theorem rmay_ok (c b : Int) (w : World) : Calls Try.prog 22 #[fmt c b] w fun e w' => e = .returned (.bool (okF c b)) ∧ Bel w w' := by
  have U : Hid (∀ w, Calls Try.prog 35 #[.int .i64 c, .int .i64 1, .int .i64 2] w fun e w' => e = .returned (.bool (decide (1 ≤ c) && decide (c ≤ 2))) ∧ w' = w) := fun w => Has.upto_any c 1 2 w
  obtain ⟨r, hr⟩ : ∃ r, (decide (1 ≤ c) && decide (c ≤ 2)) = r := ⟨_, rfl⟩
  have e : okF c b = (r && (b == 8 || b == 16)) := by rw [← hr]; rfl
  rw [e]
  rw [hr] at U
  clear hr e
  cases r
  · rw [Bool.false_and]
    go_enter Try.func22, Try.ntmps22
    go_wp2_with fail
    refine (U.out _).mono ?_
    rintro e w1 ⟨rfl, rfl⟩
    go_wp2
    go_ret
    exact ⟨rfl, (Bel.refl _).alloc _⟩
  · rw [Bool.true_and]
    cases h3 : (b == 8)
    · rw [Bool.false_or]
      go_enter Try.func22, Try.ntmps22
      go_wp2_with fail
      refine (U.out _).mono ?_
      rintro e w1 ⟨rfl, rfl⟩
      go_wp2
      go_ret
      exact ⟨rfl, (Bel.refl _).alloc _⟩
    · rw [Bool.true_or]
      go_enter Try.func22, Try.ntmps22
      go_wp2_with fail
      refine (U.out _).mono ?_
      rintro e w1 ⟨rfl, rfl⟩
      go_wp2
      go_ret
      exact ⟨rfl, (Bel.refl _).alloc _⟩

set_option maxHeartbeats 400000 in
theorem rframe_ok (c b : Int) (h : okF c b = true) (w : World) : Calls Try.prog 23 #[fmt c b] w fun e w' => e = .returned (.int .i64 ((fC c * fQ b : Nat) : Int)) ∧ Bel w w' := by
  obtain ⟨h1, h2⟩ := okF_yes h
  clear h
  rcases h1 with rfl | rfl <;> rcases h2 with rfl | rfl
  all_goals
    go_enter Try.func23, Try.ntmps23
    go_wp2
    go_ret
    exact ⟨rfl, (Bel.refl _).alloc _⟩

end Go.Proofs.Ythbjjjpleongbaa.Pcm
