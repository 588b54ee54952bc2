/-
  The contracts of package limit's methods and of lms' sign. Conditions: limits from 0 to 4194304.
-/
import Derived.Test.YtamefddgpdhccaaLLaw
import Derived.Test.YtamefddgpdhccaaNum
namespace Go.Proofs.Ytamefddgpdhccaa.Lin
open Go.RowKit Go.Sort Go.Proofs.Ytamefddgpdhccaa.Mod
set_option linter.unusedVariables false
set_option linter.unusedSimpArgs false

theorem num_ok (n : Int) (w : World) :
    Calls Try.prog 14 #[.int .i64 n] w fun e w' => e = .returned (.int .i64 n) ∧ w' = w := by
  go_enter Try.func14, Try.ntmps14
  go_wp2
  go_ret
  exact ⟨rfl, rfl⟩

set_option maxHeartbeats 400000 in
theorem passed_ok (l x : Int) (hl0 : 0 ≤ l) (hl1 : l ≤ 4194304) (w : World) :
    Calls Try.prog 24 #[.int .i64 l, .int .i64 x] w fun e w' => e = .returned (.bool (passed l x)) ∧ w' = w := by
  by_cases h0 : x < -l
  · have e : passed l x = true := decide_eq_true (.inl h0)
    rw [e]
    have h3 : decide (x < -l) = true := decide_eq_true h0
    clear e
    go_enter Try.func24, Try.ntmps24
    go_wp2
    go_ret
    exact ⟨rfl, rfl⟩
  · have e : passed l x = decide (l < x) := by unfold passed; simp [h0]
    rw [e]
    have h3 : decide (x < -l) = false := decide_eq_false h0
    clear e
    go_enter Try.func24, Try.ntmps24
    go_wp2
    go_ret
    exact ⟨rfl, rfl⟩

set_option maxHeartbeats 400000 in
theorem hold_ok (x : Int) (w : World) :
    Calls Try.prog 41 #[.int .i64 1048576, .int .i64 x] w fun e w' => e = .returned (.int .i64 (hold 1048576 x)) ∧ w' = w := by
  unfold hold
  by_cases h0 : x ≤ -1048576
  · rw [if_pos h0]
    go_enter Try.func41, Try.ntmps41
    go_wp2
    go_ret
    exact ⟨rfl, rfl⟩
  · rw [if_neg h0]
    by_cases h1 : 1048576 < x
    · rw [if_pos h1]
      go_enter Try.func41, Try.ntmps41
      go_wp2
      go_ret
      exact ⟨rfl, rfl⟩
    · rw [if_neg h1]
      go_enter Try.func41, Try.ntmps41
      go_wp2
      go_ret
      exact ⟨rfl, rfl⟩

set_option maxHeartbeats 400000 in
theorem isNaN_ok (x : Int) (w : World) :
    Calls Try.prog 45 #[.int .i64 x] w fun e w' => e = .returned (.bool false) ∧ w' = w := by
  go_enter Try.func45, Try.ntmps45
  go_wp2
  go_ret
  exact ⟨congrArg (fun v => Ending.returned (.bool v)) (by simp), rfl⟩

set_option maxHeartbeats 400000 in
theorem compare_ok (x : Int) (w : World) :
    Calls Try.prog 44 #[.int .i64 x, .int .i64 0] w fun e w' => e = .returned (.int .i64 (sgn x)) ∧ w' = w := by
  unfold sgn
  by_cases h0 : x < 0
  · rw [if_pos h0]
    have hd : decide (x < 0) = true := decide_eq_true h0
    go_enter Try.func44, Try.ntmps44
    go_wp2_with fail
    refine (isNaN_ok _ _).mono ?_
    rintro e w1 ⟨rfl, rfl⟩
    go_wp2_with fail
    refine (isNaN_ok _ _).mono ?_
    rintro e w2 ⟨rfl, rfl⟩
    go_wp2
    go_ret
    exact ⟨rfl, rfl⟩
  · rw [if_neg h0]
    have hd : decide (x < 0) = false := decide_eq_false h0
    by_cases h1 : 0 < x
    · rw [if_pos h1]
      have hd2 : decide (x > 0) = true := decide_eq_true h1
      go_enter Try.func44, Try.ntmps44
      go_wp2_with fail
      refine (isNaN_ok _ _).mono ?_
      rintro e w1 ⟨rfl, rfl⟩
      go_wp2_with fail
      refine (isNaN_ok _ _).mono ?_
      rintro e w2 ⟨rfl, rfl⟩
      go_wp2
      go_ret
      exact ⟨rfl, rfl⟩
    · rw [if_neg h1]
      have hd2 : decide (x > 0) = false := decide_eq_false h1
      go_enter Try.func44, Try.ntmps44
      go_wp2_with fail
      refine (isNaN_ok _ _).mono ?_
      rintro e w1 ⟨rfl, rfl⟩
      go_wp2_with fail
      refine (isNaN_ok _ _).mono ?_
      rintro e w2 ⟨rfl, rfl⟩
      go_wp2
      go_ret
      exact ⟨rfl, rfl⟩

set_option maxHeartbeats 400000 in
theorem sign_ok (x : Int) (w : World) :
    Calls Try.prog 42 #[.int .i64 x] w fun e w' => e = .returned (.int .i64 (sgn x)) ∧ w' = w := by
  have q := compare_ok x
  generalize sgn x = s at *
  have Q : Hid (∀ w, Calls Try.prog 44 #[.int .i64 x, .int .i64 0] w fun e w' => e = .returned (.int .i64 s) ∧ w' = w) := q
  clear q
  go_enter Try.func42, Try.ntmps42
  go_wp2_with fail
  refine (Q.out _).mono ?_
  rintro e w1 ⟨rfl, rfl⟩
  go_wp2
  go_ret
  exact ⟨rfl, rfl⟩

end Go.Proofs.Ytamefddgpdhccaa.Lin
