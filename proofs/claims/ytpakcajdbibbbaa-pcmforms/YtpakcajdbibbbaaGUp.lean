/-
  The contracts of the reference's upTo and sampleMay. No condition.
-/
import Derived.Test.YtpakcajdbibbbaaLNum
import Derived.Test.YtpakcajdbibbbaaRows
import Derived.ProofKit
namespace Go.Proofs.Ytpakcajdbibbbaa.Has
open Go.RowKit Go.Sort Go.Proofs.Ytpakcajdbibbbaa.Mod Go.Proofs.Ytpakcajdbibbbaa.Lin
set_option linter.unusedVariables false

set_option maxHeartbeats 400000 in
theorem upto_any (x lo hi : Int) (w : World) :
    Calls Try.prog 30 #[.int .i64 x, .int .i64 lo, .int .i64 hi] w fun e w' => e = .returned (.bool (decide (lo ≤ x) && decide (x ≤ hi))) ∧ w' = w := by
  by_cases h0 : x < lo
  · have h3 : decide (lo ≤ x) = false := decide_eq_false (by omega)
    rw [h3, Bool.false_and]
    go_enter Try.func30, Try.ntmps30
    go_wp2
    go_ret
    exact ⟨rfl, rfl⟩
  · have h2 : lo ≤ x := by omega
    have h3 : decide (lo ≤ x) = true := decide_eq_true h2
    rw [h3, Bool.true_and]
    go_enter Try.func30, Try.ntmps30
    go_wp2
    go_ret
    exact ⟨rfl, rfl⟩

set_option maxHeartbeats 400000 in
theorem sample_ok (x : Int) (w : World) :
    Calls Try.prog 38 #[.int .i64 x] w fun e w' => e = .returned (.bool (!passed 131072 x)) ∧ w' = w := by
  have e : (!passed 131072 x) = (decide (-131072 ≤ x) && decide (x ≤ 131072)) := by
    unfold passed
    by_cases h1 : x < -131072
    · rw [decide_eq_true (.inl h1), decide_eq_false (by omega : ¬ -131072 ≤ x)]; rfl
    · by_cases h2 : 131072 < x
      · rw [decide_eq_true (.inr h2), decide_eq_false (by omega : ¬ x ≤ 131072), Bool.and_false]; rfl
      · rw [decide_eq_false (by omega), decide_eq_true (by omega : -131072 ≤ x), decide_eq_true (by omega : x ≤ 131072)]; rfl
  have U : Hid (∀ w, Calls Try.prog 30 #[.int .i64 x, .int .i64 (-131072), .int .i64 131072] w fun e w' => e = .returned (.bool (!passed 131072 x)) ∧ w' = w) := fun w => by rw [e]; exact upto_any x _ _ w
  clear e
  generalize passed 131072 x = p at *
  go_enter Try.func38, Try.ntmps38
  go_wp2_with fail
  refine (U.out _).mono ?_
  rintro e w1 ⟨rfl, rfl⟩
  go_wp2
  go_ret
  exact ⟨rfl, rfl⟩

end Go.Proofs.Ytpakcajdbibbbaa.Has
