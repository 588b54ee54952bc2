/-
  The contracts of the reference's upTo and sampleMay. No condition.
-/
import Derived.Test.YthbjjjpleongbaaLNum
import Derived.Test.YthbjjjpleongbaaRows
import Derived.ProofKit
namespace Go.Proofs.Ythbjjjpleongbaa.Has
open Go.RowKit Go.Sort Go.Proofs.Ythbjjjpleongbaa.Mod Go.Proofs.Ythbjjjpleongbaa.Lin
set_option linter.unusedVariables false

set_option maxHeartbeats 400000 in
theorem upto_any (x lo hi : Int) (w : World) :
    Calls Try.prog 35 #[.int .i64 x, .int .i64 lo, .int .i64 hi] w fun e w' => e = .returned (.bool (decide (lo ≤ x) && decide (x ≤ hi))) ∧ w' = w := by
  by_cases h0 : x < lo
  · have h3 : decide (lo ≤ x) = false := decide_eq_false (by omega)
    rw [h3, Bool.false_and]
    go_enter Try.func35, Try.ntmps35
    go_wp2
    go_ret
    exact ⟨rfl, rfl⟩
  · have h2 : lo ≤ x := by omega
    have h3 : decide (lo ≤ x) = true := decide_eq_true h2
    rw [h3, Bool.true_and]
    go_enter Try.func35, Try.ntmps35
    go_wp2
    go_ret
    exact ⟨rfl, rfl⟩

end Go.Proofs.Ythbjjjpleongbaa.Has
