/-
  The walk of FoldPairs: it answers true for any int. No condition.
-/
import Derived.Test.YtigchgibhegdiaaFFold
namespace Go.Proofs.Ytigchgibhegdiaa.Fld
open Go.RowKit Go.Proofs.Ytigchgibhegdiaa.Num
set_option linter.unusedVariables false

set_option maxHeartbeats 1000000 in
theorem pairs_walk (x : Int) (w : World) :
    Calls Try.prog 6 #[.int .i64 x] w fun e w' => e = .returned (.bool true) ∧ w' = w := by
  obtain ⟨d, hd⟩ : ∃ d, bits .and .i64 x 1048575 = d := ⟨_, rfl⟩
  have hx : bits .and .i64 x 1048575 = x % 1048576 := and_mask 20 1048575 (by decide) (by decide) x
  have d0 : 0 ≤ d := by omega
  have d1 : d < 1048576 := by omega
  clear hx
  go_enter Try.func6, Try.ntmps6
  go_wp2_with fail
  refine (awake_true _).mono ?_
  rintro e w1 ⟨rfl, rfl⟩
  go_wp2_with fail
  refine (put_pos _ (2 * (1 + d)) (by omega) (by omega) rfl _).mono ?_
  rintro e w1 ⟨rfl, rfl⟩
  go_wp2_with fail
  refine (put_neg _ (2 * (1 + d) - 1) (by omega) (by omega) (by omega) _).mono ?_
  rintro e w1 ⟨rfl, rfl⟩
  go_wp2_with fail
  refine (put_pos 0 0 (by decide) (by decide) rfl _).mono ?_
  rintro e w1 ⟨rfl, rfl⟩
  go_wp2_with (go_at_call 11; go_in)
  go_wp2
  go_ret
  exact ⟨rfl, rfl⟩

end Go.Proofs.Ytigchgibhegdiaa.Fld
