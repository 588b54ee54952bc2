/-
  The walk of FoldForms: it answers true for any int. No condition.
-/
import Derived.Test.YtigchgibhegdiaaFFold
namespace Go.Proofs.Ytigchgibhegdiaa.Fld
open Go.RowKit Go.Proofs.Ytigchgibhegdiaa.Num
set_option linter.unusedVariables false

set_option maxRecDepth 20000 in
set_option maxHeartbeats 1000000 in
theorem forms_walk (x : Int) (w : World) :
    Calls Try.prog 4 #[.int .i64 x] w fun e w' => e = .returned (.bool true) ∧ w' = w := by
  obtain ⟨d, hd⟩ : ∃ d, bits .and .i64 x 1048575 = d := ⟨_, rfl⟩
  have hx : bits .and .i64 x 1048575 = x % 1048576 := and_mask 20 1048575 (by decide) (by decide) x
  have d0 : 0 ≤ d := by omega
  have d1 : d < 1048576 := by omega
  clear hx
  go_enter Try.func4, Try.ntmps4
  go_wp2_with fail
  refine (awake_true _).mono ?_
  rintro e w1 ⟨rfl, rfl⟩
  go_wp2_with fail
  refine (put_no _ (.inr (by omega)) _).mono ?_
  rintro e w1 ⟨rfl, rfl⟩
  go_wp2_with fail
  refine (put_no _ (.inl (by omega)) _).mono ?_
  rintro e w1 ⟨rfl, rfl⟩
  go_wp2_with fail
  refine (get_no _ (.inl (by omega)) _).mono ?_
  rintro e w1 ⟨rfl, rfl⟩
  go_wp2_with fail
  refine (get_no _ (.inr (by omega)) _).mono ?_
  rintro e w1 ⟨rfl, rfl⟩
  go_wp2_with fail
  refine (put_neg (-16777216) 33554431 (by decide) (by decide) (by decide) _).mono ?_
  rintro e w1 ⟨rfl, rfl⟩
  go_wp2_with fail
  refine (get_even 33554432 16777216 (by decide) (by decide) (by decide) _).mono ?_
  rintro e w1 ⟨rfl, rfl⟩
  go_wp2_with (go_at_call 11; go_in)
  go_wp2
  go_ret
  exact ⟨rfl, rfl⟩

end Go.Proofs.Ytigchgibhegdiaa.Fld
