/-
  The contract of the check that every statement of layer 3 begins with: it answers true, whatever the world. No condition.
-/
import Derived.Test.YtfjonehccmoadaaCSum
namespace Go.Proofs.Ytfjonehccmoadaa.Crc
open Go.RowKit
set_option linter.unusedVariables false

theorem sum_digits : crc (ByteArray.mk #[49, 50, 51, 52, 53, 54, 55, 56, 57]).data.toList = 3421780262 := by decide +kernel
theorem sum_none : crc (ByteArray.mk #[]).data.toList = 0 := by decide +kernel

theorem num_ok (n : Int) (w : World) :
    Calls Try.prog 8 #[.int .i64 n] w fun e w' => e = .returned (.int .i64 n) ∧ w' = w := by
  go_enter Try.func8, Try.ntmps8
  go_wp2
  go_ret
  exact ⟨rfl, rfl⟩

set_option maxHeartbeats 1000000 in
theorem awake_true (w : World) :
    Calls Try.prog 11 #[] w fun e w' => e = .returned (.bool true) ∧ w' = w := by
  go_enter Try.func11, Try.ntmps11
  go_wp2_with fail
  refine (sum_ok ⟨#[49, 50, 51, 52, 53, 54, 55, 56, 57]⟩ (by decide) _).mono ?_
  rintro e w1 ⟨rfl, rfl⟩
  rw [sum_digits]
  go_wp2_with fail
  refine (sum_ok ⟨#[]⟩ (by decide) _).mono ?_
  rintro e w2 ⟨rfl, rfl⟩
  rw [sum_none]
  go_wp2
  go_ret
  exact ⟨rfl, rfl⟩

end Go.Proofs.Ytfjonehccmoadaa.Crc
