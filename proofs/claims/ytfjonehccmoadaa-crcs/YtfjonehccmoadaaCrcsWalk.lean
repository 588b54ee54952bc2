/-
  The walk of Crcs: it answers true for any text. No condition but that the text is one.
-/
import Derived.Test.YtfjonehccmoadaaCAwake
namespace Go.Proofs.Ytfjonehccmoadaa.Crc
open Go.RowKit
set_option linter.unusedVariables false

set_option maxHeartbeats 1000000 in
theorem crcs_walk (s : ByteArray) (hs : s.size ≤ maxLen) (w : World) :
    Calls Try.prog 3 #[.string s] w fun e w' => e = .returned (.bool true) ∧ w' = w := by
  have p1 : ∃ c : Nat, (∀ w, Calls Try.prog 9 #[.string s] w fun e w' => e = .returned (.int .i64 (c : Int)) ∧ w' = w) ∧ (∀ w, Calls Try.prog 10 #[.string s] w fun e w' => e = .returned (.int .i64 (c : Int)) ∧ w' = w) :=
    ⟨_, sum_ok s hs, ref_sum s hs⟩
  obtain ⟨c, q1, q2⟩ := p1
  have Q1 : Hid (∀ w, Calls Try.prog 9 #[.string s] w fun e w' => e = .returned (.int .i64 (c : Int)) ∧ w' = w) := q1
  have Q2 : Hid (∀ w, Calls Try.prog 10 #[.string s] w fun e w' => e = .returned (.int .i64 (c : Int)) ∧ w' = w) := q2
  clear q1 q2
  go_enter Try.func3, Try.ntmps3
  go_wp2_with (go_at_call 8; go_in)
  refine (Q1.out _).mono ?_
  rintro e w1 ⟨rfl, rfl⟩
  go_wp2_with fail
  refine (Q2.out _).mono ?_
  rintro e w2 ⟨rfl, rfl⟩
  go_wp2_with fail
  refine (awake_true _).mono ?_
  rintro e w3 ⟨rfl, rfl⟩
  go_wp2
  go_ret
  exact ⟨rfl, rfl⟩

end Go.Proofs.Ytfjonehccmoadaa.Crc
