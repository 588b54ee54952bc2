/-
  The contract of the check that every statement of layer 7 begins with: it answers true, whatever the world; and Next's and P's contracts in the forms that the walks take. No condition.
-/
import Derived.Test.YtbfdjhgldmkolaaUCount
namespace Go.Proofs.Ytbfdjhgldmkolaa.Cnt
open Go.RowKit Go.Proofs.Ytbfdjhgldmkolaa.Num
set_option linter.unusedVariables false

/-- Next of what may be. -/
theorem next_may (c b y : Int) (h0 : 0 ≤ c) (h1 : c ≤ 65535) (hb : b = 0 ∨ b = 1) (hy : step c b = y) (w : World) :
    Calls Try.prog 8 #[.int .i64 c, .int .i64 b] w fun e w' => e = .returned (.tuple #[.int .i64 y, .int .i64 0]) ∧ w' = w := by
  have e : nextAns c b = .tuple #[.int .i64 y, .int .i64 0] := by rw [← hy]; exact if_pos ⟨decide_eq_true ⟨h0, h1⟩, decide_eq_true hb⟩
  rw [← e]
  exact next_ok c b w

/-- Next of what may not be. -/
theorem next_no (c b : Int) (h : (c < 0 ∨ 65535 < c) ∨ (b < 0 ∨ 1 < b)) (w : World) :
    Calls Try.prog 8 #[.int .i64 c, .int .i64 b] w fun e w' => e = .returned (.tuple #[.int .i64 0, .int .i64 700]) ∧ w' = w := by
  have e : nextAns c b = .tuple #[.int .i64 0, .int .i64 700] := if_neg fun ⟨k, m⟩ => by
    have := cntB_of k
    have := bitB_of m
    omega
  rw [← e]
  exact next_ok c b w

/-- P of what may be. -/
theorem p_may (c y : Int) (h0 : 0 ≤ c) (h1 : c ≤ 65535) (hy : chance c = y) (w : World) :
    Calls Try.prog 10 #[.int .i64 c] w fun e w' => e = .returned (.tuple #[.int .i64 y, .int .i64 0]) ∧ w' = w := by
  have e : pAns c = .tuple #[.int .i64 y, .int .i64 0] := by rw [← hy]; exact if_pos (decide_eq_true ⟨h0, h1⟩)
  rw [← e]
  exact p_ok c w

/-- P of what may not be. -/
theorem p_no (c : Int) (h : c < 0 ∨ 65535 < c) (w : World) :
    Calls Try.prog 10 #[.int .i64 c] w fun e w' => e = .returned (.tuple #[.int .i64 0, .int .i64 700]) ∧ w' = w := by
  have e : pAns c = .tuple #[.int .i64 0, .int .i64 700] := if_neg fun k => by
    have := cntB_of k
    omega
  rw [← e]
  exact p_ok c w

set_option maxHeartbeats 1000000 in
theorem awake_true (w : World) :
    Calls Try.prog 13 #[] w fun e w' => e = .returned (.bool true) ∧ w' = w := by
  go_enter Try.func13, Try.ntmps13
  go_wp2_with fail
  refine (next_may 32768 1 34815 (by decide) (by decide) (.inr rfl) (by decide) _).mono ?_
  rintro e w1 ⟨rfl, rfl⟩
  go_wp2_with fail
  refine (next_may 32768 0 30720 (by decide) (by decide) (.inl rfl) (by decide) _).mono ?_
  rintro e w1 ⟨rfl, rfl⟩
  go_wp2_with fail
  refine (p_may 65535 4095 (by decide) (by decide) (by decide) _).mono ?_
  rintro e w1 ⟨rfl, rfl⟩
  go_wp2_with fail
  refine (p_may 3 1 (by decide) (by decide) (by decide) _).mono ?_
  rintro e w1 ⟨rfl, rfl⟩
  go_wp2_with fail
  refine (next_no 65536 1 (.inl (.inr (by decide))) _).mono ?_
  rintro e w1 ⟨rfl, rfl⟩
  go_wp2_with fail
  refine (p_no (-1) (.inl (by decide)) _).mono ?_
  rintro e w1 ⟨rfl, rfl⟩
  go_wp2_with fail
  refine (new_ok _).mono ?_
  rintro e w1 ⟨rfl, rfl⟩
  go_wp2_with (go_at_call 12; go_in)
  go_wp2
  go_ret
  exact ⟨rfl, rfl⟩

end Go.Proofs.Ytbfdjhgldmkolaa.Cnt
