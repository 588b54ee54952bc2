/-
  The walk of Counts: it answers true for any two ints. No condition.
-/
import Derived.Test.YtbfdjhgldmkolaaUAwake
import Derived.Test.YtbfdjhgldmkolaaURef
namespace Go.Proofs.Ytbfdjhgldmkolaa.Cnt
open Go.RowKit Go.Proofs.Ytbfdjhgldmkolaa.Num
set_option linter.unusedVariables false

theorem nextAns_form (c b : Int) : ∃ y e, nextAns c b = .tuple #[.int .i64 y, .int .i64 e] := by
  unfold nextAns
  split
  · exact ⟨_, _, rfl⟩
  · exact ⟨_, _, rfl⟩

theorem pAns_form (c : Int) : ∃ y e, pAns c = .tuple #[.int .i64 y, .int .i64 e] := by
  unfold pAns
  split
  · exact ⟨_, _, rfl⟩
  · exact ⟨_, _, rfl⟩

set_option maxHeartbeats 1000000 in
theorem counts_walk (c b : Int) (w : World) :
    Calls Try.prog 3 #[.int .i64 c, .int .i64 b] w fun e w' => e = .returned (.bool true) ∧ w' = w := by
  obtain ⟨y, e, h1⟩ := nextAns_form c b
  obtain ⟨p, g, h2⟩ := pAns_form c
  have q1 := next_ok c b
  have q2 := rnext_ok c b
  have q3 := p_ok c
  have q4 := rp_ok c
  rw [h1] at q1 q2
  rw [h2] at q3 q4
  clear h1 h2
  go_enter Try.func3, Try.ntmps3
  go_wp2_with fail
  refine (q1 _).mono ?_
  rintro e w1 ⟨rfl, rfl⟩
  go_wp2_with fail
  refine (q2 _).mono ?_
  rintro e w1 ⟨rfl, rfl⟩
  go_wp2_with fail
  refine (q3 _).mono ?_
  rintro e w1 ⟨rfl, rfl⟩
  go_wp2_with fail
  refine (q4 _).mono ?_
  rintro e w1 ⟨rfl, rfl⟩
  go_wp2_with (go_at_call 12; go_in)
  refine (awake_true _).mono ?_
  rintro e w1 ⟨rfl, rfl⟩
  go_wp2
  go_ret
  exact ⟨rfl, rfl⟩

end Go.Proofs.Ytbfdjhgldmkolaa.Cnt
