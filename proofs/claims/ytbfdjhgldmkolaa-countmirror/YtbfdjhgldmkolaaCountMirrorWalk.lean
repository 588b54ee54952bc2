/-
  The walk of CountMirror: it answers true for any int. No condition.
-/
import Derived.Test.YtbfdjhgldmkolaaUAwake
namespace Go.Proofs.Ytbfdjhgldmkolaa.Cnt
open Go.RowKit Go.Proofs.Ytbfdjhgldmkolaa.Num
set_option linter.unusedVariables false

set_option maxHeartbeats 1000000 in
theorem mirror_walk (c : Int) (w : World) :
    Calls Try.prog 6 #[.int .i64 c] w fun e w' => e = .returned (.bool true) ∧ w' = w := by
  obtain ⟨x, hx⟩ : ∃ x, c % 65536 = x := ⟨_, rfl⟩
  have x0 : 0 ≤ x := by omega
  have x1 : x ≤ 65535 := by omega
  have hm : bits .and .i64 c 65535 = x := (and16 c).trans hx
  have e1 : step x 1 = x + (65535 - x) / 16 := if_pos rfl
  have e0 : step (65535 - x) 0 = 65535 - x - (65535 - x) / 16 := if_neg (by decide)
  obtain ⟨b, hb⟩ : ∃ b, step (65535 - x) 0 = b := ⟨_, rfl⟩
  have b0 : 0 ≤ b := by omega
  have b1 : b ≤ 65535 := by omega
  have ha : step x 1 = 65535 - b := by omega
  have hq : x.tdiv 16 = x / 16 := Int.tdiv_eq_ediv_of_nonneg x0
  have c1 := next_may x 1 (65535 - b) x0 x1 (.inr rfl) ha
  have c2 := next_may (65535 - x) 0 b (by omega) (by omega) (.inl rfl) hb
  clear e1 e0 hb ha hx
  by_cases hs : x < 16
  · have c3 := p_may x 1 x0 x1 (if_pos (by omega))
    go_enter Try.func6, Try.ntmps6
    go_wp2_with fail
    refine (awake_true _).mono ?_
    rintro e w1 ⟨rfl, rfl⟩
    go_wp2_with fail
    refine (c1 _).mono ?_
    rintro e w1 ⟨rfl, rfl⟩
    go_wp2_with fail
    refine (c2 _).mono ?_
    rintro e w1 ⟨rfl, rfl⟩
    go_wp2_with fail
    refine (c3 _).mono ?_
    rintro e w1 ⟨rfl, rfl⟩
    have t : ((1 : Int) == x / 16) = false := by simp; omega
    go_wp2_with (go_at_call 12; go_in)
    go_wp2
    go_ret
    exact ⟨rfl, rfl⟩
  · obtain ⟨p, hp⟩ : ∃ p, x / 16 = p := ⟨_, rfl⟩
    have p0 : 1 ≤ p := by omega
    have p1 : p ≤ 4095 := by omega
    have hc : chance x = p := by unfold chance; split <;> omega
    have c3 := p_may x p x0 x1 hc
    rw [hp] at hq
    clear hp hc
    go_enter Try.func6, Try.ntmps6
    go_wp2_with fail
    refine (awake_true _).mono ?_
    rintro e w1 ⟨rfl, rfl⟩
    go_wp2_with fail
    refine (c1 _).mono ?_
    rintro e w1 ⟨rfl, rfl⟩
    go_wp2_with fail
    refine (c2 _).mono ?_
    rintro e w1 ⟨rfl, rfl⟩
    go_wp2_with fail
    refine (c3 _).mono ?_
    rintro e w1 ⟨rfl, rfl⟩
    go_wp2_with (go_at_call 12; go_in)
    go_wp2
    go_ret
    exact ⟨rfl, rfl⟩

end Go.Proofs.Ytbfdjhgldmkolaa.Cnt
