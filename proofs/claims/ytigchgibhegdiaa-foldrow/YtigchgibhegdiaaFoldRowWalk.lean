/-
  The walk of FoldRow: it answers true for any two ints. No condition.
-/
import Derived.Test.YtigchgibhegdiaaFFold
namespace Go.Proofs.Ytigchgibhegdiaa.Fld
open Go.RowKit Go.Proofs.Ytigchgibhegdiaa.Num
set_option linter.unusedVariables false

/-- What a number is folded to. -/
def fd (x : Int) : Int := if x < 0 then 2 * -x - 1 else 2 * x

theorem fd_neg {x : Int} (h : x < 0) : fd x = 2 * -x - 1 := if_pos h
theorem fd_pos {x : Int} (h : 0 ≤ x) : fd x = 2 * x := if_neg (by omega)

/-- Put of a number that may be. -/
theorem put_fd (x y : Int) (h0 : -16777216 ≤ x) (h1 : x ≤ 16777216) (hy : fd x = y) (w : World) :
    Calls Try.prog 7 #[.int .i64 x] w fun e w' => e = .returned (.tuple #[.int .i64 y, .int .i64 0]) ∧ w' = w := by
  by_cases h : x < 0
  · exact put_neg x y h h0 ((fd_neg h).symm.trans hy) w
  · exact put_pos x y (by omega) h1 ((fd_pos (by omega)).symm.trans hy) w

theorem and1 (n : Int) : bits .and .i64 n 1 = n % 2 := and_mask 1 1 (by decide) (by decide) n

set_option maxRecDepth 20000 in
set_option maxHeartbeats 2000000 in
theorem row_walk (x y : Int) (w : World) :
    Calls Try.prog 5 #[.int .i64 x, .int .i64 y] w fun e w' => e = .returned (.bool true) ∧ w' = w := by
  obtain ⟨c, hc⟩ : ∃ c, bits .and .i64 x 65535 = c := ⟨_, rfl⟩
  obtain ⟨d, hd⟩ : ∃ d, bits .and .i64 y 65535 = d := ⟨_, rfl⟩
  have hx := and16 x
  have hy := and16 y
  have c0 : 0 ≤ c := by omega
  have c1 : c < 65536 := by omega
  have d0 : 0 ≤ d := by omega
  have d1 : d < 65536 := by omega
  clear hx hy
  obtain ⟨p, hp⟩ : ∃ p, fd (c - 32768) = p := ⟨_, rfl⟩
  obtain ⟨q, hq⟩ : ∃ q, fd (d - 32768) = q := ⟨_, rfl⟩
  have e1 : (p == q) = (c - 32768 == d - 32768) := by
    rw [Bool.eq_iff_iff]; simp only [beq_iff_eq]; rw [← hp, ← hq]; unfold fd; split <;> split <;> omega
  have e3 : (bits .and .i64 p 1 == 0) = decide (0 ≤ c - 32768) := by
    rw [Bool.eq_iff_iff, and1]; simp only [beq_iff_eq, decide_eq_true_eq]; rw [← hp]; unfold fd; split <;> omega
  have k1 := put_fd (c - 32768) p (by omega) (by omega) hp
  have k2 := put_fd (d - 32768) q (by omega) (by omega) hq
  have p0 : 0 ≤ p := by rw [← hp]; unfold fd; split <;> omega
  have p1 : p ≤ 65536 := by rw [← hp]; unfold fd; split <;> omega
  have q0 : 0 ≤ q := by rw [← hq]; unfold fd; split <;> omega
  have q1 : q ≤ 65536 := by rw [← hq]; unfold fd; split <;> omega
  have hp' : Hid (fd (c - 32768) = p) := hp
  have hq' : Hid (fd (d - 32768) = q) := hq
  clear hp hq
  have s : (c < 32768 ∨ 32768 ≤ c) ∧ (d < 32768 ∨ 32768 ≤ d) := by omega
  rcases s with ⟨s1 | s1, s2 | s2⟩
  · have z : (d ≥ c) ∨ p < q := by rw [← hp'.out, ← hq'.out]; unfold fd; split <;> split <;> omega
    rcases z with z | z
    · go_enter Try.func5, Try.ntmps5
      go_wp2_with fail
      refine (awake_true _).mono ?_
      rintro e w1 ⟨rfl, rfl⟩
      go_wp2_with fail
      refine (k1 _).mono ?_
      rintro e w1 ⟨rfl, rfl⟩
      go_wp2_with fail
      refine (k2 _).mono ?_
      rintro e w1 ⟨rfl, rfl⟩
      go_wp2_with (go_at_call 11; go_in)
      go_wp2
      all_goals go_ret
      all_goals exact ⟨rfl, rfl⟩
    · go_enter Try.func5, Try.ntmps5
      go_wp2_with fail
      refine (awake_true _).mono ?_
      rintro e w1 ⟨rfl, rfl⟩
      go_wp2_with fail
      refine (k1 _).mono ?_
      rintro e w1 ⟨rfl, rfl⟩
      go_wp2_with fail
      refine (k2 _).mono ?_
      rintro e w1 ⟨rfl, rfl⟩
      go_wp2_with (go_at_call 11; go_in)
      go_wp2
      all_goals go_ret
      all_goals exact ⟨rfl, rfl⟩
  · have z : (d - 32768 ≤ 32768 - c) ∨ p < q := by rw [← hp'.out, ← hq'.out]; unfold fd; split <;> split <;> omega
    rcases z with z | z
    · go_enter Try.func5, Try.ntmps5
      go_wp2_with fail
      refine (awake_true _).mono ?_
      rintro e w1 ⟨rfl, rfl⟩
      go_wp2_with fail
      refine (k1 _).mono ?_
      rintro e w1 ⟨rfl, rfl⟩
      go_wp2_with fail
      refine (k2 _).mono ?_
      rintro e w1 ⟨rfl, rfl⟩
      go_wp2_with (go_at_call 11; go_in)
      go_wp2
      all_goals go_ret
      all_goals exact ⟨rfl, rfl⟩
    · go_enter Try.func5, Try.ntmps5
      go_wp2_with fail
      refine (awake_true _).mono ?_
      rintro e w1 ⟨rfl, rfl⟩
      go_wp2_with fail
      refine (k1 _).mono ?_
      rintro e w1 ⟨rfl, rfl⟩
      go_wp2_with fail
      refine (k2 _).mono ?_
      rintro e w1 ⟨rfl, rfl⟩
      go_wp2_with (go_at_call 11; go_in)
      go_wp2
      all_goals go_ret
      all_goals exact ⟨rfl, rfl⟩
  · have z : (32768 - d ≤ c - 32768) ∨ p < q := by rw [← hp'.out, ← hq'.out]; unfold fd; split <;> split <;> omega
    rcases z with z | z
    · go_enter Try.func5, Try.ntmps5
      go_wp2_with fail
      refine (awake_true _).mono ?_
      rintro e w1 ⟨rfl, rfl⟩
      go_wp2_with fail
      refine (k1 _).mono ?_
      rintro e w1 ⟨rfl, rfl⟩
      go_wp2_with fail
      refine (k2 _).mono ?_
      rintro e w1 ⟨rfl, rfl⟩
      go_wp2_with (go_at_call 11; go_in)
      go_wp2
      all_goals go_ret
      all_goals exact ⟨rfl, rfl⟩
    · go_enter Try.func5, Try.ntmps5
      go_wp2_with fail
      refine (awake_true _).mono ?_
      rintro e w1 ⟨rfl, rfl⟩
      go_wp2_with fail
      refine (k1 _).mono ?_
      rintro e w1 ⟨rfl, rfl⟩
      go_wp2_with fail
      refine (k2 _).mono ?_
      rintro e w1 ⟨rfl, rfl⟩
      go_wp2_with (go_at_call 11; go_in)
      go_wp2
      all_goals go_ret
      all_goals exact ⟨rfl, rfl⟩
  · have z : (d ≤ c) ∨ p < q := by rw [← hp'.out, ← hq'.out]; unfold fd; split <;> split <;> omega
    rcases z with z | z
    · go_enter Try.func5, Try.ntmps5
      go_wp2_with fail
      refine (awake_true _).mono ?_
      rintro e w1 ⟨rfl, rfl⟩
      go_wp2_with fail
      refine (k1 _).mono ?_
      rintro e w1 ⟨rfl, rfl⟩
      go_wp2_with fail
      refine (k2 _).mono ?_
      rintro e w1 ⟨rfl, rfl⟩
      go_wp2_with (go_at_call 11; go_in)
      go_wp2
      all_goals go_ret
      all_goals exact ⟨rfl, rfl⟩
    · go_enter Try.func5, Try.ntmps5
      go_wp2_with fail
      refine (awake_true _).mono ?_
      rintro e w1 ⟨rfl, rfl⟩
      go_wp2_with fail
      refine (k1 _).mono ?_
      rintro e w1 ⟨rfl, rfl⟩
      go_wp2_with fail
      refine (k2 _).mono ?_
      rintro e w1 ⟨rfl, rfl⟩
      go_wp2_with (go_at_call 11; go_in)
      go_wp2
      all_goals go_ret
      all_goals exact ⟨rfl, rfl⟩

end Go.Proofs.Ytigchgibhegdiaa.Fld
