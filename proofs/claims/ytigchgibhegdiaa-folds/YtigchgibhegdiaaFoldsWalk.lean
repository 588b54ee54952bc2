/-
  The walk of Folds: it answers true for any two ints. No condition.
-/
import Derived.Test.YtigchgibhegdiaaFRef
namespace Go.Proofs.Ytigchgibhegdiaa.Fld
open Go.RowKit Go.Proofs.Ytigchgibhegdiaa.Num
set_option linter.unusedVariables false

/-- A function of one int that answers two numbers and leaves the world. -/
def Tells (F : FuncId) (x a e : Int) : Prop := ∀ w : World, Calls Try.prog F #[.int .i64 x] w fun r w' => r = .returned (.tuple #[.int .i64 a, .int .i64 e]) ∧ w' = w

/-- A number that is folded, and comes back; or one that is none. -/
theorem put_both (x : Int) : (∃ a, Tells 7 x a 0 ∧ Tells 8 x a 0 ∧ Tells 9 a x 0) ∨ (Tells 7 x 0 1000 ∧ Tells 8 x 0 1000) := by
  by_cases h : x < -16777216 ∨ 16777216 < x
  · exact .inr ⟨put_no x h, rput_no x h⟩
  · by_cases s : x < 0
    · exact .inl ⟨2 * -x - 1, put_neg x _ s (by omega) rfl, rput_neg x _ s (by omega) rfl, get_odd _ x (by omega) (by omega) rfl⟩
    · exact .inl ⟨2 * x, put_pos x _ (by omega) (by omega) rfl, rput_pos x _ (by omega) (by omega) rfl, get_even _ x (by omega) (by omega) rfl⟩

/-- A number that one is folded to; or none's. -/
theorem get_both (u : Int) : (∃ c, Tells 9 u c 0 ∧ Tells 10 u c 0 ∧ Tells 7 c u 0) ∨ (Tells 9 u 0 1000 ∧ Tells 10 u 0 1000) := by
  by_cases h : u < 0 ∨ 33554432 < u
  · exact .inr ⟨get_no u h, rget_no u h⟩
  · by_cases s : u % 2 = 1
    · exact .inl ⟨-((u + 1) / 2), get_odd u _ (by omega) (by omega) (by omega), rget_odd u _ (by omega) (by omega) (by omega), put_neg _ u (by omega) (by omega) (by omega)⟩
    · exact .inl ⟨u / 2, get_even u _ (by omega) (by omega) (by omega), rget_even u _ (by omega) (by omega) (by omega), put_pos _ u (by omega) (by omega) (by omega)⟩

theorem get_zero : Tells 9 0 0 0 := get_even 0 0 (by decide) (by decide) (by decide)
theorem put_zero : Tells 7 0 0 0 := put_pos 0 0 (by decide) (by decide) (by decide)

set_option maxRecDepth 20000 in
set_option maxHeartbeats 1000000 in
theorem folds_yy (x u a c : Int) (q1 : Tells 7 x a 0) (q2 : Tells 8 x a 0) (q3 : Tells 9 u c 0) (q4 : Tells 10 u c 0)
    (q5 : Tells 9 a x 0) (q6 : Tells 7 c u 0) (w : World) :
    Calls Try.prog 3 #[.int .i64 x, .int .i64 u] w fun e w' => e = .returned (.bool true) ∧ w' = w := by
  go_enter Try.func3, Try.ntmps3
  go_wp2_with fail
  refine (q1 _).mono ?_
  rintro e w1 ⟨rfl, rfl⟩
  go_wp2_with fail
  refine (q2 _).mono ?_
  rintro e w1 ⟨rfl, rfl⟩
  go_wp2_with fail
  refine (q3 _).mono ?_
  rintro e w1 ⟨rfl, rfl⟩
  go_wp2_with fail
  refine (q4 _).mono ?_
  rintro e w1 ⟨rfl, rfl⟩
  go_wp2_with (first | (go_at_call 11; go_in) | fail)
  refine (q5 _).mono ?_
  rintro e w1 ⟨rfl, rfl⟩
  go_wp2_with (first | (go_at_call 11; go_in) | fail)
  refine (q6 _).mono ?_
  rintro e w1 ⟨rfl, rfl⟩
  go_wp2_with (first | (go_at_call 11; go_in) | fail)
  refine (awake_true _).mono ?_
  rintro e w1 ⟨rfl, rfl⟩
  go_wp2
  go_ret
  exact ⟨rfl, rfl⟩

set_option maxRecDepth 20000 in
set_option maxHeartbeats 1000000 in
theorem folds_yn (x u a c : Int) (q1 : Tells 7 x a 0) (q2 : Tells 8 x a 0) (q3 : Tells 9 u 0 1000) (q4 : Tells 10 u 0 1000)
    (q5 : Tells 9 a x 0) (q6 : Tells 7 0 0 0) (w : World) :
    Calls Try.prog 3 #[.int .i64 x, .int .i64 u] w fun e w' => e = .returned (.bool true) ∧ w' = w := by
  go_enter Try.func3, Try.ntmps3
  go_wp2_with fail
  refine (q1 _).mono ?_
  rintro e w1 ⟨rfl, rfl⟩
  go_wp2_with fail
  refine (q2 _).mono ?_
  rintro e w1 ⟨rfl, rfl⟩
  go_wp2_with fail
  refine (q3 _).mono ?_
  rintro e w1 ⟨rfl, rfl⟩
  go_wp2_with fail
  refine (q4 _).mono ?_
  rintro e w1 ⟨rfl, rfl⟩
  go_wp2_with (first | (go_at_call 11; go_in) | fail)
  refine (q5 _).mono ?_
  rintro e w1 ⟨rfl, rfl⟩
  go_wp2_with (first | (go_at_call 11; go_in) | fail)
  refine (q6 _).mono ?_
  rintro e w1 ⟨rfl, rfl⟩
  go_wp2_with (first | (go_at_call 11; go_in) | fail)
  refine (awake_true _).mono ?_
  rintro e w1 ⟨rfl, rfl⟩
  go_wp2
  go_ret
  exact ⟨rfl, rfl⟩

set_option maxRecDepth 20000 in
set_option maxHeartbeats 1000000 in
theorem folds_ny (x u a c : Int) (q1 : Tells 7 x 0 1000) (q2 : Tells 8 x 0 1000) (q3 : Tells 9 u c 0) (q4 : Tells 10 u c 0)
    (q5 : Tells 9 0 0 0) (q6 : Tells 7 c u 0) (w : World) :
    Calls Try.prog 3 #[.int .i64 x, .int .i64 u] w fun e w' => e = .returned (.bool true) ∧ w' = w := by
  go_enter Try.func3, Try.ntmps3
  go_wp2_with fail
  refine (q1 _).mono ?_
  rintro e w1 ⟨rfl, rfl⟩
  go_wp2_with fail
  refine (q2 _).mono ?_
  rintro e w1 ⟨rfl, rfl⟩
  go_wp2_with fail
  refine (q3 _).mono ?_
  rintro e w1 ⟨rfl, rfl⟩
  go_wp2_with fail
  refine (q4 _).mono ?_
  rintro e w1 ⟨rfl, rfl⟩
  go_wp2_with (first | (go_at_call 11; go_in) | fail)
  refine (q5 _).mono ?_
  rintro e w1 ⟨rfl, rfl⟩
  go_wp2_with (first | (go_at_call 11; go_in) | fail)
  refine (q6 _).mono ?_
  rintro e w1 ⟨rfl, rfl⟩
  go_wp2_with (first | (go_at_call 11; go_in) | fail)
  refine (awake_true _).mono ?_
  rintro e w1 ⟨rfl, rfl⟩
  go_wp2
  go_ret
  exact ⟨rfl, rfl⟩

set_option maxRecDepth 20000 in
set_option maxHeartbeats 1000000 in
theorem folds_nn (x u a c : Int) (q1 : Tells 7 x 0 1000) (q2 : Tells 8 x 0 1000) (q3 : Tells 9 u 0 1000) (q4 : Tells 10 u 0 1000)
    (q5 : Tells 9 0 0 0) (q6 : Tells 7 0 0 0) (w : World) :
    Calls Try.prog 3 #[.int .i64 x, .int .i64 u] w fun e w' => e = .returned (.bool true) ∧ w' = w := by
  go_enter Try.func3, Try.ntmps3
  go_wp2_with fail
  refine (q1 _).mono ?_
  rintro e w1 ⟨rfl, rfl⟩
  go_wp2_with fail
  refine (q2 _).mono ?_
  rintro e w1 ⟨rfl, rfl⟩
  go_wp2_with fail
  refine (q3 _).mono ?_
  rintro e w1 ⟨rfl, rfl⟩
  go_wp2_with fail
  refine (q4 _).mono ?_
  rintro e w1 ⟨rfl, rfl⟩
  go_wp2_with (first | (go_at_call 11; go_in) | fail)
  refine (q5 _).mono ?_
  rintro e w1 ⟨rfl, rfl⟩
  go_wp2_with (first | (go_at_call 11; go_in) | fail)
  refine (q6 _).mono ?_
  rintro e w1 ⟨rfl, rfl⟩
  go_wp2_with (first | (go_at_call 11; go_in) | fail)
  refine (awake_true _).mono ?_
  rintro e w1 ⟨rfl, rfl⟩
  go_wp2
  go_ret
  exact ⟨rfl, rfl⟩

theorem folds_walk (x u : Int) (w : World) :
    Calls Try.prog 3 #[.int .i64 x, .int .i64 u] w fun e w' => e = .returned (.bool true) ∧ w' = w := by
  rcases put_both x with ⟨a, p1, p2, p3⟩ | ⟨p1, p2⟩ <;> rcases get_both u with ⟨c, g1, g2, g3⟩ | ⟨g1, g2⟩
  · exact folds_yy x u a c p1 p2 g1 g2 p3 g3 w
  · exact folds_yn x u a 0 p1 p2 g1 g2 p3 put_zero w
  · exact folds_ny x u 0 c p1 p2 g1 g2 get_zero g3 w
  · exact folds_nn x u 0 0 p1 p2 g1 g2 get_zero put_zero w

end Go.Proofs.Ytigchgibhegdiaa.Fld
