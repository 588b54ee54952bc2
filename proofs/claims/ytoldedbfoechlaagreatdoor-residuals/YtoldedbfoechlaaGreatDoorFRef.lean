/-
  The contracts of the reference's functions for layer 10: they answer as package fold's do. No condition.
-/
import Derived.Test.YtoldedbfoechlaaGreatDoorFFold
namespace Go.Proofs.YtoldedbfoechlaaGreatDoor.Fld
open Go.RowKit Go.Proofs.YtoldedbfoechlaaGreatDoor.Num
set_option linter.unusedVariables false

set_option maxHeartbeats 400000 in
theorem upTo_yes (c a b : Int) (h0 : a ≤ c) (h1 : c ≤ b) (w : World) :
    Calls Tryz.prog 51 #[.int .i64 c, .int .i64 a, .int .i64 b] w fun e w' => e = .returned (.bool true) ∧ w' = w := by
  go_enter Tryz.func51, Tryz.ntmps51
  go_wp2
  go_ret
  exact ⟨rfl, rfl⟩

set_option maxHeartbeats 400000 in
theorem upTo_no (c a b : Int) (h : c < a ∨ b < c) (w : World) :
    Calls Tryz.prog 51 #[.int .i64 c, .int .i64 a, .int .i64 b] w fun e w' => e = .returned (.bool false) ∧ w' = w := by
  by_cases h0 : a ≤ c
  · have h1 : decide (c ≤ b) = false := decide_eq_false (by omega)
    clear h
    go_enter Tryz.func51, Tryz.ntmps51
    go_wp2
    go_ret
    exact ⟨rfl, rfl⟩
  · have h3 : decide (a ≤ c) = false := decide_eq_false h0
    clear h
    go_enter Tryz.func51, Tryz.ntmps51
    go_wp2
    go_ret
    exact ⟨rfl, rfl⟩

set_option maxHeartbeats 400000 in
theorem rput_neg (x y : Int) (h0 : x < 0) (h1 : -16777216 ≤ x) (hy : 2 * -x - 1 = y) (w : World) :
    Calls Tryz.prog 27 #[.int .i64 x] w fun e w' => e = .returned (.tuple #[.int .i64 y, .int .i64 0]) ∧ w' = w := by
  have hz : -2 * x - 1 = y := by omega
  clear hy
  subst hz
  go_enter Tryz.func27, Tryz.ntmps27
  go_wp2_with fail
  refine (upTo_yes _ _ _ (by omega) (by omega) _).mono ?_
  rintro e w1 ⟨rfl, rfl⟩
  go_wp2
  go_ret2
  exact ⟨rfl, rfl⟩

set_option maxHeartbeats 400000 in
theorem rput_pos (x y : Int) (h0 : 0 ≤ x) (h1 : x ≤ 16777216) (hy : 2 * x = y) (w : World) :
    Calls Tryz.prog 27 #[.int .i64 x] w fun e w' => e = .returned (.tuple #[.int .i64 y, .int .i64 0]) ∧ w' = w := by
  subst hy
  go_enter Tryz.func27, Tryz.ntmps27
  go_wp2_with fail
  refine (upTo_yes _ _ _ (by omega) (by omega) _).mono ?_
  rintro e w1 ⟨rfl, rfl⟩
  go_wp2
  go_ret2
  exact ⟨rfl, rfl⟩

set_option maxHeartbeats 400000 in
theorem rput_no (x : Int) (h : x < -16777216 ∨ 16777216 < x) (w : World) :
    Calls Tryz.prog 27 #[.int .i64 x] w fun e w' => e = .returned (.tuple #[.int .i64 0, .int .i64 1000]) ∧ w' = w := by
  go_enter Tryz.func27, Tryz.ntmps27
  go_wp2_with fail
  refine (upTo_no _ _ _ h _).mono ?_
  rintro e w1 ⟨rfl, rfl⟩
  go_wp2
  go_ret2
  exact ⟨rfl, rfl⟩

theorem and1 (n : Int) : bits .and .i64 n 1 = n % 2 := and_mask 1 1 (by decide) (by decide) n

set_option maxHeartbeats 400000 in
theorem rget_odd (u y : Int) (h0 : 0 ≤ u) (h1 : u ≤ 33554432) (hy : u = 2 * -y - 1) (w : World) :
    Calls Tryz.prog 40 #[.int .i64 u] w fun e w' => e = .returned (.tuple #[.int .i64 y, .int .i64 0]) ∧ w' = w := by
  have m : bits .and .i64 u 1 = 1 := by rw [and1]; omega
  have q : (-(u + 1)).tdiv 2 = y := by
    have e : -(u + 1) = y * 2 := by omega
    rw [e]; exact Int.mul_tdiv_cancel y (by decide)
  have y0 : -33554432 ≤ y := by omega
  have y1 : y ≤ 33554432 := by omega
  clear hy
  go_enter Tryz.func40, Tryz.ntmps40
  go_wp2_with fail
  refine (upTo_yes _ _ _ (by omega) (by omega) _).mono ?_
  rintro e w1 ⟨rfl, rfl⟩
  go_wp2
  go_ret2
  exact ⟨rfl, rfl⟩

set_option maxHeartbeats 400000 in
theorem rget_even (u y : Int) (h0 : 0 ≤ u) (h1 : u ≤ 33554432) (hy : u = 2 * y) (w : World) :
    Calls Tryz.prog 40 #[.int .i64 u] w fun e w' => e = .returned (.tuple #[.int .i64 y, .int .i64 0]) ∧ w' = w := by
  have m : bits .and .i64 u 1 = 0 := by rw [and1]; omega
  have q : u.tdiv 2 = y := by
    have e : u = y * 2 := by omega
    rw [e]; exact Int.mul_tdiv_cancel y (by decide)
  have y0 : -33554432 ≤ y := by omega
  have y1 : y ≤ 33554432 := by omega
  clear hy
  go_enter Tryz.func40, Tryz.ntmps40
  go_wp2_with fail
  refine (upTo_yes _ _ _ (by omega) (by omega) _).mono ?_
  rintro e w1 ⟨rfl, rfl⟩
  go_wp2
  go_ret2
  exact ⟨rfl, rfl⟩

set_option maxHeartbeats 400000 in
theorem rget_no (u : Int) (h : u < 0 ∨ 33554432 < u) (w : World) :
    Calls Tryz.prog 40 #[.int .i64 u] w fun e w' => e = .returned (.tuple #[.int .i64 0, .int .i64 1000]) ∧ w' = w := by
  go_enter Tryz.func40, Tryz.ntmps40
  go_wp2_with fail
  refine (upTo_no _ _ _ h _).mono ?_
  rintro e w1 ⟨rfl, rfl⟩
  go_wp2
  go_ret2
  exact ⟨rfl, rfl⟩

end Go.Proofs.YtoldedbfoechlaaGreatDoor.Fld
