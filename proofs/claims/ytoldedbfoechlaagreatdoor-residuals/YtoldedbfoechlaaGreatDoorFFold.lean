/-
  The contracts of package fold: Put and Get of any ints, as P10.1 has them. No condition.
-/
import Derived.Test.YtoldedbfoechlaaGreatDoorNum
import Derived.Test.YtoldedbfoechlaaGreatDoorRows
import Derived.WalkLawsBesides
import Derived.WalkSpells
import Derived.ProofKit
namespace Go.Proofs.YtoldedbfoechlaaGreatDoor.Fld
open Go.RowKit Go.Proofs.YtoldedbfoechlaaGreatDoor.Num
set_option linter.unusedVariables false

theorem num_ok (n : Int) (w : World) :
    Calls Tryz.prog 10 #[.int .i64 n] w fun e w' => e = .returned (.int .i64 n) ∧ w' = w := by
  go_enter Tryz.func10, Tryz.ntmps10
  go_wp2
  go_ret
  exact ⟨rfl, rfl⟩

set_option maxHeartbeats 400000 in
/-- Put of a number below 0. -/
theorem put_neg (x y : Int) (h0 : x < 0) (h1 : -16777216 ≤ x) (hy : 2 * -x - 1 = y) (w : World) :
    Calls Tryz.prog 20 #[.int .i64 x] w fun e w' => e = .returned (.tuple #[.int .i64 y, .int .i64 0]) ∧ w' = w := by
  subst hy
  go_enter Tryz.func20, Tryz.ntmps20
  go_wp2
  go_ret2
  exact ⟨rfl, rfl⟩

set_option maxHeartbeats 400000 in
/-- Put of a number that is not below 0. -/
theorem put_pos (x y : Int) (h0 : 0 ≤ x) (h1 : x ≤ 16777216) (hy : 2 * x = y) (w : World) :
    Calls Tryz.prog 20 #[.int .i64 x] w fun e w' => e = .returned (.tuple #[.int .i64 y, .int .i64 0]) ∧ w' = w := by
  subst hy
  go_enter Tryz.func20, Tryz.ntmps20
  go_wp2
  go_ret2
  exact ⟨rfl, rfl⟩

set_option maxHeartbeats 400000 in
/-- Put of a number that is none. -/
theorem put_no (x : Int) (h : x < -16777216 ∨ 16777216 < x) (w : World) :
    Calls Tryz.prog 20 #[.int .i64 x] w fun e w' => e = .returned (.tuple #[.int .i64 0, .int .i64 1000]) ∧ w' = w := by
  rcases h with h | h
  · go_enter Tryz.func20, Tryz.ntmps20
    go_wp2
    go_ret2
    exact ⟨rfl, rfl⟩
  · go_enter Tryz.func20, Tryz.ntmps20
    go_wp2
    go_ret2
    exact ⟨rfl, rfl⟩

set_option maxHeartbeats 400000 in
/-- Get of an odd number. -/
theorem get_odd (u y : Int) (h0 : 0 ≤ u) (h1 : u ≤ 33554432) (hy : u = 2 * -y - 1) (w : World) :
    Calls Tryz.prog 66 #[.int .i64 u] w fun e w' => e = .returned (.tuple #[.int .i64 y, .int .i64 0]) ∧ w' = w := by
  have m : u.tmod 2 = 1 := by rw [Int.tmod_eq_emod_of_nonneg h0]; omega
  have q : (-(u + 1)).tdiv 2 = y := by
    have e : -(u + 1) = y * 2 := by omega
    rw [e]; exact Int.mul_tdiv_cancel y (by decide)
  have y0 : -33554432 ≤ y := by omega
  have y1 : y ≤ 33554432 := by omega
  clear hy
  go_enter Tryz.func66, Tryz.ntmps66
  go_wp2
  go_ret2
  exact ⟨rfl, rfl⟩

set_option maxHeartbeats 400000 in
/-- Get of an even number. -/
theorem get_even (u y : Int) (h0 : 0 ≤ u) (h1 : u ≤ 33554432) (hy : u = 2 * y) (w : World) :
    Calls Tryz.prog 66 #[.int .i64 u] w fun e w' => e = .returned (.tuple #[.int .i64 y, .int .i64 0]) ∧ w' = w := by
  have m : u.tmod 2 = 0 := by rw [Int.tmod_eq_emod_of_nonneg h0]; omega
  have q : u.tdiv 2 = y := by
    have e : u = y * 2 := by omega
    rw [e]; exact Int.mul_tdiv_cancel y (by decide)
  have y0 : -33554432 ≤ y := by omega
  have y1 : y ≤ 33554432 := by omega
  clear hy
  go_enter Tryz.func66, Tryz.ntmps66
  go_wp2
  go_ret2
  exact ⟨rfl, rfl⟩

set_option maxHeartbeats 400000 in
/-- Get of a number that is none's. -/
theorem get_no (u : Int) (h : u < 0 ∨ 33554432 < u) (w : World) :
    Calls Tryz.prog 66 #[.int .i64 u] w fun e w' => e = .returned (.tuple #[.int .i64 0, .int .i64 1000]) ∧ w' = w := by
  rcases h with h | h
  · go_enter Tryz.func66, Tryz.ntmps66
    go_wp2
    go_ret2
    exact ⟨rfl, rfl⟩
  · go_enter Tryz.func66, Tryz.ntmps66
    go_wp2
    go_ret2
    exact ⟨rfl, rfl⟩

end Go.Proofs.YtoldedbfoechlaaGreatDoor.Fld
