/-
  The walk of CountLearns: it answers true for any int and bool. No condition.
-/
import Derived.Test.YtbfdjhgldmkolaaUAwake
namespace Go.Proofs.Ytbfdjhgldmkolaa.Cnt
open Go.RowKit Go.Proofs.Ytbfdjhgldmkolaa.Num
set_option linter.unusedVariables false

/-- The least counter behind so many bits 1, the greatest behind so many bits 0. -/
def least : Nat → Int
  | 0 => 0
  | k + 1 => least k + (65535 - least k) / 16
def most : Nat → Int
  | 0 => 65535
  | k + 1 => most k - most k / 16

theorem least_end : 65500 < least 200 := by decide +kernel
theorem most_end : most 200 < 35 := by decide +kernel

set_option maxRecDepth 20000 in
set_option maxHeartbeats 1000000 in
theorem learns_one (c x : Int) (hm : bits .and .i64 c 65535 = x) (x0 : 0 ≤ x) (x1 : x ≤ 65535) (w : World) :
    Calls Try.prog 4 #[.int .i64 c, .bool true] w fun e w' => e = .returned (.bool true) ∧ w' = w := by
  go_enter Try.func4, Try.ntmps4
  go_wp2_with fail
  refine (awake_true _).mono ?_
  rintro e w1 ⟨rfl, rfl⟩
  go_wp2
  obtain ⟨N, hN⟩ : ∃ N : Nat, N = 200 := ⟨_, rfl⟩
  have HN : Hid (N = 200) := hN
  clear hN
  go_loop [5, 7] (fun v i => ∃ (k : Nat) (y : Int), k ≤ N ∧ i = .int .i64 k ∧ v = .int .i64 y ∧ 0 ≤ y ∧ y ≤ 65535 ∧ least k ≤ y) (fun _ i => N - (intOf i).toNat)
  case atStart => exact ⟨0, x, Nat.zero_le _, rfl, rfl, x0, x1, x0⟩
  case round =>
    obtain ⟨k, y, hk, rfl, rfl, y0, y1, hy⟩ := hrel
    have HY : Hid (least k ≤ y) := hy
    clear hy
    by_cases hlt : k < N
    · obtain ⟨z, hz⟩ : ∃ z, step y 1 = z := ⟨_, rfl⟩
      have e1 : step y 1 = y + (65535 - y) / 16 := if_pos rfl
      have z0 : y ≤ z := by omega
      have z1 : z ≤ 65535 := by omega
      have z2 : 0 ≤ z := by omega
      have HZ : Hid (least (k + 1) ≤ z) := by
        show least k + (65535 - least k) / 16 ≤ z
        have := HY.out
        omega
      have C := next_may y 1 z y0 y1 (.inr rfl) hz
      have HK : Hid (k < N) := hlt
      have i0 : (k : Int) < 200 := by have := HN.out; omega
      clear e1 hz hlt hk
      go_wp2_with fail
      refine (C _).mono ?_
      rintro e w1 ⟨rfl, rfl⟩
      go_wp2_with fail
      refine (num_ok _ _).mono ?_
      rintro e w1 ⟨rfl, rfl⟩
      go_wp2
      go_round
      case rel => exact ⟨k + 1, z, HK.out, by go_num, rfl, z2, z1, HZ.out⟩
      case measure => have := HK.out; simp [intOf]; omega
    · obtain rfl : k = 200 := by have := HN.out; omega
      have h := least_end
      have hy : 65500 < y := by have := HY.out; omega
      clear h
      go_wp2
      go_ret
      exact ⟨rfl, rfl⟩

set_option maxRecDepth 20000 in
set_option maxHeartbeats 1000000 in
theorem learns_zero (c x : Int) (hm : bits .and .i64 c 65535 = x) (x0 : 0 ≤ x) (x1 : x ≤ 65535) (w : World) :
    Calls Try.prog 4 #[.int .i64 c, .bool false] w fun e w' => e = .returned (.bool true) ∧ w' = w := by
  go_enter Try.func4, Try.ntmps4
  go_wp2_with fail
  refine (awake_true _).mono ?_
  rintro e w1 ⟨rfl, rfl⟩
  go_wp2
  obtain ⟨N, hN⟩ : ∃ N : Nat, N = 200 := ⟨_, rfl⟩
  have HN : Hid (N = 200) := hN
  clear hN
  go_loop [5, 7] (fun v i => ∃ (k : Nat) (y : Int), k ≤ N ∧ i = .int .i64 k ∧ v = .int .i64 y ∧ 0 ≤ y ∧ y ≤ 65535 ∧ y ≤ most k) (fun _ i => N - (intOf i).toNat)
  case atStart => exact ⟨0, x, Nat.zero_le _, rfl, rfl, x0, x1, x1⟩
  case round =>
    obtain ⟨k, y, hk, rfl, rfl, y0, y1, hy⟩ := hrel
    have HY : Hid (y ≤ most k) := hy
    clear hy
    by_cases hlt : k < N
    · obtain ⟨z, hz⟩ : ∃ z, step y 0 = z := ⟨_, rfl⟩
      have e1 : step y 0 = y - y / 16 := if_neg (by decide)
      have z0 : z ≤ y := by omega
      have z1 : z ≤ 65535 := by omega
      have z2 : 0 ≤ z := by omega
      have HZ : Hid (z ≤ most (k + 1)) := by
        show z ≤ most k - most k / 16
        have := HY.out
        omega
      have C := next_may y 0 z y0 y1 (.inl rfl) hz
      have HK : Hid (k < N) := hlt
      have i0 : (k : Int) < 200 := by have := HN.out; omega
      clear e1 hz hlt hk
      go_wp2_with fail
      refine (C _).mono ?_
      rintro e w1 ⟨rfl, rfl⟩
      go_wp2_with fail
      refine (num_ok _ _).mono ?_
      rintro e w1 ⟨rfl, rfl⟩
      go_wp2
      go_round
      case rel => exact ⟨k + 1, z, HK.out, by go_num, rfl, z2, z1, HZ.out⟩
      case measure => have := HK.out; simp [intOf]; omega
    · obtain rfl : k = 200 := by have := HN.out; omega
      have h := most_end
      have hy : y < 35 := by have := HY.out; omega
      clear h
      go_wp2
      go_ret
      exact ⟨rfl, rfl⟩

theorem learns_walk (c : Int) (b : Bool) (w : World) :
    Calls Try.prog 4 #[.int .i64 c, .bool b] w fun e w' => e = .returned (.bool true) ∧ w' = w := by
  cases b
  · exact learns_zero c _ (and16 c) (by omega) (by omega) w
  · exact learns_one c _ (and16 c) (by omega) (by omega) w

end Go.Proofs.Ytbfdjhgldmkolaa.Cnt
