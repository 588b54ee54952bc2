/-
  The contracts of the reference's functions for layer 7: they answer as package count's do. No condition.
-/
import Derived.Test.YtnldnkcfeclmpaaDoorUCount
namespace Go.Proofs.YtnldnkcfeclmpaaDoor.Cnt
open Go.RowKit Go.Proofs.YtnldnkcfeclmpaaDoor.Num
set_option linter.unusedVariables false

set_option maxHeartbeats 400000 in
theorem upTo_ok (c : Int) (w : World) :
    Calls Tryd.prog 41 #[.int .i64 c, .int .i64 0, .int .i64 65535] w fun e w' => e = .returned (.bool (cntB c)) ∧ w' = w := by
  by_cases h0 : 0 ≤ c
  · have e : cntB c = decide (c ≤ 65535) := by unfold cntB; simp [h0]
    rw [e]
    go_enter Tryd.func41, Tryd.ntmps41
    go_wp2
    go_ret
    exact ⟨rfl, rfl⟩
  · have e : cntB c = false := decide_eq_false fun k => h0 k.1
    rw [e]
    have h3 : decide (0 ≤ c) = false := decide_eq_false h0
    go_enter Tryd.func41, Tryd.ntmps41
    go_wp2
    go_ret
    exact ⟨rfl, rfl⟩

theorem countMay_ok (c : Int) (w : World) :
    Calls Tryd.prog 33 #[.int .i64 c] w fun e w' => e = .returned (.bool (cntB c)) ∧ w' = w := by
  go_enter Tryd.func33, Tryd.ntmps33
  go_wp2_with fail
  refine (upTo_ok c _).mono ?_
  rintro e w1 ⟨rfl, rfl⟩
  go_wp2
  go_ret
  exact ⟨rfl, rfl⟩

set_option maxHeartbeats 400000 in
theorem bitMay_ok (b : Int) (w : World) :
    Calls Tryd.prog 28 #[.int .i64 b] w fun e w' => e = .returned (.bool (bitB b)) ∧ w' = w := by
  by_cases h0 : b = 0
  · subst h0
    go_enter Tryd.func28, Tryd.ntmps28
    go_wp2
    go_ret
    exact ⟨rfl, rfl⟩
  · by_cases h1 : b = 1
    · subst h1
      go_enter Tryd.func28, Tryd.ntmps28
      go_wp2
      go_ret
      exact ⟨rfl, rfl⟩
    · have e0 : (b == 0) = false := by simpa using h0
      have e1 : (b == 1) = false := by simpa using h1
      have e : bitB b = false := decide_eq_false fun k => k.elim h0 h1
      rw [e]
      clear h0 h1 e
      go_enter Tryd.func28, Tryd.ntmps28
      go_wp2
      go_ret
      exact ⟨rfl, rfl⟩

set_option maxHeartbeats 800000 in
theorem rnext_ok (c b : Int) (w : World) :
    Calls Tryd.prog 30 #[.int .i64 c, .int .i64 b] w fun e w' => e = .returned (nextAns c b) ∧ w' = w := by
  by_cases hc : cntB c = true
  · by_cases hb : bitB b = true
    · have e : nextAns c b = .tuple #[.int .i64 (step c b), .int .i64 0] := if_pos ⟨hc, hb⟩
      rw [e]
      obtain ⟨c0, c1⟩ := cntB_of hc
      have q1 : (65535 - c).tdiv 16 = (65535 - c) / 16 := Int.tdiv_eq_ediv_of_nonneg (by omega)
      have q0 : c.tdiv 16 = c / 16 := Int.tdiv_eq_ediv_of_nonneg (by omega)
      rcases bitB_of hb with rfl | rfl
      · have e2 : step c 0 = c - c / 16 := if_neg (by decide)
        rw [e2]
        go_enter Tryd.func30, Tryd.ntmps30
        go_wp2_with fail
        refine (countMay_ok c _).mono ?_
        rw [hc]
        rintro e w1 ⟨rfl, rfl⟩
        go_wp2_with fail
        refine (bitMay_ok 0 _).mono ?_
        rw [hb]
        rintro e w1 ⟨rfl, rfl⟩
        go_wp2
        go_ret2
        exact ⟨rfl, rfl⟩
      · have e2 : step c 1 = c + (65535 - c) / 16 := if_pos rfl
        rw [e2]
        go_enter Tryd.func30, Tryd.ntmps30
        go_wp2_with fail
        refine (countMay_ok c _).mono ?_
        rw [hc]
        rintro e w1 ⟨rfl, rfl⟩
        go_wp2_with fail
        refine (bitMay_ok 1 _).mono ?_
        rw [hb]
        rintro e w1 ⟨rfl, rfl⟩
        go_wp2
        go_ret2
        exact ⟨rfl, rfl⟩
    · have e : nextAns c b = .tuple #[.int .i64 0, .int .i64 700] := if_neg fun k => hb k.2
      rw [e]
      have hb' : bitB b = false := by simpa using hb
      go_enter Tryd.func30, Tryd.ntmps30
      go_wp2_with fail
      refine (countMay_ok c _).mono ?_
      rw [hc]
      rintro e w1 ⟨rfl, rfl⟩
      go_wp2_with fail
      refine (bitMay_ok b _).mono ?_
      rw [hb']
      rintro e w1 ⟨rfl, rfl⟩
      go_wp2
      go_ret2
      exact ⟨rfl, rfl⟩
  · have e : nextAns c b = .tuple #[.int .i64 0, .int .i64 700] := if_neg fun k => hc k.1
    rw [e]
    have hc' : cntB c = false := by simpa using hc
    go_enter Tryd.func30, Tryd.ntmps30
    go_wp2_with fail
    refine (countMay_ok c _).mono ?_
    rw [hc']
    rintro e w1 ⟨rfl, rfl⟩
    go_wp2
    go_ret2
    exact ⟨rfl, rfl⟩

set_option maxHeartbeats 400000 in
theorem within_ok (q y : Int) (h0 : 0 ≤ q) (h1 : q ≤ 4095) (hy : (if q ≤ 1 then 1 else q) = y) (w : World) :
    Calls Tryd.prog 42 #[.int .i64 q, .int .i64 1, .int .i64 4095] w fun e w' => e = .returned (.int .i64 y) ∧ w' = w := by
  by_cases h2 : q ≤ 1
  · rw [if_pos h2] at hy
    subst hy
    go_enter Tryd.func42, Tryd.ntmps42
    go_wp2
    go_ret
    exact ⟨rfl, rfl⟩
  · rw [if_neg h2] at hy
    subst hy
    by_cases h3 : q = 4095
    · subst h3
      go_enter Tryd.func42, Tryd.ntmps42
      go_wp2
      go_ret
      exact ⟨rfl, rfl⟩
    · have h4 : q < 4095 := by omega
      clear h3 h1
      go_enter Tryd.func42, Tryd.ntmps42
      go_wp2
      go_ret
      exact ⟨rfl, rfl⟩

set_option maxHeartbeats 800000 in
theorem rp_ok (c : Int) (w : World) :
    Calls Tryd.prog 44 #[.int .i64 c] w fun e w' => e = .returned (pAns c) ∧ w' = w := by
  by_cases hc : cntB c = true
  · have e : pAns c = .tuple #[.int .i64 (chance c), .int .i64 0] := if_pos hc
    rw [e]
    obtain ⟨c0, c1⟩ := cntB_of hc
    have q0 : c.tdiv 16 = c / 16 := Int.tdiv_eq_ediv_of_nonneg (by omega)
    have hy := within_ok (c / 16) (chance c) (by omega) (by omega) rfl
    generalize chance c = y at *
    go_enter Tryd.func44, Tryd.ntmps44
    go_wp2_with fail
    refine (countMay_ok c _).mono ?_
    rw [hc]
    rintro e w1 ⟨rfl, rfl⟩
    go_wp2_with fail
    refine (hy _).mono ?_
    rintro e w1 ⟨rfl, rfl⟩
    go_wp2
    go_ret2
    exact ⟨rfl, rfl⟩
  · have e : pAns c = .tuple #[.int .i64 0, .int .i64 700] := if_neg hc
    rw [e]
    have hc' : cntB c = false := by simpa using hc
    go_enter Tryd.func44, Tryd.ntmps44
    go_wp2_with fail
    refine (countMay_ok c _).mono ?_
    rw [hc']
    rintro e w1 ⟨rfl, rfl⟩
    go_wp2
    go_ret2
    exact ⟨rfl, rfl⟩

end Go.Proofs.YtnldnkcfeclmpaaDoor.Cnt
