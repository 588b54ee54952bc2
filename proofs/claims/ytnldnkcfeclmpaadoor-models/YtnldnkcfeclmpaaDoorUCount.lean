/-
  The contracts of package count and of the reference's answers for it: New, Next and P of any ints, as P7.1 has them. No condition.
-/
import Derived.Test.YtnldnkcfeclmpaaDoorNum
import Derived.Test.YtnldnkcfeclmpaaDoorRows
import Derived.WalkLawsBesides
import Derived.WalkSpells
import Derived.ProofKit
namespace Go.Proofs.YtnldnkcfeclmpaaDoor.Cnt
open Go.RowKit Go.Proofs.YtnldnkcfeclmpaaDoor.Num
set_option linter.unusedVariables false

/-- May it be a counter; is it a bit? -/
def cntB (c : Int) : Bool := decide (0 ≤ c ∧ c ≤ 65535)
def bitB (b : Int) : Bool := decide (b = 0 ∨ b = 1)

/-- What Next answers, for what may be. -/
def step (c b : Int) : Int := if b = 1 then c + (65535 - c) / 16 else c - c / 16

/-- What Next answers. -/
def nextAns (c b : Int) : Value := if cntB c = true ∧ bitB b = true then .tuple #[.int .i64 (step c b), .int .i64 0] else .tuple #[.int .i64 0, .int .i64 700]

/-- What P answers. -/
def chance (c : Int) : Int := if c / 16 ≤ 1 then 1 else c / 16
def pAns (c : Int) : Value := if cntB c = true then .tuple #[.int .i64 (chance c), .int .i64 0] else .tuple #[.int .i64 0, .int .i64 700]

theorem num_ok (n : Int) (w : World) :
    Calls Tryd.prog 12 #[.int .i64 n] w fun e w' => e = .returned (.int .i64 n) ∧ w' = w := by
  go_enter Tryd.func12, Tryd.ntmps12
  go_wp2
  go_ret
  exact ⟨rfl, rfl⟩

theorem new_ok (w : World) :
    Calls Tryd.prog 35 #[] w fun e w' => e = .returned (.int .i64 32768) ∧ w' = w := by
  go_enter Tryd.func35, Tryd.ntmps35
  go_wp2
  go_ret
  exact ⟨rfl, rfl⟩

set_option maxHeartbeats 400000 in
theorem isCounter_ok (c : Int) (w : World) :
    Calls Tryd.prog 49 #[.int .i64 c] w fun e w' => e = .returned (.bool (cntB c)) ∧ w' = w := by
  by_cases h0 : 0 ≤ c
  · have e : cntB c = decide (c ≤ 65535) := by unfold cntB; simp [h0]
    rw [e]
    go_enter Tryd.func49, Tryd.ntmps49
    go_wp2
    go_ret
    exact ⟨rfl, rfl⟩
  · have e : cntB c = false := decide_eq_false fun k => h0 k.1
    rw [e]
    have h3 : decide (0 ≤ c) = false := decide_eq_false h0
    go_enter Tryd.func49, Tryd.ntmps49
    go_wp2
    go_ret
    exact ⟨rfl, rfl⟩

set_option maxHeartbeats 400000 in
theorem isBit_ok (b : Int) (w : World) :
    Calls Tryd.prog 50 #[.int .i64 b] w fun e w' => e = .returned (.bool (bitB b)) ∧ w' = w := by
  by_cases h0 : b = 0
  · subst h0
    go_enter Tryd.func50, Tryd.ntmps50
    go_wp2
    go_ret
    exact ⟨rfl, rfl⟩
  · by_cases h1 : b = 1
    · subst h1
      go_enter Tryd.func50, Tryd.ntmps50
      go_wp2
      go_ret
      exact ⟨rfl, rfl⟩
    · have e0 : (b == 0) = false := by simpa using h0
      have e1 : (b == 1) = false := by simpa using h1
      have e : bitB b = false := decide_eq_false fun k => k.elim h0 h1
      rw [e]
      clear h0 h1 e
      go_enter Tryd.func50, Tryd.ntmps50
      go_wp2
      go_ret
      exact ⟨rfl, rfl⟩

theorem cntB_of {c : Int} (h : cntB c = true) : 0 ≤ c ∧ c ≤ 65535 := of_decide_eq_true h
theorem bitB_of {b : Int} (h : bitB b = true) : b = 0 ∨ b = 1 := of_decide_eq_true h

set_option maxHeartbeats 800000 in
/-- Next, of any two ints. -/
theorem next_ok (c b : Int) (w : World) :
    Calls Tryd.prog 27 #[.int .i64 c, .int .i64 b] w fun e w' => e = .returned (nextAns c b) ∧ w' = w := by
  by_cases hc : cntB c = true
  · by_cases hb : bitB b = true
    · have e : nextAns c b = .tuple #[.int .i64 (step c b), .int .i64 0] := if_pos ⟨hc, hb⟩
      rw [e]
      obtain ⟨c0, c1⟩ := cntB_of hc
      have q1 : (65535 - c).tdiv 16 = (65535 - c) / 16 := Int.tdiv_eq_ediv_of_nonneg (by omega)
      have q0 : c.tdiv 16 = c / 16 := Int.tdiv_eq_ediv_of_nonneg (by omega)
      rcases bitB_of hb with rfl | rfl
      · have e2 : step c 0 = c - c / 16 := if_neg (by decide)
        rw [e2]
        go_enter Tryd.func27, Tryd.ntmps27
        go_wp2_with fail
        refine (isCounter_ok c _).mono ?_
        rw [hc]
        rintro e w1 ⟨rfl, rfl⟩
        go_wp2_with fail
        refine (isBit_ok 0 _).mono ?_
        rw [hb]
        rintro e w1 ⟨rfl, rfl⟩
        go_wp2
        go_ret2
        exact ⟨rfl, rfl⟩
      · have e2 : step c 1 = c + (65535 - c) / 16 := if_pos rfl
        rw [e2]
        go_enter Tryd.func27, Tryd.ntmps27
        go_wp2_with fail
        refine (isCounter_ok c _).mono ?_
        rw [hc]
        rintro e w1 ⟨rfl, rfl⟩
        go_wp2_with fail
        refine (isBit_ok 1 _).mono ?_
        rw [hb]
        rintro e w1 ⟨rfl, rfl⟩
        go_wp2
        go_ret2
        exact ⟨rfl, rfl⟩
    · have e : nextAns c b = .tuple #[.int .i64 0, .int .i64 700] := if_neg fun k => hb k.2
      rw [e]
      have hb' : bitB b = false := by simpa using hb
      go_enter Tryd.func27, Tryd.ntmps27
      go_wp2_with fail
      refine (isCounter_ok c _).mono ?_
      rw [hc]
      rintro e w1 ⟨rfl, rfl⟩
      go_wp2_with fail
      refine (isBit_ok b _).mono ?_
      rw [hb']
      rintro e w1 ⟨rfl, rfl⟩
      go_wp2
      go_ret2
      exact ⟨rfl, rfl⟩
  · have e : nextAns c b = .tuple #[.int .i64 0, .int .i64 700] := if_neg fun k => hc k.1
    rw [e]
    have hc' : cntB c = false := by simpa using hc
    go_enter Tryd.func27, Tryd.ntmps27
    go_wp2_with fail
    refine (isCounter_ok c _).mono ?_
    rw [hc']
    rintro e w1 ⟨rfl, rfl⟩
    go_wp2
    go_ret2
    exact ⟨rfl, rfl⟩

set_option maxHeartbeats 800000 in
/-- P, of any int. -/
theorem p_ok (c : Int) (w : World) :
    Calls Tryd.prog 39 #[.int .i64 c] w fun e w' => e = .returned (pAns c) ∧ w' = w := by
  by_cases hc : cntB c = true
  · have e : pAns c = .tuple #[.int .i64 (chance c), .int .i64 0] := if_pos hc
    rw [e]
    obtain ⟨c0, c1⟩ := cntB_of hc
    have q0 : c.tdiv 16 = c / 16 := Int.tdiv_eq_ediv_of_nonneg (by omega)
    unfold chance
    by_cases h1 : c / 16 ≤ 1
    · rw [if_pos h1]
      go_enter Tryd.func39, Tryd.ntmps39
      go_wp2_with fail
      refine (isCounter_ok c _).mono ?_
      rw [hc]
      rintro e w1 ⟨rfl, rfl⟩
      go_wp2
      go_ret2
      exact ⟨rfl, rfl⟩
    · rw [if_neg h1]
      go_enter Tryd.func39, Tryd.ntmps39
      go_wp2_with fail
      refine (isCounter_ok c _).mono ?_
      rw [hc]
      rintro e w1 ⟨rfl, rfl⟩
      go_wp2
      go_ret2
      exact ⟨rfl, rfl⟩
  · have e : pAns c = .tuple #[.int .i64 0, .int .i64 700] := if_neg hc
    rw [e]
    have hc' : cntB c = false := by simpa using hc
    go_enter Tryd.func39, Tryd.ntmps39
    go_wp2_with fail
    refine (isCounter_ok c _).mono ?_
    rw [hc']
    rintro e w1 ⟨rfl, rfl⟩
    go_wp2
    go_ret2
    exact ⟨rfl, rfl⟩

end Go.Proofs.YtnldnkcfeclmpaaDoor.Cnt
