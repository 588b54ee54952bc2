/-
  The contracts of package mix's small functions, and of slices.ContainsFunc over a limit's method. Conditions: numbers within what each asks for; the cells of the slice that is asked.
-/
import Derived.Test.YtnldnkcfeclmpaaDoorMNum
import Derived.Test.YtnldnkcfeclmpaaDoorNum
import Derived.Test.YtnldnkcfeclmpaaDoorOnto
import Derived.Test.YtnldnkcfeclmpaaDoorSSquash
namespace Go.Proofs.YtnldnkcfeclmpaaDoor.Mix
open Go.RowKit Go.Proofs.YtnldnkcfeclmpaaDoor.Num Go.Proofs.YtnldnkcfeclmpaaDoor.Str
set_option linter.unusedVariables false

theorem num_ok (n : Int) (w : World) :
    Calls Tryd.prog 12 #[.int .i64 n] w fun e w' => e = .returned (.int .i64 n) ∧ w' = w := by
  go_enter Tryd.func12, Tryd.ntmps12
  go_wp2
  go_ret
  exact ⟨rfl, rfl⟩

def bitB (b : Int) : Bool := decide (b = 0 ∨ b = 1)

set_option maxHeartbeats 400000 in
theorem isBit_ok (b : Int) (w : World) :
    Calls Tryd.prog 46 #[.int .i64 b] w fun e w' => e = .returned (.bool (bitB b)) ∧ w' = w := by
  by_cases h0 : b = 0
  · subst h0
    go_enter Tryd.func46, Tryd.ntmps46
    go_wp2
    go_ret
    exact ⟨rfl, rfl⟩
  · by_cases h1 : b = 1
    · subst h1
      go_enter Tryd.func46, Tryd.ntmps46
      go_wp2
      go_ret
      exact ⟨rfl, rfl⟩
    · have e0 : (b == 0) = false := by simpa using h0
      have e1 : (b == 1) = false := by simpa using h1
      have e : bitB b = false := decide_eq_false fun k => k.elim h0 h1
      rw [e]
      clear h0 h1 e
      go_enter Tryd.func46, Tryd.ntmps46
      go_wp2
      go_ret
      exact ⟨rfl, rfl⟩

set_option maxHeartbeats 400000 in
theorem passed_ok (l x : Int) (hl0 : 0 ≤ l) (hl1 : l ≤ 1048576) (w : World) :
    Calls Tryd.prog 52 #[.int .i64 l, .int .i64 x] w fun e w' => e = .returned (.bool (passed l x)) ∧ w' = w := by
  by_cases h0 : x < -l
  · have e : passed l x = true := decide_eq_true (.inl h0)
    rw [e]
    have h3 : decide (x < -l) = true := decide_eq_true h0
    clear e
    go_enter Tryd.func52, Tryd.ntmps52
    go_wp2
    go_ret
    exact ⟨rfl, rfl⟩
  · have e : passed l x = decide (l < x) := by unfold passed; simp [h0]
    rw [e]
    have h3 : decide (x < -l) = false := decide_eq_false h0
    clear e
    go_enter Tryd.func52, Tryd.ntmps52
    go_wp2
    go_ret
    exact ⟨rfl, rfl⟩

set_option maxHeartbeats 400000 in
theorem hold_ok (x : Int) (w : World) :
    Calls Tryd.prog 47 #[.int .i64 1048576, .int .i64 x] w fun e w' => e = .returned (.int .i64 (hold x)) ∧ w' = w := by
  unfold hold
  by_cases h0 : x ≤ -1048576
  · rw [if_pos h0]
    go_enter Tryd.func47, Tryd.ntmps47
    go_wp2
    go_ret
    exact ⟨rfl, rfl⟩
  · rw [if_neg h0]
    by_cases h1 : 1048576 < x
    · rw [if_pos h1]
      go_enter Tryd.func47, Tryd.ntmps47
      go_wp2
      go_ret
      exact ⟨rfl, rfl⟩
    · rw [if_neg h1]
      go_enter Tryd.func47, Tryd.ntmps47
      go_wp2
      go_ret
      exact ⟨rfl, rfl⟩

set_option maxHeartbeats 400000 in
theorem step_ok (x o : Int) (hx0 : -2047 ≤ x) (hx1 : x ≤ 2047) (ho0 : -4096 ≤ o) (ho1 : o ≤ 4096) (w : World) :
    Calls Tryd.prog 48 #[.int .i64 x, .int .i64 o] w fun e w' => e = .returned (.int .i64 (stp x o)) ∧ w' = w := by
  obtain ⟨m0, m1⟩ := off_le x o hx0 hx1 ho0 ho1
  unfold stp
  go_enter Tryd.func48, Tryd.ntmps48
  go_wp2
  go_ret
  exact ⟨rfl, rfl⟩

end Go.Proofs.YtnldnkcfeclmpaaDoor.Mix
