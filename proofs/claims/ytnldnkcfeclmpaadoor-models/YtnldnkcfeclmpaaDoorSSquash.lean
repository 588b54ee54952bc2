/-
  The contract of Squash: it answers the chance of P6.1 for any int. Condition: the package's table is laid as its text lays it.
-/
import Derived.Test.YtnldnkcfeclmpaaDoorSNum
import Derived.Test.YtnldnkcfeclmpaaDoorRows
import Derived.WalkLawsBesides
import Derived.WalkSpells
import Derived.ProofKit
import Derived.Deep.QuietTactic
import Derived.BigQuiet
namespace Go.Proofs.YtnldnkcfeclmpaaDoor.Str
open Go.RowKit
set_option linter.unusedVariables false

/-- The table of package stretch, cell by cell. -/
def Tab (w : World) : Prop := ∀ d, d < 33 → w.cell? ⟨0, d, none⟩ = some (.int .i64 (places.getD d 0))

set_option maxHeartbeats 400000 in
theorem squash_above (x : Int) (h : 2047 < x) (w : World) :
    Calls Tryd.prog 38 #[.int .i64 x] w fun e w' => e = .returned (.int .i64 4095) ∧ ∃ m, w' = w.drewN m := by
  have hh : decide (x > 2047) = true := decide_eq_true h
  go_enter Tryd.func38, Tryd.ntmps38
  go_wp2
  go_ret
  exact ⟨rfl, 0, rfl⟩

set_option maxHeartbeats 400000 in
theorem squash_below (x : Int) (h : x < -2047) (w : World) :
    Calls Tryd.prog 38 #[.int .i64 x] w fun e w' => e = .returned (.int .i64 0) ∧ ∃ m, w' = w.drewN m := by
  have h2 : ¬ 2047 < x := by omega
  go_enter Tryd.func38, Tryd.ntmps38
  go_wp2
  go_ret
  exact ⟨rfl, 0, rfl⟩

set_option maxHeartbeats 1000000 in
theorem squash_mid (x a b : Int) (d v : Nat) (h0 : -2047 ≤ x) (h1 : x ≤ 2047) (hd : (x + 2048).tdiv 128 = (d : Int)) (hv : (x + 2048).tmod 128 = (v : Int)) (hd1 : d < 32) (hv1 : v < 128)
    (ha0 : 0 ≤ a) (ha1 : a ≤ 4094) (hb0 : 0 ≤ b) (hb1 : b ≤ 4094) (w : World) (ca : w.cell? ⟨0, d, none⟩ = some (.int .i64 a)) (cb : w.cell? ⟨0, d + 1, none⟩ = some (.int .i64 b)) :
    Calls Tryd.prog 38 #[.int .i64 x] w fun e w' => e = .returned (.int .i64 ((a * (128 - (v : Int)) + b * (v : Int) + 64) / 128)) ∧ ∃ m, w' = w.drewN m := by
  have h2 : ¬ 2047 < x := by omega
  have h3 : ¬ x < -2047 := by omega
  have v0 : (0 : Int) ≤ v := by omega
  have v1 : (v : Int) ≤ 127 := by omega
  have m0 : 0 ≤ a * (128 - (v : Int)) := Int.mul_nonneg ha0 (by omega)
  have m1 : a * (128 - (v : Int)) ≤ 4094 * 128 := Int.mul_le_mul ha1 (by omega) (by omega) (by omega)
  have n0 : 0 ≤ b * (v : Int) := Int.mul_nonneg hb0 v0
  have n1 : b * (v : Int) ≤ 4094 * 128 := Int.mul_le_mul hb1 (by omega) (by omega) (by omega)
  have hq : (a * (128 - (v : Int)) + b * (v : Int) + 64).tdiv 128 = (a * (128 - (v : Int)) + b * (v : Int) + 64) / 128 := Int.tdiv_eq_ediv_of_nonneg (by omega)
  go_enter Tryd.func38, Tryd.ntmps38
  go_wp2
  go_quiet (fail)
  go_wp2
  go_ret
  exact ⟨rfl, _, rfl⟩

/-- Squash answers the chance of P6.1. -/
theorem squash_ok (x : Int) (w : World) (T : Tab w) :
    Calls Tryd.prog 38 #[.int .i64 x] w fun e w' => e = .returned (.int .i64 (sq x)) ∧ ∃ m, w' = w.drewN m := by
  by_cases h : 2047 < x
  · rw [sq_above x h]; exact squash_above x h w
  · by_cases k : x < -2047
    · rw [sq_below x k]; exact squash_below x k w
    · have e1 : (x + 2048).tdiv 128 = ((((x + 2048) / 128).toNat : Nat) : Int) := by
        rw [Int.tdiv_eq_ediv_of_nonneg (by omega)]; omega
      have e2 : (x + 2048).tmod 128 = ((((x + 2048) % 128).toNat : Nat) : Int) := by
        rw [Int.tmod_eq_emod_of_nonneg (by omega)]; omega
      have l1 := places_low ((x + 2048) / 128).toNat (by omega)
      have l2 := places_low (((x + 2048) / 128).toNat + 1) (by omega)
      have c := squash_mid x _ _ _ _ (by omega) (by omega) e1 e2 (by omega) (by omega) l1.1 l1.2 l2.1 l2.2 w (T _ (by omega)) (T _ (by omega))
      rw [sq_at x (by omega) (by omega)]
      have e3 : ((((x + 2048) % 128).toNat : Nat) : Int) = (x + 2048) % 128 := by omega
      rw [e3] at c
      exact c

theorem Tab.drewN {w : World} (T : Tab w) (n : Nat) : Tab (w.drewN n) := T

end Go.Proofs.YtnldnkcfeclmpaaDoor.Str
