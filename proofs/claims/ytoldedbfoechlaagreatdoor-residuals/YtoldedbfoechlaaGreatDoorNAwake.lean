/-
  The contract of the check that every statement of layer 9 begins with: it answers true. Condition: the package's table is laid as its text lays it.
-/
import Derived.Test.YtoldedbfoechlaaGreatDoorNQuiet
import Derived.Test.YtoldedbfoechlaaGreatDoorNRefNew
namespace Go.Proofs.YtoldedbfoechlaaGreatDoor.Mod
open Go.RowKit Go.Sort
set_option linter.unusedVariables false
set_option linter.unusedSimpArgs false

theorem num_ok (n : Int) (w : World) :
    Calls Tryz.prog 10 #[.int .i64 n] w fun e w' => e = .returned (.int .i64 n) ∧ Bel w w' :=
  (Cnt.num_ok n w).mono fun _ _ k => ⟨k.1, k.2 ▸ Bel.refl _⟩

def awM : List Int := learn newM 1 2 3 1
def badM : List Int := List.replicate 192 0 ++ [-1048577, 0, 0]
theorem awM_len : awM.length = 195 := (learn_len _ _ _ _ _).trans newM_len
theorem badM_len : badM.length = 195 := by decide +kernel
theorem awM_may : mayM awM = true := may_learn newM newM_len 1 2 3 (by decide) (by decide) (by decide) 1 newM_may
theorem badM_may : mayM badM = false := by
  cases h : mayM badM
  · rfl
  · have := ((may_iff _).1 h).2 192 (by decide) (by decide)
    have e : badM.getD 192 0 = -1048577 := by decide +kernel
    rw [e] at this
    omega
theorem awM_1 : awM.getD 1 0 = 34815 := by
  rw [awM, learn_get newM newM_len 1 2 3 (by decide) (by decide) (by decide), if_pos rfl, newM_get 1 (by decide)]
  decide +kernel
theorem awM_132 : awM.getD 132 0 = 32768 := by
  rw [awM, learn_get newM newM_len 1 2 3 (by decide) (by decide) (by decide), if_neg (by decide), if_neg (by decide), if_neg (by decide), if_neg (by decide), if_neg (by decide), if_neg (by decide), newM_get 132 (by decide)]

theorem aw_p (w : World) (T : Str.Tab w) : Calls Tryz.prog 47 #[mdl newM, .agg #[.int .i64 1, .int .i64 2, .int .i64 3]] w fun e w' => e = .returned (.tuple #[.int .i64 2051, .int .i64 0]) ∧ Bel w w' := by
  have := p_yes newM newM_len 1 2 3 (by decide) (by decide) (by decide) newM_may w T
  rw [new_tell 1 2 3 (by decide) (by decide) (by decide)] at this
  exact this
theorem aw_learn (w : World) (T : Str.Tab w) : Calls Tryz.prog 48 #[mdl newM, .agg #[.int .i64 1, .int .i64 2, .int .i64 3], .int .i64 1] w fun e w' => e = .returned (.tuple #[mdl awM, .int .i64 0]) ∧ Bel w w' :=
  learn_yes newM newM_len 1 2 3 (by decide) (by decide) (by decide) 1 (by decide) newM_may w T
theorem aw_p64 (w : World) (T : Str.Tab w) : Calls Tryz.prog 47 #[mdl newM, .agg #[.int .i64 64, .int .i64 0, .int .i64 0]] w fun e w' => e = .returned (.tuple #[.int .i64 0, .int .i64 900]) ∧ Bel w w' :=
  p_no newM newM_len 64 0 0 (by rw [show ctxB 64 0 0 = false by decide]; rfl) w T
theorem aw_bit (w : World) (T : Str.Tab w) : Calls Tryz.prog 48 #[mdl newM, .agg #[.int .i64 0, .int .i64 0, .int .i64 0], .int .i64 2] w fun e w' => e = .returned (.tuple #[mdl zeros, .int .i64 900]) ∧ Bel w w' :=
  learn_bit newM newM_len 0 0 0 2 (by rw [show ctxB 0 0 0 = true by decide, newM_may]; rfl) (by decide) w T
theorem aw_may (w : World) (T : Str.Tab w) : Calls Tryz.prog 104 #[mdl awM] w fun e w' => e = .returned (.bool true) ∧ Bel w w' := awM_may ▸ may_ok awM awM_len w T
theorem aw_bad (w : World) (T : Str.Tab w) : Calls Tryz.prog 104 #[mdl badM] w fun e w' => e = .returned (.bool false) ∧ Bel w w' := badM_may ▸ may_ok badM badM_len w T

end Go.Proofs.YtoldedbfoechlaaGreatDoor.Mod
