/-
  The contract of the check that every statement of layer 6 begins with: it answers true. Condition: the package's table is laid as its text lays it.
-/
import Derived.Test.YtildelmffhbhiaaDoorSSearch
namespace Go.Proofs.YtildelmffhbhiaaDoor.Str
open Go.RowKit
set_option linter.unusedVariables false

theorem num_ok (n : Int) (w : World) :
    Calls Tryd.prog 11 #[.int .i64 n] w fun e w' => e = .returned (.int .i64 n) ∧ w' = w := by
  go_enter Tryd.func11, Tryd.ntmps11
  go_wp2
  go_ret
  exact ⟨rfl, rfl⟩

/-- Squash's contract, with Onto. -/
theorem squash_onto (x y : Int) (hy : sq x = y) (w : World) (T : Tab w) :
    Calls Tryd.prog 12 #[.int .i64 x] w fun e w' => e = .returned (.int .i64 y) ∧ Onto w w' :=
  hy ▸ (squash_ok x w T).mono fun _ _ ⟨h, _, k⟩ => ⟨h, k ▸ (Onto.refl w).drewN _⟩

theorem stretch_is (p z : Int) (h0 : 0 ≤ p) (h1 : p ≤ 4095) (hz : st p = z) (w : World) (T : Tab w) :
    Calls Tryd.prog 9 #[.int .i64 p] w fun e w' => e = .returned (.tuple #[.int .i64 z, .int .i64 0]) ∧ Onto w w' :=
  hz ▸ stretch_ok p h0 h1 w T

set_option maxHeartbeats 1000000 in
theorem awake_true (w : World) (T : Tab w) :
    Calls Tryd.prog 14 #[] w fun e w' => e = .returned (.bool true) ∧ Onto w w' := by
  have TT : Hid (Tab w) := T
  clear T
  go_enter Tryd.func14, Tryd.ntmps14
  go_wp2_with fail
  refine (stretch_is 2047 0 (by decide) (by decide) st_2047 _ TT.out).mono ?_
  rintro e w1 ⟨rfl, o⟩
  have O1 : Hid (Onto w w1) := o
  clear o
  go_wp2_with fail
  refine (stretch_no 4096 (.inr (by decide)) _).mono ?_
  rintro e w2 ⟨rfl, o⟩
  have O2 : Hid (Onto w w2) := O1.out.trans o
  clear o O1
  go_wp2_with fail
  refine (squash_onto 0 2047 sq_0 _ (TT.out.onto O2.out)).mono ?_
  rintro e w3 ⟨rfl, o⟩
  have O3 : Hid (Onto w w3) := O2.out.trans o
  clear o O2
  go_wp2_with fail
  refine (squash_onto 2048 4095 (sq_above _ (by decide)) _ (TT.out.onto O3.out)).mono ?_
  rintro e w4 ⟨rfl, o⟩
  have O4 : Hid (Onto w w4) := O3.out.trans o
  clear o O3
  go_wp2_with fail
  refine (squash_onto (-2048) 0 (sq_below _ (by decide)) _ (TT.out.onto O4.out)).mono ?_
  rintro e w5 ⟨rfl, o⟩
  have O5 : Hid (Onto w w5) := O4.out.trans o
  clear o O4
  go_wp2_with fail
  refine (squash_onto (-2047) 1 sq_least _ (TT.out.onto O5.out)).mono ?_
  rintro e w6 ⟨rfl, o⟩
  have O6 : Hid (Onto w w6) := O5.out.trans o
  clear o O5
  go_wp2_with (go_at_call 11; go_in)
  go_wp2
  go_ret
  exact ⟨rfl, O6.out⟩

end Go.Proofs.YtildelmffhbhiaaDoor.Str
