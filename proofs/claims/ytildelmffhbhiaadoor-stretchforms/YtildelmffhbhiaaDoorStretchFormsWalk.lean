/-
  The walk of StretchForms: it answers true for any int. Condition: the package's table is laid as its text lays it.
-/
import Derived.Test.YtildelmffhbhiaaDoorSAwake
import Derived.Test.YtildelmffhbhiaaDoorNum
namespace Go.Proofs.YtildelmffhbhiaaDoor.Str
open Go.RowKit Go.Proofs.YtildelmffhbhiaaDoor.Num
set_option linter.unusedVariables false

set_option maxHeartbeats 2000000 in
theorem forms_walk (x : Int) (w : World) (T : Tab w) :
    Calls Tryd.prog 5 #[.int .i64 x] w fun e w' => e = .returned (.bool true) ∧ Onto w w' := by
  have TT : Hid (Tab w) := T
  clear T
  obtain ⟨k, hk⟩ : ∃ k, x % 1048576 = k := ⟨_, rfl⟩
  have k0 : 0 ≤ k := by omega
  have k1 : k < 1048576 := by omega
  have hv : bits .and .i64 x 1048575 = k := (and_mask 20 1048575 (by decide) (by decide) x).trans hk
  clear hk
  go_enter Tryd.func5, Tryd.ntmps5
  go_wp2_with fail
  refine (awake_true _ TT.out).mono ?_
  rintro e w1 ⟨rfl, o⟩
  have O1 : Hid (Onto w w1) := o
  clear o
  go_wp2_with fail
  refine (stretch_no _ (.inl (by omega)) _).mono ?_
  rintro e w2 ⟨rfl, o⟩
  have O2 : Hid (Onto w w2) := O1.out.trans o
  clear o O1
  go_wp2_with fail
  refine (stretch_no _ (.inr (by omega)) _).mono ?_
  rintro e w3 ⟨rfl, o⟩
  have O3 : Hid (Onto w w3) := O2.out.trans o
  clear o O2
  go_wp2_with fail
  refine (stretch_is 0 (-2047) (by decide) (by decide) st_0 _ (TT.out.onto O3.out)).mono ?_
  rintro e w4 ⟨rfl, o⟩
  have O4 : Hid (Onto w w4) := O3.out.trans o
  clear o O3
  go_wp2_with fail
  refine (stretch_is 4095 2047 (by decide) (by decide) st_4095 _ (TT.out.onto O4.out)).mono ?_
  rintro e w5 ⟨rfl, o⟩
  have O5 : Hid (Onto w w5) := O4.out.trans o
  clear o O4
  go_wp2_with (go_at_call 11; go_in)
  refine (squash_onto _ 4095 (sq_above _ (by omega)) _ (TT.out.onto O5.out)).mono ?_
  rintro e w6 ⟨rfl, o⟩
  have O6 : Hid (Onto w w6) := O5.out.trans o
  clear o O5
  go_wp2_with fail
  refine (squash_onto _ 0 (sq_below _ (by omega)) _ (TT.out.onto O6.out)).mono ?_
  rintro e w7 ⟨rfl, o⟩
  have O7 : Hid (Onto w w7) := O6.out.trans o
  clear o O6
  go_wp2
  go_ret
  exact ⟨rfl, O7.out⟩

end Go.Proofs.YtildelmffhbhiaaDoor.Str
