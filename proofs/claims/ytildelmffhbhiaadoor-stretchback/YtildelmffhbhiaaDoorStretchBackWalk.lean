/-
  The walk of StretchBack: it answers true for any int. Condition: the package's table is laid as its text lays it.
-/
import Derived.Test.YtildelmffhbhiaaDoorSAwake
import Derived.Test.YtildelmffhbhiaaDoorStretchMirrorWalk
import Derived.Test.YtildelmffhbhiaaDoorNum
namespace Go.Proofs.YtildelmffhbhiaaDoor.Str
open Go.RowKit Go.Proofs.YtildelmffhbhiaaDoor.Num
set_option linter.unusedVariables false

set_option maxHeartbeats 1000000 in
theorem back_walk (x : Int) (w : World) (T : Tab w) :
    Calls Tryd.prog 6 #[.int .i64 x] w fun e w' => e = .returned (.bool true) ∧ Onto w w' := by
  have TT : Hid (Tab w) := T
  clear T
  obtain ⟨k, hk⟩ : ∃ k, x % 18446744073709551616 % 4095 = k := ⟨_, rfl⟩
  have k0 : 0 ≤ k := by omega
  have k1 : k < 4095 := by omega
  have hv := mval x 4095 k (by decide) (by decide) hk
  obtain ⟨m1, m2⟩ := st_back (k - 2047) (by omega) (by omega)
  obtain ⟨r1, r2⟩ := sq_within (k - 2047) (by omega) (by omega)
  obtain ⟨p, hp⟩ : ∃ p, sq (k - 2047) = p := ⟨_, rfl⟩
  rw [hp] at m1 m2 r1 r2
  obtain ⟨y, hy⟩ : ∃ y, st p = y := ⟨_, rfl⟩
  rw [hy] at m1 m2
  have P : Hid (sq (k - 2047) = p) := hp
  have Y : Hid (st p = y) := hy
  have B : Hid (sq y = p) := m2
  clear hp hy hk m2
  go_enter Tryd.func6, Tryd.ntmps6
  go_wp2_with fail
  refine (awake_true _ TT.out).mono ?_
  rintro e w1 ⟨rfl, o⟩
  have O1 : Hid (Onto w w1) := o
  clear o
  go_wp2_with fail
  refine (squash_onto (k - 2047) p P.out _ (TT.out.onto O1.out)).mono ?_
  rintro e w2 ⟨rfl, o⟩
  have O2 : Hid (Onto w w2) := O1.out.trans o
  clear o O1
  go_wp2_with fail
  refine (stretch_is p y (by omega) (by omega) Y.out _ (TT.out.onto O2.out)).mono ?_
  rintro e w3 ⟨rfl, o⟩
  have O3 : Hid (Onto w w3) := O2.out.trans o
  clear o O2
  go_wp2_with (go_at_call 11; go_in)
  refine (squash_onto y p B.out _ (TT.out.onto O3.out)).mono ?_
  rintro e w4 ⟨rfl, o⟩
  have O4 : Hid (Onto w w4) := O3.out.trans o
  clear o O3
  go_wp2
  go_ret
  exact ⟨rfl, O4.out⟩

end Go.Proofs.YtildelmffhbhiaaDoor.Str
