/-
  The walk of Stretches: it answers true for any two ints. Condition: the package's table is laid as its text lays it.
-/
import Derived.Test.YtildelmffhbhiaaDoorSAwake
import Derived.Test.YtildelmffhbhiaaDoorSRef
namespace Go.Proofs.YtildelmffhbhiaaDoor.Str
open Go.RowKit Go.Proofs.YtildelmffhbhiaaDoor.Num
set_option linter.unusedVariables false

theorem ref_is (x y : Int) (hy : sq x = y) (w : World) :
    Calls Tryd.prog 13 #[.int .i64 x] w fun e w' => e = .returned (.int .i64 y) ∧ Onto w w' := hy ▸ ref_squash x w

theorem ref_st (p z : Int) (h0 : 0 ≤ p) (h1 : p ≤ 4095) (hz : st p = z) (w : World) :
    Calls Tryd.prog 10 #[.int .i64 p] w fun e w' => e = .returned (.tuple #[.int .i64 z, .int .i64 0]) ∧ Onto w w' := hz ▸ ref_stretch p h0 h1 w

set_option maxHeartbeats 1000000 in
theorem stretches_in (x p : Int) (h0 : 0 ≤ p) (h1 : p ≤ 4095) (w : World) (T : Tab w) :
    Calls Tryd.prog 3 #[.int .i64 x, .int .i64 p] w fun e w' => e = .returned (.bool true) ∧ Onto w w' := by
  have TT : Hid (Tab w) := T
  clear T
  obtain ⟨y, hy⟩ : ∃ y, sq x = y := ⟨_, rfl⟩
  have Y : Hid (sq x = y) := hy
  clear hy
  obtain ⟨z, hz⟩ : ∃ z, st p = z := ⟨_, rfl⟩
  have Z : Hid (st p = z) := hz
  have H : Hid (0 ≤ p ∧ p ≤ 4095) := ⟨h0, h1⟩
  clear hz h0 h1
  go_enter Tryd.func3, Tryd.ntmps3
  go_wp2_with fail
  refine (stretch_is p z H.out.1 H.out.2 Z.out _ TT.out).mono ?_
  rintro e w1 ⟨rfl, o⟩
  have O1 : Hid (Onto w w1) := o
  clear o
  go_wp2_with fail
  refine (ref_st p z H.out.1 H.out.2 Z.out _).mono ?_
  rintro e w2 ⟨rfl, o⟩
  have O2 : Hid (Onto w w2) := O1.out.trans o
  clear o O1
  go_wp2_with (go_at_call 11; go_in)
  refine (squash_onto x y Y.out _ (TT.out.onto O2.out)).mono ?_
  rintro e w3 ⟨rfl, o⟩
  have O3 : Hid (Onto w w3) := O2.out.trans o
  clear o O2
  go_wp2_with fail
  refine (ref_is x y Y.out _).mono ?_
  rintro e w4 ⟨rfl, o⟩
  have O4 : Hid (Onto w w4) := O3.out.trans o
  clear o O3
  go_wp2_with fail
  refine (awake_true _ (TT.out.onto O4.out)).mono ?_
  rintro e w5 ⟨rfl, o⟩
  have O5 : Hid (Onto w w5) := O4.out.trans o
  clear o O4
  go_wp2
  go_ret
  exact ⟨rfl, O5.out⟩

set_option maxHeartbeats 1000000 in
theorem stretches_out (x p : Int) (h : p < 0 ∨ 4095 < p) (w : World) (T : Tab w) :
    Calls Tryd.prog 3 #[.int .i64 x, .int .i64 p] w fun e w' => e = .returned (.bool true) ∧ Onto w w' := by
  have TT : Hid (Tab w) := T
  clear T
  obtain ⟨y, hy⟩ : ∃ y, sq x = y := ⟨_, rfl⟩
  have Y : Hid (sq x = y) := hy
  clear hy
  have H : Hid (p < 0 ∨ 4095 < p) := h
  clear h
  go_enter Tryd.func3, Tryd.ntmps3
  go_wp2_with fail
  refine (stretch_no p H.out _).mono ?_
  rintro e w1 ⟨rfl, o⟩
  have O1 : Hid (Onto w w1) := o
  clear o
  go_wp2_with fail
  refine (ref_no p H.out _).mono ?_
  rintro e w2 ⟨rfl, o⟩
  have O2 : Hid (Onto w w2) := O1.out.trans o
  clear o O1
  go_wp2_with (go_at_call 11; go_in)
  refine (squash_onto x y Y.out _ (TT.out.onto O2.out)).mono ?_
  rintro e w3 ⟨rfl, o⟩
  have O3 : Hid (Onto w w3) := O2.out.trans o
  clear o O2
  go_wp2_with fail
  refine (ref_is x y Y.out _).mono ?_
  rintro e w4 ⟨rfl, o⟩
  have O4 : Hid (Onto w w4) := O3.out.trans o
  clear o O3
  go_wp2_with fail
  refine (awake_true _ (TT.out.onto O4.out)).mono ?_
  rintro e w5 ⟨rfl, o⟩
  have O5 : Hid (Onto w w5) := O4.out.trans o
  clear o O4
  go_wp2
  go_ret
  exact ⟨rfl, O5.out⟩

theorem stretches_walk (x p : Int) (w : World) (T : Tab w) :
    Calls Tryd.prog 3 #[.int .i64 x, .int .i64 p] w fun e w' => e = .returned (.bool true) ∧ Onto w w' := by
  by_cases h0 : 0 ≤ p
  · by_cases h1 : p ≤ 4095
    · exact stretches_in x p h0 h1 w T
    · exact stretches_out x p (.inr (by omega)) w T
  · exact stretches_out x p (.inl (by omega)) w T

end Go.Proofs.YtildelmffhbhiaaDoor.Str
