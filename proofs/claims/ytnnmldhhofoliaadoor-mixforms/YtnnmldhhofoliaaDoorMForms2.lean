/-
  The walk of MixForms where the place is 2: it answers true for any ints. Condition: the package's table is laid as its text lays it.
-/
import Derived.Test.YtnnmldhhofoliaaDoorMFormsP
namespace Go.Proofs.YtnnmldhhofoliaaDoor.Mix
open Go.RowKit Go.Proofs.YtnnmldhhofoliaaDoor.Num Go.Proofs.YtnnmldhhofoliaaDoor.Str
set_option linter.unusedVariables false

set_option maxRecDepth 20000 in
set_option maxHeartbeats 2000000 in
theorem forms_210 (n m : Int) (hk : n % 18446744073709551616 % 3 = 2) (hf : (bits .and .i64 n 4 == 4) = true) (hn : n / 8 % 2 = 0) (w : World) (T : Tab w) :
    Calls Tryd.prog 4 #[.int .i64 n, .int .i64 m] w fun e w' => e = .returned (.bool true) ∧ Onto w w' := by
  have TT : Hid (Tab w) := T
  have hv := mval3 n 3 2 (by decide) (by decide) hk
  have ha := and1023 m
  have hb : bits .and .i64 (n / 8) 1 = 0 := (and_mask 1 1 (by decide) (by decide) (n / 8)).trans hn
  have r0 : 0 ≤ m % 1024 := by omega
  have r1 : m % 1024 < 1024 := by omega
  generalize m % 1024 = r at *
  have q1 := eq_same 0 0 0
  have q2 := eq_in_same 0 0 0
  clear T hk hn
  go_enter Tryd.func4, Tryd.ntmps4
  go_wp2_with fail
  refine (awake_true _ (tab_onto TT.out (Onto.refl w))).mono ?_
  rintro e w1 ⟨rfl, o⟩
  have O1 : Hid (Onto w w1) := (Onto.refl w).trans o
  clear o
  go_wp2_with fail
  refine (dot_no _ _ _ _ _ _ (by unfold May; omega) _).mono ?_
  rintro e w2 ⟨rfl, o⟩
  have O2 : Hid (Onto w w2) := (((O1.out.alloc _ _).alloc _ _).alloc _ _).trans o
  obtain ⟨⟨ws0, ws1, ws2⟩, xs0, xs1, xs2⟩ := box2 (((Onto.refl _).alloc _ _).trans o)
  clear o O1
  go_wp2_with fail
  refine (train_no _ _ _ _ _ _ 1 (by unfold May; omega) _).mono ?_
  rintro e w3 ⟨rfl, o⟩
  have O3 : Hid (Onto w w3) := O2.out.trans o
  clear o O2 ws0 ws1 ws2 xs0 xs1 xs2
  go_wp2_with fail
  refine (train_bit 1 2 3 4 5 6 _ may_plain (by omega) _ (tab_onto TT.out ((O3.out.alloc _ _).alloc _ _))).mono ?_
  rintro e w4 ⟨rfl, o⟩
  have O4 : Hid (Onto w w4) := ((O3.out.alloc _ _).alloc _ _).trans o
  obtain ⟨g0, g1, g2⟩ := keep3 (((Onto.refl _).alloc _ _).trans o) (made3 w3 _ _ _ 22)
  clear o O3
  have bb : Onto w4 (w4.alloc (.cells #[.int .i64 0, .int .i64 0, .int .i64 0] 22)) := (Onto.refl _).alloc _ _
  replace g0 := bb.cell_some g0
  replace g1 := bb.cell_some g1
  replace g2 := bb.cell_some g2
  clear bb
  go_wp2_with (go_at_call 13; go_in)
  go_wp2
  go_ret
  exact ⟨rfl, O4.out.alloc _ _⟩


set_option maxRecDepth 20000 in
set_option maxHeartbeats 2000000 in
theorem forms_211 (n m : Int) (hk : n % 18446744073709551616 % 3 = 2) (hf : (bits .and .i64 n 4 == 4) = true) (hn : n / 8 % 2 = 1) (w : World) (T : Tab w) :
    Calls Tryd.prog 4 #[.int .i64 n, .int .i64 m] w fun e w' => e = .returned (.bool true) ∧ Onto w w' := by
  have TT : Hid (Tab w) := T
  have hv := mval3 n 3 2 (by decide) (by decide) hk
  have ha := and1023 m
  have hb : bits .and .i64 (n / 8) 1 = 1 := (and_mask 1 1 (by decide) (by decide) (n / 8)).trans hn
  have r0 : 0 ≤ m % 1024 := by omega
  have r1 : m % 1024 < 1024 := by omega
  generalize m % 1024 = r at *
  have q1 := eq_same 0 0 0
  have q2 := eq_in_same 0 0 0
  clear T hk hn
  go_enter Tryd.func4, Tryd.ntmps4
  go_wp2_with fail
  refine (awake_true _ (tab_onto TT.out (Onto.refl w))).mono ?_
  rintro e w1 ⟨rfl, o⟩
  have O1 : Hid (Onto w w1) := (Onto.refl w).trans o
  clear o
  go_wp2_with fail
  refine (dot_no _ _ _ _ _ _ (by unfold May; omega) _).mono ?_
  rintro e w2 ⟨rfl, o⟩
  have O2 : Hid (Onto w w2) := (((O1.out.alloc _ _).alloc _ _).alloc _ _).trans o
  obtain ⟨⟨ws0, ws1, ws2⟩, xs0, xs1, xs2⟩ := box2 (((Onto.refl _).alloc _ _).trans o)
  clear o O1
  go_wp2_with fail
  refine (train_no _ _ _ _ _ _ 1 (by unfold May; omega) _).mono ?_
  rintro e w3 ⟨rfl, o⟩
  have O3 : Hid (Onto w w3) := O2.out.trans o
  clear o O2 ws0 ws1 ws2 xs0 xs1 xs2
  go_wp2_with fail
  refine (train_bit 1 2 3 4 5 6 _ may_plain (by omega) _ (tab_onto TT.out ((O3.out.alloc _ _).alloc _ _))).mono ?_
  rintro e w4 ⟨rfl, o⟩
  have O4 : Hid (Onto w w4) := ((O3.out.alloc _ _).alloc _ _).trans o
  obtain ⟨g0, g1, g2⟩ := keep3 (((Onto.refl _).alloc _ _).trans o) (made3 w3 _ _ _ 22)
  clear o O3
  have bb : Onto w4 (w4.alloc (.cells #[.int .i64 0, .int .i64 0, .int .i64 0] 22)) := (Onto.refl _).alloc _ _
  replace g0 := bb.cell_some g0
  replace g1 := bb.cell_some g1
  replace g2 := bb.cell_some g2
  clear bb
  go_wp2_with (go_at_call 13; go_in)
  go_wp2
  go_ret
  exact ⟨rfl, O4.out.alloc _ _⟩


set_option maxRecDepth 20000 in
set_option maxHeartbeats 2000000 in
theorem forms_200 (n m : Int) (hk : n % 18446744073709551616 % 3 = 2) (hf : (bits .and .i64 n 4 == 4) = false) (hn : n / 8 % 2 = 0) (w : World) (T : Tab w) :
    Calls Tryd.prog 4 #[.int .i64 n, .int .i64 m] w fun e w' => e = .returned (.bool true) ∧ Onto w w' := by
  have TT : Hid (Tab w) := T
  have hv := mval3 n 3 2 (by decide) (by decide) hk
  have ha := and1023 m
  have hb : bits .and .i64 (n / 8) 1 = 0 := (and_mask 1 1 (by decide) (by decide) (n / 8)).trans hn
  have r0 : 0 ≤ m % 1024 := by omega
  have r1 : m % 1024 < 1024 := by omega
  generalize m % 1024 = r at *
  have q1 := eq_same 0 0 0
  have q2 := eq_in_same 0 0 0
  clear T hk hn
  go_enter Tryd.func4, Tryd.ntmps4
  go_wp2_with fail
  refine (awake_true _ (tab_onto TT.out (Onto.refl w))).mono ?_
  rintro e w1 ⟨rfl, o⟩
  have O1 : Hid (Onto w w1) := (Onto.refl w).trans o
  clear o
  go_wp2_with fail
  refine (dot_no _ _ _ _ _ _ (by unfold May; omega) _).mono ?_
  rintro e w2 ⟨rfl, o⟩
  have O2 : Hid (Onto w w2) := (((O1.out.alloc _ _).alloc _ _).alloc _ _).trans o
  obtain ⟨⟨ws0, ws1, ws2⟩, xs0, xs1, xs2⟩ := box2 (((Onto.refl _).alloc _ _).trans o)
  clear o O1
  go_wp2_with fail
  refine (train_no _ _ _ _ _ _ 1 (by unfold May; omega) _).mono ?_
  rintro e w3 ⟨rfl, o⟩
  have O3 : Hid (Onto w w3) := O2.out.trans o
  clear o O2 ws0 ws1 ws2 xs0 xs1 xs2
  go_wp2_with fail
  refine (train_bit 1 2 3 4 5 6 _ may_plain (by omega) _ (tab_onto TT.out ((O3.out.alloc _ _).alloc _ _))).mono ?_
  rintro e w4 ⟨rfl, o⟩
  have O4 : Hid (Onto w w4) := ((O3.out.alloc _ _).alloc _ _).trans o
  obtain ⟨g0, g1, g2⟩ := keep3 (((Onto.refl _).alloc _ _).trans o) (made3 w3 _ _ _ 22)
  clear o O3
  have bb : Onto w4 (w4.alloc (.cells #[.int .i64 0, .int .i64 0, .int .i64 0] 22)) := (Onto.refl _).alloc _ _
  replace g0 := bb.cell_some g0
  replace g1 := bb.cell_some g1
  replace g2 := bb.cell_some g2
  clear bb
  go_wp2_with (go_at_call 13; go_in)
  go_wp2
  go_ret
  exact ⟨rfl, O4.out.alloc _ _⟩


set_option maxRecDepth 20000 in
set_option maxHeartbeats 2000000 in
theorem forms_201 (n m : Int) (hk : n % 18446744073709551616 % 3 = 2) (hf : (bits .and .i64 n 4 == 4) = false) (hn : n / 8 % 2 = 1) (w : World) (T : Tab w) :
    Calls Tryd.prog 4 #[.int .i64 n, .int .i64 m] w fun e w' => e = .returned (.bool true) ∧ Onto w w' := by
  have TT : Hid (Tab w) := T
  have hv := mval3 n 3 2 (by decide) (by decide) hk
  have ha := and1023 m
  have hb : bits .and .i64 (n / 8) 1 = 1 := (and_mask 1 1 (by decide) (by decide) (n / 8)).trans hn
  have r0 : 0 ≤ m % 1024 := by omega
  have r1 : m % 1024 < 1024 := by omega
  generalize m % 1024 = r at *
  have q1 := eq_same 0 0 0
  have q2 := eq_in_same 0 0 0
  clear T hk hn
  go_enter Tryd.func4, Tryd.ntmps4
  go_wp2_with fail
  refine (awake_true _ (tab_onto TT.out (Onto.refl w))).mono ?_
  rintro e w1 ⟨rfl, o⟩
  have O1 : Hid (Onto w w1) := (Onto.refl w).trans o
  clear o
  go_wp2_with fail
  refine (dot_no _ _ _ _ _ _ (by unfold May; omega) _).mono ?_
  rintro e w2 ⟨rfl, o⟩
  have O2 : Hid (Onto w w2) := (((O1.out.alloc _ _).alloc _ _).alloc _ _).trans o
  obtain ⟨⟨ws0, ws1, ws2⟩, xs0, xs1, xs2⟩ := box2 (((Onto.refl _).alloc _ _).trans o)
  clear o O1
  go_wp2_with fail
  refine (train_no _ _ _ _ _ _ 1 (by unfold May; omega) _).mono ?_
  rintro e w3 ⟨rfl, o⟩
  have O3 : Hid (Onto w w3) := O2.out.trans o
  clear o O2 ws0 ws1 ws2 xs0 xs1 xs2
  go_wp2_with fail
  refine (train_bit 1 2 3 4 5 6 _ may_plain (by omega) _ (tab_onto TT.out ((O3.out.alloc _ _).alloc _ _))).mono ?_
  rintro e w4 ⟨rfl, o⟩
  have O4 : Hid (Onto w w4) := ((O3.out.alloc _ _).alloc _ _).trans o
  obtain ⟨g0, g1, g2⟩ := keep3 (((Onto.refl _).alloc _ _).trans o) (made3 w3 _ _ _ 22)
  clear o O3
  have bb : Onto w4 (w4.alloc (.cells #[.int .i64 0, .int .i64 0, .int .i64 0] 22)) := (Onto.refl _).alloc _ _
  replace g0 := bb.cell_some g0
  replace g1 := bb.cell_some g1
  replace g2 := bb.cell_some g2
  clear bb
  go_wp2_with (go_at_call 13; go_in)
  go_wp2
  go_ret
  exact ⟨rfl, O4.out.alloc _ _⟩


theorem forms_2 (n m : Int) (hk : n % 18446744073709551616 % 3 = 2) (w : World) (T : Tab w) :
    Calls Tryd.prog 4 #[.int .i64 n, .int .i64 m] w fun e w' => e = .returned (.bool true) ∧ Onto w w' := by
  rcases (show n / 8 % 2 = 0 ∨ n / 8 % 2 = 1 from by omega) with hn | hn
  · cases hf : (bits .and .i64 n 4 == 4)
    · exact forms_200 n m hk hf hn w T
    · exact forms_210 n m hk hf hn w T
  · cases hf : (bits .and .i64 n 4 == 4)
    · exact forms_201 n m hk hf hn w T
    · exact forms_211 n m hk hf hn w T

end Go.Proofs.YtnnmldhhofoliaaDoor.Mix
