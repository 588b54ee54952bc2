/-
  The walk of Mixes: it answers true for any arrays and ints. Condition: the package's table is laid as its text lays it.
-/
import Derived.Test.YtnnmldhhofoliaaDoorMRefTrain
namespace Go.Proofs.YtnnmldhhofoliaaDoor.Mix
open Go.RowKit Go.Proofs.YtnnmldhhofoliaaDoor.Num Go.Proofs.YtnnmldhhofoliaaDoor.Str
set_option linter.unusedVariables false

theorem ref_dot_may (a b c x y z p : Int) (hm : May a b c x y z) (hp : dot a b c x y z = p) (w : World) :
    Calls Tryd.prog 10 #[.agg #[.int .i64 a, .int .i64 b, .int .i64 c], .agg #[.int .i64 x, .int .i64 y, .int .i64 z]] w fun e w' => e = .returned (.tuple #[.int .i64 p, .int .i64 0]) ∧ Onto w w' :=
  hp ▸ ref_dot_yes a b c x y z hm w

theorem ref_train_may (a b c x y z bit p A B C : Int) (hm : May a b c x y z) (hb : bit = 0 ∨ bit = 1) (hp : dot a b c x y z = p)
    (hA : trn a x (4096 * bit - p) = A) (hB : trn b y (4096 * bit - p) = B) (hC : trn c z (4096 * bit - p) = C) (w : World) :
    Calls Tryd.prog 12 #[.agg #[.int .i64 a, .int .i64 b, .int .i64 c], .agg #[.int .i64 x, .int .i64 y, .int .i64 z], .int .i64 bit] w fun e w' => e = .returned (.tuple #[.agg #[.int .i64 A, .int .i64 B, .int .i64 C], .int .i64 0]) ∧ Onto w w' := by
  subst hp hA hB hC
  exact ref_train_yes a b c x y z bit hm hb w

set_option maxRecDepth 20000 in
set_option maxHeartbeats 2000000 in
theorem mixes_no (a b c x y z bit : Int) (hm : ¬ May a b c x y z) (w : World) (T : Tab w) :
    Calls Tryd.prog 3 #[.agg #[.int .i64 a, .int .i64 b, .int .i64 c], .agg #[.int .i64 x, .int .i64 y, .int .i64 z], .int .i64 bit] w fun e w' => e = .returned (.bool true) ∧ Onto w w' := by
  have TT : Hid (Tab w) := T
  have M : Hid (¬ May a b c x y z) := hm
  have q1 := eq_same 0 0 0
  have q2 := eq_in_same 0 0 0
  clear T hm
  go_enter Tryd.func3, Tryd.ntmps3
  go_wp2_with fail
  refine (dot_no a b c x y z M.out _).mono ?_
  rintro e w1 ⟨rfl, o⟩
  have O1 : Hid (Onto w w1) := (((Onto.refl w).alloc _ _).alloc _ _).trans o
  obtain ⟨⟨ws0, ws1, ws2⟩, xs0, xs1, xs2⟩ := box2 o
  clear o
  go_wp2_with fail
  refine (ref_dot_no a b c x y z M.out _).mono ?_
  rintro e w2 ⟨rfl, o⟩
  have O2 : Hid (Onto w w2) := (O1.out).trans o
  replace ws0 := o.cell_some ws0
  replace ws1 := o.cell_some ws1
  replace ws2 := o.cell_some ws2
  replace xs0 := o.cell_some xs0
  replace xs1 := o.cell_some xs1
  replace xs2 := o.cell_some xs2
  clear o O1
  go_wp2_with fail
  refine (train_no a b c x y z bit M.out _).mono ?_
  rintro e w3 ⟨rfl, o⟩
  have O3 : Hid (Onto w w3) := (O2.out).trans o
  replace ws0 := o.cell_some ws0
  replace ws1 := o.cell_some ws1
  replace ws2 := o.cell_some ws2
  replace xs0 := o.cell_some xs0
  replace xs1 := o.cell_some xs1
  replace xs2 := o.cell_some xs2
  clear o O2
  have bb : Onto w3 (w3.alloc (.cells #[.int .i64 0, .int .i64 0, .int .i64 0] 22)) := (Onto.refl _).alloc _ _
  replace ws0 := bb.cell_some ws0
  replace ws1 := bb.cell_some ws1
  replace ws2 := bb.cell_some ws2
  replace xs0 := bb.cell_some xs0
  replace xs1 := bb.cell_some xs1
  replace xs2 := bb.cell_some xs2
  clear bb
  go_wp2_with fail
  refine (ref_train_no a b c x y z bit M.out _).mono ?_
  rintro e w4 ⟨rfl, o⟩
  have O4 : Hid (Onto w w4) := (O3.out.alloc _ _).trans o
  replace ws0 := o.cell_some ws0
  replace ws1 := o.cell_some ws1
  replace ws2 := o.cell_some ws2
  replace xs0 := o.cell_some xs0
  replace xs1 := o.cell_some xs1
  replace xs2 := o.cell_some xs2
  obtain ⟨g0, g1, g2⟩ := keep3 o (made3 w3 _ _ _ 22)
  clear o O3
  have bb : Onto w4 (w4.alloc (.cells #[.int .i64 0, .int .i64 0, .int .i64 0] 22)) := (Onto.refl _).alloc _ _
  replace ws0 := bb.cell_some ws0
  replace ws1 := bb.cell_some ws1
  replace ws2 := bb.cell_some ws2
  replace xs0 := bb.cell_some xs0
  replace xs1 := bb.cell_some xs1
  replace xs2 := bb.cell_some xs2
  replace g0 := bb.cell_some g0
  replace g1 := bb.cell_some g1
  replace g2 := bb.cell_some g2
  clear bb
  go_wp2_with (go_at_call 13; go_in)
  refine (awake_true _ (tab_onto TT.out (O4.out.alloc _ _))).mono ?_
  rintro e w5 ⟨rfl, o⟩
  have O5 : Hid (Onto w w5) := (O4.out.alloc _ _).trans o
  replace ws0 := o.cell_some ws0
  replace ws1 := o.cell_some ws1
  replace ws2 := o.cell_some ws2
  replace xs0 := o.cell_some xs0
  replace xs1 := o.cell_some xs1
  replace xs2 := o.cell_some xs2
  replace g0 := o.cell_some g0
  replace g1 := o.cell_some g1
  replace g2 := o.cell_some g2
  obtain ⟨h0, h1, h2⟩ := keep3 o (made3 w4 _ _ _ 22)
  clear o O4
  go_wp2
  go_ret
  exact ⟨rfl, O5.out⟩


set_option maxRecDepth 20000 in
set_option maxHeartbeats 2000000 in
theorem mixes_bit (a b c x y z bit : Int) (hm : May a b c x y z) (hb : ¬ (bit = 0 ∨ bit = 1)) (w : World) (T : Tab w) :
    Calls Tryd.prog 3 #[.agg #[.int .i64 a, .int .i64 b, .int .i64 c], .agg #[.int .i64 x, .int .i64 y, .int .i64 z], .int .i64 bit] w fun e w' => e = .returned (.bool true) ∧ Onto w w' := by
  have TT : Hid (Tab w) := T
  have M : Hid (May a b c x y z) := hm
  obtain ⟨p, hp⟩ : ∃ p, dot a b c x y z = p := ⟨_, rfl⟩
  have P : Hid (dot a b c x y z = p) := hp
  obtain ⟨p0, p1⟩ := dot_range a b c x y z
  rw [hp] at p0 p1
  have HB : Hid (¬ (bit = 0 ∨ bit = 1)) := hb
  have q1 := eq_same 0 0 0
  have q2 := eq_in_same 0 0 0
  clear T hm hb hp p0 p1
  go_enter Tryd.func3, Tryd.ntmps3
  go_wp2_with fail
  refine (dot_may a b c x y z p M.out P.out _ (tab_onto TT.out (((Onto.refl w).alloc _ _).alloc _ _))).mono ?_
  rintro e w1 ⟨rfl, o⟩
  have O1 : Hid (Onto w w1) := (((Onto.refl w).alloc _ _).alloc _ _).trans o
  obtain ⟨⟨ws0, ws1, ws2⟩, xs0, xs1, xs2⟩ := box2 o
  clear o
  go_wp2_with fail
  refine (ref_dot_may a b c x y z p M.out P.out _).mono ?_
  rintro e w2 ⟨rfl, o⟩
  have O2 : Hid (Onto w w2) := (O1.out).trans o
  replace ws0 := o.cell_some ws0
  replace ws1 := o.cell_some ws1
  replace ws2 := o.cell_some ws2
  replace xs0 := o.cell_some xs0
  replace xs1 := o.cell_some xs1
  replace xs2 := o.cell_some xs2
  clear o O1
  go_wp2_with fail
  refine (train_bit a b c x y z bit M.out HB.out _ (tab_onto TT.out (O2.out))).mono ?_
  rintro e w3 ⟨rfl, o⟩
  have O3 : Hid (Onto w w3) := (O2.out).trans o
  replace ws0 := o.cell_some ws0
  replace ws1 := o.cell_some ws1
  replace ws2 := o.cell_some ws2
  replace xs0 := o.cell_some xs0
  replace xs1 := o.cell_some xs1
  replace xs2 := o.cell_some xs2
  clear o O2
  have bb : Onto w3 (w3.alloc (.cells #[.int .i64 0, .int .i64 0, .int .i64 0] 22)) := (Onto.refl _).alloc _ _
  replace ws0 := bb.cell_some ws0
  replace ws1 := bb.cell_some ws1
  replace ws2 := bb.cell_some ws2
  replace xs0 := bb.cell_some xs0
  replace xs1 := bb.cell_some xs1
  replace xs2 := bb.cell_some xs2
  clear bb
  go_wp2_with fail
  refine (ref_train_bit a b c x y z bit M.out HB.out _).mono ?_
  rintro e w4 ⟨rfl, o⟩
  have O4 : Hid (Onto w w4) := (O3.out.alloc _ _).trans o
  replace ws0 := o.cell_some ws0
  replace ws1 := o.cell_some ws1
  replace ws2 := o.cell_some ws2
  replace xs0 := o.cell_some xs0
  replace xs1 := o.cell_some xs1
  replace xs2 := o.cell_some xs2
  obtain ⟨g0, g1, g2⟩ := keep3 o (made3 w3 _ _ _ 22)
  clear o O3
  have bb : Onto w4 (w4.alloc (.cells #[.int .i64 0, .int .i64 0, .int .i64 0] 22)) := (Onto.refl _).alloc _ _
  replace ws0 := bb.cell_some ws0
  replace ws1 := bb.cell_some ws1
  replace ws2 := bb.cell_some ws2
  replace xs0 := bb.cell_some xs0
  replace xs1 := bb.cell_some xs1
  replace xs2 := bb.cell_some xs2
  replace g0 := bb.cell_some g0
  replace g1 := bb.cell_some g1
  replace g2 := bb.cell_some g2
  clear bb
  go_wp2_with (go_at_call 13; go_in)
  refine (awake_true _ (tab_onto TT.out (O4.out.alloc _ _))).mono ?_
  rintro e w5 ⟨rfl, o⟩
  have O5 : Hid (Onto w w5) := (O4.out.alloc _ _).trans o
  replace ws0 := o.cell_some ws0
  replace ws1 := o.cell_some ws1
  replace ws2 := o.cell_some ws2
  replace xs0 := o.cell_some xs0
  replace xs1 := o.cell_some xs1
  replace xs2 := o.cell_some xs2
  replace g0 := o.cell_some g0
  replace g1 := o.cell_some g1
  replace g2 := o.cell_some g2
  obtain ⟨h0, h1, h2⟩ := keep3 o (made3 w4 _ _ _ 22)
  clear o O4
  go_wp2
  go_ret
  exact ⟨rfl, O5.out⟩


set_option maxRecDepth 20000 in
set_option maxHeartbeats 2000000 in
theorem mixes_yes (a b c x y z bit : Int) (hm : May a b c x y z) (hb : bit = 0 ∨ bit = 1) (w : World) (T : Tab w) :
    Calls Tryd.prog 3 #[.agg #[.int .i64 a, .int .i64 b, .int .i64 c], .agg #[.int .i64 x, .int .i64 y, .int .i64 z], .int .i64 bit] w fun e w' => e = .returned (.bool true) ∧ Onto w w' := by
  have TT : Hid (Tab w) := T
  have M : Hid (May a b c x y z) := hm
  obtain ⟨p, hp⟩ : ∃ p, dot a b c x y z = p := ⟨_, rfl⟩
  have P : Hid (dot a b c x y z = p) := hp
  obtain ⟨p0, p1⟩ := dot_range a b c x y z
  rw [hp] at p0 p1
  obtain ⟨A, hA⟩ : ∃ A, trn a x (4096 * bit - p) = A := ⟨_, rfl⟩
  obtain ⟨B, hB⟩ : ∃ B, trn b y (4096 * bit - p) = B := ⟨_, rfl⟩
  obtain ⟨C, hC⟩ : ∃ C, trn c z (4096 * bit - p) = C := ⟨_, rfl⟩
  have HA : Hid (trn a x (4096 * bit - p) = A) := hA
  have HBB : Hid (trn b y (4096 * bit - p) = B) := hB
  have HC : Hid (trn c z (4096 * bit - p) = C) := hC
  have HB : Hid (bit = 0 ∨ bit = 1) := hb
  have q1 := eq_same A B C
  have q2 := eq_in_same A B C
  clear T hm hb hp hA hB hC p0 p1
  go_enter Tryd.func3, Tryd.ntmps3
  go_wp2_with fail
  refine (dot_may a b c x y z p M.out P.out _ (tab_onto TT.out (((Onto.refl w).alloc _ _).alloc _ _))).mono ?_
  rintro e w1 ⟨rfl, o⟩
  have O1 : Hid (Onto w w1) := (((Onto.refl w).alloc _ _).alloc _ _).trans o
  obtain ⟨⟨ws0, ws1, ws2⟩, xs0, xs1, xs2⟩ := box2 o
  clear o
  go_wp2_with fail
  refine (ref_dot_may a b c x y z p M.out P.out _).mono ?_
  rintro e w2 ⟨rfl, o⟩
  have O2 : Hid (Onto w w2) := (O1.out).trans o
  replace ws0 := o.cell_some ws0
  replace ws1 := o.cell_some ws1
  replace ws2 := o.cell_some ws2
  replace xs0 := o.cell_some xs0
  replace xs1 := o.cell_some xs1
  replace xs2 := o.cell_some xs2
  clear o O1
  go_wp2_with fail
  refine (train_may a b c x y z bit p A B C M.out HB.out P.out HA.out HBB.out HC.out _ (tab_onto TT.out (O2.out))).mono ?_
  rintro e w3 ⟨rfl, o⟩
  have O3 : Hid (Onto w w3) := (O2.out).trans o
  replace ws0 := o.cell_some ws0
  replace ws1 := o.cell_some ws1
  replace ws2 := o.cell_some ws2
  replace xs0 := o.cell_some xs0
  replace xs1 := o.cell_some xs1
  replace xs2 := o.cell_some xs2
  clear o O2
  have bb : Onto w3 (w3.alloc (.cells #[.int .i64 A, .int .i64 B, .int .i64 C] 22)) := (Onto.refl _).alloc _ _
  replace ws0 := bb.cell_some ws0
  replace ws1 := bb.cell_some ws1
  replace ws2 := bb.cell_some ws2
  replace xs0 := bb.cell_some xs0
  replace xs1 := bb.cell_some xs1
  replace xs2 := bb.cell_some xs2
  clear bb
  go_wp2_with fail
  refine (ref_train_may a b c x y z bit p A B C M.out HB.out P.out HA.out HBB.out HC.out _).mono ?_
  rintro e w4 ⟨rfl, o⟩
  have O4 : Hid (Onto w w4) := (O3.out.alloc _ _).trans o
  replace ws0 := o.cell_some ws0
  replace ws1 := o.cell_some ws1
  replace ws2 := o.cell_some ws2
  replace xs0 := o.cell_some xs0
  replace xs1 := o.cell_some xs1
  replace xs2 := o.cell_some xs2
  obtain ⟨g0, g1, g2⟩ := keep3 o (made3 w3 _ _ _ 22)
  clear o O3
  have bb : Onto w4 (w4.alloc (.cells #[.int .i64 A, .int .i64 B, .int .i64 C] 22)) := (Onto.refl _).alloc _ _
  replace ws0 := bb.cell_some ws0
  replace ws1 := bb.cell_some ws1
  replace ws2 := bb.cell_some ws2
  replace xs0 := bb.cell_some xs0
  replace xs1 := bb.cell_some xs1
  replace xs2 := bb.cell_some xs2
  replace g0 := bb.cell_some g0
  replace g1 := bb.cell_some g1
  replace g2 := bb.cell_some g2
  clear bb
  go_wp2_with (go_at_call 13; go_in)
  refine (awake_true _ (tab_onto TT.out (O4.out.alloc _ _))).mono ?_
  rintro e w5 ⟨rfl, o⟩
  have O5 : Hid (Onto w w5) := (O4.out.alloc _ _).trans o
  replace ws0 := o.cell_some ws0
  replace ws1 := o.cell_some ws1
  replace ws2 := o.cell_some ws2
  replace xs0 := o.cell_some xs0
  replace xs1 := o.cell_some xs1
  replace xs2 := o.cell_some xs2
  replace g0 := o.cell_some g0
  replace g1 := o.cell_some g1
  replace g2 := o.cell_some g2
  obtain ⟨h0, h1, h2⟩ := keep3 o (made3 w4 _ _ _ 22)
  clear o O4
  go_wp2
  go_ret
  exact ⟨rfl, O5.out⟩


theorem mixes_walk (a b c x y z bit : Int) (w : World) (T : Tab w) :
    Calls Tryd.prog 3 #[.agg #[.int .i64 a, .int .i64 b, .int .i64 c], .agg #[.int .i64 x, .int .i64 y, .int .i64 z], .int .i64 bit] w fun e w' => e = .returned (.bool true) ∧ Onto w w' := by
  by_cases hm : May a b c x y z
  · by_cases hb : bit = 0 ∨ bit = 1
    · exact mixes_yes a b c x y z bit hm hb w T
    · exact mixes_bit a b c x y z bit hm hb w T
  · exact mixes_no a b c x y z bit hm w T

end Go.Proofs.YtnnmldhhofoliaaDoor.Mix
