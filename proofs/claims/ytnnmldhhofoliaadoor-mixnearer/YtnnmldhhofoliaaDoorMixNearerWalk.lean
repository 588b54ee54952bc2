/-
  The walk of MixNearer: it answers true for any arrays. Condition: the package's table is laid as its text lays it.
-/
import Derived.Test.YtnnmldhhofoliaaDoorMAwake
namespace Go.Proofs.YtnnmldhhofoliaaDoor.Mix
open Go.RowKit Go.Proofs.YtnnmldhhofoliaaDoor.Num Go.Proofs.YtnnmldhhofoliaaDoor.Str
set_option linter.unusedVariables false

set_option maxHeartbeats 1000000 in
theorem nearer_no (a b c x y z : Int) (hm : ¬ May a b c x y z) (w : World) (T : Tab w) :
    Calls Tryd.prog 8 #[.agg #[.int .i64 a, .int .i64 b, .int .i64 c], .agg #[.int .i64 x, .int .i64 y, .int .i64 z]] w fun e w' => e = .returned (.bool true) ∧ Onto w w' := by
  have TT : Hid (Tab w) := T
  have M : Hid (¬ May a b c x y z) := hm
  clear T hm
  go_enter Tryd.func8, Tryd.ntmps8
  go_wp2_with fail
  refine (awake_true _ (tab_onto TT.out (((Onto.refl w).alloc _ _).alloc _ _))).mono ?_
  rintro e w1 ⟨rfl, o⟩
  have O1 : Hid (Onto w w1) := (((Onto.refl w).alloc _ _).alloc _ _).trans o
  obtain ⟨⟨ws0, ws1, ws2⟩, xs0, xs1, xs2⟩ := box2 o
  clear o
  go_wp2_with fail
  refine (dot_no a b c x y z M.out _).mono ?_
  rintro e w2 ⟨rfl, o⟩
  have O2 : Hid (Onto w w2) := (O1.out).trans o
  replace ws0 := o.cell_some ws0
  replace ws1 := o.cell_some ws1
  replace ws2 := o.cell_some ws2
  replace xs0 := o.cell_some xs0
  replace xs1 := o.cell_some xs1
  replace xs2 := o.cell_some xs2
  clear o O1
  go_wp2_with fail
  refine (train_no a b c x y z 1 M.out _).mono ?_
  rintro e w3 ⟨rfl, o⟩
  have O3 : Hid (Onto w w3) := (O2.out).trans o
  replace ws0 := o.cell_some ws0
  replace ws1 := o.cell_some ws1
  replace ws2 := o.cell_some ws2
  replace xs0 := o.cell_some xs0
  replace xs1 := o.cell_some xs1
  replace xs2 := o.cell_some xs2
  clear o O2
  have bb : Onto w3 (w3.alloc (.cells #[.int .i64 0, .int .i64 0, .int .i64 0] 22)) := (Onto.refl _).alloc _ _
  replace ws0 := bb.cell_some ws0
  replace ws1 := bb.cell_some ws1
  replace ws2 := bb.cell_some ws2
  replace xs0 := bb.cell_some xs0
  replace xs1 := bb.cell_some xs1
  replace xs2 := bb.cell_some xs2
  clear bb
  go_wp2_with fail
  refine (train_no a b c x y z 0 M.out _).mono ?_
  rintro e w4 ⟨rfl, o⟩
  have O4 : Hid (Onto w w4) := (O3.out.alloc _ _).trans o
  replace ws0 := o.cell_some ws0
  replace ws1 := o.cell_some ws1
  replace ws2 := o.cell_some ws2
  replace xs0 := o.cell_some xs0
  replace xs1 := o.cell_some xs1
  replace xs2 := o.cell_some xs2
  obtain ⟨g0, g1, g2⟩ := keep3 o (made3 w3 _ _ _ 22)
  clear o O3
  have bb : Onto w4 (w4.alloc (.cells #[.int .i64 0, .int .i64 0, .int .i64 0] 22)) := (Onto.refl _).alloc _ _
  replace ws0 := bb.cell_some ws0
  replace ws1 := bb.cell_some ws1
  replace ws2 := bb.cell_some ws2
  replace xs0 := bb.cell_some xs0
  replace xs1 := bb.cell_some xs1
  replace xs2 := bb.cell_some xs2
  replace g0 := bb.cell_some g0
  replace g1 := bb.cell_some g1
  replace g2 := bb.cell_some g2
  clear bb
  go_wp2_with (go_at_call 13; go_in)
  go_wp2
  go_ret
  exact ⟨rfl, O4.out.alloc _ _⟩


set_option maxHeartbeats 1000000 in
theorem nearer_yes (a b c x y z : Int) (hm : May a b c x y z) (w : World) (T : Tab w) :
    Calls Tryd.prog 8 #[.agg #[.int .i64 a, .int .i64 b, .int .i64 c], .agg #[.int .i64 x, .int .i64 y, .int .i64 z]] w fun e w' => e = .returned (.bool true) ∧ Onto w w' := by
  have TT : Hid (Tab w) := T
  have M : Hid (May a b c x y z) := hm
  obtain ⟨p, hp⟩ : ∃ p, dot a b c x y z = p := ⟨_, rfl⟩
  have P : Hid (dot a b c x y z = p) := hp
  obtain ⟨p0, p1⟩ := dot_range a b c x y z
  rw [hp] at p0 p1
  have u := nearer_up a b c x y z (4096 * 1 - p) hm (by omega)
  have d := nearer_down a b c x y z (4096 * 0 - p) hm (by omega)
  have mu := may_trn a b c x y z (4096 * 1 - p) hm
  have md := may_trn a b c x y z (4096 * 0 - p) hm
  rw [hp] at u d
  obtain ⟨A, hA⟩ : ∃ A, trn a x (4096 * 1 - p) = A := ⟨_, rfl⟩
  obtain ⟨B, hB⟩ : ∃ B, trn b y (4096 * 1 - p) = B := ⟨_, rfl⟩
  obtain ⟨C, hC⟩ : ∃ C, trn c z (4096 * 1 - p) = C := ⟨_, rfl⟩
  obtain ⟨D, hD⟩ : ∃ D, trn a x (4096 * 0 - p) = D := ⟨_, rfl⟩
  obtain ⟨E, hE⟩ : ∃ E, trn b y (4096 * 0 - p) = E := ⟨_, rfl⟩
  obtain ⟨F, hF⟩ : ∃ F, trn c z (4096 * 0 - p) = F := ⟨_, rfl⟩
  rw [hA, hB, hC] at u mu
  rw [hD, hE, hF] at d md
  have HA : Hid (trn a x (4096 * 1 - p) = A) := hA
  have HB : Hid (trn b y (4096 * 1 - p) = B) := hB
  have HC : Hid (trn c z (4096 * 1 - p) = C) := hC
  have HD : Hid (trn a x (4096 * 0 - p) = D) := hD
  have HE : Hid (trn b y (4096 * 0 - p) = E) := hE
  have HF : Hid (trn c z (4096 * 0 - p) = F) := hF
  obtain ⟨q, hq⟩ : ∃ q, dot A B C x y z = q := ⟨_, rfl⟩
  obtain ⟨r, hr⟩ : ∃ r, dot D E F x y z = r := ⟨_, rfl⟩
  rw [hq] at u
  rw [hr] at d
  have Q : Hid (dot A B C x y z = q) := hq
  have R : Hid (dot D E F x y z = r) := hr
  have MU : Hid (May A B C x y z) := mu
  have MD : Hid (May D E F x y z) := md
  clear T hm hp hA hB hC hD hE hF hq hr mu md
  go_enter Tryd.func8, Tryd.ntmps8
  go_wp2_with fail
  refine (awake_true _ (tab_onto TT.out (((Onto.refl w).alloc _ _).alloc _ _))).mono ?_
  rintro e w1 ⟨rfl, o⟩
  have O1 : Hid (Onto w w1) := (((Onto.refl w).alloc _ _).alloc _ _).trans o
  obtain ⟨⟨ws0, ws1, ws2⟩, xs0, xs1, xs2⟩ := box2 o
  clear o
  go_wp2_with fail
  refine (dot_may a b c x y z p M.out P.out _ (tab_onto TT.out (O1.out))).mono ?_
  rintro e w2 ⟨rfl, o⟩
  have O2 : Hid (Onto w w2) := (O1.out).trans o
  replace ws0 := o.cell_some ws0
  replace ws1 := o.cell_some ws1
  replace ws2 := o.cell_some ws2
  replace xs0 := o.cell_some xs0
  replace xs1 := o.cell_some xs1
  replace xs2 := o.cell_some xs2
  clear o O1
  go_wp2_with fail
  refine (train_may a b c x y z 1 p A B C M.out (.inr rfl) P.out HA.out HB.out HC.out _ (tab_onto TT.out (O2.out))).mono ?_
  rintro e w3 ⟨rfl, o⟩
  have O3 : Hid (Onto w w3) := (O2.out).trans o
  replace ws0 := o.cell_some ws0
  replace ws1 := o.cell_some ws1
  replace ws2 := o.cell_some ws2
  replace xs0 := o.cell_some xs0
  replace xs1 := o.cell_some xs1
  replace xs2 := o.cell_some xs2
  clear o O2
  have bb : Onto w3 (w3.alloc (.cells #[.int .i64 A, .int .i64 B, .int .i64 C] 22)) := (Onto.refl _).alloc _ _
  replace ws0 := bb.cell_some ws0
  replace ws1 := bb.cell_some ws1
  replace ws2 := bb.cell_some ws2
  replace xs0 := bb.cell_some xs0
  replace xs1 := bb.cell_some xs1
  replace xs2 := bb.cell_some xs2
  clear bb
  go_wp2_with fail
  refine (train_may a b c x y z 0 p D E F M.out (.inl rfl) P.out HD.out HE.out HF.out _ (tab_onto TT.out (O3.out.alloc _ _))).mono ?_
  rintro e w4 ⟨rfl, o⟩
  have O4 : Hid (Onto w w4) := (O3.out.alloc _ _).trans o
  replace ws0 := o.cell_some ws0
  replace ws1 := o.cell_some ws1
  replace ws2 := o.cell_some ws2
  replace xs0 := o.cell_some xs0
  replace xs1 := o.cell_some xs1
  replace xs2 := o.cell_some xs2
  obtain ⟨g0, g1, g2⟩ := keep3 o (made3 w3 _ _ _ 22)
  clear o O3
  have bb : Onto w4 (w4.alloc (.cells #[.int .i64 D, .int .i64 E, .int .i64 F] 22)) := (Onto.refl _).alloc _ _
  replace ws0 := bb.cell_some ws0
  replace ws1 := bb.cell_some ws1
  replace ws2 := bb.cell_some ws2
  replace xs0 := bb.cell_some xs0
  replace xs1 := bb.cell_some xs1
  replace xs2 := bb.cell_some xs2
  replace g0 := bb.cell_some g0
  replace g1 := bb.cell_some g1
  replace g2 := bb.cell_some g2
  clear bb
  go_wp2_with (go_at_call 13; go_in)
  refine (dot_may A B C x y z q MU.out Q.out _ (tab_onto TT.out (O4.out.alloc _ _))).mono ?_
  rintro e w5 ⟨rfl, o⟩
  have O5 : Hid (Onto w w5) := (O4.out.alloc _ _).trans o
  replace ws0 := o.cell_some ws0
  replace ws1 := o.cell_some ws1
  replace ws2 := o.cell_some ws2
  replace xs0 := o.cell_some xs0
  replace xs1 := o.cell_some xs1
  replace xs2 := o.cell_some xs2
  replace g0 := o.cell_some g0
  replace g1 := o.cell_some g1
  replace g2 := o.cell_some g2
  obtain ⟨h0, h1, h2⟩ := keep3 o (made3 w4 _ _ _ 22)
  clear o O4
  go_wp2_with fail
  refine (dot_may D E F x y z r MD.out R.out _ (tab_onto TT.out (O5.out))).mono ?_
  rintro e w6 ⟨rfl, o⟩
  have O6 : Hid (Onto w w6) := (O5.out).trans o
  replace ws0 := o.cell_some ws0
  replace ws1 := o.cell_some ws1
  replace ws2 := o.cell_some ws2
  replace xs0 := o.cell_some xs0
  replace xs1 := o.cell_some xs1
  replace xs2 := o.cell_some xs2
  replace g0 := o.cell_some g0
  replace g1 := o.cell_some g1
  replace g2 := o.cell_some g2
  replace h0 := o.cell_some h0
  replace h1 := o.cell_some h1
  replace h2 := o.cell_some h2
  clear o O5
  go_wp2_with (go_at_call 13; go_in)
  go_wp2
  go_ret
  exact ⟨rfl, O6.out⟩


theorem nearer_walk (a b c x y z : Int) (w : World) (T : Tab w) :
    Calls Tryd.prog 8 #[.agg #[.int .i64 a, .int .i64 b, .int .i64 c], .agg #[.int .i64 x, .int .i64 y, .int .i64 z]] w fun e w' => e = .returned (.bool true) ∧ Onto w w' := by
  by_cases hm : May a b c x y z
  · exact nearer_yes a b c x y z hm w T
  · exact nearer_no a b c x y z hm w T

end Go.Proofs.YtnnmldhhofoliaaDoor.Mix
