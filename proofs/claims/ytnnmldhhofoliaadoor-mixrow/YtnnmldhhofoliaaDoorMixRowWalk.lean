/-
  The walk of MixRow: it answers true for any arrays and bools. Condition: the package's table is laid as its text lays it.
-/
import Derived.Test.YtnnmldhhofoliaaDoorMAwake
import Derived.Deep.RegionHeld3
namespace Go.Proofs.YtnnmldhhofoliaaDoor.Mix
open Go.RowKit Go.Proofs.YtnnmldhhofoliaaDoor.Num Go.Proofs.YtnnmldhhofoliaaDoor.Str
set_option linter.unusedVariables false

set_option maxRecDepth 20000 in
set_option maxHeartbeats 2000000 in
theorem row_no0 (a b c x y z : Int) (hm : ¬ May a b c x y z) (w : World) (T : Tab w) :
    Calls Tryd.prog 7 #[.agg #[.int .i64 a, .int .i64 b, .int .i64 c], .agg #[.int .i64 x, .int .i64 y, .int .i64 z], .bool false] w fun e w' => e = .returned (.bool true) ∧ Onto w w' := by
  have TT : Hid (Tab w) := T
  have M : Hid (¬ May a b c x y z) := hm
  have MR : Hid (¬ May c a b z x y) := fun h => hm (may_row_back h)
  have q1 := eq_same 0 0 0
  have q2 := eq_in_same 0 0 0
  clear T hm
  go_enter Tryd.func7, Tryd.ntmps7
  go_wp2_with fail
  refine (awake_true _ (tab_onto TT.out (((Onto.refl w).alloc _ _).alloc _ _))).mono ?_
  rintro e w1 ⟨rfl, o⟩
  have O1 : Hid (Onto w w1) := (((Onto.refl w).alloc _ _).alloc _ _).trans o
  obtain ⟨⟨ws0, ws1, ws2⟩, xs0, xs1, xs2⟩ := box2 o
  clear o
  go_wp2_with fail
  have SO : Hid (∀ wx, Onto w1 wx → wx.cell? ⟨w.heap.size, 0, none⟩ = some (.int .i64 a) ∧ wx.cell? ⟨w.heap.size, 1, none⟩ = some (.int .i64 b) ∧ wx.cell? ⟨w.heap.size, 2, none⟩ = some (.int .i64 c) ∧ wx.cell? ⟨w.heap.size + 1, 0, none⟩ = some (.int .i64 x) ∧ wx.cell? ⟨w.heap.size + 1, 1, none⟩ = some (.int .i64 y) ∧ wx.cell? ⟨w.heap.size + 1, 2, none⟩ = some (.int .i64 z)) := fun wx o => ⟨o.cell_some ws0, o.cell_some ws1, o.cell_some ws2, o.cell_some xs0, o.cell_some xs1, o.cell_some xs2⟩
  go_cut [8, 9] from 21 to 34 (fun s t wx => ∃ BV BY : Nat, s = .pointer (some ⟨BV, 0, none⟩) ∧ t = .pointer (some ⟨BY, 0, none⟩) ∧ (wx.cell? ⟨BV, 0, none⟩ = some (.int .i64 c) ∧ wx.cell? ⟨BV, 1, none⟩ = some (.int .i64 a) ∧ wx.cell? ⟨BV, 2, none⟩ = some (.int .i64 b)) ∧ (wx.cell? ⟨BY, 0, none⟩ = some (.int .i64 z) ∧ wx.cell? ⟨BY, 1, none⟩ = some (.int .i64 x) ∧ wx.cell? ⟨BY, 2, none⟩ = some (.int .i64 y)) ∧ Onto w1 wx)
  case first =>
    go_region_held3 (fun wx => wx.cell? ⟨w.heap.size, 0, none⟩ = some (.int .i64 a) ∧ wx.cell? ⟨w.heap.size, 1, none⟩ = some (.int .i64 b) ∧ wx.cell? ⟨w.heap.size, 2, none⟩ = some (.int .i64 c) ∧ wx.cell? ⟨w.heap.size + 1, 0, none⟩ = some (.int .i64 x) ∧ wx.cell? ⟨w.heap.size + 1, 1, none⟩ = some (.int .i64 y) ∧ wx.cell? ⟨w.heap.size + 1, 2, none⟩ = some (.int .i64 z)) ((refine SO.out _ ?_; repeat (first | exact Onto.refl _ | apply Onto.drew | apply Onto.alloc))) (fail)
    all_goals go_wp2_with fail
    all_goals go_meet
    all_goals first
      | exact ⟨_, _, rfl, rfl, (box2 (Onto.refl _)).1, (box2 (Onto.refl _)).2, (((Onto.refl _).alloc _ _).alloc _ _).drew⟩
      | exact ⟨_, _, rfl, rfl, (box2 (Onto.refl _)).2, (box2 (Onto.refl _)).1, (((Onto.refl _).alloc _ _).alloc _ _).drew⟩
  obtain ⟨BV, BY, rfl, rfl, ⟨vs0, vs1, vs2⟩, ⟨ys0, ys1, ys2⟩, oc⟩ := hcut
  replace ws0 := oc.cell_some ws0
  replace ws1 := oc.cell_some ws1
  replace ws2 := oc.cell_some ws2
  replace xs0 := oc.cell_some xs0
  replace xs1 := oc.cell_some xs1
  replace xs2 := oc.cell_some xs2
  have OC : Hid (Onto w wc) := O1.out.trans oc
  clear oc SO O1
  go_wp2_with fail
  refine (dot_no a b c x y z M.out _).mono ?_
  rintro e w2 ⟨rfl, o⟩
  have O2 : Hid (Onto w w2) := (OC.out).trans o
  replace ws0 := o.cell_some ws0
  replace ws1 := o.cell_some ws1
  replace ws2 := o.cell_some ws2
  replace xs0 := o.cell_some xs0
  replace xs1 := o.cell_some xs1
  replace xs2 := o.cell_some xs2
  replace vs0 := o.cell_some vs0
  replace vs1 := o.cell_some vs1
  replace vs2 := o.cell_some vs2
  replace ys0 := o.cell_some ys0
  replace ys1 := o.cell_some ys1
  replace ys2 := o.cell_some ys2
  clear o OC
  go_wp2_with fail
  refine (dot_no c a b z x y MR.out _).mono ?_
  rintro e w3 ⟨rfl, o⟩
  have O3 : Hid (Onto w w3) := (O2.out).trans o
  replace ws0 := o.cell_some ws0
  replace ws1 := o.cell_some ws1
  replace ws2 := o.cell_some ws2
  replace xs0 := o.cell_some xs0
  replace xs1 := o.cell_some xs1
  replace xs2 := o.cell_some xs2
  replace vs0 := o.cell_some vs0
  replace vs1 := o.cell_some vs1
  replace vs2 := o.cell_some vs2
  replace ys0 := o.cell_some ys0
  replace ys1 := o.cell_some ys1
  replace ys2 := o.cell_some ys2
  clear o O2
  go_wp2_with fail
  refine (train_no a b c x y z 0 M.out _).mono ?_
  rintro e w4 ⟨rfl, o⟩
  have O4 : Hid (Onto w w4) := (O3.out).trans o
  replace ws0 := o.cell_some ws0
  replace ws1 := o.cell_some ws1
  replace ws2 := o.cell_some ws2
  replace xs0 := o.cell_some xs0
  replace xs1 := o.cell_some xs1
  replace xs2 := o.cell_some xs2
  replace vs0 := o.cell_some vs0
  replace vs1 := o.cell_some vs1
  replace vs2 := o.cell_some vs2
  replace ys0 := o.cell_some ys0
  replace ys1 := o.cell_some ys1
  replace ys2 := o.cell_some ys2
  clear o O3
  have bb : Onto w4 (w4.alloc (.cells #[.int .i64 0, .int .i64 0, .int .i64 0] 22)) := (Onto.refl _).alloc _ _
  replace ws0 := bb.cell_some ws0
  replace ws1 := bb.cell_some ws1
  replace ws2 := bb.cell_some ws2
  replace xs0 := bb.cell_some xs0
  replace xs1 := bb.cell_some xs1
  replace xs2 := bb.cell_some xs2
  replace vs0 := bb.cell_some vs0
  replace vs1 := bb.cell_some vs1
  replace vs2 := bb.cell_some vs2
  replace ys0 := bb.cell_some ys0
  replace ys1 := bb.cell_some ys1
  replace ys2 := bb.cell_some ys2
  clear bb
  go_wp2_with fail
  refine (train_no c a b z x y 0 MR.out _).mono ?_
  rintro e w5 ⟨rfl, o⟩
  have O5 : Hid (Onto w w5) := (O4.out.alloc _ _).trans o
  replace ws0 := o.cell_some ws0
  replace ws1 := o.cell_some ws1
  replace ws2 := o.cell_some ws2
  replace xs0 := o.cell_some xs0
  replace xs1 := o.cell_some xs1
  replace xs2 := o.cell_some xs2
  replace vs0 := o.cell_some vs0
  replace vs1 := o.cell_some vs1
  replace vs2 := o.cell_some vs2
  replace ys0 := o.cell_some ys0
  replace ys1 := o.cell_some ys1
  replace ys2 := o.cell_some ys2
  obtain ⟨g0, g1, g2⟩ := keep3 o (made3 w4 _ _ _ 22)
  clear o O4
  have bb : Onto w5 (w5.alloc (.cells #[.int .i64 0, .int .i64 0, .int .i64 0] 22)) := (Onto.refl _).alloc _ _
  replace ws0 := bb.cell_some ws0
  replace ws1 := bb.cell_some ws1
  replace ws2 := bb.cell_some ws2
  replace xs0 := bb.cell_some xs0
  replace xs1 := bb.cell_some xs1
  replace xs2 := bb.cell_some xs2
  replace vs0 := bb.cell_some vs0
  replace vs1 := bb.cell_some vs1
  replace vs2 := bb.cell_some vs2
  replace ys0 := bb.cell_some ys0
  replace ys1 := bb.cell_some ys1
  replace ys2 := bb.cell_some ys2
  replace g0 := bb.cell_some g0
  replace g1 := bb.cell_some g1
  replace g2 := bb.cell_some g2
  clear bb
  go_wp2_with (go_at_call 13; go_in)
  go_wp2
  go_ret
  exact ⟨rfl, O5.out.alloc _ _⟩


set_option maxRecDepth 20000 in
set_option maxHeartbeats 2000000 in
theorem row_yes0 (a b c x y z : Int) (hm : May a b c x y z) (w : World) (T : Tab w) :
    Calls Tryd.prog 7 #[.agg #[.int .i64 a, .int .i64 b, .int .i64 c], .agg #[.int .i64 x, .int .i64 y, .int .i64 z], .bool false] w fun e w' => e = .returned (.bool true) ∧ Onto w w' := by
  have TT : Hid (Tab w) := T
  have M : Hid (May a b c x y z) := hm
  obtain ⟨p, hp⟩ : ∃ p, dot a b c x y z = p := ⟨_, rfl⟩
  have P : Hid (dot a b c x y z = p) := hp
  obtain ⟨p0, p1⟩ := dot_range a b c x y z
  rw [hp] at p0 p1
  obtain ⟨A, hA⟩ : ∃ A, trn a x (4096 * 0 - p) = A := ⟨_, rfl⟩
  obtain ⟨B, hB⟩ : ∃ B, trn b y (4096 * 0 - p) = B := ⟨_, rfl⟩
  obtain ⟨C, hC⟩ : ∃ C, trn c z (4096 * 0 - p) = C := ⟨_, rfl⟩
  have HA : Hid (trn a x (4096 * 0 - p) = A) := hA
  have HB : Hid (trn b y (4096 * 0 - p) = B) := hB
  have HC : Hid (trn c z (4096 * 0 - p) = C) := hC
  have MR : Hid (May c a b z x y) := may_row hm
  have PR : Hid (dot c a b z x y = p) := (dot_row a b c x y z).trans hp
  have q1 := eq_same C A B
  have q2 := eq_in_same C A B
  clear T hm hp hA hB hC p0 p1
  go_enter Tryd.func7, Tryd.ntmps7
  go_wp2_with fail
  refine (awake_true _ (tab_onto TT.out (((Onto.refl w).alloc _ _).alloc _ _))).mono ?_
  rintro e w1 ⟨rfl, o⟩
  have O1 : Hid (Onto w w1) := (((Onto.refl w).alloc _ _).alloc _ _).trans o
  obtain ⟨⟨ws0, ws1, ws2⟩, xs0, xs1, xs2⟩ := box2 o
  clear o
  go_wp2_with fail
  have SO : Hid (∀ wx, Onto w1 wx → wx.cell? ⟨w.heap.size, 0, none⟩ = some (.int .i64 a) ∧ wx.cell? ⟨w.heap.size, 1, none⟩ = some (.int .i64 b) ∧ wx.cell? ⟨w.heap.size, 2, none⟩ = some (.int .i64 c) ∧ wx.cell? ⟨w.heap.size + 1, 0, none⟩ = some (.int .i64 x) ∧ wx.cell? ⟨w.heap.size + 1, 1, none⟩ = some (.int .i64 y) ∧ wx.cell? ⟨w.heap.size + 1, 2, none⟩ = some (.int .i64 z)) := fun wx o => ⟨o.cell_some ws0, o.cell_some ws1, o.cell_some ws2, o.cell_some xs0, o.cell_some xs1, o.cell_some xs2⟩
  go_cut [8, 9] from 21 to 34 (fun s t wx => ∃ BV BY : Nat, s = .pointer (some ⟨BV, 0, none⟩) ∧ t = .pointer (some ⟨BY, 0, none⟩) ∧ (wx.cell? ⟨BV, 0, none⟩ = some (.int .i64 c) ∧ wx.cell? ⟨BV, 1, none⟩ = some (.int .i64 a) ∧ wx.cell? ⟨BV, 2, none⟩ = some (.int .i64 b)) ∧ (wx.cell? ⟨BY, 0, none⟩ = some (.int .i64 z) ∧ wx.cell? ⟨BY, 1, none⟩ = some (.int .i64 x) ∧ wx.cell? ⟨BY, 2, none⟩ = some (.int .i64 y)) ∧ Onto w1 wx)
  case first =>
    go_region_held3 (fun wx => wx.cell? ⟨w.heap.size, 0, none⟩ = some (.int .i64 a) ∧ wx.cell? ⟨w.heap.size, 1, none⟩ = some (.int .i64 b) ∧ wx.cell? ⟨w.heap.size, 2, none⟩ = some (.int .i64 c) ∧ wx.cell? ⟨w.heap.size + 1, 0, none⟩ = some (.int .i64 x) ∧ wx.cell? ⟨w.heap.size + 1, 1, none⟩ = some (.int .i64 y) ∧ wx.cell? ⟨w.heap.size + 1, 2, none⟩ = some (.int .i64 z)) ((refine SO.out _ ?_; repeat (first | exact Onto.refl _ | apply Onto.drew | apply Onto.alloc))) (fail)
    all_goals go_wp2_with fail
    all_goals go_meet
    all_goals first
      | exact ⟨_, _, rfl, rfl, (box2 (Onto.refl _)).1, (box2 (Onto.refl _)).2, (((Onto.refl _).alloc _ _).alloc _ _).drew⟩
      | exact ⟨_, _, rfl, rfl, (box2 (Onto.refl _)).2, (box2 (Onto.refl _)).1, (((Onto.refl _).alloc _ _).alloc _ _).drew⟩
  obtain ⟨BV, BY, rfl, rfl, ⟨vs0, vs1, vs2⟩, ⟨ys0, ys1, ys2⟩, oc⟩ := hcut
  replace ws0 := oc.cell_some ws0
  replace ws1 := oc.cell_some ws1
  replace ws2 := oc.cell_some ws2
  replace xs0 := oc.cell_some xs0
  replace xs1 := oc.cell_some xs1
  replace xs2 := oc.cell_some xs2
  have OC : Hid (Onto w wc) := O1.out.trans oc
  clear oc SO O1
  go_wp2_with fail
  refine (dot_may a b c x y z p M.out P.out _ (tab_onto TT.out (OC.out))).mono ?_
  rintro e w2 ⟨rfl, o⟩
  have O2 : Hid (Onto w w2) := (OC.out).trans o
  replace ws0 := o.cell_some ws0
  replace ws1 := o.cell_some ws1
  replace ws2 := o.cell_some ws2
  replace xs0 := o.cell_some xs0
  replace xs1 := o.cell_some xs1
  replace xs2 := o.cell_some xs2
  replace vs0 := o.cell_some vs0
  replace vs1 := o.cell_some vs1
  replace vs2 := o.cell_some vs2
  replace ys0 := o.cell_some ys0
  replace ys1 := o.cell_some ys1
  replace ys2 := o.cell_some ys2
  clear o OC
  go_wp2_with fail
  refine (dot_may c a b z x y p MR.out PR.out _ (tab_onto TT.out (O2.out))).mono ?_
  rintro e w3 ⟨rfl, o⟩
  have O3 : Hid (Onto w w3) := (O2.out).trans o
  replace ws0 := o.cell_some ws0
  replace ws1 := o.cell_some ws1
  replace ws2 := o.cell_some ws2
  replace xs0 := o.cell_some xs0
  replace xs1 := o.cell_some xs1
  replace xs2 := o.cell_some xs2
  replace vs0 := o.cell_some vs0
  replace vs1 := o.cell_some vs1
  replace vs2 := o.cell_some vs2
  replace ys0 := o.cell_some ys0
  replace ys1 := o.cell_some ys1
  replace ys2 := o.cell_some ys2
  clear o O2
  go_wp2_with fail
  refine (train_may a b c x y z 0 p A B C M.out (.inl rfl) P.out HA.out HB.out HC.out _ (tab_onto TT.out (O3.out))).mono ?_
  rintro e w4 ⟨rfl, o⟩
  have O4 : Hid (Onto w w4) := (O3.out).trans o
  replace ws0 := o.cell_some ws0
  replace ws1 := o.cell_some ws1
  replace ws2 := o.cell_some ws2
  replace xs0 := o.cell_some xs0
  replace xs1 := o.cell_some xs1
  replace xs2 := o.cell_some xs2
  replace vs0 := o.cell_some vs0
  replace vs1 := o.cell_some vs1
  replace vs2 := o.cell_some vs2
  replace ys0 := o.cell_some ys0
  replace ys1 := o.cell_some ys1
  replace ys2 := o.cell_some ys2
  clear o O3
  have bb : Onto w4 (w4.alloc (.cells #[.int .i64 A, .int .i64 B, .int .i64 C] 22)) := (Onto.refl _).alloc _ _
  replace ws0 := bb.cell_some ws0
  replace ws1 := bb.cell_some ws1
  replace ws2 := bb.cell_some ws2
  replace xs0 := bb.cell_some xs0
  replace xs1 := bb.cell_some xs1
  replace xs2 := bb.cell_some xs2
  replace vs0 := bb.cell_some vs0
  replace vs1 := bb.cell_some vs1
  replace vs2 := bb.cell_some vs2
  replace ys0 := bb.cell_some ys0
  replace ys1 := bb.cell_some ys1
  replace ys2 := bb.cell_some ys2
  clear bb
  go_wp2_with fail
  refine (train_may c a b z x y 0 p C A B MR.out (.inl rfl) PR.out HC.out HA.out HB.out _ (tab_onto TT.out (O4.out.alloc _ _))).mono ?_
  rintro e w5 ⟨rfl, o⟩
  have O5 : Hid (Onto w w5) := (O4.out.alloc _ _).trans o
  replace ws0 := o.cell_some ws0
  replace ws1 := o.cell_some ws1
  replace ws2 := o.cell_some ws2
  replace xs0 := o.cell_some xs0
  replace xs1 := o.cell_some xs1
  replace xs2 := o.cell_some xs2
  replace vs0 := o.cell_some vs0
  replace vs1 := o.cell_some vs1
  replace vs2 := o.cell_some vs2
  replace ys0 := o.cell_some ys0
  replace ys1 := o.cell_some ys1
  replace ys2 := o.cell_some ys2
  obtain ⟨g0, g1, g2⟩ := keep3 o (made3 w4 _ _ _ 22)
  clear o O4
  have bb : Onto w5 (w5.alloc (.cells #[.int .i64 C, .int .i64 A, .int .i64 B] 22)) := (Onto.refl _).alloc _ _
  replace ws0 := bb.cell_some ws0
  replace ws1 := bb.cell_some ws1
  replace ws2 := bb.cell_some ws2
  replace xs0 := bb.cell_some xs0
  replace xs1 := bb.cell_some xs1
  replace xs2 := bb.cell_some xs2
  replace vs0 := bb.cell_some vs0
  replace vs1 := bb.cell_some vs1
  replace vs2 := bb.cell_some vs2
  replace ys0 := bb.cell_some ys0
  replace ys1 := bb.cell_some ys1
  replace ys2 := bb.cell_some ys2
  replace g0 := bb.cell_some g0
  replace g1 := bb.cell_some g1
  replace g2 := bb.cell_some g2
  clear bb
  go_wp2_with (go_at_call 13; go_in)
  go_wp2
  go_ret
  exact ⟨rfl, O5.out.alloc _ _⟩


set_option maxRecDepth 20000 in
set_option maxHeartbeats 2000000 in
theorem row_no1 (a b c x y z : Int) (hm : ¬ May a b c x y z) (w : World) (T : Tab w) :
    Calls Tryd.prog 7 #[.agg #[.int .i64 a, .int .i64 b, .int .i64 c], .agg #[.int .i64 x, .int .i64 y, .int .i64 z], .bool true] w fun e w' => e = .returned (.bool true) ∧ Onto w w' := by
  have TT : Hid (Tab w) := T
  have M : Hid (¬ May a b c x y z) := hm
  have MR : Hid (¬ May c a b z x y) := fun h => hm (may_row_back h)
  have q1 := eq_same 0 0 0
  have q2 := eq_in_same 0 0 0
  clear T hm
  go_enter Tryd.func7, Tryd.ntmps7
  go_wp2_with fail
  refine (awake_true _ (tab_onto TT.out (((Onto.refl w).alloc _ _).alloc _ _))).mono ?_
  rintro e w1 ⟨rfl, o⟩
  have O1 : Hid (Onto w w1) := (((Onto.refl w).alloc _ _).alloc _ _).trans o
  obtain ⟨⟨ws0, ws1, ws2⟩, xs0, xs1, xs2⟩ := box2 o
  clear o
  go_wp2_with fail
  have SO : Hid (∀ wx, Onto w1 wx → wx.cell? ⟨w.heap.size, 0, none⟩ = some (.int .i64 a) ∧ wx.cell? ⟨w.heap.size, 1, none⟩ = some (.int .i64 b) ∧ wx.cell? ⟨w.heap.size, 2, none⟩ = some (.int .i64 c) ∧ wx.cell? ⟨w.heap.size + 1, 0, none⟩ = some (.int .i64 x) ∧ wx.cell? ⟨w.heap.size + 1, 1, none⟩ = some (.int .i64 y) ∧ wx.cell? ⟨w.heap.size + 1, 2, none⟩ = some (.int .i64 z)) := fun wx o => ⟨o.cell_some ws0, o.cell_some ws1, o.cell_some ws2, o.cell_some xs0, o.cell_some xs1, o.cell_some xs2⟩
  go_cut [8, 9] from 21 to 34 (fun s t wx => ∃ BV BY : Nat, s = .pointer (some ⟨BV, 0, none⟩) ∧ t = .pointer (some ⟨BY, 0, none⟩) ∧ (wx.cell? ⟨BV, 0, none⟩ = some (.int .i64 c) ∧ wx.cell? ⟨BV, 1, none⟩ = some (.int .i64 a) ∧ wx.cell? ⟨BV, 2, none⟩ = some (.int .i64 b)) ∧ (wx.cell? ⟨BY, 0, none⟩ = some (.int .i64 z) ∧ wx.cell? ⟨BY, 1, none⟩ = some (.int .i64 x) ∧ wx.cell? ⟨BY, 2, none⟩ = some (.int .i64 y)) ∧ Onto w1 wx)
  case first =>
    go_region_held3 (fun wx => wx.cell? ⟨w.heap.size, 0, none⟩ = some (.int .i64 a) ∧ wx.cell? ⟨w.heap.size, 1, none⟩ = some (.int .i64 b) ∧ wx.cell? ⟨w.heap.size, 2, none⟩ = some (.int .i64 c) ∧ wx.cell? ⟨w.heap.size + 1, 0, none⟩ = some (.int .i64 x) ∧ wx.cell? ⟨w.heap.size + 1, 1, none⟩ = some (.int .i64 y) ∧ wx.cell? ⟨w.heap.size + 1, 2, none⟩ = some (.int .i64 z)) ((refine SO.out _ ?_; repeat (first | exact Onto.refl _ | apply Onto.drew | apply Onto.alloc))) (fail)
    all_goals go_wp2_with fail
    all_goals go_meet
    all_goals first
      | exact ⟨_, _, rfl, rfl, (box2 (Onto.refl _)).1, (box2 (Onto.refl _)).2, (((Onto.refl _).alloc _ _).alloc _ _).drew⟩
      | exact ⟨_, _, rfl, rfl, (box2 (Onto.refl _)).2, (box2 (Onto.refl _)).1, (((Onto.refl _).alloc _ _).alloc _ _).drew⟩
  obtain ⟨BV, BY, rfl, rfl, ⟨vs0, vs1, vs2⟩, ⟨ys0, ys1, ys2⟩, oc⟩ := hcut
  replace ws0 := oc.cell_some ws0
  replace ws1 := oc.cell_some ws1
  replace ws2 := oc.cell_some ws2
  replace xs0 := oc.cell_some xs0
  replace xs1 := oc.cell_some xs1
  replace xs2 := oc.cell_some xs2
  have OC : Hid (Onto w wc) := O1.out.trans oc
  clear oc SO O1
  go_wp2_with fail
  refine (dot_no a b c x y z M.out _).mono ?_
  rintro e w2 ⟨rfl, o⟩
  have O2 : Hid (Onto w w2) := (OC.out).trans o
  replace ws0 := o.cell_some ws0
  replace ws1 := o.cell_some ws1
  replace ws2 := o.cell_some ws2
  replace xs0 := o.cell_some xs0
  replace xs1 := o.cell_some xs1
  replace xs2 := o.cell_some xs2
  replace vs0 := o.cell_some vs0
  replace vs1 := o.cell_some vs1
  replace vs2 := o.cell_some vs2
  replace ys0 := o.cell_some ys0
  replace ys1 := o.cell_some ys1
  replace ys2 := o.cell_some ys2
  clear o OC
  go_wp2_with fail
  refine (dot_no c a b z x y MR.out _).mono ?_
  rintro e w3 ⟨rfl, o⟩
  have O3 : Hid (Onto w w3) := (O2.out).trans o
  replace ws0 := o.cell_some ws0
  replace ws1 := o.cell_some ws1
  replace ws2 := o.cell_some ws2
  replace xs0 := o.cell_some xs0
  replace xs1 := o.cell_some xs1
  replace xs2 := o.cell_some xs2
  replace vs0 := o.cell_some vs0
  replace vs1 := o.cell_some vs1
  replace vs2 := o.cell_some vs2
  replace ys0 := o.cell_some ys0
  replace ys1 := o.cell_some ys1
  replace ys2 := o.cell_some ys2
  clear o O2
  go_wp2_with fail
  refine (train_no a b c x y z 1 M.out _).mono ?_
  rintro e w4 ⟨rfl, o⟩
  have O4 : Hid (Onto w w4) := (O3.out).trans o
  replace ws0 := o.cell_some ws0
  replace ws1 := o.cell_some ws1
  replace ws2 := o.cell_some ws2
  replace xs0 := o.cell_some xs0
  replace xs1 := o.cell_some xs1
  replace xs2 := o.cell_some xs2
  replace vs0 := o.cell_some vs0
  replace vs1 := o.cell_some vs1
  replace vs2 := o.cell_some vs2
  replace ys0 := o.cell_some ys0
  replace ys1 := o.cell_some ys1
  replace ys2 := o.cell_some ys2
  clear o O3
  have bb : Onto w4 (w4.alloc (.cells #[.int .i64 0, .int .i64 0, .int .i64 0] 22)) := (Onto.refl _).alloc _ _
  replace ws0 := bb.cell_some ws0
  replace ws1 := bb.cell_some ws1
  replace ws2 := bb.cell_some ws2
  replace xs0 := bb.cell_some xs0
  replace xs1 := bb.cell_some xs1
  replace xs2 := bb.cell_some xs2
  replace vs0 := bb.cell_some vs0
  replace vs1 := bb.cell_some vs1
  replace vs2 := bb.cell_some vs2
  replace ys0 := bb.cell_some ys0
  replace ys1 := bb.cell_some ys1
  replace ys2 := bb.cell_some ys2
  clear bb
  go_wp2_with fail
  refine (train_no c a b z x y 1 MR.out _).mono ?_
  rintro e w5 ⟨rfl, o⟩
  have O5 : Hid (Onto w w5) := (O4.out.alloc _ _).trans o
  replace ws0 := o.cell_some ws0
  replace ws1 := o.cell_some ws1
  replace ws2 := o.cell_some ws2
  replace xs0 := o.cell_some xs0
  replace xs1 := o.cell_some xs1
  replace xs2 := o.cell_some xs2
  replace vs0 := o.cell_some vs0
  replace vs1 := o.cell_some vs1
  replace vs2 := o.cell_some vs2
  replace ys0 := o.cell_some ys0
  replace ys1 := o.cell_some ys1
  replace ys2 := o.cell_some ys2
  obtain ⟨g0, g1, g2⟩ := keep3 o (made3 w4 _ _ _ 22)
  clear o O4
  have bb : Onto w5 (w5.alloc (.cells #[.int .i64 0, .int .i64 0, .int .i64 0] 22)) := (Onto.refl _).alloc _ _
  replace ws0 := bb.cell_some ws0
  replace ws1 := bb.cell_some ws1
  replace ws2 := bb.cell_some ws2
  replace xs0 := bb.cell_some xs0
  replace xs1 := bb.cell_some xs1
  replace xs2 := bb.cell_some xs2
  replace vs0 := bb.cell_some vs0
  replace vs1 := bb.cell_some vs1
  replace vs2 := bb.cell_some vs2
  replace ys0 := bb.cell_some ys0
  replace ys1 := bb.cell_some ys1
  replace ys2 := bb.cell_some ys2
  replace g0 := bb.cell_some g0
  replace g1 := bb.cell_some g1
  replace g2 := bb.cell_some g2
  clear bb
  go_wp2_with (go_at_call 13; go_in)
  go_wp2
  go_ret
  exact ⟨rfl, O5.out.alloc _ _⟩


set_option maxRecDepth 20000 in
set_option maxHeartbeats 2000000 in
theorem row_yes1 (a b c x y z : Int) (hm : May a b c x y z) (w : World) (T : Tab w) :
    Calls Tryd.prog 7 #[.agg #[.int .i64 a, .int .i64 b, .int .i64 c], .agg #[.int .i64 x, .int .i64 y, .int .i64 z], .bool true] w fun e w' => e = .returned (.bool true) ∧ Onto w w' := by
  have TT : Hid (Tab w) := T
  have M : Hid (May a b c x y z) := hm
  obtain ⟨p, hp⟩ : ∃ p, dot a b c x y z = p := ⟨_, rfl⟩
  have P : Hid (dot a b c x y z = p) := hp
  obtain ⟨p0, p1⟩ := dot_range a b c x y z
  rw [hp] at p0 p1
  obtain ⟨A, hA⟩ : ∃ A, trn a x (4096 * 1 - p) = A := ⟨_, rfl⟩
  obtain ⟨B, hB⟩ : ∃ B, trn b y (4096 * 1 - p) = B := ⟨_, rfl⟩
  obtain ⟨C, hC⟩ : ∃ C, trn c z (4096 * 1 - p) = C := ⟨_, rfl⟩
  have HA : Hid (trn a x (4096 * 1 - p) = A) := hA
  have HB : Hid (trn b y (4096 * 1 - p) = B) := hB
  have HC : Hid (trn c z (4096 * 1 - p) = C) := hC
  have MR : Hid (May c a b z x y) := may_row hm
  have PR : Hid (dot c a b z x y = p) := (dot_row a b c x y z).trans hp
  have q1 := eq_same C A B
  have q2 := eq_in_same C A B
  clear T hm hp hA hB hC p0 p1
  go_enter Tryd.func7, Tryd.ntmps7
  go_wp2_with fail
  refine (awake_true _ (tab_onto TT.out (((Onto.refl w).alloc _ _).alloc _ _))).mono ?_
  rintro e w1 ⟨rfl, o⟩
  have O1 : Hid (Onto w w1) := (((Onto.refl w).alloc _ _).alloc _ _).trans o
  obtain ⟨⟨ws0, ws1, ws2⟩, xs0, xs1, xs2⟩ := box2 o
  clear o
  go_wp2_with fail
  have SO : Hid (∀ wx, Onto w1 wx → wx.cell? ⟨w.heap.size, 0, none⟩ = some (.int .i64 a) ∧ wx.cell? ⟨w.heap.size, 1, none⟩ = some (.int .i64 b) ∧ wx.cell? ⟨w.heap.size, 2, none⟩ = some (.int .i64 c) ∧ wx.cell? ⟨w.heap.size + 1, 0, none⟩ = some (.int .i64 x) ∧ wx.cell? ⟨w.heap.size + 1, 1, none⟩ = some (.int .i64 y) ∧ wx.cell? ⟨w.heap.size + 1, 2, none⟩ = some (.int .i64 z)) := fun wx o => ⟨o.cell_some ws0, o.cell_some ws1, o.cell_some ws2, o.cell_some xs0, o.cell_some xs1, o.cell_some xs2⟩
  go_cut [8, 9] from 21 to 34 (fun s t wx => ∃ BV BY : Nat, s = .pointer (some ⟨BV, 0, none⟩) ∧ t = .pointer (some ⟨BY, 0, none⟩) ∧ (wx.cell? ⟨BV, 0, none⟩ = some (.int .i64 c) ∧ wx.cell? ⟨BV, 1, none⟩ = some (.int .i64 a) ∧ wx.cell? ⟨BV, 2, none⟩ = some (.int .i64 b)) ∧ (wx.cell? ⟨BY, 0, none⟩ = some (.int .i64 z) ∧ wx.cell? ⟨BY, 1, none⟩ = some (.int .i64 x) ∧ wx.cell? ⟨BY, 2, none⟩ = some (.int .i64 y)) ∧ Onto w1 wx)
  case first =>
    go_region_held3 (fun wx => wx.cell? ⟨w.heap.size, 0, none⟩ = some (.int .i64 a) ∧ wx.cell? ⟨w.heap.size, 1, none⟩ = some (.int .i64 b) ∧ wx.cell? ⟨w.heap.size, 2, none⟩ = some (.int .i64 c) ∧ wx.cell? ⟨w.heap.size + 1, 0, none⟩ = some (.int .i64 x) ∧ wx.cell? ⟨w.heap.size + 1, 1, none⟩ = some (.int .i64 y) ∧ wx.cell? ⟨w.heap.size + 1, 2, none⟩ = some (.int .i64 z)) ((refine SO.out _ ?_; repeat (first | exact Onto.refl _ | apply Onto.drew | apply Onto.alloc))) (fail)
    all_goals go_wp2_with fail
    all_goals go_meet
    all_goals first
      | exact ⟨_, _, rfl, rfl, (box2 (Onto.refl _)).1, (box2 (Onto.refl _)).2, (((Onto.refl _).alloc _ _).alloc _ _).drew⟩
      | exact ⟨_, _, rfl, rfl, (box2 (Onto.refl _)).2, (box2 (Onto.refl _)).1, (((Onto.refl _).alloc _ _).alloc _ _).drew⟩
  obtain ⟨BV, BY, rfl, rfl, ⟨vs0, vs1, vs2⟩, ⟨ys0, ys1, ys2⟩, oc⟩ := hcut
  replace ws0 := oc.cell_some ws0
  replace ws1 := oc.cell_some ws1
  replace ws2 := oc.cell_some ws2
  replace xs0 := oc.cell_some xs0
  replace xs1 := oc.cell_some xs1
  replace xs2 := oc.cell_some xs2
  have OC : Hid (Onto w wc) := O1.out.trans oc
  clear oc SO O1
  go_wp2_with fail
  refine (dot_may a b c x y z p M.out P.out _ (tab_onto TT.out (OC.out))).mono ?_
  rintro e w2 ⟨rfl, o⟩
  have O2 : Hid (Onto w w2) := (OC.out).trans o
  replace ws0 := o.cell_some ws0
  replace ws1 := o.cell_some ws1
  replace ws2 := o.cell_some ws2
  replace xs0 := o.cell_some xs0
  replace xs1 := o.cell_some xs1
  replace xs2 := o.cell_some xs2
  replace vs0 := o.cell_some vs0
  replace vs1 := o.cell_some vs1
  replace vs2 := o.cell_some vs2
  replace ys0 := o.cell_some ys0
  replace ys1 := o.cell_some ys1
  replace ys2 := o.cell_some ys2
  clear o OC
  go_wp2_with fail
  refine (dot_may c a b z x y p MR.out PR.out _ (tab_onto TT.out (O2.out))).mono ?_
  rintro e w3 ⟨rfl, o⟩
  have O3 : Hid (Onto w w3) := (O2.out).trans o
  replace ws0 := o.cell_some ws0
  replace ws1 := o.cell_some ws1
  replace ws2 := o.cell_some ws2
  replace xs0 := o.cell_some xs0
  replace xs1 := o.cell_some xs1
  replace xs2 := o.cell_some xs2
  replace vs0 := o.cell_some vs0
  replace vs1 := o.cell_some vs1
  replace vs2 := o.cell_some vs2
  replace ys0 := o.cell_some ys0
  replace ys1 := o.cell_some ys1
  replace ys2 := o.cell_some ys2
  clear o O2
  go_wp2_with fail
  refine (train_may a b c x y z 1 p A B C M.out (.inr rfl) P.out HA.out HB.out HC.out _ (tab_onto TT.out (O3.out))).mono ?_
  rintro e w4 ⟨rfl, o⟩
  have O4 : Hid (Onto w w4) := (O3.out).trans o
  replace ws0 := o.cell_some ws0
  replace ws1 := o.cell_some ws1
  replace ws2 := o.cell_some ws2
  replace xs0 := o.cell_some xs0
  replace xs1 := o.cell_some xs1
  replace xs2 := o.cell_some xs2
  replace vs0 := o.cell_some vs0
  replace vs1 := o.cell_some vs1
  replace vs2 := o.cell_some vs2
  replace ys0 := o.cell_some ys0
  replace ys1 := o.cell_some ys1
  replace ys2 := o.cell_some ys2
  clear o O3
  have bb : Onto w4 (w4.alloc (.cells #[.int .i64 A, .int .i64 B, .int .i64 C] 22)) := (Onto.refl _).alloc _ _
  replace ws0 := bb.cell_some ws0
  replace ws1 := bb.cell_some ws1
  replace ws2 := bb.cell_some ws2
  replace xs0 := bb.cell_some xs0
  replace xs1 := bb.cell_some xs1
  replace xs2 := bb.cell_some xs2
  replace vs0 := bb.cell_some vs0
  replace vs1 := bb.cell_some vs1
  replace vs2 := bb.cell_some vs2
  replace ys0 := bb.cell_some ys0
  replace ys1 := bb.cell_some ys1
  replace ys2 := bb.cell_some ys2
  clear bb
  go_wp2_with fail
  refine (train_may c a b z x y 1 p C A B MR.out (.inr rfl) PR.out HC.out HA.out HB.out _ (tab_onto TT.out (O4.out.alloc _ _))).mono ?_
  rintro e w5 ⟨rfl, o⟩
  have O5 : Hid (Onto w w5) := (O4.out.alloc _ _).trans o
  replace ws0 := o.cell_some ws0
  replace ws1 := o.cell_some ws1
  replace ws2 := o.cell_some ws2
  replace xs0 := o.cell_some xs0
  replace xs1 := o.cell_some xs1
  replace xs2 := o.cell_some xs2
  replace vs0 := o.cell_some vs0
  replace vs1 := o.cell_some vs1
  replace vs2 := o.cell_some vs2
  replace ys0 := o.cell_some ys0
  replace ys1 := o.cell_some ys1
  replace ys2 := o.cell_some ys2
  obtain ⟨g0, g1, g2⟩ := keep3 o (made3 w4 _ _ _ 22)
  clear o O4
  have bb : Onto w5 (w5.alloc (.cells #[.int .i64 C, .int .i64 A, .int .i64 B] 22)) := (Onto.refl _).alloc _ _
  replace ws0 := bb.cell_some ws0
  replace ws1 := bb.cell_some ws1
  replace ws2 := bb.cell_some ws2
  replace xs0 := bb.cell_some xs0
  replace xs1 := bb.cell_some xs1
  replace xs2 := bb.cell_some xs2
  replace vs0 := bb.cell_some vs0
  replace vs1 := bb.cell_some vs1
  replace vs2 := bb.cell_some vs2
  replace ys0 := bb.cell_some ys0
  replace ys1 := bb.cell_some ys1
  replace ys2 := bb.cell_some ys2
  replace g0 := bb.cell_some g0
  replace g1 := bb.cell_some g1
  replace g2 := bb.cell_some g2
  clear bb
  go_wp2_with (go_at_call 13; go_in)
  go_wp2
  go_ret
  exact ⟨rfl, O5.out.alloc _ _⟩


theorem row_walk (a b c x y z : Int) (one : Bool) (w : World) (T : Tab w) :
    Calls Tryd.prog 7 #[.agg #[.int .i64 a, .int .i64 b, .int .i64 c], .agg #[.int .i64 x, .int .i64 y, .int .i64 z], .bool one] w fun e w' => e = .returned (.bool true) ∧ Onto w w' := by
  by_cases hm : May a b c x y z
  · cases one
    · exact row_yes0 a b c x y z hm w T
    · exact row_yes1 a b c x y z hm w T
  · cases one
    · exact row_no0 a b c x y z hm w T
    · exact row_no1 a b c x y z hm w T

end Go.Proofs.YtnnmldhhofoliaaDoor.Mix
