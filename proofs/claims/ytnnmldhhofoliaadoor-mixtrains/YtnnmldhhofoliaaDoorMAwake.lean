/-
  The contract of the check that every statement of layer 8 begins with: it answers true. Condition: the package's table is laid as its text lays it.
-/
import Derived.Test.YtnnmldhhofoliaaDoorMForms
import Derived.Test.YtnnmldhhofoliaaDoorMRefSq
namespace Go.Proofs.YtnnmldhhofoliaaDoor.Mix
open Go.RowKit Go.Proofs.YtnnmldhhofoliaaDoor.Num Go.Proofs.YtnnmldhhofoliaaDoor.Str
set_option linter.unusedVariables false

/-- Two arrays in the first two new blocks stand behind a call. -/
theorem box2 {w w' : World} {a b c x y z : Value} {t : TypeId} (o : Onto ((w.alloc (.cells #[a, b, c] t)).alloc (.cells #[x, y, z] t)) w') :
    (w'.cell? ⟨w.heap.size, 0, none⟩ = some a ∧ w'.cell? ⟨w.heap.size, 1, none⟩ = some b ∧ w'.cell? ⟨w.heap.size, 2, none⟩ = some c) ∧
    (w'.cell? ⟨w.heap.size + 1, 0, none⟩ = some x ∧ w'.cell? ⟨w.heap.size + 1, 1, none⟩ = some y ∧ w'.cell? ⟨w.heap.size + 1, 2, none⟩ = some z) := by
  have h := made3 (w.alloc (.cells #[a, b, c] t)) x y z t
  rw [size_alloc] at h
  exact ⟨keep3 (((Onto.refl (w.alloc (.cells #[a, b, c] t))).alloc #[x, y, z] t).trans o) (made3 w a b c t), keep3 o h⟩

theorem ref_squash_is (x y : Int) (h : sq x = y) (w : World) :
    Calls Tryd.prog 19 #[.int .i64 x] w fun e w' => e = .returned (.int .i64 y) ∧ Onto w w' := h ▸ ref_squash x w

theorem awake_dot : dot 65536 0 0 500 (-3) 9 = 3583 := by decide +kernel
theorem awake_sq : sq 500 = 3583 := by decide +kernel
theorem awake_a : trn 65536 500 (4096 * 1 - 3583) = 65786 := by decide +kernel
theorem awake_b : trn 0 (-3) (4096 * 1 - 3583) = -2 := by decide +kernel
theorem awake_c : trn 0 9 (4096 * 1 - 3583) = 5 := by decide +kernel
theorem awake_may : May 65536 0 0 500 (-3) 9 := by unfold May; omega
theorem awake_not : ¬ May 1048577 0 0 500 (-3) 9 := by unfold May; omega

set_option maxHeartbeats 1000000 in
theorem awake_true (w : World) (T : Tab w) :
    Calls Tryd.prog 14 #[] w fun e w' => e = .returned (.bool true) ∧ Onto w w' := by
  have TT : Hid (Tab w) := T
  clear T
  go_enter Tryd.func14, Tryd.ntmps14
  go_wp2_with fail
  refine (dot_may 65536 0 0 500 (-3) 9 3583 awake_may awake_dot _ (tab_onto TT.out (((Onto.refl w).alloc _ _).alloc _ _))).mono ?_
  rintro e w1 ⟨rfl, o⟩
  have O1 : Hid (Onto w w1) := (((Onto.refl w).alloc _ _).alloc _ _).trans o
  obtain ⟨⟨ws0, ws1, ws2⟩, xs0, xs1, xs2⟩ := box2 o
  clear o
  go_wp2_with fail
  refine (train_may 65536 0 0 500 (-3) 9 1 3583 65786 (-2) 5 awake_may (.inr rfl) awake_dot awake_a awake_b awake_c _ (tab_onto TT.out (O1.out))).mono ?_
  rintro e w2 ⟨rfl, o⟩
  have O2 : Hid (Onto w w2) := (O1.out).trans o
  replace ws0 := o.cell_some ws0
  replace ws1 := o.cell_some ws1
  replace ws2 := o.cell_some ws2
  replace xs0 := o.cell_some xs0
  replace xs1 := o.cell_some xs1
  replace xs2 := o.cell_some xs2
  clear o O1
  have bb : Onto w2 (w2.alloc (.cells #[.int .i64 65786, .int .i64 (-2), .int .i64 5] 22)) := (Onto.refl _).alloc _ _
  replace ws0 := bb.cell_some ws0
  replace ws1 := bb.cell_some ws1
  replace ws2 := bb.cell_some ws2
  replace xs0 := bb.cell_some xs0
  replace xs1 := bb.cell_some xs1
  replace xs2 := bb.cell_some xs2
  clear bb
  go_wp2_with fail
  refine (dot_no 1048577 0 0 500 (-3) 9 awake_not _).mono ?_
  rintro e w3 ⟨rfl, o⟩
  have O3 : Hid (Onto w w3) := (O2.out.alloc _ _).trans o
  replace ws0 := o.cell_some ws0
  replace ws1 := o.cell_some ws1
  replace ws2 := o.cell_some ws2
  replace xs0 := o.cell_some xs0
  replace xs1 := o.cell_some xs1
  replace xs2 := o.cell_some xs2
  obtain ⟨a0, a1, a2⟩ := keep3 o (made3 w2 _ _ _ 22)
  clear o O2
  go_wp2_with fail
  refine (train_bit 65536 0 0 500 (-3) 9 2 awake_may (by decide) _ (tab_onto TT.out (O3.out))).mono ?_
  rintro e w4 ⟨rfl, o⟩
  have O4 : Hid (Onto w w4) := (O3.out).trans o
  replace ws0 := o.cell_some ws0
  replace ws1 := o.cell_some ws1
  replace ws2 := o.cell_some ws2
  replace xs0 := o.cell_some xs0
  replace xs1 := o.cell_some xs1
  replace xs2 := o.cell_some xs2
  replace a0 := o.cell_some a0
  replace a1 := o.cell_some a1
  replace a2 := o.cell_some a2
  clear o O3
  have bb : Onto w4 (w4.alloc (.cells #[.int .i64 0, .int .i64 0, .int .i64 0] 22)) := (Onto.refl _).alloc _ _
  replace ws0 := bb.cell_some ws0
  replace ws1 := bb.cell_some ws1
  replace ws2 := bb.cell_some ws2
  replace xs0 := bb.cell_some xs0
  replace xs1 := bb.cell_some xs1
  replace xs2 := bb.cell_some xs2
  replace a0 := bb.cell_some a0
  replace a1 := bb.cell_some a1
  replace a2 := bb.cell_some a2
  clear bb
  go_wp2_with fail
  refine (ref_squash_is 500 3583 awake_sq _).mono ?_
  rintro e w5 ⟨rfl, o⟩
  have O5 : Hid (Onto w w5) := (O4.out.alloc _ _).trans o
  replace ws0 := o.cell_some ws0
  replace ws1 := o.cell_some ws1
  replace ws2 := o.cell_some ws2
  replace xs0 := o.cell_some xs0
  replace xs1 := o.cell_some xs1
  replace xs2 := o.cell_some xs2
  replace a0 := o.cell_some a0
  replace a1 := o.cell_some a1
  replace a2 := o.cell_some a2
  obtain ⟨b0, b1, b2⟩ := keep3 o (made3 w4 _ _ _ 22)
  clear o O4
  go_wp2_with (go_at_call 13; go_in)
  go_wp2
  go_ret
  exact ⟨rfl, O5.out⟩

end Go.Proofs.YtnnmldhhofoliaaDoor.Mix
