/-
  Lmses answers true for every line and every int: program and reference answer alike. No condition.
-/
import Derived.Test.YtjckeagbimfonaaLRefLearnY
namespace Go.Proofs.Ytjckeagbimfonaa.Lin
open Go.RowKit Go.Sort Go.Proofs.Ytjckeagbimfonaa.Mod
set_option linter.unusedVariables false
set_option linter.unusedSimpArgs false

theorem num_bel (n : Int) (w : World) : Calls Try.prog 13 #[.int .i64 n] w fun e w' => e = .returned (.int .i64 n) ∧ Bel w w' :=
  (num_ok n w).mono fun _ _ h => ⟨h.1, h.2 ▸ Bel.refl _⟩

set_option maxRecDepth 20000 in
set_option maxHeartbeats 4000000 in
theorem lmses_walk (L : List Int) (hL : L.length = 16) (x : Int) (w : World) :
    Calls Try.prog 3 #[mdl L, .int .i64 x] w fun e w' => e = .returned (.bool true) ∧ Bel w w' := by
  obtain ⟨g, ge, g1, g2⟩ := rguess_ok L hL
  obtain ⟨A, le, nA, l1, l2⟩ := rlearn_ok L hL x
  have NL : Hid (L.length = 16) := hL
  have NA : Hid (A.length = 16) := nA
  have NZ : Hid (zeros16.length = 16) := zeros16_len
  have z := zero24
  have G1 : Hid (∀ w, Calls Try.prog 9 #[mdl L] w fun r w' => r = .returned (.tuple #[.int .i64 g, .int .i64 ge]) ∧ Bel w w') := g1
  have G2 : Hid (∀ w, Calls Try.prog 10 #[mdl L] w fun r w' => r = .returned (.tuple #[.int .i64 g, .int .i64 ge]) ∧ Bel w w') := g2
  have L1 : Hid (∀ w, Calls Try.prog 11 #[mdl L, .int .i64 x] w fun r w' => r = .returned (.tuple #[mdl A, .int .i64 le]) ∧ Bel w w') := l1
  have L2 : Hid (∀ w, Calls Try.prog 12 #[mdl L, .int .i64 x] w fun r w' => r = .returned (.tuple #[mdl A, .int .i64 le]) ∧ Bel w w') := l2
  obtain ⟨m, hm⟩ : ∃ m, mayL L = m := ⟨_, rfl⟩
  have M1 : Hid (∀ w, Calls Try.prog 14 #[mdl L] w fun r w' => r = .returned (.bool m) ∧ Bel w w') := hm ▸ may_ok L hL
  have M2 : Hid (∀ w, Calls Try.prog 15 #[mdl L] w fun r w' => r = .returned (.bool m) ∧ Bel w w') := hm ▸ rmay_ok L hL
  have AW : Hid (∀ w, Calls Try.prog 16 #[] w fun r w' => r = .returned (.bool true) ∧ Bel w w') := awake_true
  have q1 := eq_24 A A nA nA
  have q2 := eq_in24 A A nA nA
  simp only [decide_true] at q1 q2
  have H0 : Hid (Holds (w.alloc (.cells (vals L).toArray 24)) w.heap.size L) := holds_new w L _
  clear hL nA g1 g2 l1 l2 hm
  go_enter Try.func3, Try.ntmps3
  go_wp2_with (first | (with_reducible refine wpl_load24 H0.out NL.out rfl ?_))
  refine (G1.out _).mono ?_
  rintro e w1 ⟨rfl, b⟩
  have H1 : Hid (Holds w1 w.heap.size L) := H0.out.bel b
  have B1 : Hid (Bel w w1) := ((Bel.refl w).alloc _).trans b
  clear b H0
  go_wp2_with (first | (with_reducible refine wpl_load24 H1.out NL.out rfl ?_))
  refine (G2.out _).mono ?_
  rintro e w2 ⟨rfl, b⟩
  have H2 : Hid (Holds w2 w.heap.size L) := H1.out.bel b
  have B2 : Hid (Bel w w2) := B1.out.trans b
  clear b H1 B1
  go_wp2_with (first | (with_reducible refine wpl_load24 H2.out NL.out rfl ?_))
  refine (L1.out _).mono ?_
  rintro e w3 ⟨rfl, b⟩
  have bb : Bel w2 (w3.alloc (.cells (vals A).toArray 24)) := Bel.alloc b _
  have H3 : Hid (Holds (w3.alloc (.cells (vals A).toArray 24)) w.heap.size L) := H2.out.bel bb
  have A3 : Hid (Holds (w3.alloc (.cells (vals A).toArray 24)) w3.heap.size A) := holds_new _ _ _
  have B3 : Hid (Bel w (w3.alloc (.cells (vals A).toArray 24))) := B2.out.trans bb
  clear b bb H2 B2
  go_wp2_with (first
    | (with_reducible refine wpl_store24n NZ.out NA.out rfl rfl ?_)
    | (with_reducible refine wpl_load24 H3.out NL.out rfl ?_))
  refine (L2.out _).mono ?_
  rintro e w4 ⟨rfl, b⟩
  have bb : Bel (w3.alloc (.cells (vals A).toArray 24)) (w4.alloc (.cells (vals A).toArray 24)) := Bel.alloc b _
  have h5 := H3.out.bel bb
  have a5 := A3.out.bel bb
  have r5 := holds_new w4 A 24
  have b5 : Bel w (w4.alloc (.cells (vals A).toArray 24)) := B3.out.trans bb
  clear b bb H3 A3 B3
  go_wp2_with (first
    | (with_reducible refine wpl_store24n NZ.out NA.out rfl rfl ?_))
  generalize w4.alloc (.cells (vals A).toArray 24) = W at *
  have H5 : Hid (Holds W w.heap.size L) := h5
  have A5 : Hid (Holds W w3.heap.size A) := a5
  have R5 : Hid (Holds W w4.heap.size A) := r5
  have B5 : Hid (Bel w W) := b5
  clear h5 a5 r5 b5
  refine wp_region_quiet_below (by kernel_rfl) (by kernel_rfl) ?_
  repeat (first
    | ((with_reducible refine quiet_load24g ?_ A5.out NA.out rfl ?_); · rfl)
    | ((with_reducible refine quiet_load24g ?_ R5.out NA.out rfl ?_); · rfl)
    | ((with_reducible refine quiet_load24g ?_ H5.out NL.out rfl ?_); · rfl)
    | quiet_step (first
      | (go_at_call 13; with_reducible exact Calls.regrown_of (num_bel _ _))
      | (go_at_call 14; with_reducible exact Calls.regrown_of (M1.out _))
      | (go_at_call 15; with_reducible exact Calls.regrown_of (M2.out _))
      | (go_at_call 16; with_reducible exact Calls.regrown_of (AW.out _))))
  refine wpQuiet_nil ?_
  intro _ hw'
  obtain ⟨⟨dq, osq⟩, hw''⟩ := hw'
  subst hw''
  go_wp2
  go_ret
  exact ⟨rfl, B5.out.trans (below_regrown W dq osq)⟩

end Go.Proofs.Ytjckeagbimfonaa.Lin
