/-
  Chains answers true for every chain and every int: program and reference answer alike. No condition.
-/
import Derived.Test.YteihdihplgjclaaHRefLearn
import Derived.Test.YteihdihplgjclaaHAwake
namespace Go.Proofs.Yteihdihplgjclaa.Chn
open Go.RowKit Go.Sort Go.Proofs.Yteihdihplgjclaa.Mod Go.Proofs.Yteihdihplgjclaa.Lin
set_option linter.unusedVariables false
set_option linter.unusedSimpArgs false

theorem num_bel (n : Int) (w : World) : Calls Try.prog 12 #[.int .i64 n] w fun e w' => e = .returned (.int .i64 n) ∧ Bel w w' :=
  (num_ok n w).mono fun _ _ h => ⟨h.1, h.2 ▸ Bel.refl _⟩

set_option maxRecDepth 20000 in
set_option maxHeartbeats 4000000 in
theorem chains_walk (M : List Int) (hM : M.length = 33) (x : Int) (w : World) :
    Calls Try.prog 3 #[mdl M, .int .i64 x] w fun e w' => e = .returned (.bool true) ∧ Bel w w' := by
  obtain ⟨g, ge, g1, g2⟩ := rcguess_ok M hM
  obtain ⟨A, le, nA, l1, l2⟩ := rclearn_ok M hM x
  have NA : Hid (A.length = 33) := nA
  have NZ : Hid (zeros33.length = 33) := zeros33_len
  have z := zero26
  have G1 : Hid (∀ w, Calls Try.prog 8 #[mdl M] w fun r w' => r = .returned (.tuple #[.int .i64 g, .int .i64 ge]) ∧ Bel w w') := g1
  have G2 : Hid (∀ w, Calls Try.prog 9 #[mdl M] w fun r w' => r = .returned (.tuple #[.int .i64 g, .int .i64 ge]) ∧ Bel w w') := g2
  have L1 : Hid (∀ w, Calls Try.prog 10 #[mdl M, .int .i64 x] w fun r w' => r = .returned (.tuple #[mdl A, .int .i64 le]) ∧ Bel w w') := l1
  have L2 : Hid (∀ w, Calls Try.prog 11 #[mdl M, .int .i64 x] w fun r w' => r = .returned (.tuple #[mdl A, .int .i64 le]) ∧ Bel w w') := l2
  obtain ⟨m, hm⟩ : ∃ m, mayC M = m := ⟨_, rfl⟩
  have M1 : Hid (∀ w, Calls Try.prog 13 #[mdl M] w fun r w' => r = .returned (.bool m) ∧ Bel w w') := hm ▸ may_ok M hM
  have M2 : Hid (∀ w, Calls Try.prog 14 #[mdl M] w fun r w' => r = .returned (.bool m) ∧ Bel w w') := hm ▸ rcmay_ok M hM
  have AW : Hid (∀ w, Calls Try.prog 15 #[] w fun r w' => r = .returned (.bool true) ∧ Bel w w') := awake_true
  have q1 := eq_26 A A nA nA
  have q2 := eq_in26 A A nA nA
  simp only [decide_true] at q1 q2
  have TM : Hid ((M.drop 0).take 33 = M) := take_all hM
  have OM : Hid (0 + 33 ≤ M.length) := show _ ≤ _ by omega
  have TA : Hid ((A.drop 0).take 33 = A) := take_all nA
  have OA : Hid (0 + 33 ≤ A.length) := show _ ≤ _ by omega
  have H0 : Hid (Holds (w.alloc (.cells (vals M).toArray 26)) w.heap.size M) := holds_new w M _
  clear hM nA g1 g2 l1 l2 hm
  go_enter Try.func3, Try.ntmps3
  go_wp2_with (first | (with_reducible refine wpl_load_wide (o := 0) wide26 TM.out H0.out OM.out rfl ?_))
  refine (G1.out _).mono ?_
  rintro e w1 ⟨rfl, b⟩
  have H1 : Hid (Holds w1 w.heap.size M) := H0.out.bel b
  have B1 : Hid (Bel w w1) := ((Bel.refl w).alloc _).trans b
  clear b H0
  go_wp2_with (first | (with_reducible refine wpl_load_wide (o := 0) wide26 TM.out H1.out OM.out rfl ?_))
  refine (G2.out _).mono ?_
  rintro e w2 ⟨rfl, b⟩
  have H2 : Hid (Holds w2 w.heap.size M) := H1.out.bel b
  have B2 : Hid (Bel w w2) := B1.out.trans b
  clear b H1 B1
  go_wp2_with (first | (with_reducible refine wpl_load_wide (o := 0) wide26 TM.out H2.out OM.out rfl ?_))
  refine (L1.out _).mono ?_
  rintro e w3 ⟨rfl, b⟩
  have bb : Bel w2 (w3.alloc (.cells (vals A).toArray 26)) := Bel.alloc b _
  have H3 : Hid (Holds (w3.alloc (.cells (vals A).toArray 26)) w.heap.size M) := H2.out.bel bb
  have A3 : Hid (Holds (w3.alloc (.cells (vals A).toArray 26)) w3.heap.size A) := holds_new _ _ _
  have B3 : Hid (Bel w (w3.alloc (.cells (vals A).toArray 26))) := B2.out.trans bb
  clear b bb H2 B2
  go_wp2_with (first
    | (with_reducible refine wpl_store_widen wide26 NZ.out NA.out rfl rfl ?_)
    | (with_reducible refine wpl_load_wide (o := 0) wide26 TM.out H3.out OM.out rfl ?_))
  refine (L2.out _).mono ?_
  rintro e w4 ⟨rfl, b⟩
  have bb : Bel (w3.alloc (.cells (vals A).toArray 26)) (w4.alloc (.cells (vals A).toArray 26)) := Bel.alloc b _
  have h5 := H3.out.bel bb
  have a5 := A3.out.bel bb
  have r5 := holds_new w4 A 26
  have b5 : Bel w (w4.alloc (.cells (vals A).toArray 26)) := B3.out.trans bb
  clear b bb H3 A3 B3
  go_wp2_with (first
    | (with_reducible refine wpl_store_widen wide26 NZ.out NA.out rfl rfl ?_))
  generalize w4.alloc (.cells (vals A).toArray 26) = W at *
  have H5 : Hid (Holds W w.heap.size M) := h5
  have A5 : Hid (Holds W w3.heap.size A) := a5
  have R5 : Hid (Holds W w4.heap.size A) := r5
  have B5 : Hid (Bel w W) := b5
  clear h5 a5 r5 b5
  refine wp_region_quiet_below (by kernel_rfl) (by kernel_rfl) ?_
  repeat (first
    | ((with_reducible refine quiet_load_wideg (o := 0) ?_ wide26 TA.out A5.out OA.out rfl ?_); · rfl)
    | ((with_reducible refine quiet_load_wideg (o := 0) ?_ wide26 TA.out R5.out OA.out rfl ?_); · rfl)
    | ((with_reducible refine quiet_load_wideg (o := 0) ?_ wide26 TM.out H5.out OM.out rfl ?_); · rfl)
    | quiet_step (first
      | (go_at_call 12; with_reducible exact Calls.regrown_of (num_bel _ _))
      | (go_at_call 13; with_reducible exact Calls.regrown_of (M1.out _))
      | (go_at_call 14; with_reducible exact Calls.regrown_of (M2.out _))
      | (go_at_call 15; with_reducible exact Calls.regrown_of (AW.out _))))
  refine wpQuiet_nil ?_
  intro _ hw'
  obtain ⟨⟨dq, osq⟩, hw''⟩ := hw'
  subst hw''
  go_wp2
  go_ret
  exact ⟨rfl, B5.out.trans (below_regrown W dq osq)⟩

end Go.Proofs.Yteihdihplgjclaa.Chn
