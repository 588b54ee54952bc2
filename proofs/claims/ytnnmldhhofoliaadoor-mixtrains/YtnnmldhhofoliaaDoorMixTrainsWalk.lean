/-
  The walk of MixTrains: it answers true for any arrays. Condition: the package's table is laid as its text lays it.
-/
import Derived.Test.YtnnmldhhofoliaaDoorMAwake
namespace Go.Proofs.YtnnmldhhofoliaaDoor.Mix
open Go.RowKit Go.Proofs.YtnnmldhhofoliaaDoor.Num Go.Proofs.YtnnmldhhofoliaaDoor.Str
set_option linter.unusedVariables false

set_option maxHeartbeats 1000000 in
theorem trains_no (a b c x y z : Int) (hm : ¬ May a b c x y z) (w : World) (T : Tab w) :
    Calls Tryd.prog 5 #[.agg #[.int .i64 a, .int .i64 b, .int .i64 c], .agg #[.int .i64 x, .int .i64 y, .int .i64 z]] w fun e w' => e = .returned (.bool true) ∧ Onto w w' := by
  have TT : Hid (Tab w) := T
  have M : Hid (¬ May a b c x y z) := hm
  have q1 := eq_same 0 0 0
  have q2 := eq_in_same 0 0 0
  clear T hm
  go_enter Tryd.func5, Tryd.ntmps5
  go_wp2_with fail
  refine (awake_true _ (tab_onto TT.out (((Onto.refl w).alloc _ _).alloc _ _))).mono ?_
  rintro e w1 ⟨rfl, o⟩
  have O1 : Hid (Onto w w1) := (((Onto.refl w).alloc _ _).alloc _ _).trans o
  obtain ⟨⟨ws0, ws1, ws2⟩, xs0, xs1, xs2⟩ := box2 o
  clear o
  go_wp2_with fail
  refine (train_no a b c x y z 1 M.out _).mono ?_
  rintro e w2 ⟨rfl, o⟩
  have O2 : Hid (Onto w w2) := (O1.out).trans o
  replace ws0 := o.cell_some ws0
  replace ws1 := o.cell_some ws1
  replace ws2 := o.cell_some ws2
  replace xs0 := o.cell_some xs0
  replace xs1 := o.cell_some xs1
  replace xs2 := o.cell_some xs2
  clear o O1
  have bb : Onto w2 (w2.alloc (.cells #[.int .i64 0, .int .i64 0, .int .i64 0] 22)) := (Onto.refl _).alloc _ _
  replace ws0 := bb.cell_some ws0
  replace ws1 := bb.cell_some ws1
  replace ws2 := bb.cell_some ws2
  replace xs0 := bb.cell_some xs0
  replace xs1 := bb.cell_some xs1
  replace xs2 := bb.cell_some xs2
  clear bb
  go_wp2_with fail
  refine (train_no a b c x y z 0 M.out _).mono ?_
  rintro e w3 ⟨rfl, o⟩
  have O3 : Hid (Onto w w3) := (O2.out.alloc _ _).trans o
  replace ws0 := o.cell_some ws0
  replace ws1 := o.cell_some ws1
  replace ws2 := o.cell_some ws2
  replace xs0 := o.cell_some xs0
  replace xs1 := o.cell_some xs1
  replace xs2 := o.cell_some xs2
  obtain ⟨g0, g1, g2⟩ := keep3 o (made3 w2 _ _ _ 22)
  clear o O2
  have bb : Onto w3 (w3.alloc (.cells #[.int .i64 0, .int .i64 0, .int .i64 0] 22)) := (Onto.refl _).alloc _ _
  replace ws0 := bb.cell_some ws0
  replace ws1 := bb.cell_some ws1
  replace ws2 := bb.cell_some ws2
  replace xs0 := bb.cell_some xs0
  replace xs1 := bb.cell_some xs1
  replace xs2 := bb.cell_some xs2
  replace g0 := bb.cell_some g0
  replace g1 := bb.cell_some g1
  replace g2 := bb.cell_some g2
  clear bb
  go_wp2_with (go_at_call 13; go_in)
  go_wp2
  go_ret
  exact ⟨rfl, O3.out.alloc _ _⟩


set_option maxRecDepth 20000 in
set_option maxHeartbeats 8000000 in
theorem trains_yes (a b c x y z : Int) (hm : May a b c x y z) (w : World) (T : Tab w) :
    Calls Tryd.prog 5 #[.agg #[.int .i64 a, .int .i64 b, .int .i64 c], .agg #[.int .i64 x, .int .i64 y, .int .i64 z]] w fun e w' => e = .returned (.bool true) ∧ Onto w w' := by
  have TT : Hid (Tab w) := T
  have M : Hid (May a b c x y z) := hm
  obtain ⟨p, hp⟩ : ∃ p, dot a b c x y z = p := ⟨_, rfl⟩
  have P : Hid (dot a b c x y z = p) := hp
  obtain ⟨p0, p1⟩ := dot_range a b c x y z
  rw [hp] at p0 p1
  obtain ⟨A, hA⟩ : ∃ A, trn a x (4096 * 1 - p) = A := ⟨_, rfl⟩
  obtain ⟨B, hB⟩ : ∃ B, trn b y (4096 * 1 - p) = B := ⟨_, rfl⟩
  obtain ⟨C, hC⟩ : ∃ C, trn c z (4096 * 1 - p) = C := ⟨_, rfl⟩
  obtain ⟨D, hD⟩ : ∃ D, trn a x (4096 * 0 - p) = D := ⟨_, rfl⟩
  obtain ⟨E, hE⟩ : ∃ E, trn b y (4096 * 0 - p) = E := ⟨_, rfl⟩
  obtain ⟨F, hF⟩ : ∃ F, trn c z (4096 * 0 - p) = F := ⟨_, rfl⟩
  have HA : Hid (trn a x (4096 * 1 - p) = A) := hA
  have HB : Hid (trn b y (4096 * 1 - p) = B) := hB
  have HC : Hid (trn c z (4096 * 1 - p) = C) := hC
  have HD : Hid (trn a x (4096 * 0 - p) = D) := hD
  have HE : Hid (trn b y (4096 * 0 - p) = E) := hE
  have HF : Hid (trn c z (4096 * 0 - p) = F) := hF
  have ua := trn_up a x (4096 * 1 - p) hm.1.1 hm.1.2 (by omega)
  have ub := trn_up b y (4096 * 1 - p) hm.2.1.1 hm.2.1.2 (by omega)
  have uc := trn_up c z (4096 * 1 - p) hm.2.2.1.1 hm.2.2.1.2 (by omega)
  have da := trn_down a x (4096 * 0 - p) hm.1.1 hm.1.2 (by omega)
  have db := trn_down b y (4096 * 0 - p) hm.2.1.1 hm.2.1.2 (by omega)
  have dc := trn_down c z (4096 * 0 - p) hm.2.2.1.1 hm.2.2.1.2 (by omega)
  have rA := trn_range a x (4096 * 1 - p)
  have rB := trn_range b y (4096 * 1 - p)
  have rC := trn_range c z (4096 * 1 - p)
  have rD := trn_range a x (4096 * 0 - p)
  have rE := trn_range b y (4096 * 0 - p)
  have rF := trn_range c z (4096 * 0 - p)
  rw [hA] at ua rA
  rw [hB] at ub rB
  rw [hC] at uc rC
  rw [hD] at da rD
  rw [hE] at db rE
  rw [hF] at dc rF
  have X : Hid (((0 ≤ x → a ≤ A) ∧ (x ≤ 0 → A ≤ a)) ∧ ((0 ≤ x → D ≤ a) ∧ (x ≤ 0 → a ≤ D)) ∧ (-1048576 ≤ A ∧ A ≤ 1048576) ∧ (-1048576 ≤ D ∧ D ≤ 1048576)) := ⟨ua, da, rA, rD⟩
  have Y : Hid (((0 ≤ y → b ≤ B) ∧ (y ≤ 0 → B ≤ b)) ∧ ((0 ≤ y → E ≤ b) ∧ (y ≤ 0 → b ≤ E)) ∧ (-1048576 ≤ B ∧ B ≤ 1048576) ∧ (-1048576 ≤ E ∧ E ≤ 1048576)) := ⟨ub, db, rB, rE⟩
  have Z : Hid (((0 ≤ z → c ≤ C) ∧ (z ≤ 0 → C ≤ c)) ∧ ((0 ≤ z → F ≤ c) ∧ (z ≤ 0 → c ≤ F)) ∧ (-1048576 ≤ C ∧ C ≤ 1048576) ∧ (-1048576 ≤ F ∧ F ≤ 1048576)) := ⟨uc, dc, rC, rF⟩
  clear T hm hp hA hB hC hD hE hF ua ub uc da db dc rA rB rC rD rE rF p0 p1
  go_enter Tryd.func5, Tryd.ntmps5
  go_wp2_with fail
  refine (awake_true _ (tab_onto TT.out (((Onto.refl w).alloc _ _).alloc _ _))).mono ?_
  rintro e w1 ⟨rfl, o⟩
  have O1 : Hid (Onto w w1) := (((Onto.refl w).alloc _ _).alloc _ _).trans o
  obtain ⟨⟨ws0, ws1, ws2⟩, xs0, xs1, xs2⟩ := box2 o
  clear o
  go_wp2_with fail
  refine (train_may a b c x y z 1 p A B C M.out (.inr rfl) P.out HA.out HB.out HC.out _ (tab_onto TT.out (O1.out))).mono ?_
  rintro e w2 ⟨rfl, o⟩
  have O2 : Hid (Onto w w2) := (O1.out).trans o
  replace ws0 := o.cell_some ws0
  replace ws1 := o.cell_some ws1
  replace ws2 := o.cell_some ws2
  replace xs0 := o.cell_some xs0
  replace xs1 := o.cell_some xs1
  replace xs2 := o.cell_some xs2
  clear o O1
  have bb : Onto w2 (w2.alloc (.cells #[.int .i64 A, .int .i64 B, .int .i64 C] 22)) := (Onto.refl _).alloc _ _
  replace ws0 := bb.cell_some ws0
  replace ws1 := bb.cell_some ws1
  replace ws2 := bb.cell_some ws2
  replace xs0 := bb.cell_some xs0
  replace xs1 := bb.cell_some xs1
  replace xs2 := bb.cell_some xs2
  clear bb
  go_wp2_with fail
  refine (train_may a b c x y z 0 p D E F M.out (.inl rfl) P.out HD.out HE.out HF.out _ (tab_onto TT.out (O2.out.alloc _ _))).mono ?_
  rintro e w3 ⟨rfl, o⟩
  have O3 : Hid (Onto w w3) := (O2.out.alloc _ _).trans o
  replace ws0 := o.cell_some ws0
  replace ws1 := o.cell_some ws1
  replace ws2 := o.cell_some ws2
  replace xs0 := o.cell_some xs0
  replace xs1 := o.cell_some xs1
  replace xs2 := o.cell_some xs2
  obtain ⟨g0, g1, g2⟩ := keep3 o (made3 w2 _ _ _ 22)
  clear o O2
  have bb : Onto w3 (w3.alloc (.cells #[.int .i64 D, .int .i64 E, .int .i64 F] 22)) := (Onto.refl _).alloc _ _
  replace ws0 := bb.cell_some ws0
  replace ws1 := bb.cell_some ws1
  replace ws2 := bb.cell_some ws2
  replace xs0 := bb.cell_some xs0
  replace xs1 := bb.cell_some xs1
  replace xs2 := bb.cell_some xs2
  replace g0 := bb.cell_some g0
  replace g1 := bb.cell_some g1
  replace g2 := bb.cell_some g2
  clear bb
  go_wp2_with fail
  refine (num_ok 0 _).mono ?_
  rintro e w9 ⟨rfl, rfl⟩
  go_wp2_with fail
  refine (num_ok 0 _).mono ?_
  rintro e w9 ⟨rfl, rfl⟩
  go_wp2_with fail
  go_loopw [9] (fun q wr => (∃ m, wr = World.drewN (w3.alloc (.cells #[.int .i64 D, .int .i64 E, .int .i64 F] 22)) m) ∧ (q = .int .i64 0 ∨ q = .int .i64 1 ∨ q = .int .i64 2 ∨ q = .int .i64 3)) (fun q _ => 3 - (intOf q).toNat)
  case atStart => exact ⟨⟨0, rfl⟩, .inl rfl⟩
  case round =>
    obtain ⟨⟨m, rfl⟩, hrel⟩ := hrel
    rcases hrel with rfl | rfl | rfl | rfl
    · obtain ⟨⟨u1, u2⟩, ⟨d1, d2⟩, ⟨r1, r2⟩, r3, r4⟩ := X.out
      have k1 : decide (A < -1048576) = false := decide_eq_false (by omega)
      have k2 : decide (1048576 < A) = false := decide_eq_false (by omega)
      have k3 : decide (D < -1048576) = false := decide_eq_false (by omega)
      have k4 : decide (1048576 < D) = false := decide_eq_false (by omega)
      rcases Int.lt_trichotomy x 0 with hx | hx | hx
      · have e1 := u2 (by omega)
        have e2 := d2 (by omega)
        have t0 : decide (0 < x) = false := decide_eq_false (by omega)
        have t1 : decide (x < 0) = true := decide_eq_true hx
        have t2 : decide (a < A) = false := decide_eq_false (by omega)
        have t3 : decide (D < a) = false := decide_eq_false (by omega)
        have t4 : (x == 0) = false := by simp; omega
        clear u1 u2 d1 d2
        go_wp2
        refine wp_region_quiet_lit (by kernel_rfl) (by kernel_rfl) ?_
        dsimp only [List.append]
        repeat (go_big_quiet_step (fail))
        refine wpQuiet_nil ?_
        intro _ hw'
        obtain ⟨nq, hw''⟩ := hw'
        subst hw''
        go_wp2
        go_roundw
        case rel => exact ⟨⟨_, rfl⟩, .inr (.inl rfl)⟩
        case measure => simp [intOf]
      · subst hx
        have e1 : A = a := Int.le_antisymm (u2 (by omega)) (u1 (by omega))
        have e2 : D = a := Int.le_antisymm (d1 (by omega)) (d2 (by omega))
        subst e1 e2
        clear u1 u2 d1 d2
        go_wp2
        refine wp_region_quiet_lit (by kernel_rfl) (by kernel_rfl) ?_
        dsimp only [List.append]
        repeat (go_big_quiet_step (fail))
        refine wpQuiet_nil ?_
        intro _ hw'
        obtain ⟨nq, hw''⟩ := hw'
        subst hw''
        go_wp2
        go_roundw
        case rel => exact ⟨⟨_, rfl⟩, .inr (.inl rfl)⟩
        case measure => simp [intOf]
      · have e1 := u1 (by omega)
        have e2 := d1 (by omega)
        have t0 : decide (0 < x) = true := decide_eq_true hx
        have t1 : decide (x < 0) = false := decide_eq_false (by omega)
        have t2 : decide (A < a) = false := decide_eq_false (by omega)
        have t3 : decide (a < D) = false := decide_eq_false (by omega)
        have t4 : (x == 0) = false := by simp; omega
        clear u1 u2 d1 d2
        go_wp2
        refine wp_region_quiet_lit (by kernel_rfl) (by kernel_rfl) ?_
        dsimp only [List.append]
        repeat (go_big_quiet_step (fail))
        refine wpQuiet_nil ?_
        intro _ hw'
        obtain ⟨nq, hw''⟩ := hw'
        subst hw''
        go_wp2
        go_roundw
        case rel => exact ⟨⟨_, rfl⟩, .inr (.inl rfl)⟩
        case measure => simp [intOf]
    · obtain ⟨⟨u1, u2⟩, ⟨d1, d2⟩, ⟨r1, r2⟩, r3, r4⟩ := Y.out
      have k1 : decide (B < -1048576) = false := decide_eq_false (by omega)
      have k2 : decide (1048576 < B) = false := decide_eq_false (by omega)
      have k3 : decide (E < -1048576) = false := decide_eq_false (by omega)
      have k4 : decide (1048576 < E) = false := decide_eq_false (by omega)
      rcases Int.lt_trichotomy y 0 with hx | hx | hx
      · have e1 := u2 (by omega)
        have e2 := d2 (by omega)
        have t0 : decide (0 < y) = false := decide_eq_false (by omega)
        have t1 : decide (y < 0) = true := decide_eq_true hx
        have t2 : decide (b < B) = false := decide_eq_false (by omega)
        have t3 : decide (E < b) = false := decide_eq_false (by omega)
        have t4 : (y == 0) = false := by simp; omega
        clear u1 u2 d1 d2
        go_wp2
        refine wp_region_quiet_lit (by kernel_rfl) (by kernel_rfl) ?_
        dsimp only [List.append]
        repeat (go_big_quiet_step (fail))
        refine wpQuiet_nil ?_
        intro _ hw'
        obtain ⟨nq, hw''⟩ := hw'
        subst hw''
        go_wp2
        go_roundw
        case rel => exact ⟨⟨_, rfl⟩, .inr (.inr (.inl rfl))⟩
        case measure => simp [intOf]
      · subst hx
        have e1 : B = b := Int.le_antisymm (u2 (by omega)) (u1 (by omega))
        have e2 : E = b := Int.le_antisymm (d1 (by omega)) (d2 (by omega))
        subst e1 e2
        clear u1 u2 d1 d2
        go_wp2
        refine wp_region_quiet_lit (by kernel_rfl) (by kernel_rfl) ?_
        dsimp only [List.append]
        repeat (go_big_quiet_step (fail))
        refine wpQuiet_nil ?_
        intro _ hw'
        obtain ⟨nq, hw''⟩ := hw'
        subst hw''
        go_wp2
        go_roundw
        case rel => exact ⟨⟨_, rfl⟩, .inr (.inr (.inl rfl))⟩
        case measure => simp [intOf]
      · have e1 := u1 (by omega)
        have e2 := d1 (by omega)
        have t0 : decide (0 < y) = true := decide_eq_true hx
        have t1 : decide (y < 0) = false := decide_eq_false (by omega)
        have t2 : decide (B < b) = false := decide_eq_false (by omega)
        have t3 : decide (b < E) = false := decide_eq_false (by omega)
        have t4 : (y == 0) = false := by simp; omega
        clear u1 u2 d1 d2
        go_wp2
        refine wp_region_quiet_lit (by kernel_rfl) (by kernel_rfl) ?_
        dsimp only [List.append]
        repeat (go_big_quiet_step (fail))
        refine wpQuiet_nil ?_
        intro _ hw'
        obtain ⟨nq, hw''⟩ := hw'
        subst hw''
        go_wp2
        go_roundw
        case rel => exact ⟨⟨_, rfl⟩, .inr (.inr (.inl rfl))⟩
        case measure => simp [intOf]
    · obtain ⟨⟨u1, u2⟩, ⟨d1, d2⟩, ⟨r1, r2⟩, r3, r4⟩ := Z.out
      have k1 : decide (C < -1048576) = false := decide_eq_false (by omega)
      have k2 : decide (1048576 < C) = false := decide_eq_false (by omega)
      have k3 : decide (F < -1048576) = false := decide_eq_false (by omega)
      have k4 : decide (1048576 < F) = false := decide_eq_false (by omega)
      rcases Int.lt_trichotomy z 0 with hx | hx | hx
      · have e1 := u2 (by omega)
        have e2 := d2 (by omega)
        have t0 : decide (0 < z) = false := decide_eq_false (by omega)
        have t1 : decide (z < 0) = true := decide_eq_true hx
        have t2 : decide (c < C) = false := decide_eq_false (by omega)
        have t3 : decide (F < c) = false := decide_eq_false (by omega)
        have t4 : (z == 0) = false := by simp; omega
        clear u1 u2 d1 d2
        go_wp2
        refine wp_region_quiet_lit (by kernel_rfl) (by kernel_rfl) ?_
        dsimp only [List.append]
        repeat (go_big_quiet_step (fail))
        refine wpQuiet_nil ?_
        intro _ hw'
        obtain ⟨nq, hw''⟩ := hw'
        subst hw''
        go_wp2
        go_roundw
        case rel => exact ⟨⟨_, rfl⟩, .inr (.inr (.inr rfl))⟩
        case measure => simp [intOf]
      · subst hx
        have e1 : C = c := Int.le_antisymm (u2 (by omega)) (u1 (by omega))
        have e2 : F = c := Int.le_antisymm (d1 (by omega)) (d2 (by omega))
        subst e1 e2
        clear u1 u2 d1 d2
        go_wp2
        refine wp_region_quiet_lit (by kernel_rfl) (by kernel_rfl) ?_
        dsimp only [List.append]
        repeat (go_big_quiet_step (fail))
        refine wpQuiet_nil ?_
        intro _ hw'
        obtain ⟨nq, hw''⟩ := hw'
        subst hw''
        go_wp2
        go_roundw
        case rel => exact ⟨⟨_, rfl⟩, .inr (.inr (.inr rfl))⟩
        case measure => simp [intOf]
      · have e1 := u1 (by omega)
        have e2 := d1 (by omega)
        have t0 : decide (0 < z) = true := decide_eq_true hx
        have t1 : decide (z < 0) = false := decide_eq_false (by omega)
        have t2 : decide (C < c) = false := decide_eq_false (by omega)
        have t3 : decide (c < F) = false := decide_eq_false (by omega)
        have t4 : (z == 0) = false := by simp; omega
        clear u1 u2 d1 d2
        go_wp2
        refine wp_region_quiet_lit (by kernel_rfl) (by kernel_rfl) ?_
        dsimp only [List.append]
        repeat (go_big_quiet_step (fail))
        refine wpQuiet_nil ?_
        intro _ hw'
        obtain ⟨nq, hw''⟩ := hw'
        subst hw''
        go_wp2
        go_roundw
        case rel => exact ⟨⟨_, rfl⟩, .inr (.inr (.inr rfl))⟩
        case measure => simp [intOf]
    · go_wp2
      go_ret
      exact ⟨rfl, (O3.out.alloc _ _).drewN _⟩


theorem trains_walk (a b c x y z : Int) (w : World) (T : Tab w) :
    Calls Tryd.prog 5 #[.agg #[.int .i64 a, .int .i64 b, .int .i64 c], .agg #[.int .i64 x, .int .i64 y, .int .i64 z]] w fun e w' => e = .returned (.bool true) ∧ Onto w w' := by
  by_cases hm : May a b c x y z
  · exact trains_yes a b c x y z hm w T
  · exact trains_no a b c x y z hm w T

end Go.Proofs.YtnnmldhhofoliaaDoor.Mix
