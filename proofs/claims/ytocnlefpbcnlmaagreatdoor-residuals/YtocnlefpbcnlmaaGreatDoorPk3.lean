/-
  The contract of mix.Train, where weights and inputs may be. Condition: the package's table is laid as its text lays it.
-/
import Derived.Test.YtocnlefpbcnlmaaGreatDoorPk2

namespace Go.Proofs.YtocnlefpbcnlmaaGreatDoor.Mix
open Go.RowKit Go.Proofs.YtocnlefpbcnlmaaGreatDoor.Num Go.Proofs.YtocnlefpbcnlmaaGreatDoor.Str
set_option linter.unusedVariables false

set_option maxHeartbeats 1000000 in
theorem train_bit (a b c x y z bit : Int) (hm : May a b c x y z) (hb : ¬ (bit = 0 ∨ bit = 1)) (w : World) (T : Tab w) :
    Calls Tryz.prog 80 #[.agg #[.int .i64 a, .int .i64 b, .int .i64 c], .agg #[.int .i64 x, .int .i64 y, .int .i64 z], .int .i64 bit] w fun e w' => e = .returned (.tuple #[.agg #[.int .i64 0, .int .i64 0, .int .i64 0], .int .i64 800]) ∧ Onto w w' := by
  have M : Hid (May a b c x y z) := hm
  have TT : Hid (Tab w) := T
  have HB : Hid (bitB bit = false) := show bitB bit = false from decide_eq_false hb
  clear hm T hb
  go_enter Tryz.func80, Tryz.ntmps80
  go_wp2_with fail
  refine (dot_yes a b c x y z M.out _ (tab_onto TT.out ((((Onto.refl w).alloc _ _).alloc _ _).alloc _ _))).mono ?_
  rintro e w1 ⟨rfl, o⟩
  have O1 : Hid (Onto w w1) := ((((Onto.refl w).alloc _ _).alloc _ _).alloc _ _).trans o
  obtain ⟨c0, c1, c2, d0, d1, d2, e0, e1, e2, f0, f1, f2, g0, g1, g2⟩ := six_start a b c x y z o
  clear o
  go_wp2_with fail
  refine (isBit_ok bit _).mono ?_
  rw [HB.out]
  rintro e w2 ⟨rfl, rfl⟩
  go_wp2
  obtain ⟨r0, r1, r2⟩ := set3 (x := .int .i64 0) (y := .int .i64 0) (z := .int .i64 0) e0 e1 e2
  refine bodyPost_ret (v := .tuple #[.agg #[.int .i64 0, .int .i64 0, .int .i64 0], .int .i64 800]) (results_arr2 Tryz.results80 rfl rfl r0 r1 r2) rfl ⟨rfl, ?_⟩
  exact ((O1.out.setCell (by simp; omega) _).setCell (by simp; omega) _).setCell (by simp; omega) _

set_option maxRecDepth 20000 in
set_option maxHeartbeats 2000000 in
theorem train_yes (a b c x y z bit : Int) (hm : May a b c x y z) (hb : bit = 0 ∨ bit = 1) (w : World) (T : Tab w) :
    Calls Tryz.prog 80 #[.agg #[.int .i64 a, .int .i64 b, .int .i64 c], .agg #[.int .i64 x, .int .i64 y, .int .i64 z], .int .i64 bit] w fun e w' => e = .returned (.tuple #[.agg #[.int .i64 (trn a x (4096 * bit - dot a b c x y z)), .int .i64 (trn b y (4096 * bit - dot a b c x y z)), .int .i64 (trn c z (4096 * bit - dot a b c x y z))], .int .i64 0]) ∧ Onto w w' := by
  have M : Hid (May a b c x y z) := hm
  have TT : Hid (Tab w) := T
  have HB : Hid (bitB bit = true) := show bitB bit = true from decide_eq_true hb
  have b0 : 0 ≤ bit := by omega
  have b1 : bit ≤ 1 := by omega
  have Q : Hid (∀ w, Tab w → Calls Tryz.prog 76 #[.agg #[.int .i64 a, .int .i64 b, .int .i64 c], .agg #[.int .i64 x, .int .i64 y, .int .i64 z]] w fun e w' => e = .returned (.tuple #[.int .i64 (dot a b c x y z), .int .i64 0]) ∧ Onto w w') := fun w T => dot_yes a b c x y z hm w T
  obtain ⟨p0, p1⟩ := dot_range a b c x y z
  generalize dot a b c x y z = p at *
  obtain ⟨o, ho⟩ : ∃ o, 4096 * bit - p = o := ⟨_, rfl⟩
  rw [ho]
  have o0 : -4096 ≤ o := by omega
  have o1 : o ≤ 4096 := by omega
  obtain ⟨⟨a0, a1⟩, ⟨b0', b1'⟩, ⟨c0', c1'⟩, ⟨x0, x1⟩, ⟨y0, y1⟩, z0, z1⟩ := hm
  have sx := stp_range x o x0 x1 o0 o1
  have sy := stp_range y o y0 y1 o0 o1
  have sz := stp_range z o z0 z1 o0 o1
  obtain ⟨sx0, sx1⟩ := sx
  obtain ⟨sy0, sy1⟩ := sy
  obtain ⟨sz0, sz1⟩ := sz
  have SX : Hid (∀ w, Calls Tryz.prog 111 #[.int .i64 x, .int .i64 o] w fun e w' => e = .returned (.int .i64 (stp x o)) ∧ w' = w) := fun w => step_ok x o x0 x1 o0 o1 w
  have SY : Hid (∀ w, Calls Tryz.prog 111 #[.int .i64 y, .int .i64 o] w fun e w' => e = .returned (.int .i64 (stp y o)) ∧ w' = w) := fun w => step_ok y o y0 y1 o0 o1 w
  have SZ : Hid (∀ w, Calls Tryz.prog 111 #[.int .i64 z, .int .i64 o] w fun e w' => e = .returned (.int .i64 (stp z o)) ∧ w' = w) := fun w => step_ok z o z0 z1 o0 o1 w
  have HX : Hid (∀ w, Calls Tryz.prog 110 #[.int .i64 1048576, .int .i64 (IntKind.i64.wrap (a + stp x o))] w fun e w' => e = .returned (.int .i64 (trn a x o)) ∧ w' = w) := fun w => by rw [show IntKind.i64.wrap (a + stp x o) = a + stp x o by rw [IntKind.wrap_i64]; omega]; exact hold_ok _ w
  have HY : Hid (∀ w, Calls Tryz.prog 110 #[.int .i64 1048576, .int .i64 (IntKind.i64.wrap (b + stp y o))] w fun e w' => e = .returned (.int .i64 (trn b y o)) ∧ w' = w) := fun w => by rw [show IntKind.i64.wrap (b + stp y o) = b + stp y o by rw [IntKind.wrap_i64]; omega]; exact hold_ok _ w
  have HZ : Hid (∀ w, Calls Tryz.prog 110 #[.int .i64 1048576, .int .i64 (IntKind.i64.wrap (c + stp z o))] w fun e w' => e = .returned (.int .i64 (trn c z o)) ∧ w' = w) := fun w => by rw [show IntKind.i64.wrap (c + stp z o) = c + stp z o by rw [IntKind.wrap_i64]; omega]; exact hold_ok _ w
  generalize trn a x o = A at *
  generalize trn b y o = B at *
  generalize trn c z o = C at *
  generalize stp x o = s at *
  generalize stp y o = t at *
  generalize stp z o = u at *
  clear T hb
  go_enter Tryz.func80, Tryz.ntmps80
  go_wp2_with fail
  refine (Q.out _ (tab_onto TT.out ((((Onto.refl w).alloc _ _).alloc _ _).alloc _ _))).mono ?_
  rintro e w1 ⟨rfl, on⟩
  have O1 : Hid (Onto w w1) := ((((Onto.refl w).alloc _ _).alloc _ _).alloc _ _).trans on
  have S1 : Hid (Six w1 w.heap.size a b c x y z) := six_start a b c x y z on
  clear on
  go_wp2_with fail
  refine (isBit_ok bit _).mono ?_
  rw [HB.out]
  rintro e w2 ⟨rfl, rfl⟩
  go_wp2_with fail
  go_loopw [30, 11] (fun q r wr => Onto w wr ∧ ((q = .int .i64 0 ∧ Six wr w.heap.size a b c x y z) ∨ (q = .int .i64 1 ∧ Six wr w.heap.size A b c x y z) ∨ (q = .int .i64 2 ∧ Six wr w.heap.size A B c x y z) ∨ (q = .int .i64 3 ∧ Six wr w.heap.size A B C x y z))) (fun q _ _ => 3 - (intOf q).toNat)
  case atStart => exact ⟨O1.out, .inl ⟨rfl, S1.out⟩⟩
  case round =>
    obtain ⟨on, hrel⟩ := hrel
    clear S1 O1
    have ON : Hid (Onto w wr) := on
    clear on
    rcases hrel with ⟨rfl, six⟩ | ⟨rfl, six⟩ | ⟨rfl, six⟩ | ⟨rfl, six⟩
    · have SX6 : Hid (Six wr w.heap.size a b c x y z) := six
      clear six
      obtain ⟨c0, c1, c2, d0, d1, d2, e0, e1, e2, f0, f1, f2, g0, g1, g2⟩ := SX6.out
      go_wp2_with fail
      go_region_with (first
        | (go_at_call 111; (with_reducible refine (SX.out _).mono ?_); rintro e w9 ⟨rfl, rfl⟩)
        | (go_at_call 110; (with_reducible refine (HX.out _).mono ?_); rintro e w9 ⟨rfl, rfl⟩))
      all_goals go_wp2
      all_goals go_roundw
      all_goals first
        | exact ⟨(ON.out.setCell (Nat.le_refl _) _).drew, .inr (.inl ⟨rfl, (SX6.out.set0 _).drew⟩)⟩
        | (simp [intOf]; done)
    · have SX6 : Hid (Six wr w.heap.size A b c x y z) := six
      clear six
      obtain ⟨c0, c1, c2, d0, d1, d2, e0, e1, e2, f0, f1, f2, g0, g1, g2⟩ := SX6.out
      go_wp2_with fail
      go_region_with (first
        | (go_at_call 111; (with_reducible refine (SY.out _).mono ?_); rintro e w9 ⟨rfl, rfl⟩)
        | (go_at_call 110; (with_reducible refine (HY.out _).mono ?_); rintro e w9 ⟨rfl, rfl⟩))
      all_goals go_wp2
      all_goals go_roundw
      all_goals first
        | exact ⟨(ON.out.setCell (Nat.le_refl _) _).drew, .inr (.inr (.inl ⟨rfl, (SX6.out.set1 _).drew⟩))⟩
        | (simp [intOf]; done)
    · have SX6 : Hid (Six wr w.heap.size A B c x y z) := six
      clear six
      obtain ⟨c0, c1, c2, d0, d1, d2, e0, e1, e2, f0, f1, f2, g0, g1, g2⟩ := SX6.out
      go_wp2_with fail
      go_region_with (first
        | (go_at_call 111; (with_reducible refine (SZ.out _).mono ?_); rintro e w9 ⟨rfl, rfl⟩)
        | (go_at_call 110; (with_reducible refine (HZ.out _).mono ?_); rintro e w9 ⟨rfl, rfl⟩))
      all_goals go_wp2
      all_goals go_roundw
      all_goals first
        | exact ⟨(ON.out.setCell (Nat.le_refl _) _).drew, .inr (.inr (.inr ⟨rfl, (SX6.out.set2 _).drew⟩))⟩
        | (simp [intOf]; done)
    · have SX6 : Six wr w.heap.size A B C x y z := six
      clear six
      obtain ⟨c0, c1, c2, d0, d1, d2, e0, e1, e2, f0, f1, f2, g0, g1, g2⟩ := SX6
      go_wp2
      obtain ⟨r0, r1, r2⟩ := set3 (x := .int .i64 A) (y := .int .i64 B) (z := .int .i64 C) e0 e1 e2
      refine bodyPost_ret (v := .tuple #[.agg #[.int .i64 A, .int .i64 B, .int .i64 C], .int .i64 0]) (results_arr2 Tryz.results80 rfl rfl r0 r1 r2) rfl ⟨rfl, ?_⟩
      exact ((ON.out.setCell (by simp; omega) _).setCell (by simp; omega) _).setCell (by simp; omega) _

end Go.Proofs.YtocnlefpbcnlmaaGreatDoor.Mix
