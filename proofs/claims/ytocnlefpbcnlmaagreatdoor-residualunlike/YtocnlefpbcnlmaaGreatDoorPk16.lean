/-
  The contract of the reference's Train: it answers as the program's does. No condition but that the numbers are ints.
-/
import Derived.Test.YtocnlefpbcnlmaaGreatDoorPk15

namespace Go.Proofs.YtocnlefpbcnlmaaGreatDoor.Mix
open Go.RowKit Go.Proofs.YtocnlefpbcnlmaaGreatDoor.Num Go.Proofs.YtocnlefpbcnlmaaGreatDoor.Str
set_option linter.unusedVariables false

set_option maxHeartbeats 1000000 in
theorem ref_train_no (a b c x y z bit : Int) (hm : ¬ May a b c x y z) (w : World) :
    Calls Tryz.prog 61 #[.agg #[.int .i64 a, .int .i64 b, .int .i64 c], .agg #[.int .i64 x, .int .i64 y, .int .i64 z], .int .i64 bit] w fun e w' => e = .returned (.tuple #[.agg #[.int .i64 0, .int .i64 0, .int .i64 0], .int .i64 800]) ∧ Onto w w' := by
  have M : Hid (¬ May a b c x y z) := hm
  clear hm
  go_enter Tryz.func61, Tryz.ntmps61
  go_wp2_with fail
  refine (ref_dot_no a b c x y z M.out _).mono ?_
  rintro e w1 ⟨rfl, o⟩
  have O1 : Hid (Onto w w1) := ((((Onto.refl w).alloc _ _).alloc _ _).alloc _ _).trans o
  obtain ⟨c0, c1, c2, d0, d1, d2, e0, e1, e2, f0, f1, f2, g0, g1, g2⟩ := six_start a b c x y z o
  clear o
  go_wp2
  obtain ⟨r0, r1, r2⟩ := set3 (x := .int .i64 0) (y := .int .i64 0) (z := .int .i64 0) e0 e1 e2
  refine bodyPost_ret (v := .tuple #[.agg #[.int .i64 0, .int .i64 0, .int .i64 0], .int .i64 800]) (results_arr2 Tryz.results61 rfl rfl r0 r1 r2) rfl ⟨rfl, ?_⟩
  exact ((O1.out.setCell (by simp; omega) _).setCell (by simp; omega) _).setCell (by simp; omega) _

set_option maxHeartbeats 1000000 in
theorem ref_train_bit (a b c x y z bit : Int) (hm : May a b c x y z) (hb : ¬ (bit = 0 ∨ bit = 1)) (w : World) :
    Calls Tryz.prog 61 #[.agg #[.int .i64 a, .int .i64 b, .int .i64 c], .agg #[.int .i64 x, .int .i64 y, .int .i64 z], .int .i64 bit] w fun e w' => e = .returned (.tuple #[.agg #[.int .i64 0, .int .i64 0, .int .i64 0], .int .i64 800]) ∧ Onto w w' := by
  have M : Hid (May a b c x y z) := hm
  have HB : Hid (bitB bit = false) := show bitB bit = false from decide_eq_false hb
  clear hm hb
  go_enter Tryz.func61, Tryz.ntmps61
  go_wp2_with fail
  refine (ref_dot_yes a b c x y z M.out _).mono ?_
  rintro e w1 ⟨rfl, o⟩
  have O1 : Hid (Onto w w1) := ((((Onto.refl w).alloc _ _).alloc _ _).alloc _ _).trans o
  obtain ⟨c0, c1, c2, d0, d1, d2, e0, e1, e2, f0, f1, f2, g0, g1, g2⟩ := six_start a b c x y z o
  clear o
  go_wp2_with fail
  refine (bitMay_ok bit _).mono ?_
  rw [HB.out]
  rintro e w2 ⟨rfl, rfl⟩
  go_wp2
  obtain ⟨r0, r1, r2⟩ := set3 (x := .int .i64 0) (y := .int .i64 0) (z := .int .i64 0) e0 e1 e2
  refine bodyPost_ret (v := .tuple #[.agg #[.int .i64 0, .int .i64 0, .int .i64 0], .int .i64 800]) (results_arr2 Tryz.results61 rfl rfl r0 r1 r2) rfl ⟨rfl, ?_⟩
  exact ((O1.out.setCell (by simp; omega) _).setCell (by simp; omega) _).setCell (by simp; omega) _

theorem raw_is (a x o : Int) (a0 : -1048576 ≤ a) (a1 : a ≤ 1048576) (x0 : -2047 ≤ x) (x1 : x ≤ 2047) (o0 : -4096 ≤ o) (o1 : o ≤ 4096) :
    IntKind.i64.wrap (a + IntKind.i64.wrap (IntKind.i64.wrap (x * o) + 512) / 1024) = a + stp x o := by
  obtain ⟨m0, m1⟩ := off_le x o x0 x1 o0 o1
  unfold stp
  generalize x * o = m at *
  have e1 : IntKind.i64.wrap m = m := by rw [IntKind.wrap_i64]; omega
  have e2 : IntKind.i64.wrap (m + 512) = m + 512 := by rw [IntKind.wrap_i64]; omega
  rw [e1, e2]
  rw [IntKind.wrap_i64]; omega

set_option maxRecDepth 20000 in
set_option maxHeartbeats 2000000 in
theorem ref_train_yes (a b c x y z bit : Int) (hm : May a b c x y z) (hb : bit = 0 ∨ bit = 1) (w : World) :
    Calls Tryz.prog 61 #[.agg #[.int .i64 a, .int .i64 b, .int .i64 c], .agg #[.int .i64 x, .int .i64 y, .int .i64 z], .int .i64 bit] w fun e w' => e = .returned (.tuple #[.agg #[.int .i64 (trn a x (4096 * bit - dot a b c x y z)), .int .i64 (trn b y (4096 * bit - dot a b c x y z)), .int .i64 (trn c z (4096 * bit - dot a b c x y z))], .int .i64 0]) ∧ Onto w w' := by
  have M : Hid (May a b c x y z) := hm
  have HB : Hid (bitB bit = true) := show bitB bit = true from decide_eq_true hb
  have b0 : 0 ≤ bit := by omega
  have b1 : bit ≤ 1 := by omega
  have Q : Hid (∀ w, Calls Tryz.prog 55 #[.agg #[.int .i64 a, .int .i64 b, .int .i64 c], .agg #[.int .i64 x, .int .i64 y, .int .i64 z]] w fun e w' => e = .returned (.tuple #[.int .i64 (dot a b c x y z), .int .i64 0]) ∧ Onto w w') := fun w => ref_dot_yes a b c x y z hm w
  obtain ⟨p0, p1⟩ := dot_range a b c x y z
  generalize dot a b c x y z = p at *
  obtain ⟨o, ho⟩ : ∃ o, 4096 * bit - p = o := ⟨_, rfl⟩
  rw [ho]
  have o0 : -4096 ≤ o := by omega
  have o1 : o ≤ 4096 := by omega
  obtain ⟨⟨a0, a1⟩, ⟨b0', b1'⟩, ⟨c0', c1'⟩, ⟨x0, x1⟩, ⟨y0, y1⟩, z0, z1⟩ := hm
  have sx := stp_range x o x0 x1 o0 o1
  have sy := stp_range y o y0 y1 o0 o1
  have sz := stp_range z o z0 z1 o0 o1
  obtain ⟨sx0, sx1⟩ := sx
  obtain ⟨sy0, sy1⟩ := sy
  obtain ⟨sz0, sz1⟩ := sz
  have HX : Hid (∀ w, Calls Tryz.prog 92 #[.int .i64 (IntKind.i64.wrap (a + IntKind.i64.wrap (IntKind.i64.wrap (x * o) + 512) / 1024)), .int .i64 (-1048576), .int .i64 1048576] w fun e w' => e = .returned (.int .i64 (trn a x o)) ∧ w' = w) := fun w => by rw [raw_is a x o a0 a1 x0 x1 o0 o1]; exact within_hold _ w
  have HY : Hid (∀ w, Calls Tryz.prog 92 #[.int .i64 (IntKind.i64.wrap (b + IntKind.i64.wrap (IntKind.i64.wrap (y * o) + 512) / 1024)), .int .i64 (-1048576), .int .i64 1048576] w fun e w' => e = .returned (.int .i64 (trn b y o)) ∧ w' = w) := fun w => by rw [raw_is b y o b0' b1' y0 y1 o0 o1]; exact within_hold _ w
  have HZ : Hid (∀ w, Calls Tryz.prog 92 #[.int .i64 (IntKind.i64.wrap (c + IntKind.i64.wrap (IntKind.i64.wrap (z * o) + 512) / 1024)), .int .i64 (-1048576), .int .i64 1048576] w fun e w' => e = .returned (.int .i64 (trn c z o)) ∧ w' = w) := fun w => by rw [raw_is c z o c0' c1' z0 z1 o0 o1]; exact within_hold _ w
  generalize trn a x o = A at *
  generalize trn b y o = B at *
  generalize trn c z o = C at *
  clear sx0 sx1 sy0 sy1 sz0 sz1
  clear hb
  go_enter Tryz.func61, Tryz.ntmps61
  go_wp2_with fail
  refine (Q.out _).mono ?_
  rintro e w1 ⟨rfl, on⟩
  have O1 : Hid (Onto w w1) := ((((Onto.refl w).alloc _ _).alloc _ _).alloc _ _).trans on
  have S1 : Hid (Six w1 w.heap.size a b c x y z) := six_start a b c x y z on
  clear on
  go_wp2_with fail
  refine (bitMay_ok bit _).mono ?_
  rw [HB.out]
  rintro e w2 ⟨rfl, rfl⟩
  go_wp2_with fail
  go_loopw [11] (fun q wr => Onto w wr ∧ ((q = .int .i64 0 ∧ Six wr w.heap.size a b c x y z) ∨ (q = .int .i64 1 ∧ Six wr w.heap.size A b c x y z) ∨ (q = .int .i64 2 ∧ Six wr w.heap.size A B c x y z) ∨ (q = .int .i64 3 ∧ Six wr w.heap.size A B C x y z))) (fun q _ => 3 - (intOf q).toNat)
  case atStart => exact ⟨O1.out, .inl ⟨rfl, S1.out⟩⟩
  case round =>
    obtain ⟨on, hrel⟩ := hrel
    clear S1 O1
    have ON : Hid (Onto w wr) := on
    clear on
    rcases hrel with ⟨rfl, six⟩ | ⟨rfl, six⟩ | ⟨rfl, six⟩ | ⟨rfl, six⟩
    · have SX6 : Hid (Six wr w.heap.size a b c x y z) := six
      clear six
      obtain ⟨c0, c1, c2, d0, d1, d2, e0, e1, e2, f0, f1, f2, g0, g1, g2⟩ := SX6.out
      go_wp2_with fail
      go_region_with (go_at_call 92; (with_reducible refine (HX.out _).mono ?_); rintro e w9 ⟨rfl, rfl⟩)
      all_goals go_wp2
      all_goals go_roundw
      all_goals first
        | exact ⟨(ON.out.setCell (Nat.le_refl _) _).drew, .inr (.inl ⟨rfl, (SX6.out.set0 _).drew⟩)⟩
        | (simp [intOf]; done)
    · have SX6 : Hid (Six wr w.heap.size A b c x y z) := six
      clear six
      obtain ⟨c0, c1, c2, d0, d1, d2, e0, e1, e2, f0, f1, f2, g0, g1, g2⟩ := SX6.out
      go_wp2_with fail
      go_region_with (go_at_call 92; (with_reducible refine (HY.out _).mono ?_); rintro e w9 ⟨rfl, rfl⟩)
      all_goals go_wp2
      all_goals go_roundw
      all_goals first
        | exact ⟨(ON.out.setCell (Nat.le_refl _) _).drew, .inr (.inr (.inl ⟨rfl, (SX6.out.set1 _).drew⟩))⟩
        | (simp [intOf]; done)
    · have SX6 : Hid (Six wr w.heap.size A B c x y z) := six
      clear six
      obtain ⟨c0, c1, c2, d0, d1, d2, e0, e1, e2, f0, f1, f2, g0, g1, g2⟩ := SX6.out
      go_wp2_with fail
      go_region_with (go_at_call 92; (with_reducible refine (HZ.out _).mono ?_); rintro e w9 ⟨rfl, rfl⟩)
      all_goals go_wp2
      all_goals go_roundw
      all_goals first
        | exact ⟨(ON.out.setCell (Nat.le_refl _) _).drew, .inr (.inr (.inr ⟨rfl, (SX6.out.set2 _).drew⟩))⟩
        | (simp [intOf]; done)
    · have SX6 : Six wr w.heap.size A B C x y z := six
      clear six
      obtain ⟨c0, c1, c2, d0, d1, d2, e0, e1, e2, f0, f1, f2, g0, g1, g2⟩ := SX6
      go_wp2
      obtain ⟨r0, r1, r2⟩ := set3 (x := .int .i64 A) (y := .int .i64 B) (z := .int .i64 C) e0 e1 e2
      refine bodyPost_ret (v := .tuple #[.agg #[.int .i64 A, .int .i64 B, .int .i64 C], .int .i64 0]) (results_arr2 Tryz.results61 rfl rfl r0 r1 r2) rfl ⟨rfl, ?_⟩
      exact ((ON.out.setCell (by simp; omega) _).setCell (by simp; omega) _).setCell (by simp; omega) _

end Go.Proofs.YtocnlefpbcnlmaaGreatDoor.Mix
