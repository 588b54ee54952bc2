/-
  Waves, walked: it answers true, where the program's Parse and Build keep their contracts. Condition: they do; lengths are within the reach.
-/
import Derived.Test.YthbjjjpleongbaaWvAwake
namespace Go.Proofs.Ythbjjjpleongbaa.Wav
open Go.RowKit Go.Sort Go.Proofs.Ythbjjjpleongbaa.Mod Go.Proofs.Ythbjjjpleongbaa.Num Go.Proofs.Ythbjjjpleongbaa.Chk
set_option linter.unusedVariables false
set_option linter.unusedSimpArgs false

theorem build_le {x : Wv} {T : List UInt8} (h : build x = some T) : T.length ≤ 4096 := parse_le (build_some h).2

set_option maxRecDepth 8000 in
set_option maxHeartbeats 4000000 in
theorem waves_at (P : ProgW) (L : List UInt8) (hL : L.length ≤ 140737488351232) (x : Wv) (h1 : x.2.2.1.length ≤ 140737488351232) (h2 : x.2.2.2.1.length ≤ 140737488351232) (h3 : x.2.2.2.2.length ≤ 140737488351232)
    (y : Wv) (ey : Int) (hy : ansW (parse L) = y) (hey : errW (parse L) = ey) (By : List UInt8) (e5 : Int) (hB5 : ansB (build y) = By) (hE5 : errB (build y) = e5) (hcond : ey ≠ 0 ∨ By = L ∧ e5 = 0) (hyl : y.2.2.1.length ≤ 4096 ∧ y.2.2.2.1.length ≤ 4096 ∧ y.2.2.2.2.length ≤ 4096) (w : World) :
    Calls Try.prog 3 #[.string (tx L), wvl x] w fun e w' => e = .returned (.bool true) ∧ Bel w w' := by
  have AW : Hid (∀ w, Calls Try.prog 13 #[] w fun e w' => e = .returned (.bool true) ∧ Bel w w') := awake_ok P
  have Q1 : Hid (∀ w, Calls Try.prog 8 #[.string (tx L)] w fun e w' => e = .returned (.tuple #[wvl y, .int .i64 ey]) ∧ Bel w w') := fun w => by
    have := P.parse (tx L) L rfl (by show L.length ≤ maxLen; unfold maxLen; omega) w
    rw [hy, hey] at this
    exact this
  have Q2 : Hid (∀ w, Calls Try.prog 9 #[.string (tx L)] w fun e w' => e = .returned (.tuple #[wvl y, .int .i64 ey]) ∧ Bel w w') := fun w => by
    have := rparse_ok (tx L) L rfl (by show L.length ≤ maxLen; unfold maxLen; omega) w
    rw [hy, hey] at this
    exact this
  obtain ⟨Bx, hBx⟩ : ∃ X, ansB (build x) = X := ⟨_, rfl⟩
  obtain ⟨eb, heb⟩ : ∃ X, errB (build x) = X := ⟨_, rfl⟩
  have Q3 : Hid (∀ w, Calls Try.prog 10 #[wvl x] w fun e w' => e = .returned (.tuple #[.string (tx Bx), .int .i64 eb]) ∧ Bel w w') := fun w => by
    have := P.build x h1 h2 h3 w
    rw [hBx, heb] at this
    exact this
  have Q4 : Hid (∀ w, Calls Try.prog 11 #[wvl x] w fun e w' => e = .returned (.tuple #[.string (tx Bx), .int .i64 eb]) ∧ Bel w w') := fun w => by
    have := rbuild_ok x (by unfold maxLen; omega) (by unfold maxLen; omega) (by unfold maxLen; omega) w
    rw [hBx, heb] at this
    exact this
  have Q5 : Hid (∀ w, Calls Try.prog 10 #[wvl y] w fun e w' => e = .returned (.tuple #[.string (tx By), .int .i64 e5]) ∧ Bel w w') := fun w => by
    have := P.build y (by omega) (by omega) (by omega) w
    rw [hB5, hE5] at this
    exact this
  have E := fun w => eq_wv y y w
  rw [decide_eq_true (show y = y from rfl)] at E
  have X0 : Hid (BoxV (w.alloc (.cells #[.int .i64 x.1, .int .i64 x.2.1, .string (tx x.2.2.1), .string (tx x.2.2.2.1), .string (tx x.2.2.2.2)] 25)) w.heap.size x) := boxV_new w x
  have f1 : (ey == ey) = true := beq_self_eq_true ey
  have f2 : (Bx == Bx) = true := beq_self_eq_true Bx
  have f3 : (eb == eb) = true := beq_self_eq_true eb
  have Y0 : Hid (∀ w : World, BoxV (w.alloc (.cells #[.int .i64 y.1, .int .i64 y.2.1, .string (tx y.2.2.1), .string (tx y.2.2.2.1), .string (tx y.2.2.2.2)] 25)) w.heap.size y) := fun w => boxV_new w y
  have BW : Hid (Bel w (w.alloc (.cells #[.int .i64 x.1, .int .i64 x.2.1, .string (tx x.2.2.1), .string (tx x.2.2.2.1), .string (tx x.2.2.2.2)] 25))) := (Bel.refl _).alloc _
  clear P hy hey hBx heb hB5 hE5 hyl h1 h2 h3 hL
  obtain ⟨xc, xb, xh, xd, xt⟩ := x
  obtain ⟨yc, yb, yh, yd, yt⟩ := y
  simp only at X0 Y0 BW
  go_enter Try.func3, Try.ntmps3
  go_wp2_with fail
  refine (Q1.out _).mono ?_
  rintro e w1 ⟨rfl, b1⟩
  have B1 : Hid (Bel w (w1.alloc (.cells #[.int .i64 yc, .int .i64 yb, .string (tx yh), .string (tx yd), .string (tx yt)] 25))) := (BW.out.trans b1).alloc _
  have X1 : Hid (BoxV (w1.alloc (.cells #[.int .i64 yc, .int .i64 yb, .string (tx yh), .string (tx yd), .string (tx yt)] 25)) w.heap.size (xc, xb, xh, xd, xt)) := X0.out.bel (b1.alloc _)
  have Y1 : Hid (BoxV (w1.alloc (.cells #[.int .i64 yc, .int .i64 yb, .string (tx yh), .string (tx yd), .string (tx yt)] 25)) w1.heap.size (yc, yb, yh, yd, yt)) := Y0.out w1
  obtain ⟨g0, hg0⟩ : ∃ g, w.heap.size = g := ⟨_, rfl⟩
  rw [hg0] at X1
  rw [hg0]
  clear b1 BW X0 hg0
  go_wp2_with fail
  refine (Q2.out _).mono ?_
  rintro e w2 ⟨rfl, b2⟩
  have B2 : Hid (Bel w (w2.alloc (.cells #[.int .i64 yc, .int .i64 yb, .string (tx yh), .string (tx yd), .string (tx yt)] 25))) := (B1.out.trans b2).alloc _
  have X2 : Hid (BoxV (w2.alloc (.cells #[.int .i64 yc, .int .i64 yb, .string (tx yh), .string (tx yd), .string (tx yt)] 25)) g0 (xc, xb, xh, xd, xt)) := X1.out.bel (b2.alloc _)
  have Y2 : Hid (BoxV (w2.alloc (.cells #[.int .i64 yc, .int .i64 yb, .string (tx yh), .string (tx yd), .string (tx yt)] 25)) w1.heap.size (yc, yb, yh, yd, yt)) := Y1.out.bel (b2.alloc _)
  have Z2 : Hid (BoxV (w2.alloc (.cells #[.int .i64 yc, .int .i64 yb, .string (tx yh), .string (tx yd), .string (tx yt)] 25)) w2.heap.size (yc, yb, yh, yd, yt)) := Y0.out w2
  obtain ⟨g1, hg1⟩ : ∃ g, w1.heap.size = g := ⟨_, rfl⟩
  rw [hg1] at Y2
  rw [hg1]
  clear b2 B1 X1 Y1 Y0 hg1
  go_upto_region 3 with fail
  obtain ⟨g2, hg2⟩ : ∃ g, w2.heap.size = g := ⟨_, rfl⟩
  rw [hg2] at Z2
  rw [hg2]
  clear hg2
  generalize w2.alloc (.cells #[.int .i64 yc, .int .i64 yb, .string (tx yh), .string (tx yd), .string (tx yt)] 25) = w3 at *
  obtain ⟨⟨c0, c1, c2, c3, c4⟩, _⟩ := X2.out
  simp only at c0 c1 c2 c3 c4
  go_wp2_with fail
  refine (Q3.out _).mono ?_
  rintro e w4 ⟨rfl, b4⟩
  have B4 : Hid (Bel w w4) := B2.out.trans b4
  have X4 : Hid (BoxV w4 g0 (xc, xb, xh, xd, xt)) := X2.out.bel b4
  have Y4 : Hid (BoxV w4 g1 (yc, yb, yh, yd, yt)) := Y2.out.bel b4
  have Z4 : Hid (BoxV w4 g2 (yc, yb, yh, yd, yt)) := Z2.out.bel b4
  clear b4 B2 X2 Y2 Z2 c0 c1 c2 c3 c4
  obtain ⟨⟨c0, c1, c2, c3, c4⟩, _⟩ := X4.out
  simp only at c0 c1 c2 c3 c4
  go_wp2_with fail
  refine (Q4.out _).mono ?_
  rintro e w5 ⟨rfl, b5⟩
  have B5 : Hid (Bel w w5) := B4.out.trans b5
  have Y5 : Hid (BoxV w5 g1 (yc, yb, yh, yd, yt)) := Y4.out.bel b5
  have Z5 : Hid (BoxV w5 g2 (yc, yb, yh, yd, yt)) := Z4.out.bel b5
  clear b5 B4 X4 Y4 Z4 c0 c1 c2 c3 c4
  obtain ⟨⟨c0, c1, c2, c3, c4⟩, _⟩ := Y5.out
  simp only at c0 c1 c2 c3 c4
  go_wp2_with fail
  refine (Q5.out _).mono ?_
  rintro e w6 ⟨rfl, b6⟩
  have B6 : Hid (Bel w w6) := B5.out.trans b6
  have Y6 : Hid (BoxV w6 g1 (yc, yb, yh, yd, yt)) := Y5.out.bel b6
  have Z6 : Hid (BoxV w6 g2 (yc, yb, yh, yd, yt)) := Z5.out.bel b6
  clear b6 B5 Y5 Z5 c0 c1 c2 c3 c4
  obtain ⟨⟨c0, c1, c2, c3, c4⟩, _⟩ := Y6.out
  obtain ⟨⟨d0, d1, d2, d3, d4⟩, _⟩ := Z6.out
  simp only at c0 c1 c2 c3 c4 d0 d1 d2 d3 d4
  clear Q1 Q2 Q3 Q4 Q5
  rcases hcond with hc | ⟨hc1, hc2⟩
  · have n1 : (ey != 0) = true := by simp [hc]
    clear hc
    go_wp2_with fail
    refine (num_ok _ _).mono ?_
    rintro e w7 ⟨rfl, rfl⟩
    go_wp2_with fail
    refine (num_ok _ _).mono ?_
    rintro e w7 ⟨rfl, rfl⟩
    go_wp2_with fail
    refine (num_ok _ _).mono ?_
    rintro e w7 ⟨rfl, rfl⟩
    go_wp2_with fail
    refine (AW.out _).mono ?_
    rintro e w8 ⟨rfl, b8⟩
    go_wp2
    go_ret
    exact ⟨rfl, B6.out.trans b8⟩
  · subst hc1 hc2
    by_cases hz : ey = 0
    · have n1 : (ey != 0) = false := by simp [hz]
      have lL : (By == By) = true := beq_self_eq_true By
      clear hz
      go_wp2_with fail
      refine (num_ok _ _).mono ?_
      rintro e w7 ⟨rfl, rfl⟩
      go_wp2_with fail
      refine (num_ok _ _).mono ?_
      rintro e w7 ⟨rfl, rfl⟩
      go_wp2_with fail
      refine (num_ok _ _).mono ?_
      rintro e w7 ⟨rfl, rfl⟩
      go_wp2_with fail
      refine (num_ok _ _).mono ?_
      rintro e w7 ⟨rfl, rfl⟩
      go_wp2_with fail
      refine (AW.out _).mono ?_
      rintro e w8 ⟨rfl, b8⟩
      go_wp2
      go_ret
      exact ⟨rfl, B6.out.trans b8⟩
    · have n1 : (ey != 0) = true := by simp [hz]
      clear hz
      go_wp2_with fail
      refine (num_ok _ _).mono ?_
      rintro e w7 ⟨rfl, rfl⟩
      go_wp2_with fail
      refine (num_ok _ _).mono ?_
      rintro e w7 ⟨rfl, rfl⟩
      go_wp2_with fail
      refine (num_ok _ _).mono ?_
      rintro e w7 ⟨rfl, rfl⟩
      go_wp2_with fail
      refine (AW.out _).mono ?_
      rintro e w8 ⟨rfl, b8⟩
      go_wp2
      go_ret
      exact ⟨rfl, B6.out.trans b8⟩

theorem parts_le {L : List UInt8} {y : Wv} (h : parse L = some y) : y.2.2.1.length ≤ 4096 ∧ y.2.2.2.1.length ≤ 4096 ∧ y.2.2.2.2.length ≤ 4096 := by
  have h1 := parse_le h
  rw [← parse_all h] at h1
  unfold all at h1
  simp only [List.length_append] at h1
  omega

theorem waves_walk (P : ProgW) (L : List UInt8) (hL : L.length ≤ 140737488351232) (x : Wv) (h1 : x.2.2.1.length ≤ 140737488351232) (h2 : x.2.2.2.1.length ≤ 140737488351232) (h3 : x.2.2.2.2.length ≤ 140737488351232) (w : World) :
    Calls Try.prog 3 #[.string (tx L), wvl x] w fun e w' => e = .returned (.bool true) ∧ Bel w w' := by
  cases h : parse L with
  | none => exact waves_at P L hL x h1 h2 h3 wv0 2100 (by rw [h]; rfl) (by rw [h]; rfl) _ _ rfl rfl (.inl (by decide)) ⟨Nat.zero_le _, Nat.zero_le _, Nat.zero_le _⟩ w
  | some y => exact waves_at P L hL x h1 h2 h3 y 0 (by rw [h]; rfl) (by rw [h]; rfl) L 0 (by rw [build_parse h]; rfl) (by rw [build_parse h]; rfl) (.inr ⟨rfl, rfl⟩) (parts_le h) w

end Go.Proofs.Ythbjjjpleongbaa.Wav
