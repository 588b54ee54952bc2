/-
  What the program's two calls on waves answer. Condition: the parts' lengths are within the reach.
-/
import Derived.Test.YthbjjjpleongbaaWvParse
import Derived.Test.YthbjjjpleongbaaGJoin
import Derived.Test.YthbjjjpleongbaaWvAwake
namespace Go.Proofs.Ythbjjjpleongbaa.Wav
open Go.RowKit Go.Sort Go.Proofs.Ythbjjjpleongbaa.Mod Go.Proofs.Ythbjjjpleongbaa.Num Go.Proofs.Ythbjjjpleongbaa.Chk
set_option linter.unusedVariables false
set_option linter.unusedSimpArgs false

set_option maxHeartbeats 1000000 in
theorem build_far (x : Wv) (h1 : x.2.2.1.length ≤ 140737488351232) (h2 : x.2.2.2.1.length ≤ 140737488351232) (h3 : x.2.2.2.2.length ≤ 140737488351232) (h : 4096 < x.2.2.1.length + (x.2.2.2.1.length + x.2.2.2.2.length)) (w : World) :
    Calls Try.prog 10 #[wvl x] w fun e w' => e = .returned (.tuple #[.string ⟨#[]⟩, .int .i64 2100]) ∧ Bel w w' := by
  obtain ⟨c, b, H, D, T⟩ := x
  simp only at h1 h2 h3 h
  have zh := tx_size H
  have zd := tx_size D
  have zt := tx_size T
  have k1 : decide (4096 < (H.length : Int) + (D.length : Int) + (T.length : Int)) = true := decide_eq_true (by omega)
  go_enter Try.func10, Try.ntmps10
  go_wp2
  go_ret2
  exact ⟨rfl, (Bel.refl _).alloc _⟩

set_option maxHeartbeats 2000000 in
theorem build_near (x : Wv) (h : x.2.2.1.length + (x.2.2.2.1.length + x.2.2.2.2.length) ≤ 4096) (w : World) :
    Calls Try.prog 10 #[wvl x] w fun e w' => e = .returned (.tuple #[.string (tx (ansB (build x))), .int .i64 (errB (build x))]) ∧ Bel w w' := by
  have P : Hid (∀ w, Calls Try.prog 8 #[.string (tx (all x))] w fun e w' => e = .returned (.tuple #[wvl (ansW (parse (all x))), .int .i64 (errW (parse (all x)))]) ∧ Bel w w') := fun w => parse_ok (tx (all x)) _ rfl (by rw [tx_size]; unfold all maxLen; simp only [List.length_append]; omega) w
  have BX : Hid (∀ w1, Bel (w.alloc (.cells #[.int .i64 x.1, .int .i64 x.2.1, .string (tx x.2.2.1), .string (tx x.2.2.2.1), .string (tx x.2.2.2.2)] 25)) w1 → BoxV w1 w.heap.size x) := fun w1 k => (boxV_new w x).bel k
  have EQ : Hid (∀ y z w, (Op.equalIn 10000 25 (wvl y) (wvl z)).run Try.prog w = .ok (decide (y = z)) w) := eq_wv
  obtain ⟨R, hR⟩ : ∃ R, parse (all x) = R := ⟨_, rfl⟩
  have HR : Hid (parse (all x) = R) := hR
  rw [hR] at P
  have HB : Hid (build x = if R = some x then some (all x) else none) := (by unfold build; rw [hR] : _ = _)
  clear hR
  obtain ⟨c, b, H, D, T⟩ := x
  simp only at h
  have zh := tx_size H
  have zd := tx_size D
  have zt := tx_size T
  have k1 : decide (4096 < (H.length : Int) + (D.length : Int) + (T.length : Int)) = false := decide_eq_false (by omega)
  have J : Hid (∀ g w, w.cell? ⟨g, 0, none⟩ = some (.string (tx H)) → w.cell? ⟨g, 1, none⟩ = some (.string (tx D)) → w.cell? ⟨g, 2, none⟩ = some (.string (tx T)) → Calls Try.prog 24 #[.slice (some ⟨g, 0, none⟩) 3 3, .string ⟨#[]⟩] w fun e w' => e = .returned (.string (tx (H ++ (D ++ T)))) ∧ Bel w w') := fun g w c0 c1 c2 => Bld.join_ok g (tx H) (tx D) (tx T) (by rw [tx_size, tx_size, tx_size]; omega) w c0 c1 c2
  rcases R with _ | y
  · have RN : Hid (build (c, b, H, D, T) = none) := (by rw [HB.out, if_neg (fun q => by cases q)] : _ = _)
    have P2 : Hid (∀ w, Calls Try.prog 8 #[.string (tx (H ++ (D ++ T)))] w fun e w' => e = .returned (.tuple #[.agg #[.int .i64 0, .int .i64 0, .string ⟨#[]⟩, .string ⟨#[]⟩, .string ⟨#[]⟩], .int .i64 2100]) ∧ Bel w w') := P.out
    clear HB HR EQ BX P
    go_enter Try.func10, Try.ntmps10
    go_wp2_with fail
    refine (J.out _ _ (by simp) (by simp) (by simp)).mono ?_
    rintro e w0 ⟨rfl, b0⟩
    have B0 : Hid (Bel w w0) := Bel.trans (((Bel.refl _).alloc _).alloc _) b0
    clear b0 J
    go_wp2_with fail
    refine (P2.out _).mono ?_
    rintro e w1 ⟨rfl, b1⟩
    have B1 : Hid (Bel w w1) := B0.out.trans b1
    clear b1
    go_wp2
    go_ret2
    exact ⟨by rw [RN.out]; rfl, B1.out.alloc _⟩
  · obtain ⟨c', b', H', D', T'⟩ := y
    have P2 : Hid (∀ w, Calls Try.prog 8 #[.string (tx (H ++ (D ++ T)))] w fun e w' => e = .returned (.tuple #[.agg #[.int .i64 c', .int .i64 b', .string (tx H'), .string (tx D'), .string (tx T')], .int .i64 0]) ∧ Bel w w') := P.out
    have E := EQ.out (c', b', H', D', T') (c, b, H, D, T)
    by_cases hy : (c', b', H', D', T') = (c, b, H, D, T)
    · have RN : Hid (build (c, b, H, D, T) = some (H ++ (D ++ T))) := (by rw [HB.out, if_pos (by rw [hy])]; rfl : _ = _)
      rw [decide_eq_true hy] at E
      clear HB HR EQ P hy
      go_enter Try.func10, Try.ntmps10
      go_wp2_with fail
      refine (J.out _ _ (by simp) (by simp) (by simp)).mono ?_
      rintro e w0 ⟨rfl, b0⟩
      have B0 : Hid (Bel w w0) := Bel.trans (((Bel.refl _).alloc _).alloc _) b0
      have BY : Hid (Bel (w.alloc (.cells #[.int .i64 c, .int .i64 b, .string (tx H), .string (tx D), .string (tx T)] 25)) w0) := Bel.trans ((Bel.refl _).alloc _) b0
      clear b0 J
      go_wp2_with fail
      refine (P2.out _).mono ?_
      rintro e w1 ⟨rfl, b1⟩
      have B1 : Hid (Bel w w1) := B0.out.trans b1
      obtain ⟨⟨c0, c1, c2, c3, c4⟩, _⟩ := BX.out _ ((BY.out.trans b1).alloc (.cells #[.int .i64 c', .int .i64 b', .string (tx H'), .string (tx D'), .string (tx T')] 25))
      simp only at c0 c1 c2 c3 c4
      clear b1 BX BY
      go_wp2
      go_ret2
      exact ⟨by rw [RN.out]; rfl, B1.out.alloc _⟩
    · have RN : Hid (build (c, b, H, D, T) = none) := (by rw [HB.out, if_neg (fun q => hy (by injection q))] : _ = _)
      rw [decide_eq_false hy] at E
      clear HB HR EQ P hy
      go_enter Try.func10, Try.ntmps10
      go_wp2_with fail
      refine (J.out _ _ (by simp) (by simp) (by simp)).mono ?_
      rintro e w0 ⟨rfl, b0⟩
      have B0 : Hid (Bel w w0) := Bel.trans (((Bel.refl _).alloc _).alloc _) b0
      have BY : Hid (Bel (w.alloc (.cells #[.int .i64 c, .int .i64 b, .string (tx H), .string (tx D), .string (tx T)] 25)) w0) := Bel.trans ((Bel.refl _).alloc _) b0
      clear b0 J
      go_wp2_with fail
      refine (P2.out _).mono ?_
      rintro e w1 ⟨rfl, b1⟩
      have B1 : Hid (Bel w w1) := B0.out.trans b1
      obtain ⟨⟨c0, c1, c2, c3, c4⟩, _⟩ := BX.out _ ((BY.out.trans b1).alloc (.cells #[.int .i64 c', .int .i64 b', .string (tx H'), .string (tx D'), .string (tx T')] 25))
      simp only at c0 c1 c2 c3 c4
      clear b1 BX BY
      go_wp2
      go_ret2
      exact ⟨by rw [RN.out]; rfl, B1.out.alloc _⟩

theorem build_ok (x : Wv) (h1 : x.2.2.1.length ≤ 140737488351232) (h2 : x.2.2.2.1.length ≤ 140737488351232) (h3 : x.2.2.2.2.length ≤ 140737488351232) (w : World) :
    Calls Try.prog 10 #[wvl x] w fun e w' => e = .returned (.tuple #[.string (tx (ansB (build x))), .int .i64 (errB (build x))]) ∧ Bel w w' := by
  by_cases h : x.2.2.1.length + (x.2.2.2.1.length + x.2.2.2.2.length) ≤ 4096
  · exact build_near x h w
  · have hb : build x = none := by
      unfold build
      rw [if_neg]
      intro q
      have := parse_le q
      unfold all at this
      simp only [List.length_append] at this
      omega
    rw [hb]
    exact build_far x h1 h2 h3 (by omega) w

theorem prog : ProgW := ⟨parse_ok, build_ok⟩

end Go.Proofs.Ythbjjjpleongbaa.Wav
