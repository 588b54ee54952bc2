/-
  The contract of the reference's BuildWave. Condition: the parts' lengths are ints.
-/
import Derived.Test.YthbjjjpleongbaaWvRef
namespace Go.Proofs.Ythbjjjpleongbaa.Wav
open Go.RowKit Go.Sort Go.Proofs.Ythbjjjpleongbaa.Mod Go.Proofs.Ythbjjjpleongbaa.Num Go.Proofs.Ythbjjjpleongbaa.Chk
set_option linter.unusedVariables false
set_option linter.unusedSimpArgs false

theorem tx_cat (l m : List UInt8) : (tx l ++ tx m) = tx (l ++ m) := by
  apply ba_eq
  simp
theorem build_long {x : Wv} (h : 4096 < x.2.2.1.length ∨ 4096 < x.2.2.2.1.length ∨ 4096 < x.2.2.2.2.length) : build x = none := by
  unfold build
  rw [if_neg]
  intro q
  have := parse_le q
  unfold all at this
  simp only [List.length_append] at this
  omega
theorem tx_size (l : List UInt8) : (tx l).size = l.length := rfl

set_option maxHeartbeats 1000000 in
theorem rbuild_long (x : Wv) (h1 : x.2.2.1.length ≤ maxLen) (h2 : x.2.2.2.1.length ≤ maxLen) (h3 : x.2.2.2.2.length ≤ maxLen) (h : 4096 < x.2.2.1.length ∨ 4096 < x.2.2.2.1.length ∨ 4096 < x.2.2.2.2.length) (w : World) :
    Calls Try.prog 11 #[wvl x] w fun e w' => e = .returned (.tuple #[.string ⟨#[]⟩, .int .i64 2100]) ∧ Bel w w' := by
  obtain ⟨c, b, H, D, T⟩ := x
  simp only at h1 h2 h3 h
  unfold maxLen at h1 h2 h3
  have zh := tx_size H
  have zd := tx_size D
  have zt := tx_size T
  by_cases g1 : 4096 < H.length
  · have k1 : decide (4096 < (H.length : Int)) = true := decide_eq_true (by omega)
    go_enter Try.func11, Try.ntmps11
    go_wp2
    go_ret2
    exact ⟨rfl, (Bel.refl _).alloc _⟩
  · have k1 : decide (4096 < (H.length : Int)) = false := decide_eq_false (by omega)
    by_cases g2 : 4096 < D.length
    · have k2 : decide (4096 < (D.length : Int)) = true := decide_eq_true (by omega)
      go_enter Try.func11, Try.ntmps11
      go_wp2
      go_ret2
      exact ⟨rfl, (Bel.refl _).alloc _⟩
    · have k2 : decide (4096 < (D.length : Int)) = false := decide_eq_false (by omega)
      have k3 : decide (4096 < (T.length : Int)) = true := decide_eq_true (by omega)
      go_enter Try.func11, Try.ntmps11
      go_wp2
      go_ret2
      exact ⟨rfl, (Bel.refl _).alloc _⟩

set_option maxHeartbeats 2000000 in
theorem rbuild_short (x : Wv) (h1 : x.2.2.1.length ≤ 4096) (h2 : x.2.2.2.1.length ≤ 4096) (h3 : x.2.2.2.2.length ≤ 4096) (w : World) :
    Calls Try.prog 11 #[wvl x] w fun e w' => e = .returned (.tuple #[.string (tx (ansB (build x))), .int .i64 (errB (build x))]) ∧ Bel w w' := by
  have P : Hid (∀ w, Calls Try.prog 9 #[.string (tx (all x))] w fun e w' => e = .returned (.tuple #[wvl (ansW (parse (all x))), .int .i64 (errW (parse (all x)))]) ∧ Bel w w') := fun w => rparse_ok (tx (all x)) _ rfl (by rw [tx_size]; unfold all maxLen; simp only [List.length_append]; omega) w
  have BX : Hid (∀ w1, Bel (w.alloc (.cells #[.int .i64 x.1, .int .i64 x.2.1, .string (tx x.2.2.1), .string (tx x.2.2.2.1), .string (tx x.2.2.2.2)] 25)) w1 → BoxV w1 w.heap.size x) := fun w1 k => (boxV_new w x).bel k
  have EQ : Hid (∀ y z w, (Op.equalIn 10000 25 (wvl y) (wvl z)).run Try.prog w = .ok (decide (y = z)) w) := eq_wv
  obtain ⟨R, hR⟩ : ∃ R, parse (all x) = R := ⟨_, rfl⟩
  have HR : Hid (parse (all x) = R) := hR
  rw [hR] at P
  have HB : Hid (build x = if R = some x then some (all x) else none) := (by unfold build; rw [hR] : _ = _)
  have HX : Hid (∃ c b H D T, x = (c, b, H, D, T)) := ⟨_, _, _, _, _, rfl⟩
  clear hR
  obtain ⟨c, b, H, D, T⟩ := x
  simp only at h1 h2 h3
  have zh := tx_size H
  have zd := tx_size D
  have zt := tx_size T
  have k1 : decide (4096 < (H.length : Int)) = false := decide_eq_false (by omega)
  have k2 : decide (4096 < (D.length : Int)) = false := decide_eq_false (by omega)
  have k3 : decide (4096 < (T.length : Int)) = false := decide_eq_false (by omega)
  have e1 := tx_cat H D
  have e2 : tx (H ++ D) ++ tx T = tx (H ++ (D ++ T)) := by rw [tx_cat, List.append_assoc]
  have za := tx_size (H ++ D)
  have zl : (H ++ D).length = H.length + D.length := List.length_append
  rcases R with _ | y
  · have RN : Hid (build (c, b, H, D, T) = none) := (by rw [HB.out, if_neg (fun q => by cases q)] : _ = _)
    have P2 : Hid (∀ w, Calls Try.prog 9 #[.string (tx (H ++ (D ++ T)))] w fun e w' => e = .returned (.tuple #[.agg #[.int .i64 0, .int .i64 0, .string ⟨#[]⟩, .string ⟨#[]⟩, .string ⟨#[]⟩], .int .i64 2100]) ∧ Bel w w') := P.out
    clear HB HR EQ BX P HX
    go_enter Try.func11, Try.ntmps11
    go_wp2_with fail
    refine (P2.out _).mono ?_
    rintro e w1 ⟨rfl, b1⟩
    have B1 : Hid (Bel w w1) := ((Bel.refl _).alloc _).trans b1
    clear b1
    go_wp2
    go_ret2
    exact ⟨by rw [RN.out]; rfl, B1.out.alloc _⟩
  · obtain ⟨c', b', H', D', T'⟩ := y
    have P2 : Hid (∀ w, Calls Try.prog 9 #[.string (tx (H ++ (D ++ T)))] w fun e w' => e = .returned (.tuple #[.agg #[.int .i64 c', .int .i64 b', .string (tx H'), .string (tx D'), .string (tx T')], .int .i64 0]) ∧ Bel w w') := P.out
    have E := EQ.out (c', b', H', D', T') (c, b, H, D, T)
    by_cases hy : (c', b', H', D', T') = (c, b, H, D, T)
    · have RN : Hid (build (c, b, H, D, T) = some (H ++ (D ++ T))) := (by rw [HB.out, if_pos (by rw [hy])]; rfl : _ = _)
      rw [decide_eq_true hy] at E
      clear HB HR EQ P HX hy
      go_enter Try.func11, Try.ntmps11
      go_wp2_with fail
      refine (P2.out _).mono ?_
      rintro e w1 ⟨rfl, b1⟩
      have B1 : Hid (Bel w w1) := ((Bel.refl _).alloc _).trans b1
      obtain ⟨⟨c0, c1, c2, c3, c4⟩, _⟩ := BX.out _ (b1.alloc (.cells #[.int .i64 c', .int .i64 b', .string (tx H'), .string (tx D'), .string (tx T')] 25))
      simp only at c0 c1 c2 c3 c4
      clear b1 BX
      go_wp2
      go_ret2
      exact ⟨by rw [RN.out]; rfl, B1.out.alloc _⟩
    · have RN : Hid (build (c, b, H, D, T) = none) := (by rw [HB.out, if_neg (fun q => hy (by injection q))] : _ = _)
      rw [decide_eq_false hy] at E
      clear HB HR EQ P HX hy
      go_enter Try.func11, Try.ntmps11
      go_wp2_with fail
      refine (P2.out _).mono ?_
      rintro e w1 ⟨rfl, b1⟩
      have B1 : Hid (Bel w w1) := ((Bel.refl _).alloc _).trans b1
      obtain ⟨⟨c0, c1, c2, c3, c4⟩, _⟩ := BX.out _ (b1.alloc (.cells #[.int .i64 c', .int .i64 b', .string (tx H'), .string (tx D'), .string (tx T')] 25))
      simp only at c0 c1 c2 c3 c4
      clear b1 BX
      go_wp2
      go_ret2
      exact ⟨by rw [RN.out]; rfl, B1.out.alloc _⟩

/-- The reference's BuildWave, of whatever parts. -/
theorem rbuild_ok (x : Wv) (h1 : x.2.2.1.length ≤ maxLen) (h2 : x.2.2.2.1.length ≤ maxLen) (h3 : x.2.2.2.2.length ≤ maxLen) (w : World) :
    Calls Try.prog 11 #[wvl x] w fun e w' => e = .returned (.tuple #[.string (tx (ansB (build x))), .int .i64 (errB (build x))]) ∧ Bel w w' := by
  by_cases h : 4096 < x.2.2.1.length ∨ 4096 < x.2.2.2.1.length ∨ 4096 < x.2.2.2.2.length
  · rw [build_long h]
    exact rbuild_long x h1 h2 h3 h w
  · exact rbuild_short x (by omega) (by omega) (by omega) w

end Go.Proofs.Ythbjjjpleongbaa.Wav
