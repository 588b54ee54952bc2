/-
  WaveParts, walked: it answers true, where the program's Parse and Build keep their contracts. Condition: they do; lengths are within the reach.
-/
import Derived.Test.YthbjjjpleongbaaWavesWalk
import Derived.Test.YthbjjjpleongbaaGPlace
namespace Go.Proofs.Ythbjjjpleongbaa.Wav
open Go.RowKit Go.Sort Go.Proofs.Ythbjjjpleongbaa.Mod Go.Proofs.Ythbjjjpleongbaa.Num Go.Proofs.Ythbjjjpleongbaa.Chk
set_option linter.unusedVariables false
set_option linter.unusedSimpArgs false

set_option maxHeartbeats 2000000 in
theorem parts_none (P : ProgW) (x : Wv) (h1 : x.2.2.1.length ≤ 140737488351232) (h2 : x.2.2.2.1.length ≤ 140737488351232) (h3 : x.2.2.2.2.length ≤ 140737488351232) (h : build x = none) (a : Int) (w : World) :
    Calls Try.prog 6 #[wvl x, .int .i64 a] w fun e w' => e = .returned (.bool true) ∧ Bel w w' := by
  have AW : Hid (∀ w, Calls Try.prog 13 #[] w fun e w' => e = .returned (.bool true) ∧ Bel w w') := awake_ok P
  have Q3 : Hid (∀ w, Calls Try.prog 10 #[wvl x] w fun e w' => e = .returned (.tuple #[.string ⟨#[]⟩, .int .i64 2100]) ∧ Bel w w') := fun w => by
    have := P.build x h1 h2 h3 w
    rw [h] at this
    exact this
  have BX : Hid (∀ w1, Bel (w.alloc (.cells #[.int .i64 x.1, .int .i64 x.2.1, .string (tx x.2.2.1), .string (tx x.2.2.2.1), .string (tx x.2.2.2.2)] 25)) w1 → BoxV w1 w.heap.size x) := fun w1 k => (boxV_new w x).bel k
  clear P h h1 h2 h3
  obtain ⟨xc, xb, xh, xd, xt⟩ := x
  simp only at BX
  go_enter Try.func6, Try.ntmps6
  go_wp2_with fail
  refine (AW.out _).mono ?_
  rintro e w1 ⟨rfl, b1⟩
  have B1 : Hid (Bel w w1) := ((Bel.refl _).alloc _).trans b1
  obtain ⟨⟨c0, c1, c2, c3, c4⟩, _⟩ := BX.out _ b1
  simp only at c0 c1 c2 c3 c4
  clear b1 BX
  go_wp2_with fail
  refine (Q3.out _).mono ?_
  rintro e w2 ⟨rfl, b2⟩
  have B2 : Hid (Bel w w2) := B1.out.trans b2
  clear b2
  go_wp2
  go_ret
  exact ⟨rfl, B2.out⟩

set_option maxRecDepth 8000 in
set_option maxHeartbeats 4000000 in
theorem parts_some (P : ProgW) (x : Wv) (S : List UInt8) (h : build x = some S) (a : Int) (w : World) :
    Calls Try.prog 6 #[wvl x, .int .i64 a] w fun e w' => e = .returned (.bool true) ∧ Bel w w' := by
  have AW : Hid (∀ w, Calls Try.prog 13 #[] w fun e w' => e = .returned (.bool true) ∧ Bel w w') := awake_ok P
  obtain ⟨hS, hp⟩ := build_some h
  obtain ⟨q1, q2, q3⟩ := parts_le hp
  have hle := parse_le hp
  have Q3 : Hid (∀ w, Calls Try.prog 10 #[wvl x] w fun e w' => e = .returned (.tuple #[.string (tx S), .int .i64 0]) ∧ Bel w w') := fun w => by
    have := P.build x (by omega) (by omega) (by omega) w
    rw [h] at this
    exact this
  have QP : Hid (∀ w, Calls Try.prog 8 #[.string (tx S)] w fun e w' => e = .returned (.tuple #[wvl x, .int .i64 0]) ∧ Bel w w') := fun w => by
    have := P.parse (tx S) S rfl (by show S.length ≤ maxLen; unfold maxLen; omega) w
    rw [hp] at this
    exact this
  obtain ⟨K, hK, hk⟩ := place_of a ((S.length : Int) + 1) (by omega) (by omega)
  have hK2 : K ≤ S.length := by omega
  obtain ⟨n, hn⟩ : ∃ n, S.length = n := ⟨_, rfl⟩
  have zS : (tx S).size = n := hn
  rw [hn] at hK hk hK2 hle
  have eH : (tx S).extract 0 K = tx (S.take K) := ba_eq (by rw [ext_mid, List.drop_zero, Nat.sub_zero])
  have eT : (tx S).extract K n = tx (S.drop K) := ba_eq (by rw [ext_mid, List.take_of_length_le (by rw [List.length_drop]; exact Nat.le_of_eq (by rw [hn]))])
  have hv : all (x.1, x.2.1, S.take K, [], S.drop K) = S := by show S.take K ++ ([] ++ S.drop K) = S; simp
  have l1 : (S.take K).length ≤ 4096 := by rw [List.length_take]; omega
  have l2 : (S.drop K).length ≤ 4096 := by rw [List.length_drop]; omega
  obtain ⟨z, hz⟩ : ∃ z : Bool, decide ((x.1, x.2.1, S.take K, ([] : List UInt8), S.drop K) = x) = z := ⟨_, rfl⟩
  have QV : Hid (∀ w, Calls Try.prog 10 #[wvl (x.1, x.2.1, S.take K, [], S.drop K)] w fun e w' => e = .returned (.tuple #[.string (tx (if z then S else [])), .int .i64 (if z then 0 else 2100)]) ∧ Bel w w') := fun w => by
    have := P.build (x.1, x.2.1, S.take K, [], S.drop K) (by show (S.take K).length ≤ _; omega) (Nat.zero_le _) (by show (S.drop K).length ≤ _; omega) w
    have hb : build (x.1, x.2.1, S.take K, [], S.drop K) = if z then some S else none := by
      unfold build
      rw [hv, hp]
      cases z
      · rw [if_neg (fun q => by injection q with q; exact absurd q.symm (of_decide_eq_false hz))]
        rfl
      · rw [if_pos (by rw [of_decide_eq_true hz])]
        rfl
    rw [hb] at this
    cases z
    · exact this
    · exact this
  obtain ⟨SV, hSV⟩ : ∃ SV, (if z then S else []) = SV := ⟨_, rfl⟩
  obtain ⟨ev, hev⟩ : ∃ ev : Int, (if z then (0 : Int) else 2100) = ev := ⟨_, rfl⟩
  rw [hSV, hev] at QV
  have HZ : Hid (z = true ∧ SV = S ∧ ev = 0 ∨ z = false ∧ ev = 2100) := by
    cases z
    · exact .inr ⟨rfl, hev.symm⟩
    · exact .inl ⟨rfl, hSV.symm, hev.symm⟩
  clear hSV hev
  have E1 := fun w => eq_wv x x w
  rw [decide_eq_true (show x = x from rfl)] at E1
  have E2 := fun w => eq_wv (x.1, x.2.1, S.take K, [], S.drop K) x w
  rw [hz] at E2
  have BX : Hid (∀ w1, Bel (w.alloc (.cells #[.int .i64 x.1, .int .i64 x.2.1, .string (tx x.2.2.1), .string (tx x.2.2.2.1), .string (tx x.2.2.2.2)] 25)) w1 → BoxV w1 w.heap.size x) := fun w1 k => (boxV_new w x).bel k
  have SS : (S == S) = true := beq_self_eq_true S
  clear P h hS hp hv hz hn q1 q2 q3
  obtain ⟨xc, xb, xh, xd, xt⟩ := x
  simp only at BX E1 E2 QV
  generalize S.take K = SH at *
  generalize S.drop K = ST at *
  go_enter Try.func6, Try.ntmps6
  go_wp2_with fail
  refine (AW.out _).mono ?_
  rintro e w1 ⟨rfl, b1⟩
  have B1 : Hid (Bel w w1) := ((Bel.refl _).alloc _).trans b1
  have X1 : Hid (BoxV w1 w.heap.size (xc, xb, xh, xd, xt)) := BX.out _ b1
  obtain ⟨⟨c0, c1, c2, c3, c4⟩, _⟩ := BX.out _ b1
  simp only at c0 c1 c2 c3 c4
  clear b1 BX
  go_wp2_with fail
  refine (Q3.out _).mono ?_
  rintro e w2 ⟨rfl, b2⟩
  have B2 : Hid (Bel w w2) := B1.out.trans b2
  have X2 : Hid (BoxV w2 w.heap.size (xc, xb, xh, xd, xt)) := X1.out.bel b2
  clear b2 X1 c0 c1 c2 c3 c4
  obtain ⟨⟨c0, c1, c2, c3, c4⟩, _⟩ := X2.out
  simp only at c0 c1 c2 c3 c4
  go_wp2_with fail
  refine (num_ok _ _).mono ?_
  rintro e w3 ⟨rfl, rfl⟩
  go_upto_region 11 with fail
  have VX : Hid (BoxV (w3.alloc (.cells #[.int .i64 xc, .int .i64 xb, .string (tx SH), .string ⟨#[]⟩, .string (tx ST)] 25)) w3.heap.size (xc, xb, SH, [], ST)) := boxV_new w3 (xc, xb, SH, [], ST)
  have B3 : Hid (Bel w (w3.alloc (.cells #[.int .i64 xc, .int .i64 xb, .string (tx SH), .string ⟨#[]⟩, .string (tx ST)] 25))) := B2.out.alloc _
  have X3 : Hid (BoxV (w3.alloc (.cells #[.int .i64 xc, .int .i64 xb, .string (tx SH), .string ⟨#[]⟩, .string (tx ST)] 25)) w.heap.size (xc, xb, xh, xd, xt)) := X2.out.bel ((Bel.refl _).alloc _)
  clear X2 c0 c1 c2 c3 c4 B2
  go_wp2_with fail
  refine (QV.out _).mono ?_
  rintro e w4 ⟨rfl, b4⟩
  have B4 : Hid (Bel w w4) := B3.out.trans b4
  have X4 : Hid (BoxV w4 w.heap.size (xc, xb, xh, xd, xt)) := X3.out.bel b4
  have V4 : Hid (BoxV w4 w3.heap.size (xc, xb, SH, [], ST)) := VX.out.bel b4
  obtain ⟨g7, hg7⟩ : ∃ g, w3.heap.size = g := ⟨_, rfl⟩
  rw [hg7] at V4
  rw [hg7]
  obtain ⟨g0, hg0⟩ : ∃ g, w.heap.size = g := ⟨_, rfl⟩
  rw [hg0] at X4
  rw [hg0]
  clear b4 B3 X3 VX hg7 hg0
  go_wp2_with fail
  refine (QP.out _).mono ?_
  rintro e w5 ⟨rfl, b5⟩
  have B5 : Hid (Bel w (w5.alloc (.cells #[.int .i64 xc, .int .i64 xb, .string (tx xh), .string (tx xd), .string (tx xt)] 25))) := (B4.out.trans b5).alloc _
  obtain ⟨⟨c0, c1, c2, c3, c4⟩, _⟩ := (X4.out.bel b5).bel ((Bel.refl w5).alloc (.cells #[.int .i64 xc, .int .i64 xb, .string (tx xh), .string (tx xd), .string (tx xt)] 25))
  obtain ⟨⟨d0, d1, d2, d3, d4⟩, _⟩ := (V4.out.bel b5).bel ((Bel.refl w5).alloc (.cells #[.int .i64 xc, .int .i64 xb, .string (tx xh), .string (tx xd), .string (tx xt)] 25))
  simp only at c0 c1 c2 c3 c4 d0 d1 d2 d3 d4
  clear b5 B4 X4 V4 QV QP Q3 AW
  rcases HZ.out with ⟨rfl, rfl, rfl⟩ | ⟨rfl, rfl⟩
  · clear HZ
    have E2b : ∀ w, (Op.equalIn 10000 25 (wvl (xc, xb, SH, [], ST)) (wvl (xc, xb, xh, xd, xt))).run Try.prog w = .ok true w := E2
    clear E2
    go_wp2_with fail
    refine (num_ok _ _).mono ?_
    rintro e w7 ⟨rfl, rfl⟩
    go_wp2_with fail
    refine (num_ok _ _).mono ?_
    rintro e w7 ⟨rfl, rfl⟩
    go_wp2
    go_ret
    exact ⟨rfl, B5.out⟩
  · clear HZ
    have E2b : ∀ w, (Op.equalIn 10000 25 (wvl (xc, xb, SH, [], ST)) (wvl (xc, xb, xh, xd, xt))).run Try.prog w = .ok false w := E2
    clear E2
    go_wp2_with fail
    refine (num_ok _ _).mono ?_
    rintro e w7 ⟨rfl, rfl⟩
    go_wp2_with fail
    refine (num_ok _ _).mono ?_
    rintro e w7 ⟨rfl, rfl⟩
    go_wp2
    go_ret
    exact ⟨rfl, B5.out⟩

theorem waveparts_walk (P : ProgW) (x : Wv) (h1 : x.2.2.1.length ≤ 140737488351232) (h2 : x.2.2.2.1.length ≤ 140737488351232) (h3 : x.2.2.2.2.length ≤ 140737488351232) (a : Int) (w : World) :
    Calls Try.prog 6 #[wvl x, .int .i64 a] w fun e w' => e = .returned (.bool true) ∧ Bel w w' := by
  cases h : build x with
  | none => exact parts_none P x h1 h2 h3 h a w
  | some S => exact parts_some P x S h a w

end Go.Proofs.Ythbjjjpleongbaa.Wav
