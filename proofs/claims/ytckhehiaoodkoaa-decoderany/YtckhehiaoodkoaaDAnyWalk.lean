/-
  The walk of DecoderAny: it answers true for any text and any row of ints, a nil one too. Conditions: the text is no longer than an int can tell; the row is there.
-/
import Derived.Test.YtckhehiaoodkoaaDCell
namespace Go.Proofs.Ytckhehiaoodkoaa.Coder
open Go.RowKit Go.Proofs.Ytckhehiaoodkoaa.Num
set_option linter.unusedVariables false
attribute [local go_sem ↓] Go.wp_at_zero Go.wp_at_succ

set_option maxRecDepth 20000 in
set_option maxHeartbeats 1000000 in
theorem any_long (s : ByteArray) (a1 : Option Addr) (n1 c1' : Nat) (hs : s.size ≤ maxLen) (hn1 : n1 ≤ maxLen) (hx : 65536 < s.size) (w : World) :
    Calls Try.prog 7 #[.string s, .slice a1 n1 c1'] w fun e w' => e = .returned (.bool true) ∧ Bel w w' := by
  have q1 := new_ok s hs
  unfold maxLen at hn1 hs
  rw [newAns, if_neg (by omega)] at q1
  have Q1 : Hid (∀ w, Calls Try.prog 10 #[.string s] w fun e w' => e = .returned (.tuple #[.agg #[.int .i64 0, .int .i64 0, .int .i64 0, .string (⟨#[]⟩), .int .i64 0], .int .i64 500]) ∧ Bel w w') := q1
  have hd : decide (65536 < (s.size : Int)) = true := by simp; omega
  clear q1
  go_enter Try.func7, Try.ntmps7
  go_wp2_with fail
  refine (awake_true _).mono ?_
  rintro e w1 ⟨rfl, b1⟩
  have HB1 : Hid (Bel w w1) := b1
  clear b1
  go_wp2_with fail
  refine (Q1.out _).mono ?_
  rintro e w2 ⟨rfl, b2⟩
  have HB2 : Hid (Bel w w2) := HB1.out.trans b2
  clear b2 HB1
  go_wp2_with fail
  refine (num_ok _ _).mono ?_
  rintro e w4 ⟨rfl, rfl⟩
  go_wp2
  go_ret
  exact ⟨rfl, HB2.out.alloc _⟩

set_option maxRecDepth 20000 in
set_option maxHeartbeats 3000000 in
theorem any_rows (s : ByteArray) (a1 : Option Addr) (n1 c1' : Nat) (hs : s.size ≤ maxLen) (hn1 : n1 ≤ maxLen) (hx : s.size ≤ 65536) (z1 : Nat → Int) (m : Nat) (hm1 : m ≤ n1) (hm2 : m ≤ 60) (hm : m = n1 ∨ m = 60) (w : World)
    (hz1 : ∀ i, i < m → ∃ x, a1 = some x ∧ w.cell? (x.add i) = some (.int .i64 (z1 i))) :
    Calls Try.prog 7 #[.string s, .slice a1 n1 c1'] w fun e w' => e = .returned (.bool true) ∧ Bel w w' := by
  have q1 := new_ok s hs
  unfold maxLen at hn1 hs
  rw [newAns, if_pos (by omega)] at q1
  have HPS : Hid (∀ i : Nat, 0 ≤ bits .and .i64 (z1 i) 4094 ∧ bits .and .i64 (z1 i) 4094 ≤ 4094) := fun i => and4094 _
  have HZ1 : Hid (∀ i, i < m → ∃ x, a1 = some x ∧ w.cell? (x.add i) = some (.int .i64 (z1 i))) := hz1
  have HW0 : Hid (0 ≤ win s 0 ∧ win s 0 ≤ 4294967295) := win_in s 0
  have Q1 : Hid (∀ w, Calls Try.prog 10 #[.string s] w fun e w' => e = .returned (.tuple #[.agg #[.int .i64 0, .int .i64 4294967295, .int .i64 (win s 0), .string s, .int .i64 4], .int .i64 0]) ∧ Bel w w') := q1
  clear q1 hz1
  go_enter Try.func7, Try.ntmps7
  go_wp2_with fail
  refine (awake_true _).mono ?_
  rintro e w1 ⟨rfl, b1⟩
  have HB1 : Hid (Bel w w1) := b1
  clear b1
  go_wp2_with fail
  refine (Q1.out _).mono ?_
  rintro e w2 ⟨rfl, b2⟩
  have HB2 : Hid (Bel w w2) := HB1.out.trans b2
  clear b2 HB1
  go_wp2_with fail
  refine (num_ok _ _).mono ?_
  rintro e w4 ⟨rfl, rfl⟩
  go_wp2_with fail
  refine (newCoder_ok _).mono ?_
  rintro e w3 ⟨rfl, b3⟩
  have hAB : w2.heap.size < w3.heap.size := block_lt_of_cell (b3.keep (a := ⟨w2.heap.size, 0, none⟩) (v := .int .i64 0) (by simp))
  have HDA : Hid (DD w3 w2.heap.size 0 4294967295 (win s 0) s 4) := (DD.made w2 _ _ _ _ _).keep b3
  have HB3 : Hid (Bel w w3) := (HB2.out.alloc _).trans b3
  have hwD : w.heap.size ≤ w2.heap.size := HB2.out.size
  clear b3 HB2
  go_wp2_with fail
  go_loopw [8] (fun i wr => ∃ (j : Nat) (os : List UInt8) (l h : Int), j ≤ m ∧ i = .int .i64 (j : Int) ∧ os.length ≤ 4 * j ∧ Bel w wr ∧ Between l h ∧ l ≤ win s os.length ∧ win s os.length ≤ h ∧ (∀ i, i < os.length → ((os.getD i 0).toNat : Int) = bz s i) ∧ DD wr w2.heap.size l h (win s os.length) s ((os.length + 4 : Nat) : Int) ∧ CC wr w3.heap.size l h ⟨os.toArray⟩) (fun i _ => m - (intOf i).toNat)
  case atStart =>
    exact ⟨0, [], 0, 4294967295, Nat.zero_le _, rfl, Nat.le_refl _, HB3.out.alloc _, ⟨by decide, by decide, by decide⟩, HW0.out.1, HW0.out.2, fun i hi => absurd hi (Nat.not_lt_zero _), HDA.out.keep ((Bel.refl _).alloc _), CC.made w3 0 4294967295 ⟨#[]⟩⟩
  case round =>
    obtain ⟨j, os, l, h, hj, rfl, hq, hb, hbet, hl1, hl2, hown, CD, CC'⟩ := hrel
    have hwC : w.heap.size ≤ w3.heap.size := HB3.out.size
    have HB : Hid (Bel w wr) := hb
    have HDD : Hid (DD wr w2.heap.size l h (win s os.length) s ((os.length + 4 : Nat) : Int)) := CD
    have HCC : Hid (CC wr w3.heap.size l h ⟨os.toArray⟩) := CC'
    clear hb CD CC' HB3 HDA
    by_cases hlt : j < m
    · have i0 : (j : Int) < (n1 : Int) := by omega
      have i2 : (j : Int) < 60 := by omega
      obtain ⟨x1, rfl, e1⟩ := HZ1.out j hlt
      replace e1 := HB.out.keep e1
      obtain ⟨v2, v3⟩ := HPS.out j
      obtain ⟨v1, m2⟩ : ∃ v1, bits .and .i64 (z1 j) 4094 = v1 := ⟨_, rfl⟩
      rw [m2] at v2 v3
      have mw : IntKind.i64.wrap (1 + v1) = 1 + v1 := wraps_i64 _ (by omega) (by omega)
      obtain ⟨cs, u, v, he, hd1, g1, g2, g3, g4, g5⟩ := dec_step (p := 1 + v1) hbet hl1 hl2 hx (by omega) ⟨by omega, by omega⟩
      have hb01 : bitOf l h (win s os.length) (1 + v1) = 0 ∨ bitOf l h (win s os.length) (1 + v1) = 1 := by unfold bitOf; split <;> simp
      have hd3 := cod_step (os := os) hbet (by omega) hb01 (show 1 ≤ 1 + v1 ∧ 1 + v1 ≤ 4095 from ⟨by omega, by omega⟩) he
      have q1 := bit_ok l h (win s os.length) (1 + v1) s ((os.length + 4 : Nat) : Int) (by unfold maxLen; omega)
      have q2 := may_ok u v (win s (os.length + cs.length)) ((os.length + cs.length + 4 : Nat) : Int) s (by unfold maxLen; omega)
      rw [show dmayB u v (win s (os.length + cs.length)) s ((os.length + cs.length + 4 : Nat) : Int) = true from decide_eq_true ⟨g1, g2, g3, hx, by omega, by omega⟩] at q2
      have q3 := codeBit_ok l h (bitOf l h (win s os.length) (1 + v1)) (1 + v1) ⟨os.toArray⟩ (by rw [mk_size]; unfold maxLen; omega)
      rw [hd1] at q1
      rw [hd3] at q3
      have hlen : (os ++ cs).length = os.length + cs.length := List.length_append
      have HR : Hid ((os ++ cs).length ≤ 4 * (j + 1) ∧ Between u v ∧ u ≤ win s (os ++ cs).length ∧ win s (os ++ cs).length ≤ v ∧ ∀ i, i < (os ++ cs).length → (((os ++ cs).getD i 0).toNat : Int) = bz s i) := by
        show _ ∧ _
        rw [hlen]
        refine ⟨by omega, g1, g2, g3, ?_⟩
        intro i hi
        by_cases hio : i < os.length
        · rw [List.getD_eq_getElem?_getD, List.getElem?_append_left hio, ← List.getD_eq_getElem?_getD]
          exact hown i hio
        · have hg := g5 (i - os.length) (by omega)
          rw [List.getD_eq_getElem?_getD, List.getElem?_append_right (by omega), ← List.getD_eq_getElem?_getD, hg, show os.length + (i - os.length) = i by omega]
      rw [← hlen] at q1 q2
      obtain ⟨c0, c1, c2, _, _, _⟩ := HCC.out
      obtain ⟨d0, d1, d2, d3, d4, _, _, _, _, _⟩ := HDD.out
      obtain ⟨t', ht'⟩ : ∃ t' : ByteArray, t' = ⟨(os ++ cs).toArray⟩ := ⟨_, rfl⟩
      obtain ⟨x', hx'⟩ : ∃ x', x' = win s (os ++ cs).length := ⟨_, rfl⟩
      obtain ⟨a', ha'⟩ : ∃ a' : Int, a' = (((os ++ cs).length + 4 : Nat) : Int) := ⟨_, rfl⟩
      obtain ⟨t, ht⟩ : ∃ t : ByteArray, t = ⟨os.toArray⟩ := ⟨_, rfl⟩
      obtain ⟨x, hxx⟩ : ∃ x, x = win s os.length := ⟨_, rfl⟩
      obtain ⟨a, ha⟩ : ∃ a : Int, a = ((os.length + 4 : Nat) : Int) := ⟨_, rfl⟩
      have HUV : Hid (t = ⟨os.toArray⟩ ∧ t' = ⟨(os ++ cs).toArray⟩ ∧ x = win s os.length ∧ x' = win s (os ++ cs).length ∧ a = ((os.length + 4 : Nat) : Int) ∧ a' = (((os ++ cs).length + 4 : Nat) : Int)) := ⟨ht, ht', hxx, hx', ha, ha'⟩
      rw [← hx', ← ha'] at q2
      rw [← hx', ← ha', ← hxx, ← ha] at q1
      rw [← hxx, ← ht, ← ht'] at q3
      rw [← ht] at c2 HCC
      rw [← hxx] at d2 HDD
      rw [← ha] at d4 HDD
      rw [← hxx] at hb01
      generalize bitOf l h x (1 + v1) = bb at *
      clear hd1 hd3 g1 g2 g3 g4 g5 hx' ha' ht' ht hxx ha hl1 hl2 hbet hown he hlen
      rcases hb01 with hbb | hbb
      · subst hbb
        have Q1 : Hid (∀ w, Calls Try.prog 8 #[.agg #[.int .i64 l, .int .i64 h, .int .i64 x, .string s, .int .i64 a], .int .i64 (1 + v1)] w fun e w' => e = .returned (.tuple #[.agg #[.int .i64 u, .int .i64 v, .int .i64 x', .string s, .int .i64 a'], .int .i64 0, .int .i64 0]) ∧ Bel w w') := q1
        have Q2 : Hid (∀ w, Calls Try.prog 13 #[.agg #[.int .i64 u, .int .i64 v, .int .i64 x', .string s, .int .i64 a']] w fun e w' => e = .returned (.bool true) ∧ Bel w w') := q2
        have Q3 : Hid (∀ w, Calls Try.prog 17 #[.agg #[.int .i64 l, .int .i64 h, .string t], .int .i64 0, .int .i64 (1 + v1)] w fun e w' => e = .returned (.tuple #[.agg #[.int .i64 u, .int .i64 v, .string t'], .int .i64 0]) ∧ Bel w w') := q3
        clear q1 q2 q3
        go_wp2_with fail
        with_reducible refine (Q1.out _).mono ?_
        rintro e w4 ⟨rfl, b4⟩
        have X := DD.made w4 u v x' s a'
        have BW := b4.alloc (.cells #[.int .i64 u, .int .i64 v, .int .i64 x', .string s, .int .i64 a'] 23)
        have KC := HCC.out.keep BW
        have KD := HDD.out.keep BW
        have hX : w3.heap.size < w4.heap.size := block_lt_of_cell (b4.keep HCC.out.c0)
        have hX2 : w2.heap.size < w4.heap.size := block_lt_of_cell (b4.keep HDD.out.c0)
        have HBW : Hid (Bel w (w4.alloc (.cells #[.int .i64 u, .int .i64 v, .int .i64 x', .string s, .int .i64 a'] 23))) := HB.out.trans BW
        have HX : Hid (DD (w4.alloc (.cells #[.int .i64 u, .int .i64 v, .int .i64 x', .string s, .int .i64 a'] 23)) w4.heap.size u v x' s a') := X
        have HKC : Hid (CC (w4.alloc (.cells #[.int .i64 u, .int .i64 v, .int .i64 x', .string s, .int .i64 a'] 23)) w3.heap.size l h t) := KC
        have HKD : Hid (DD (w4.alloc (.cells #[.int .i64 u, .int .i64 v, .int .i64 x', .string s, .int .i64 a'] 23)) w2.heap.size l h x s a) := KD
        clear BW b4 HB HCC HDD c0 c1 c2 d0 d1 d2 d3 d4 e1 X KC KD
        go_wp2_with fail
        refine (num_ok _ _).mono ?_
        rintro e w5 ⟨rfl, rfl⟩
        go_wp2_with fail
        with_reducible refine (Q2.out _).mono ?_
        rintro e w5 ⟨rfl, b5⟩
        obtain ⟨C0, C1, C2, _, _, _⟩ := HKC.out.keep b5
        go_wp2_with fail
        with_reducible refine (Q3.out _).mono ?_
        rintro e w6 ⟨rfl, b6⟩
        have BW := b5.trans b6
        have X := HX.out.keep BW
        have KC := HKC.out.keep BW
        have KD := HKD.out.keep BW
        have HBX : Hid (Bel w w6) := HBW.out.trans BW
        have hY1 : w4.heap.size < w6.heap.size := block_lt_of_cell X.c0
        have hY2 : w3.heap.size < w6.heap.size := block_lt_of_cell KC.c0
        have hY3 : w2.heap.size < w6.heap.size := block_lt_of_cell KD.c0
        have HKC2 : Hid (CC w6 w3.heap.size l h t) := KC
        have HKD2 : Hid (DD w6 w2.heap.size l h x s a) := KD
        clear b5 b6 BW HX HKC HKD C0 C1 C2 HBW
        generalize w4.heap.size = NX at *
        obtain ⟨X0, X1, X2', X3, X4, _, _, _, _, _⟩ := X
        obtain ⟨C0, C1, C2, F0, F1, F2⟩ := KC
        obtain ⟨E0, E1, E2, E3, E4, G0, G1, G2, G3, G4⟩ := KD
        have n1' : w3.heap.size ≠ NX := by omega
        have n2' : w2.heap.size ≠ NX := by omega
        have n3' : w2.heap.size ≠ w3.heap.size := by omega
        go_wp2
        go_roundw
        case rel =>
          obtain ⟨ht, ht', hx, hx', ha, ha'⟩ := HUV.out
          obtain ⟨r1, r2, r3, r4, r5⟩ := HR.out
          subst ht' hx' ha'
          exact ⟨j + 1, os ++ cs, u, v, by omega, by go_num, r1, (bel5 (((HBX.out.setCell hwC _).setCell hwC _).setCell hwC _) hwD _ _ _ _ _).alloc _, r2, r3, r4, r5, ((HKD2.out.away3 n3').set _ _ _ _ _).keep ((Bel.refl _).alloc _), ((HKC2.out.set _ _ _).away (Ne.symm n3')).keep ((Bel.refl _).alloc _)⟩
        case measure => simp [intOf]; omega
      · subst hbb
        have Q1 : Hid (∀ w, Calls Try.prog 8 #[.agg #[.int .i64 l, .int .i64 h, .int .i64 x, .string s, .int .i64 a], .int .i64 (1 + v1)] w fun e w' => e = .returned (.tuple #[.agg #[.int .i64 u, .int .i64 v, .int .i64 x', .string s, .int .i64 a'], .int .i64 1, .int .i64 0]) ∧ Bel w w') := q1
        have Q2 : Hid (∀ w, Calls Try.prog 13 #[.agg #[.int .i64 u, .int .i64 v, .int .i64 x', .string s, .int .i64 a']] w fun e w' => e = .returned (.bool true) ∧ Bel w w') := q2
        have Q3 : Hid (∀ w, Calls Try.prog 17 #[.agg #[.int .i64 l, .int .i64 h, .string t], .int .i64 1, .int .i64 (1 + v1)] w fun e w' => e = .returned (.tuple #[.agg #[.int .i64 u, .int .i64 v, .string t'], .int .i64 0]) ∧ Bel w w') := q3
        clear q1 q2 q3
        go_wp2_with fail
        with_reducible refine (Q1.out _).mono ?_
        rintro e w4 ⟨rfl, b4⟩
        have X := DD.made w4 u v x' s a'
        have BW := b4.alloc (.cells #[.int .i64 u, .int .i64 v, .int .i64 x', .string s, .int .i64 a'] 23)
        have KC := HCC.out.keep BW
        have KD := HDD.out.keep BW
        have hX : w3.heap.size < w4.heap.size := block_lt_of_cell (b4.keep HCC.out.c0)
        have hX2 : w2.heap.size < w4.heap.size := block_lt_of_cell (b4.keep HDD.out.c0)
        have HBW : Hid (Bel w (w4.alloc (.cells #[.int .i64 u, .int .i64 v, .int .i64 x', .string s, .int .i64 a'] 23))) := HB.out.trans BW
        have HX : Hid (DD (w4.alloc (.cells #[.int .i64 u, .int .i64 v, .int .i64 x', .string s, .int .i64 a'] 23)) w4.heap.size u v x' s a') := X
        have HKC : Hid (CC (w4.alloc (.cells #[.int .i64 u, .int .i64 v, .int .i64 x', .string s, .int .i64 a'] 23)) w3.heap.size l h t) := KC
        have HKD : Hid (DD (w4.alloc (.cells #[.int .i64 u, .int .i64 v, .int .i64 x', .string s, .int .i64 a'] 23)) w2.heap.size l h x s a) := KD
        clear BW b4 HB HCC HDD c0 c1 c2 d0 d1 d2 d3 d4 e1 X KC KD
        go_wp2_with fail
        refine (num_ok _ _).mono ?_
        rintro e w5 ⟨rfl, rfl⟩
        go_wp2_with fail
        with_reducible refine (Q2.out _).mono ?_
        rintro e w5 ⟨rfl, b5⟩
        obtain ⟨C0, C1, C2, _, _, _⟩ := HKC.out.keep b5
        go_wp2_with fail
        with_reducible refine (Q3.out _).mono ?_
        rintro e w6 ⟨rfl, b6⟩
        have BW := b5.trans b6
        have X := HX.out.keep BW
        have KC := HKC.out.keep BW
        have KD := HKD.out.keep BW
        have HBX : Hid (Bel w w6) := HBW.out.trans BW
        have hY1 : w4.heap.size < w6.heap.size := block_lt_of_cell X.c0
        have hY2 : w3.heap.size < w6.heap.size := block_lt_of_cell KC.c0
        have hY3 : w2.heap.size < w6.heap.size := block_lt_of_cell KD.c0
        have HKC2 : Hid (CC w6 w3.heap.size l h t) := KC
        have HKD2 : Hid (DD w6 w2.heap.size l h x s a) := KD
        clear b5 b6 BW HX HKC HKD C0 C1 C2 HBW
        generalize w4.heap.size = NX at *
        obtain ⟨X0, X1, X2', X3, X4, _, _, _, _, _⟩ := X
        obtain ⟨C0, C1, C2, F0, F1, F2⟩ := KC
        obtain ⟨E0, E1, E2, E3, E4, G0, G1, G2, G3, G4⟩ := KD
        have n1' : w3.heap.size ≠ NX := by omega
        have n2' : w2.heap.size ≠ NX := by omega
        have n3' : w2.heap.size ≠ w3.heap.size := by omega
        go_wp2
        go_roundw
        case rel =>
          obtain ⟨ht, ht', hx, hx', ha, ha'⟩ := HUV.out
          obtain ⟨r1, r2, r3, r4, r5⟩ := HR.out
          subst ht' hx' ha'
          exact ⟨j + 1, os ++ cs, u, v, by omega, by go_num, r1, (bel5 (((HBX.out.setCell hwC _).setCell hwC _).setCell hwC _) hwD _ _ _ _ _).alloc _, r2, r3, r4, r5, ((HKD2.out.away3 n3').set _ _ _ _ _).keep ((Bel.refl _).alloc _), ((HKC2.out.set _ _ _).away (Ne.symm n3')).keep ((Bel.refl _).alloc _)⟩
        case measure => simp [intOf]; omega
    · have hnn : ¬ j < m := hlt
      obtain ⟨c0, c1, c2, _, _, _⟩ := HCC.out
      obtain ⟨d0, d1, d2, d3, d4, _, _, _, _, _⟩ := HDD.out
      have hsz := mk_size os
      have hby : ∀ i, i < os.length → bz ⟨os.toArray⟩ i = bz s i := fun i hi => by
        rw [← hown i hi]
        rfl
      have hat : ((((os.length + 4 : Nat) : Int)) == 4 + (os.length : Int)) = true := by simp; omega
      obtain ⟨n, hn⟩ : ∃ n, n = os.length := ⟨_, rfl⟩
      rw [← hn] at hsz hby hq
      rw [show ((os.length : Nat) : Int) = (n : Int) by rw [hn]] at hat
      generalize (⟨os.toArray⟩ : ByteArray) = t at *
      generalize ((os.length + 4 : Nat) : Int) = a at *
      generalize win s os.length = x at *
      have HBY : Hid (∀ i, i < n → bz t i = bz s i) := hby
      clear HCC HDD hown hby hn hl1 hl2 hbet
      by_cases a0 : j < n1
      · have i0 : (j : Int) < (n1 : Int) := by omega
        have i2 : decide ((j : Int) < 60) = false := by simp; omega
        go_wp2_with fail
        go_loopw [15] (fun i wx => ∃ (k : Nat), k ≤ n ∧ i = .int .i64 (k : Int) ∧ wx = wr) (fun i _ => n - (intOf i).toNat)
        case atStart => exact ⟨0, Nat.zero_le _, rfl, rfl⟩
        case round =>
          obtain ⟨k, hk, rfl, hwx⟩ := hrel
          subst hwx
          by_cases hkn : k < n
          · have j0 : decide ((k : Int) < (t.size : Int)) = true := by simp; omega
            have hi2 := idx t k (by omega)
            rw [HBY.out k hkn] at hi2
            by_cases hks : k < s.size
            · have j1 : decide ((k : Int) < (s.size : Int)) = true := by simp; omega
              have hi1 := idx s k hks
              generalize bz s k = bb at *
              go_wp2
              go_roundw
              case rel => exact ⟨k + 1, by omega, by go_num, by first | rfl | trivial⟩
              case measure => simp [intOf]; omega
            · have j1 : decide ((k : Int) < (s.size : Int)) = false := by simp; omega
              rw [bz_out s k (by omega)] at hi2
              go_wp2
              go_roundw
              case rel => exact ⟨k + 1, by omega, by go_num, by first | rfl | trivial⟩
              case measure => simp [intOf]; omega
          · have j0 : decide ((k : Int) < (t.size : Int)) = false := by simp; omega
            go_wp2
            go_ret
            first
              | exact ⟨rfl, HB.out⟩
              | exact ⟨congrArg (fun v => Ending.returned (.bool v)) hat, HB.out⟩
      · have i0 : decide ((j : Int) < (n1 : Int)) = false := by simp; omega
        go_wp2_with fail
        go_loopw [15] (fun i wx => ∃ (k : Nat), k ≤ n ∧ i = .int .i64 (k : Int) ∧ wx = wr) (fun i _ => n - (intOf i).toNat)
        case atStart => exact ⟨0, Nat.zero_le _, rfl, rfl⟩
        case round =>
          obtain ⟨k, hk, rfl, hwx⟩ := hrel
          subst hwx
          by_cases hkn : k < n
          · have j0 : decide ((k : Int) < (t.size : Int)) = true := by simp; omega
            have hi2 := idx t k (by omega)
            rw [HBY.out k hkn] at hi2
            by_cases hks : k < s.size
            · have j1 : decide ((k : Int) < (s.size : Int)) = true := by simp; omega
              have hi1 := idx s k hks
              generalize bz s k = bb at *
              go_wp2
              go_roundw
              case rel => exact ⟨k + 1, by omega, by go_num, by first | rfl | trivial⟩
              case measure => simp [intOf]; omega
            · have j1 : decide ((k : Int) < (s.size : Int)) = false := by simp; omega
              rw [bz_out s k (by omega)] at hi2
              go_wp2
              go_roundw
              case rel => exact ⟨k + 1, by omega, by go_num, by first | rfl | trivial⟩
              case measure => simp [intOf]; omega
          · have j0 : decide ((k : Int) < (t.size : Int)) = false := by simp; omega
            go_wp2
            go_ret
            first
              | exact ⟨rfl, HB.out⟩
              | exact ⟨congrArg (fun v => Ending.returned (.bool v)) hat, HB.out⟩

/-- The whole. -/
theorem any_walk (s : ByteArray) (a1 : Option Addr) (len1 cap1 : Nat) (z1 : List Int) (w : World) (hs : s.size ≤ maxLen)
    (w1 : (a1 = none ∧ len1 = 0 ∧ cap1 = 0 ∧ z1 = []) ∨ ∃ x, a1 = some x ∧ len1 ≤ cap1 ∧ cap1 ≤ maxLen ∧ z1.length = cap1 ∧ (∀ i, i < z1.length → w.cell? (x.add i) = some (.int .i64 (z1.getD i 0))) ∧ ∀ n ∈ z1, (Lit.int .i64 n).wf = true) :
    Calls Try.prog 7 #[.string s, .slice a1 len1 cap1] w fun e w' => e = .returned (.bool true) ∧ Bel w w' := by
  have hn : len1 ≤ maxLen := by
    rcases w1 with ⟨_, rfl, _⟩ | ⟨x, _, h, h', _⟩
    · exact Nat.zero_le _
    · omega
  by_cases h1 : 65536 < s.size
  · exact any_long s a1 len1 cap1 hs hn h1 w
  · refine any_rows s a1 len1 cap1 hs hn (by omega) (fun i => z1.getD i 0) (min len1 60) (by omega) (by omega) (by omega) w ?_
    intro i hi
    rcases w1 with ⟨_, rfl, _⟩ | ⟨x, hx, h, h', hl, hc, _⟩
    · omega
    · exact ⟨x, hx, hc i (by omega)⟩

end Go.Proofs.Ytckhehiaoodkoaa.Coder
