/-
  ContextRanges, walked: it answers true for every three ints. No condition.
-/
import Derived.Test.YthphgndebcnahaaXKeep
namespace Go.Proofs.Ythphgndebcnahaa.Ctx
open Go.RowKit Go.Proofs.Ythphgndebcnahaa.Mod Go.Proofs.Ythphgndebcnahaa.Ints Go.Proofs.Ythphgndebcnahaa.Num Go.Proofs.Ythphgndebcnahaa.Gam
set_option linter.unusedVariables false

theorem ones_rep (k : Nat) : ones (List.replicate k 1) = k := ones_is _ k (by simp) (fun i hi => by simp [List.getD_eq_getElem?_getD, hi]) (.inl (by simp))

/-- The bits with which m of the last ones are told. -/
def row (k m : Nat) : List Int := (List.replicate k 1 ++ [0]) ++ List.replicate m 1
theorem row_zero (k : Nat) : List.replicate k (1 : Int) ++ [0] = row k 0 := by simp [row]
theorem row_succ (k m : Nat) : row k m ++ [1] = row k (m + 1) := by
  unfold row
  rw [List.append_assoc, rep_snoc]
theorem row_length (k m : Nat) : (row k m).length = k + 1 + m := by simp [row]; omega
theorem row_get_one (k m i : Nat) (h : i < k) : (row k m).getD i 0 = 1 := by
  unfold row
  rw [List.append_assoc, List.getD_eq_getElem?_getD, List.getElem?_append_left (by simpa using h)]
  simp [h]
theorem row_get_mid (k m : Nat) : (row k m).getD k 0 = 0 := by
  unfold row
  rw [List.append_assoc, List.getD_eq_getElem?_getD, List.getElem?_append_right (by simp)]
  simp
theorem row_get_last (k m i : Nat) (h : i < m) : (row k m).getD (k + 1 + i) 0 = 1 := by
  unfold row
  rw [List.getD_eq_getElem?_getD, List.getElem?_append_right (by simp)]
  simp [h]
theorem row_bits (k m : Nat) : Bits01 (row k m) := fun i hi => by
  rw [row_length] at hi
  rcases Nat.lt_trichotomy i k with q | q | q
  · exact .inr (row_get_one k m i q)
  · subst q; exact .inl (row_get_mid i m)
  · obtain ⟨t, rfl⟩ : ∃ t, i = k + 1 + t := ⟨i - (k + 1), by omega⟩
    exact .inr (row_get_last k m t (by omega))
theorem ones_row (k m : Nat) : ones (row k m) = k := first0 (row_bits k m) k (by rw [row_length]; omega) (row_get_mid k m) (fun i hi => by rw [row_get_one k m i hi]; decide)

theorem up_is (x : Int) (h : x ≤ 31) : upto31 x = x := if_pos h

theorem c_ones (b k : Nat) (hb : b ≤ 31) (hk : k ≤ 15) : c0 (List.replicate k 1) = k ∧ c1 b (List.replicate k 1) = 2 * (b : Int) ∧ c2 (List.replicate k 1) = (k : Int) + (if 0 < k then 32 else 0) := by
  have h0 : has0 (List.replicate k 1) = false := decide_eq_false (by rw [ones_rep]; simp)
  have h1 : last1 (List.replicate k 1) = decide (0 < k) := by
    unfold last1
    by_cases q : 0 < k
    · rw [decide_eq_true q, decide_eq_true]
      refine ⟨by simpa using q, ?_⟩
      rw [List.length_replicate, List.getD_eq_getElem?_getD, List.getElem?_replicate, if_pos (by omega)]
      rfl
    · rw [decide_eq_false q, decide_eq_false]
      intro h
      exact q (by simpa using h.1)
  unfold c0 c1 c2
  rw [h0, h1, ones_rep, up_is k (by omega), up_is b (by omega), List.length_replicate, up_is k (by omega)]
  refine ⟨by simp [oneB], by simp [oneB], ?_⟩
  by_cases q : 0 < k <;> simp [oneB, q]

theorem c_row (b k m : Nat) (hb : b ≤ 31) (hk : k ≤ 15) (hm : m ≤ 7) : c0 (row k m) = (k : Int) + 32 ∧ c1 b (row k m) = 2 * (b : Int) + 1 ∧ c2 (row k m) = (k : Int) + 1 + m + (if 0 < m then 32 else 0) := by
  have h0 : has0 (row k m) = true := decide_eq_true (by rw [ones_row, row_length]; omega)
  have h1 : last1 (row k m) = decide (0 < m) := by
    unfold last1
    rw [row_length]
    by_cases q : 0 < m
    · rw [decide_eq_true q, decide_eq_true]
      refine ⟨by omega, ?_⟩
      have e : k + 1 + m - 1 = k + 1 + (m - 1) := by omega
      rw [e]
      exact row_get_last k m _ (by omega)
    · obtain rfl : m = 0 := by omega
      rw [decide_eq_false q, decide_eq_false]
      intro h
      have := row_get_mid k 0
      have e : k + 1 + 0 - 1 = k := by omega
      rw [e] at h
      omega
  unfold c0 c1 c2
  rw [h0, h1, ones_row, up_is k (by omega), up_is b (by omega), row_length, up_is _ (by omega)]
  refine ⟨by simp [oneB], by simp [oneB], ?_⟩
  by_cases q : 0 < m <;> simp [oneB, q]

set_option maxRecDepth 20000 in
set_option maxHeartbeats 2000000 in
theorem ranges_go (x y z : Int) (b k m : Nat) (hb : bits .and .i64 x 31 = (b : Int)) (b31 : b ≤ 31) (hk : bits .and .i64 y 15 = (k : Int)) (k15 : k ≤ 15) (hm : bits .and .i64 z 7 = (m : Int)) (m7 : m ≤ 7)
    (w : World) : Calls Try.prog 5 #[.int .i64 x, .int .i64 y, .int .i64 z] w fun e w' => e = .returned (.bool true) ∧ Bel w w' := by
  obtain ⟨i0, hi, hz0, hz1, hz2⟩ := info_parts info_int
  obtain ⟨y0, e0⟩ : ∃ y0 : Int, c0 (List.replicate k 1) = y0 := ⟨_, rfl⟩
  obtain ⟨y1, e1⟩ : ∃ y1 : Int, c1 b (List.replicate k 1) = y1 := ⟨_, rfl⟩
  obtain ⟨z1, e2⟩ : ∃ z1 : Int, c2 (List.replicate k 1) = z1 := ⟨_, rfl⟩
  obtain ⟨u0, e3⟩ : ∃ u0 : Int, c0 (row k m) = u0 := ⟨_, rfl⟩
  obtain ⟨u1, e4⟩ : ∃ u1 : Int, c1 b (row k m) = u1 := ⟨_, rfl⟩
  obtain ⟨z2, e5⟩ : ∃ z2 : Int, c2 (row k m) = z2 := ⟨_, rfl⟩
  have P1 : Hid ((c0 (List.replicate k 1) = y0 ∧ c1 b (List.replicate k 1) = y1 ∧ c2 (List.replicate k 1) = z1) ∧ y0 = k ∧ y1 = 2 * b ∧ z1 = (k : Int) + (if 0 < k then 32 else 0)) := (by
    have := c_ones b k b31 k15
    exact ⟨⟨e0, e1, e2⟩, e0.symm.trans this.1, e1.symm.trans this.2.1, e2.symm.trans this.2.2⟩ : (c0 (List.replicate k 1) = y0 ∧ c1 b (List.replicate k 1) = y1 ∧ c2 (List.replicate k 1) = z1) ∧ y0 = k ∧ y1 = 2 * b ∧ z1 = (k : Int) + (if 0 < k then 32 else 0))
  have P2 : Hid ((c0 (row k m) = u0 ∧ c1 b (row k m) = u1 ∧ c2 (row k m) = z2) ∧ u0 = k + 32 ∧ u1 = 2 * b + 1 ∧ z2 = (k : Int) + 1 + m + (if 0 < m then 32 else 0)) := (by
    have := c_row b k m b31 k15 m7
    exact ⟨⟨e3, e4, e5⟩, e3.symm.trans this.1, e4.symm.trans this.2.1, e5.symm.trans this.2.2⟩ : (c0 (row k m) = u0 ∧ c1 b (row k m) = u1 ∧ c2 (row k m) = z2) ∧ u0 = k + 32 ∧ u1 = 2 * b + 1 ∧ z2 = (k : Int) + 1 + m + (if 0 < m then 32 else 0))
  clear e0 e1 e2 e3 e4 e5
  go_enter Try.func5, Try.ntmps5
  go_wp2_with fail
  refine (awake_ok _).mono ?_
  rintro e w0 ⟨rfl, b1⟩
  have B1 : Hid (Bel w w0) := b1
  have R0 : Hid (w0.ownsRow w0.heap.size 3 1 (.slice none 0 0) 0 (vals (List.replicate 0 1)) ∧ Bel w0 w0) := ⟨World.ownsRow_nil _ _ _ _, Bel.refl w0⟩
  clear b1
  go_wp2
  go_loopw [10, 11] (fun v i wr => ∃ (t : Nat) (q : Value), t ≤ k ∧ i = .int .i64 t ∧ q = v ∧ Hid (wr.ownsRow w0.heap.size 3 1 q t (vals (List.replicate t 1)) ∧ Bel w0 wr)) (fun _ i _ => k - (intOf i).toNat)
  case atStart => exact ⟨0, _, Nat.zero_le _, rfl, rfl, R0⟩
  case round =>
    obtain ⟨t, q, ht, rfl, rfl, H1⟩ := hrel
    clear R0
    by_cases hlt : t < k
    · have c3 : Hid (t + 1 ≤ maxLen) := (by unfold maxLen; omega : t + 1 ≤ maxLen)
      have c4 : Hid ((t + 1) * 8 ≤ 140737488355328) := (by omega : (t + 1) * 8 ≤ 140737488355328)
      go_wp2_with (at_builtin; refine wpList_append_own _ rfl (.tmp 32) (.tmp 33) 22 rfl w0.heap.size 3 i0 (.int .i64 0) 1 8 Try.underlying22 hi hz0 hz1 hz2 rfl (by decide) _ t _ rfl (H1.out.1.alloc _) ⟨wr.heap.size, 0, none⟩ 1 1 (vals [1]) rfl rfl (one_cell _ _) (ints_oneCell _ _) c3.out c4.out (size_ok H1.out.2 _) ?_)
      intro v' w2 ho hg _
      have R := owns_more H1.out.1 (Nat.le_refl _) H1.out.2 ho hg
      rw [rep_snoc] at R
      have R2 : Hid (w2.ownsRow w0.heap.size 3 1 v' (t + 1) (vals (List.replicate (t + 1) 1)) ∧ Bel w0 w2) := R
      clear ho hg H1 c3 c4 R
      go_wp2
      go_roundw
      case rel => exact ⟨t + 1, _, by omega, by go_num, rfl, R2⟩
      case measure => simp [intOf]; omega
    · obtain rfl : t = k := by omega
      obtain ⟨ao, cap, rfl, l1, l2, l3, hs⟩ := owns_slc H1.out.1
      have HO := of_at b y0 y1 z1 ao (List.replicate t 1) t cap (by simp) ⟨by omega, by omega, by simp; omega, bits_rep t 1 (.inr rfl)⟩ P1.out.1.1 P1.out.1.2.1 P1.out.1.2.2 wr hs
      have HO2 : Hid (Calls Try.prog 8 _ wr _) := HO
      clear hs HO l1 l2 l3
      go_wp2_with fail
      refine HO2.out.mono ?_
      rintro e w2 ⟨rfl, b2⟩
      have A1 : Hid ((w2.alloc (.cells #[.int .i64 y0, .int .i64 y1, .int .i64 z1] 24)).ownsRow w0.heap.size 3 1 (.slice ao t cap) t (vals (List.replicate t 1)) ∧ Bel w0 (w2.alloc (.cells #[.int .i64 y0, .int .i64 y1, .int .i64 z1] 24))) := ⟨(owns_bel H1.out.1 b2).alloc _, (H1.out.2.trans b2).alloc _⟩
      have A2 : Hid (Arr (w2.alloc (.cells #[.int .i64 y0, .int .i64 y1, .int .i64 z1] 24)) w2.heap.size y0 y1 z1) := arr_new w2 y0 y1 z1
      have c3 : Hid (t + 1 ≤ maxLen) := (by unfold maxLen; omega : t + 1 ≤ maxLen)
      have c4 : Hid ((t + 1) * 8 ≤ 140737488355328) := (by omega : (t + 1) * 8 ≤ 140737488355328)
      clear b2 H1 HO2
      go_wp2_with (at_builtin; refine wpList_append_own _ rfl (.tmp 41) (.tmp 42) 22 rfl w0.heap.size 3 i0 (.int .i64 0) 1 8 Try.underlying22 hi hz0 hz1 hz2 rfl (by decide) _ t _ rfl (A1.out.1.alloc _) ⟨w2.heap.size + 1, 0, none⟩ 1 1 (vals [0]) rfl rfl (one_cell2 _ _ _) (ints_oneCell _ _) c3.out c4.out (size_ok A1.out.2 _) ?_)
      intro v' w3 ho hg _
      have R := owns_more A1.out.1 (Nat.le_refl _) A1.out.2 ho hg
      rw [row_zero] at R
      have R2 : Hid (w3.ownsRow w0.heap.size 3 1 v' (t + 1 + 0) (vals (row t 0)) ∧ Bel w0 w3 ∧ Arr w3 w2.heap.size y0 y1 z1) := ⟨R.1, R.2, A2.out.more A1.out.1 hg⟩
      generalize w2.heap.size = p at *
      clear ho hg A1 A2 c3 c4 R
      go_wp2
      go_loopw [10, 14] (fun v i wr => ∃ (s : Nat) (q : Value), s ≤ m ∧ i = .int .i64 s ∧ q = v ∧ Hid (wr.ownsRow w0.heap.size 3 1 q (t + 1 + s) (vals (row t s)) ∧ Bel w0 wr ∧ Arr wr p y0 y1 z1)) (fun _ i _ => m - (intOf i).toNat)
      case atStart => exact ⟨0, _, Nat.zero_le _, rfl, rfl, R2⟩
      case round =>
        obtain ⟨s, q, hs, rfl, rfl, H1⟩ := hrel
        clear R2
        by_cases hlt : s < m
        · have c3 : Hid (t + 1 + s + 1 ≤ maxLen) := (by unfold maxLen; omega : t + 1 + s + 1 ≤ maxLen)
          have c4 : Hid ((t + 1 + s + 1) * 8 ≤ 140737488355328) := (by omega : (t + 1 + s + 1) * 8 ≤ 140737488355328)
          go_wp2_with (at_builtin; refine wpList_append_own _ rfl (.tmp 49) (.tmp 50) 22 rfl w0.heap.size 3 i0 (.int .i64 0) 1 8 Try.underlying22 hi hz0 hz1 hz2 rfl (by decide) _ (t + 1 + s) _ rfl (H1.out.1.alloc _) ⟨wr.heap.size, 0, none⟩ 1 1 (vals [1]) rfl rfl (one_cell _ _) (ints_oneCell _ _) c3.out c4.out (size_ok H1.out.2.1 _) ?_)
          intro v' w2 ho hg _
          have R := owns_more H1.out.1 (Nat.le_refl _) H1.out.2.1 ho hg
          rw [row_succ] at R
          have R2 : Hid (w2.ownsRow w0.heap.size 3 1 v' (t + 1 + (s + 1)) (vals (row t (s + 1))) ∧ Bel w0 w2 ∧ Arr w2 p y0 y1 z1) := ⟨R.1, R.2, H1.out.2.2.more H1.out.1 hg⟩
          clear ho hg H1 c3 c4 R
          go_wp2
          go_roundw
          case rel => exact ⟨s + 1, _, by omega, by go_num, rfl, R2⟩
          case measure => simp [intOf]; omega
        · obtain rfl : s = m := by omega
          obtain ⟨ao2, cap2, rfl, l1, l2, l3, hs2⟩ := owns_slc H1.out.1
          have HO := of_at b u0 u1 z2 ao2 (row t s) (t + 1 + s) cap2 (by rw [row_length]) ⟨by omega, by omega, by rw [row_length]; omega, row_bits t s⟩ P2.out.1.1 P2.out.1.2.1 P2.out.1.2.2 wr hs2
          have HO2 : Hid (Calls Try.prog 8 _ wr _) := HO
          clear hs2 HO l1 l2 l3
          go_wp2_with fail
          refine HO2.out.mono ?_
          rintro e w4 ⟨rfl, b4⟩
          have HB : Hid (Bel w w4) := B1.out.trans (H1.out.2.1.trans b4)
          obtain ⟨x0, x1, x2⟩ := ((H1.out.2.2.bel b4).bel ((Bel.refl w4).alloc (.cells #[.int .i64 u0, .int .i64 u1, .int .i64 z2] 24))).cells
          clear b4 H1 HO2 B1
          have Q1 := P1.out.2.2.2
          have Q2 := P2.out.2.2.2
          have Q3 := P1.out.2.1
          have Q4 := P1.out.2.2.1
          have Q5 := P2.out.2.1
          have Q6 := P2.out.2.2.1
          rcases Nat.eq_zero_or_pos t with ht0 | ht0
          · rcases Nat.eq_zero_or_pos s with hs0 | hs0
            · rw [if_neg (by omega)] at Q1
              rw [if_neg (by omega)] at Q2
              subst ht0
              subst hs0
              have E1 := eq_to (a := y0) (b := y1) (c := z1) (a' := 0) (b' := 2 * b) (c' := 0) (by omega) (by omega) (by omega)
              have E2 := eq_in_to (a := y0) (b := y1) (c := z1) (a' := 0) (b' := 2 * b) (c' := 0) (by omega) (by omega) (by omega)
              have E3 := eq_to (a := u0) (b := u1) (c := z2) (a' := 32) (b' := 2 * b + 1) (c' := 1) (by omega) (by omega) (by omega)
              have E4 := eq_in_to (a := u0) (b := u1) (c := z2) (a' := 32) (b' := 2 * b + 1) (c' := 1) (by omega) (by omega) (by omega)
              clear Q1 Q2 Q3 Q4 Q5 Q6 P1 P2
              go_wp2_with (go_at_call 10; refine (num_ok _ _).mono ?_; rintro e w8 ⟨rfl, hw⟩; replace hw := hw.symm; subst hw)
              go_ret
              exact ⟨rfl, HB.out.alloc _⟩
            · rw [if_neg (by omega)] at Q1
              rw [if_pos hs0] at Q2
              subst ht0
              have hd2 : decide (0 < (s : Int)) = true := decide_eq_true (by omega)
              have E1 := eq_to (a := y0) (b := y1) (c := z1) (a' := 0) (b' := 2 * b) (c' := 0) (by omega) (by omega) (by omega)
              have E2 := eq_in_to (a := y0) (b := y1) (c := z1) (a' := 0) (b' := 2 * b) (c' := 0) (by omega) (by omega) (by omega)
              have E3 := eq_to (a := u0) (b := u1) (c := z2) (a' := 32) (b' := 2 * b + 1) (c' := 1 + (s : Int) + 32) (by omega) (by omega) (by omega)
              have E4 := eq_in_to (a := u0) (b := u1) (c := z2) (a' := 32) (b' := 2 * b + 1) (c' := 1 + (s : Int) + 32) (by omega) (by omega) (by omega)
              clear Q1 Q2 Q3 Q4 Q5 Q6 P1 P2
              go_wp2_with (go_at_call 10; refine (num_ok _ _).mono ?_; rintro e w8 ⟨rfl, hw⟩; replace hw := hw.symm; subst hw)
              go_ret
              exact ⟨rfl, HB.out.alloc _⟩
          · rcases Nat.eq_zero_or_pos s with hs0 | hs0
            · rw [if_pos ht0] at Q1
              rw [if_neg (by omega)] at Q2
              have hd1 : decide (0 < (t : Int)) = true := decide_eq_true (by omega)
              subst hs0
              have E1 := eq_to (a := y0) (b := y1) (c := z1) (a' := (t : Int)) (b' := 2 * b) (c' := (t : Int) + 32) (by omega) (by omega) (by omega)
              have E2 := eq_in_to (a := y0) (b := y1) (c := z1) (a' := (t : Int)) (b' := 2 * b) (c' := (t : Int) + 32) (by omega) (by omega) (by omega)
              have E3 := eq_to (a := u0) (b := u1) (c := z2) (a' := 32 + (t : Int)) (b' := 2 * b + 1) (c' := (t : Int) + 1) (by omega) (by omega) (by omega)
              have E4 := eq_in_to (a := u0) (b := u1) (c := z2) (a' := 32 + (t : Int)) (b' := 2 * b + 1) (c' := (t : Int) + 1) (by omega) (by omega) (by omega)
              clear Q1 Q2 Q3 Q4 Q5 Q6 P1 P2
              go_wp2_with (go_at_call 10; refine (num_ok _ _).mono ?_; rintro e w8 ⟨rfl, hw⟩; replace hw := hw.symm; subst hw)
              go_ret
              exact ⟨rfl, HB.out.alloc _⟩
            · rw [if_pos ht0] at Q1
              rw [if_pos hs0] at Q2
              have hd1 : decide (0 < (t : Int)) = true := decide_eq_true (by omega)
              have hd2 : decide (0 < (s : Int)) = true := decide_eq_true (by omega)
              have E1 := eq_to (a := y0) (b := y1) (c := z1) (a' := (t : Int)) (b' := 2 * b) (c' := (t : Int) + 32) (by omega) (by omega) (by omega)
              have E2 := eq_in_to (a := y0) (b := y1) (c := z1) (a' := (t : Int)) (b' := 2 * b) (c' := (t : Int) + 32) (by omega) (by omega) (by omega)
              have E3 := eq_to (a := u0) (b := u1) (c := z2) (a' := 32 + (t : Int)) (b' := 2 * b + 1) (c' := (t : Int) + 1 + s + 32) (by omega) (by omega) (by omega)
              have E4 := eq_in_to (a := u0) (b := u1) (c := z2) (a' := 32 + (t : Int)) (b' := 2 * b + 1) (c' := (t : Int) + 1 + s + 32) (by omega) (by omega) (by omega)
              clear Q1 Q2 Q3 Q4 Q5 Q6 P1 P2
              go_wp2_with (go_at_call 10; refine (num_ok _ _).mono ?_; rintro e w8 ⟨rfl, hw⟩; replace hw := hw.symm; subst hw)
              go_ret
              exact ⟨rfl, HB.out.alloc _⟩

theorem ranges_walk (x y z : Int) (w : World) : Calls Try.prog 5 #[.int .i64 x, .int .i64 y, .int .i64 z] w fun e w' => e = .returned (.bool true) ∧ Bel w w' := by
  have h1 : bits .and .i64 x 31 = (((x % 32).toNat : Nat) : Int) := (and_mask 5 31 (by decide) (by decide) x).trans (by omega)
  have h2 : bits .and .i64 y 15 = (((y % 16).toNat : Nat) : Int) := (and_mask 4 15 (by decide) (by decide) y).trans (by omega)
  have h3 : bits .and .i64 z 7 = (((z % 8).toNat : Nat) : Int) := (and_mask 3 7 (by decide) (by decide) z).trans (by omega)
  exact ranges_go x y z _ _ _ h1 (by omega) h2 (by omega) h3 (by omega) w

end Go.Proofs.Ythphgndebcnahaa.Ctx
