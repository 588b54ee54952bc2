/-
  LmsMirror answers true for every row of ints. Condition: the row is there.
-/
import Derived.Test.YtjckeagbimfonaaLAwake
namespace Go.Proofs.Ytjckeagbimfonaa.Lin
open Go.RowKit Go.Sort Go.Proofs.Ytjckeagbimfonaa.Mod Go.Proofs.Ytjckeagbimfonaa.Num
set_option linter.unusedVariables false
set_option linter.unusedSimpArgs false

/-- Two lines that learned opposite numbers. -/
structure Opp (A B : List Int) : Prop where
  la : A.length = 16
  lb : B.length = 16
  ma : mayL A = true
  mb : mayL B = true
  op : ∀ k, k < 8 → A.getD (8 + k) 0 = -B.getD (8 + k) 0

theorem opp_zero : Opp zeros16 zeros16 := ⟨zeros16_len, zeros16_len, zeros16_may, zeros16_may, fun k hk => by rw [zeros16_get]; rfl⟩

theorem Opp.step {A B : List Int} (h : Opp A B) (s : Int) (h0 : -512 ≤ s ∧ s ≤ 512) : Opp (learn A s) (learn B (-s)) := by
  refine ⟨(learn_len _ _).trans h.la, (learn_len _ _).trans h.lb, may_learn h.la h.ma s (passed_no.2 (by omega)), may_learn h.lb h.mb (-s) (passed_no.2 (by omega)), fun k hk => ?_⟩
  rw [learn_get A s h.la (8 + k) (by omega), learn_get B (-s) h.lb (8 + k) (by omega), if_neg (show ¬ 8 + k < 8 by omega), if_neg (show ¬ 8 + k < 8 by omega)]
  by_cases e : 8 + k = 8
  · rw [if_pos e, if_pos e]; omega
  · rw [if_neg e, if_neg e, show 8 + k - 1 = 8 + (k - 1) by omega]
    exact h.op (k - 1) (by omega)

theorem learn_first (L : List Int) (x : Int) (hL : L.length = 16) : (learn L x).getD 8 0 = x := by
  rw [learn_get L x hL 8 (by decide), if_neg (by decide), if_pos rfl]

set_option maxRecDepth 20000 in
set_option maxHeartbeats 2000000 in
theorem mirror_walk (ao : Option Addr) (xs : List Int) (n cap : Nat) (hn : n = xs.length) (hx : n ≤ maxLen) (w : World) (hS : Slc w ao xs) :
    Calls Try.prog 8 #[.slice ao n cap] w fun e w' => e = .returned (.bool true) ∧ Bel w w' := by
  unfold maxLen at hx
  have HS : Hid (Slc w ao xs) := hS
  have HN : Hid (n = xs.length) := hn
  have LE : Hid (∀ (A B : List Int) (s : Int), Opp A B → -512 ≤ s ∧ s ≤ 512 → ∃ P Q, Opp P Q ∧ P.getD 8 0 = s ∧ Q.getD 8 0 = -s ∧
      (∀ w, Calls Try.prog 11 #[mdl A, .int .i64 s] w fun e w' => e = .returned (.tuple #[mdl P, .int .i64 0]) ∧ Bel w w') ∧
      (∀ w, Calls Try.prog 11 #[mdl B, .int .i64 (-s)] w fun e w' => e = .returned (.tuple #[mdl Q, .int .i64 0]) ∧ Bel w w')) := fun A B s h h0 =>
    ⟨learn A s, learn B (-s), h.step s h0, learn_first A s h.la, learn_first B (-s) h.lb, learn_yes A h.la s h.ma (passed_no.2 (by omega)), learn_yes B h.lb (-s) h.mb (passed_no.2 (by omega))⟩
  have AM : Hid (∀ y, bits .and .i64 y 1023 = y % 1024) := and1023
  have NZ : Hid (zeros16.length = 16) := zeros16_len
  have z := zero24
  clear hS hn
  go_enter Try.func8, Try.ntmps8
  go_wp2_with fail
  refine (awake_true _).mono ?_
  rintro e w1 ⟨rfl, b1⟩
  have h1 : Holds ((w1.alloc (.cells (vals zeros16).toArray 24)).alloc (.cells (vals zeros16).toArray 24)) w1.heap.size zeros16 := (holds_new w1 zeros16 _).bel ((Bel.refl _).alloc _)
  have g1 : Holds ((w1.alloc (.cells (vals zeros16).toArray 24)).alloc (.cells (vals zeros16).toArray 24)) (w1.heap.size + 1) zeros16 := holds_at (by simp) zeros16 _
  have c1 : Bel w ((w1.alloc (.cells (vals zeros16).toArray 24)).alloc (.cells (vals zeros16).toArray 24)) := (Bel.alloc b1 _).alloc _
  have CC : Hid (w.heap.size ≤ w1.heap.size ∧ w.heap.size ≤ w1.heap.size + 1 ∧ w1.heap.size ≠ w1.heap.size + 1) := ⟨b1.size, Nat.le_succ_of_le b1.size, by omega⟩
  clear b1
  go_wp2_with fail
  generalize (w1.alloc (.cells (vals zeros16).toArray 24)).alloc (.cells (vals zeros16).toArray 24) = W1 at *
  generalize w1.heap.size + 1 = CB at *
  generalize w1.heap.size = CA at *
  have H1 : Hid (Holds W1 CA zeros16) := h1
  have G1 : Hid (Holds W1 CB zeros16) := g1
  have C1 : Hid (Bel w W1) := c1
  clear h1 g1 c1
  go_loopw [5] (fun i wr => ∃ (j : Nat) (A B : List Int), j ≤ n ∧ j ≤ 12 ∧ i = .int .i64 (j : Int) ∧ Hid (Opp A B) ∧ Holds wr CA A ∧ Holds wr CB B ∧ Bel w wr) (fun i _ => 12 - (intOf i).toNat)
  case atStart => exact ⟨0, zeros16, zeros16, Nat.zero_le _, by omega, rfl, opp_zero, H1.out, G1.out, C1.out⟩
  case round =>
    obtain ⟨j, A, B, hj, hj2, rfl, O, h, g, b⟩ := hrel
    have H3 : Hid (Holds wr CA A) := h
    have G3 : Hid (Holds wr CB B) := g
    have B3 : Hid (Bel w wr) := b
    have NA : Hid (A.length = 16) := O.out.la
    have NB : Hid (B.length = 16) := O.out.lb
    clear h g b H1 G1 C1
    rcases (by omega : (j < n ∧ j < 12) ∨ (¬ j < n) ∨ (j < n ∧ ¬ j < 12)) with hlt | hlt | hlt
    · have hd : decide ((j : Int) < (n : Int)) = true := decide_eq_true (by omega)
      have hd2 : decide ((j : Int) < 12) = true := decide_eq_true (by omega)
      have hi : (j : Int) < (n : Int) := by omega
      have hi2 : (j : Int) < 12 := by omega
      obtain ⟨a, rfl, hc⟩ := (HS.out.bel B3.out) j (HN.out ▸ hlt.1)
      have am := AM.out (xs.getD j 0)
      generalize xs.getD j 0 = y at *
      obtain ⟨m, hm⟩ : ∃ m, y % 1024 = m := ⟨_, rfl⟩
      rw [hm] at am
      have m0 : 0 ≤ m := by omega
      have m1 : m ≤ 1023 := by omega
      obtain ⟨s, hs⟩ : ∃ s, m - 512 = s := ⟨_, rfl⟩
      have SE : Hid (m - 512 = s) := hs
      have s0 : -512 ≤ s := by omega
      have s1 : s ≤ 512 := by omega
      obtain ⟨P, Q, oP, p8, q8, lP, lQ⟩ := LE.out A B s O.out ⟨s0, s1⟩
      have OP : Hid (Opp P Q) := oP
      have P8 : Hid (P.getD 8 0 = s) := p8
      have Q8 : Hid (Q.getD 8 0 = -s) := q8
      have LP : Hid (∀ w, Calls Try.prog 11 #[mdl A, .int .i64 s] w fun e w' => e = .returned (.tuple #[mdl P, .int .i64 0]) ∧ Bel w w') := lP
      have LQ : Hid (∀ w, Calls Try.prog 11 #[mdl B, .int .i64 (-s)] w fun e w' => e = .returned (.tuple #[mdl Q, .int .i64 0]) ∧ Bel w w') := lQ
      have NP : Hid (P.length = 16) := oP.la
      have NQ : Hid (Q.length = 16) := oP.lb
      have HJ : Hid (j + 1 ≤ n ∧ j + 1 ≤ 12) := ⟨hlt.1, hlt.2⟩
      have KA : Hid (CA < wr.heap.size) := block_lt_of_cell (H3.out.cell 0 (by rw [NA.out]; decide))
      have KB : Hid (CB < wr.heap.size) := block_lt_of_cell (G3.out.cell 0 (by rw [NB.out]; decide))
      clear hs hm oP p8 q8 lP lQ hlt O LE
      go_wp2_with (first | (with_reducible refine wpl_load24 H3.out NA.out rfl ?_))
      rw [SE.out]
      refine (LP.out _).mono ?_
      rintro e w2 ⟨rfl, b⟩
      have H4 : Hid (Holds (w2.alloc (.cells (vals P).toArray 24)) CA A) := (H3.out.bel b).bel ((Bel.refl _).alloc _)
      have G4 : Hid (Holds (w2.alloc (.cells (vals P).toArray 24)) CB B) := (G3.out.bel b).bel ((Bel.refl _).alloc _)
      have P4 : Hid (Holds (w2.alloc (.cells (vals P).toArray 24)) w2.heap.size P) := holds_new w2 P _
      have B4 : Hid (Bel w (w2.alloc (.cells (vals P).toArray 24))) := (B3.out.trans b).alloc _
      have K2 : Hid (CA < w2.heap.size ∧ CB < w2.heap.size) := ⟨Nat.lt_of_lt_of_le KA.out b.size, Nat.lt_of_lt_of_le KB.out b.size⟩
      clear b H3 G3 B3 LP KA KB
      go_wp2_with (first
        | (with_reducible refine wpl_store24n NZ.out NP.out rfl rfl ?_)
        | (with_reducible refine wpl_load24 G4.out NB.out rfl ?_))
      refine (LQ.out _).mono ?_
      rintro e w3 ⟨rfl, b⟩
      have h5 := (H4.out.bel b).bel ((Bel.refl _).alloc (.cells (vals Q).toArray 24))
      have g5 := (G4.out.bel b).bel ((Bel.refl _).alloc (.cells (vals Q).toArray 24))
      have p5 := (P4.out.bel b).bel ((Bel.refl _).alloc (.cells (vals Q).toArray 24))
      have q5 : Holds (w3.alloc (.cells (vals Q).toArray 24)) w3.heap.size Q := holds_new w3 Q _
      have b5 : Bel w (w3.alloc (.cells (vals Q).toArray 24)) := (B4.out.trans b).alloc _
      have kk : w2.heap.size < w3.heap.size := by have := b.size; simp at this; omega
      have K3 : Hid (CA ≠ w2.heap.size ∧ CB ≠ w2.heap.size ∧ w3.heap.size ≠ CA ∧ w3.heap.size ≠ CB) := by have := K2.out; exact ⟨by omega, by omega, by omega, by omega⟩
      clear b H4 G4 P4 B4 LQ K2 kk
      go_wp2_with (first
        | (with_reducible refine wpl_store24n NZ.out NQ.out rfl rfl ?_))
      refine (num_ok _ _).mono ?_
      rintro e W ⟨rfl, rfl⟩
      generalize w3.alloc (.cells (vals Q).toArray 24) = W at *
      have H5 : Hid (Holds W CA A) := h5
      have G5 : Hid (Holds W CB B) := g5
      have P5 : Hid (Holds W w2.heap.size P) := p5
      have Q5 : Hid (Holds W w3.heap.size Q) := q5
      have B5 : Hid (Bel w W) := b5
      have d1 := p5.cell 8 (by rw [NP.out]; decide)
      have d2 := q5.cell 8 (by rw [NQ.out]; decide)
      rw [P8.out] at d1
      rw [Q8.out] at d2
      clear h5 g5 p5 q5 b5
      go_wp2_with fail
      refine (num_ok _ _).mono ?_
      rintro e W ⟨rfl, rfl⟩
      go_wp2_with (first
        | (with_reducible refine wpl_load24 P5.out NP.out rfl ?_)
        | ((with_reducible refine wpl_store24w B5.out H5.out CC.out.1 NA.out NP.out rfl rfl ?_); intro V VH VB VO)
        | (with_reducible refine wpl_load24 (VO.out _ _ K3.out.2.2.1 Q5.out) NQ.out rfl ?_)
        | ((with_reducible refine wpl_store24w VB.out (VO.out _ _ CC.out.2.2.symm G5.out) CC.out.2.1 NB.out NQ.out rfl rfl ?_); intro V2 VH2 VB2 VO2))
      go_roundw
      case rel => exact ⟨j + 1, P, Q, HJ.out.1, HJ.out.2, by go_num, OP, VO2.out _ _ CC.out.2.2 VH.out, VH2.out, VB2.out⟩
      case measure => simp [intOf]; have := HJ.out; omega
    · have hd : decide ((j : Int) < (n : Int)) = false := decide_eq_false (by omega)
      have hi : ¬ (j : Int) < (n : Int) := by omega
      have MA : Hid (∀ w, Calls Try.prog 14 #[mdl A] w fun e w' => e = .returned (.bool true) ∧ Bel w w') := fun w => O.out.ma ▸ may_ok A O.out.la w
      have MB : Hid (∀ w, Calls Try.prog 14 #[mdl B] w fun e w' => e = .returned (.bool true) ∧ Bel w w') := fun w => O.out.mb ▸ may_ok B O.out.lb w
      have OP : Hid (∀ k, k < 8 → A.getD (8 + k) 0 = -B.getD (8 + k) 0) := O.out.op
      have OR : Hid (∀ k, k < 8 → -4194304 ≤ B.getD (8 + k) 0 ∧ B.getD (8 + k) 0 ≤ 4194304) := ((may_iff B).1 O.out.mb).2
      clear O LE
      have H5 : Hid (Holds wr CA A) := H3.out
      go_wp2_with fail
      go_loopw [11] (fun i wx => ∃ k : Nat, k ≤ 8 ∧ i = .int .i64 (k : Int) ∧ Holds wx CA A ∧ Holds wx CB B ∧ Bel w wx) (fun i _ => 8 - (intOf i).toNat)
      case atStart => exact ⟨0, by omega, rfl, H3.out, G3.out, B3.out⟩
      case round =>
        obtain ⟨k, hk, rfl, h, g, b⟩ := hrel
        have H6 : Hid (Holds wr CA A) := h
        have G6 : Hid (Holds wr CB B) := g
        have B6 : Hid (Bel w wr) := b
        clear h g b H3 G3 B3 H5
        by_cases hkt : k < 8
        · have hd9 : decide ((k : Int) < 8) = true := decide_eq_true (by omega)
          have c1 := H6.out.cell (8 + k) (by rw [NA.out]; omega)
          have c2 := G6.out.cell (8 + k) (by rw [NB.out]; omega)
          rw [OP.out k hkt] at c1
          have b2 := (OR.out k hkt)
          generalize B.getD (8 + k) 0 = y at *
          obtain ⟨y0, y1⟩ := b2
          go_wp2
          go_quiet (fail)
          go_wp2
          go_roundw
          case rel => exact ⟨k + 1, by omega, by go_num, H6.out.drewN _, G6.out.drewN _, B6.out.drewN _⟩
          case measure => simp [intOf]; omega
        · have hd9 : decide ((k : Int) < 8) = false := decide_eq_false (by omega)
          go_wp2_with (first | (with_reducible refine wpl_load24 H6.out NA.out rfl ?_))
          refine (MA.out _).mono ?_
          rintro e w5 ⟨rfl, b⟩
          have G7 : Hid (Holds w5 CB B) := G6.out.bel b
          have B7 : Hid (Bel w w5) := B6.out.trans b
          clear b
          go_wp2_with (first | (with_reducible refine wpl_load24g rfl G7.out NB.out rfl ?_))
          refine (MB.out _).mono ?_
          rintro e w6 ⟨rfl, b⟩
          have B8 : Hid (Bel w w6) := B7.out.trans b
          clear b
          go_wp2
          go_ret
          exact ⟨rfl, B8.out⟩
    · have hd : decide ((j : Int) < (n : Int)) = true := decide_eq_true (by omega)
      have hd2 : decide ((j : Int) < 12) = false := decide_eq_false (by omega)
      have hi : (j : Int) < (n : Int) := by omega
      have hi2 : ¬ (j : Int) < 12 := by omega
      have MA : Hid (∀ w, Calls Try.prog 14 #[mdl A] w fun e w' => e = .returned (.bool true) ∧ Bel w w') := fun w => O.out.ma ▸ may_ok A O.out.la w
      have MB : Hid (∀ w, Calls Try.prog 14 #[mdl B] w fun e w' => e = .returned (.bool true) ∧ Bel w w') := fun w => O.out.mb ▸ may_ok B O.out.lb w
      have OP : Hid (∀ k, k < 8 → A.getD (8 + k) 0 = -B.getD (8 + k) 0) := O.out.op
      have OR : Hid (∀ k, k < 8 → -4194304 ≤ B.getD (8 + k) 0 ∧ B.getD (8 + k) 0 ≤ 4194304) := ((may_iff B).1 O.out.mb).2
      clear O LE
      have H5 : Hid (Holds wr CA A) := H3.out
      go_wp2_with fail
      go_loopw [11] (fun i wx => ∃ k : Nat, k ≤ 8 ∧ i = .int .i64 (k : Int) ∧ Holds wx CA A ∧ Holds wx CB B ∧ Bel w wx) (fun i _ => 8 - (intOf i).toNat)
      case atStart => exact ⟨0, by omega, rfl, H3.out, G3.out, B3.out⟩
      case round =>
        obtain ⟨k, hk, rfl, h, g, b⟩ := hrel
        have H6 : Hid (Holds wr CA A) := h
        have G6 : Hid (Holds wr CB B) := g
        have B6 : Hid (Bel w wr) := b
        clear h g b H3 G3 B3 H5
        by_cases hkt : k < 8
        · have hd9 : decide ((k : Int) < 8) = true := decide_eq_true (by omega)
          have c1 := H6.out.cell (8 + k) (by rw [NA.out]; omega)
          have c2 := G6.out.cell (8 + k) (by rw [NB.out]; omega)
          rw [OP.out k hkt] at c1
          have b2 := (OR.out k hkt)
          generalize B.getD (8 + k) 0 = y at *
          obtain ⟨y0, y1⟩ := b2
          go_wp2
          go_quiet (fail)
          go_wp2
          go_roundw
          case rel => exact ⟨k + 1, by omega, by go_num, H6.out.drewN _, G6.out.drewN _, B6.out.drewN _⟩
          case measure => simp [intOf]; omega
        · have hd9 : decide ((k : Int) < 8) = false := decide_eq_false (by omega)
          go_wp2_with (first | (with_reducible refine wpl_load24 H6.out NA.out rfl ?_))
          refine (MA.out _).mono ?_
          rintro e w5 ⟨rfl, b⟩
          have G7 : Hid (Holds w5 CB B) := G6.out.bel b
          have B7 : Hid (Bel w w5) := B6.out.trans b
          clear b
          go_wp2_with (first | (with_reducible refine wpl_load24g rfl G7.out NB.out rfl ?_))
          refine (MB.out _).mono ?_
          rintro e w6 ⟨rfl, b⟩
          have B8 : Hid (Bel w w6) := B7.out.trans b
          clear b
          go_wp2
          go_ret
          exact ⟨rfl, B8.out⟩

end Go.Proofs.Ytjckeagbimfonaa.Lin
