/-
  The contracts of the reference's small functions, its May and Guess of a line: they answer as the program's do. No condition but that the numbers are ints.
-/
import Derived.Test.YtamefddgpdhccaaLAwake
namespace Go.Proofs.Ytamefddgpdhccaa.Lin
open Go.RowKit Go.Sort Go.Proofs.Ytamefddgpdhccaa.Mod
set_option linter.unusedVariables false
set_option linter.unusedSimpArgs false

set_option maxHeartbeats 400000 in
theorem upto_ok (l x : Int) (w : World) :
    Calls Try.prog 26 #[.int .i64 x, .int .i64 (-l), .int .i64 l] w fun e w' => e = .returned (.bool (!passed l x)) ∧ w' = w := by
  by_cases h0 : x < -l
  · have e : passed l x = true := decide_eq_true (.inl h0)
    rw [e]
    have h3 : decide (-l ≤ x) = false := decide_eq_false (by omega)
    clear e
    go_enter Try.func26, Try.ntmps26
    go_wp2
    go_ret
    exact ⟨rfl, rfl⟩
  · have e : (!passed l x) = decide (x ≤ l) := by
      unfold passed
      by_cases h1 : l < x
      · rw [decide_eq_true (.inr h1), decide_eq_false (by omega)]; rfl
      · rw [decide_eq_false (by omega), decide_eq_true (by omega)]; rfl
    rw [e]
    have h2 : -l ≤ x := by omega
    have h3 : decide (-l ≤ x) = true := decide_eq_true h2
    clear e
    go_enter Try.func26, Try.ntmps26
    go_wp2
    go_ret
    exact ⟨rfl, rfl⟩

set_option maxHeartbeats 400000 in
theorem within_ok (x : Int) (w : World) :
    Calls Try.prog 38 #[.int .i64 x, .int .i64 1048576] w fun e w' => e = .returned (.int .i64 (hold 1048576 x)) ∧ w' = w := by
  unfold hold
  by_cases h0 : x ≤ -1048576
  · rw [if_pos h0]
    go_enter Try.func38, Try.ntmps38
    go_wp2
    go_ret
    exact ⟨rfl, rfl⟩
  · rw [if_neg h0]
    by_cases h1 : 1048576 < x
    · rw [if_pos h1]
      go_enter Try.func38, Try.ntmps38
      go_wp2
      go_ret
      exact ⟨rfl, rfl⟩
    · rw [if_neg h1]
      by_cases h2 : x = 1048576
      · subst h2
        go_enter Try.func38, Try.ntmps38
        go_wp2
        go_ret
        exact ⟨rfl, rfl⟩
      · have h3 : ¬ 1048576 ≤ x := by omega
        go_enter Try.func38, Try.ntmps38
        go_wp2
        go_ret
        exact ⟨rfl, rfl⟩

set_option maxHeartbeats 400000 in
theorem rsign_ok (x : Int) (w : World) :
    Calls Try.prog 39 #[.int .i64 x] w fun e w' => e = .returned (.int .i64 (sgn x)) ∧ w' = w := by
  unfold sgn
  by_cases h0 : x < 0
  · rw [if_pos h0]
    have hd : decide (x > 0) = false := decide_eq_false (by omega)
    have hd2 : decide (x < 0) = true := decide_eq_true h0
    go_enter Try.func39, Try.ntmps39
    go_wp2
    go_ret
    exact ⟨rfl, rfl⟩
  · rw [if_neg h0]
    have hd2 : decide (x < 0) = false := decide_eq_false h0
    by_cases h1 : 0 < x
    · rw [if_pos h1]
      have hd : decide (x > 0) = true := decide_eq_true h1
      go_enter Try.func39, Try.ntmps39
      go_wp2
      go_ret
      exact ⟨rfl, rfl⟩
    · rw [if_neg h1]
      have hd : decide (x > 0) = false := decide_eq_false h1
      go_enter Try.func39, Try.ntmps39
      go_wp2
      go_ret
      exact ⟨rfl, rfl⟩

set_option maxHeartbeats 1000000 in
theorem eight_ok (l : Int) (hl0 : 0 ≤ l) (hl1 : l ≤ 4194304) (M : List Int) (hM : M.length = 8) (w : World) :
    Calls Try.prog 43 #[mdl M, .int .i64 l] w fun e w' => e = .returned (.bool (!anyOf (passed l) (fun j => M.getD j 0) 8)) ∧ Bel w w' := by
  have P : Hid (∀ x w, Calls Try.prog 26 #[.int .i64 x, .int .i64 (-l), .int .i64 l] w fun e w' => e = .returned (.bool (!passed l x)) ∧ w' = w) := fun x w => upto_ok l x w
  have NM : Hid (M.length = 8) := hM
  have H1 : Hid (Holds (w.alloc (.cells (vals M).toArray 39)) w.heap.size M) := holds_new w M _
  have B1 : Hid (Bel w (w.alloc (.cells (vals M).toArray 39))) := (Bel.refl w).alloc _
  go_enter Try.func43, Try.ntmps43
  go_wp2_with fail
  generalize w.alloc (.cells (vals M).toArray 39) = W at *
  go_loopw [5] (fun i wr => ∃ j : Nat, j ≤ 8 ∧ i = .int .i64 (j : Int) ∧ Hid (∀ i, i < j → passed l (M.getD i 0) = false) ∧ wr = W) (fun i _ => 8 - (intOf i).toNat)
  case atStart => exact ⟨0, by omega, rfl, (fun i hi => by omega : ∀ i, i < 0 → passed l (M.getD i 0) = false), rfl⟩
  case round =>
    obtain ⟨j, hj, rfl, HN, rfl⟩ := hrel
    by_cases hlt : j < 8
    · have hd : decide ((j : Int) < 8) = true := decide_eq_true (by omega)
      have hc := H1.out.cell j (by rw [NM.out]; exact hlt)
      have PP := P.out (M.getD j 0)
      cases hp : passed l (M.getD j 0)
      · have HN2 : Hid (∀ i, i < j + 1 → passed l (M.getD i 0) = false) := fun i hi => by
          rcases Nat.lt_or_ge i j with h | h
          · exact HN.out i h
          · obtain rfl : i = j := by omega
            exact hp
        rw [hp] at PP
        have PQ : Hid (∀ w, Calls Try.prog 26 #[.int .i64 (M.getD j 0), .int .i64 (-l), .int .i64 l] w fun e w' => e = .returned (.bool true) ∧ w' = w) := PP
        clear PP hp HN hM
        generalize M.getD j 0 = x at *
        go_wp2_with fail
        refine (PQ.out _).mono ?_
        rintro e w1 ⟨rfl, rfl⟩
        go_wp2
        go_roundw
        case rel => exact ⟨j + 1, by omega, by go_num, HN2, by trivial⟩
        case measure => simp [intOf]; omega
      · have HA : Hid (anyOf (passed l) (fun j => M.getD j 0) 8 = true) := anyOf_yes j hlt hp
        rw [hp] at PP
        have PQ : Hid (∀ w, Calls Try.prog 26 #[.int .i64 (M.getD j 0), .int .i64 (-l), .int .i64 l] w fun e w' => e = .returned (.bool false) ∧ w' = w) := PP
        clear PP hp HN hM
        generalize M.getD j 0 = x at *
        go_wp2_with fail
        refine (PQ.out _).mono ?_
        rintro e w1 ⟨rfl, rfl⟩
        go_wp2
        go_ret
        exact ⟨by rw [HA.out]; rfl, B1.out⟩
    · have hd : decide ((j : Int) < 8) = false := decide_eq_false (by omega)
      have HA : Hid (anyOf (passed l) (fun j => M.getD j 0) 8 = false) := anyOf_no fun i hi => HN.out i (by omega)
      clear HN hM
      go_wp2
      go_ret
      exact ⟨by rw [HA.out]; rfl, B1.out⟩

theorem may_parts (L : List Int) : mayL L = (!anyOf (passed 1048576) (fun j => ((L.drop 0).take 8).getD j 0) 8 && !anyOf (passed 4194304) (fun j => ((L.drop 8).take 8).getD j 0) 8) := by
  have e : ∀ (p : Int → Bool) (o : Nat) (f : Nat → Int), (∀ j, j < 8 → f j = L.getD (o + j) 0) → anyOf p f 8 = anyOf p (fun j => L.getD (o + j) 0) 8 := fun p o f h => by
    unfold anyOf
    refine congrArg (fun l => l) ?_
    rw [Bool.eq_iff_iff, List.any_eq_true, List.any_eq_true]
    exact ⟨fun ⟨j, hj, hp⟩ => ⟨j, hj, by show p (L.getD (o + j) 0) = true; rw [← h j (by simpa using hj)]; exact hp⟩, fun ⟨j, hj, hp⟩ => ⟨j, hj, by rw [h j (by simpa using hj)]; exact hp⟩⟩
  rw [e (passed 1048576) 0 _ (fun j hj => part8_get L 0 j hj), e (passed 4194304) 8 _ (fun j hj => part8_get L 8 j hj)]
  simp only [Nat.zero_add]
  rfl

set_option maxHeartbeats 1000000 in
theorem rmay_ok (L : List Int) (hL : L.length = 16) (w : World) :
    Calls Try.prog 37 #[mdl L] w fun e w' => e = .returned (.bool (mayL L)) ∧ Bel w w' := by
  rw [may_parts]
  obtain ⟨P, hP⟩ : ∃ P, (L.drop 0).take 8 = P := ⟨_, rfl⟩
  obtain ⟨Q, hQ⟩ : ∃ Q, (L.drop 8).take 8 = Q := ⟨_, rfl⟩
  have HP : Hid ((L.drop 0).take 8 = P) := hP
  have HQ : Hid ((L.drop 8).take 8 = Q) := hQ
  rw [hP, hQ]
  have NL : Hid (L.length = 16) := hL
  have C : Hid (∀ w, Calls Try.prog 43 #[mdl P, .int .i64 1048576] w fun e w' => e = .returned (.bool (!anyOf (passed 1048576) (fun j => P.getD j 0) 8)) ∧ Bel w w') := eight_ok 1048576 (by decide) (by decide) P (by rw [← hP]; simp; omega)
  have D : Hid (∀ w, Calls Try.prog 43 #[mdl Q, .int .i64 4194304] w fun e w' => e = .returned (.bool (!anyOf (passed 4194304) (fun j => Q.getD j 0) 8)) ∧ Bel w w') := eight_ok 4194304 (by decide) (by decide) Q (by rw [← hQ]; simp; omega)
  have H1 : Hid (Holds (w.alloc (.cells (vals L).toArray 41)) w.heap.size L) := holds_new w L 41
  generalize anyOf (passed 1048576) (fun j => P.getD j 0) 8 = p at *
  generalize anyOf (passed 4194304) (fun j => Q.getD j 0) 8 = q at *
  clear hL hP hQ
  cases p
  · go_enter Try.func37, Try.ntmps37
    go_wp2_with (first | (with_reducible refine wpl_load22 (o := 0) HP.out H1.out (by rw [NL.out]; decide) rfl ?_))
    refine (C.out _).mono ?_
    rintro e w1 ⟨rfl, b⟩
    have B2 : Hid (Bel w w1) := ((Bel.refl w).alloc _).trans b
    have H2 : Hid (Holds w1 w.heap.size L) := H1.out.bel b
    clear b H1
    go_wp2_with (first | (with_reducible refine wpl_load22g rfl (o := 8) HQ.out H2.out (by rw [NL.out]; decide) rfl ?_))
    refine (D.out _).mono ?_
    rintro e w2 ⟨rfl, b⟩
    have B3 : Hid (Bel w w2) := B2.out.trans b
    clear b
    go_wp2
    go_ret
    exact ⟨rfl, B3.out⟩
  · go_enter Try.func37, Try.ntmps37
    go_wp2_with (first | (with_reducible refine wpl_load22 (o := 0) HP.out H1.out (by rw [NL.out]; decide) rfl ?_))
    refine (C.out _).mono ?_
    rintro e w1 ⟨rfl, b⟩
    have B2 : Hid (Bel w w1) := ((Bel.refl w).alloc _).trans b
    clear b H1
    go_wp2
    go_ret
    exact ⟨rfl, B2.out⟩

set_option maxHeartbeats 1000000 in
theorem rguess_no (L : List Int) (hL : L.length = 16) (hm : mayL L = false) (w : World) :
    Calls Try.prog 30 #[mdl L] w fun e w' => e = .returned (.tuple #[.int .i64 0, .int .i64 1400]) ∧ Bel w w' := by
  have NL : Hid (L.length = 16) := hL
  have M : Hid (∀ w, Calls Try.prog 37 #[mdl L] w fun e w' => e = .returned (.bool false) ∧ Bel w w') := fun w => hm ▸ rmay_ok L hL w
  have H1 : Hid (Holds (w.alloc (.cells (vals L).toArray 41)) w.heap.size L) := holds_new w L 41
  clear hm hL
  go_enter Try.func30, Try.ntmps30
  go_wp2_with (first | (with_reducible refine wpl_load24 H1.out NL.out rfl ?_))
  refine (M.out _).mono ?_
  rintro e w1 ⟨rfl, b⟩
  have B1 : Hid (Bel w w1) := ((Bel.refl w).alloc _).trans b
  clear b
  go_wp2
  go_ret2
  exact ⟨rfl, B1.out⟩

set_option maxHeartbeats 2000000 in
theorem rguess_yes (L : List Int) (hL : L.length = 16) (hm : mayL L = true) (w : World) :
    Calls Try.prog 30 #[mdl L] w fun e w' => e = .returned (.tuple #[.int .i64 (guess L), .int .i64 0]) ∧ Bel w w' := by
  have NL : Hid (L.length = 16) := hL
  have M : Hid (∀ w, Calls Try.prog 37 #[mdl L] w fun e w' => e = .returned (.bool true) ∧ Bel w w') := fun w => hm ▸ rmay_ok L hL w
  have H1 : Hid (Holds (w.alloc (.cells (vals L).toArray 41)) w.heap.size L) := holds_new w L 41
  have PR : Hid (∀ k, k < 8 → -4398046511104 ≤ L.getD k 0 * L.getD (8 + k) 0 ∧ L.getD k 0 * L.getD (8 + k) 0 ≤ 4398046511104) := prod_range hm
  have DR : Hid (∀ n : Nat, n ≤ 8 → -((n : Int) * 4398046511104) ≤ dot L n ∧ dot L n ≤ (n : Int) * 4398046511104) := dot_range hm
  have DN : Hid (∀ n, dot L (n + 1) = dot L n + L.getD n 0 * L.getD (8 + n) 0) := fun _ => rfl
  have HO : Hid (∀ w, Calls Try.prog 38 #[.int .i64 (dot L 8 / 4096), .int .i64 1048576] w fun e w' => e = .returned (.int .i64 (guess L)) ∧ w' = w) := fun w => within_ok (dot L 8 / 4096) w
  generalize guess L = g at *
  clear hm hL
  go_enter Try.func30, Try.ntmps30
  go_wp2_with (first | (with_reducible refine wpl_load24 H1.out NL.out rfl ?_))
  refine (M.out _).mono ?_
  rintro e w1 ⟨rfl, b⟩
  have B1 : Hid (Bel w w1) := ((Bel.refl w).alloc _).trans b
  have H2 : Hid (Holds w1 w.heap.size L) := H1.out.bel b
  clear b H1 M
  go_wp2_with fail
  go_loopw [5, 4] (fun i s wr => ∃ j : Nat, j ≤ 8 ∧ i = .int .i64 (j : Int) ∧ s = .int .i64 (dot L j) ∧ Holds wr w.heap.size L ∧ Bel w wr) (fun i _ _ => 8 - (intOf i).toNat)
  case atStart => exact ⟨0, by omega, rfl, rfl, H2.out, B1.out⟩
  case round =>
    obtain ⟨j, hj, rfl, rfl, h, b⟩ := hrel
    have H3 : Hid (Holds wr w.heap.size L) := h
    have B3 : Hid (Bel w wr) := b
    clear h b H2 B1
    by_cases hlt : j < 8
    · have hd : decide ((j : Int) < 8) = true := decide_eq_true (by omega)
      have c0 := H3.out.cell j (by rw [NL.out]; omega)
      have c1 := H3.out.cell (8 + j) (by rw [NL.out]; omega)
      obtain ⟨p0, p1⟩ := PR.out j hlt
      obtain ⟨d0, d1⟩ := DR.out j hj
      have DN2 : Hid (dot L (j + 1) = dot L j + L.getD j 0 * L.getD (8 + j) 0) := DN.out j
      generalize dot L j = s at *
      generalize L.getD j 0 = x at *
      generalize L.getD (8 + j) 0 = y at *
      have W1 : IntKind.i64.wrap (x * y) = x * y := by rw [IntKind.wrap_i64]; generalize x * y = p at *; omega
      have W2 : IntKind.i64.wrap (s + x * y) = s + x * y := by rw [IntKind.wrap_i64]; generalize x * y = p at *; omega
      go_wp2
      go_quiet (fail)
      go_wp2
      go_roundw
      case rel => exact ⟨j + 1, by omega, by go_num, by first | exact congrArg (Value.int .i64) DN2.out.symm | (rw [DN2.out]; simp only [W1, W2]), H3.out.drewN _, B3.out.drewN _⟩
      case measure => simp [intOf]; omega
    · have hd : decide ((j : Int) < 8) = false := decide_eq_false (by omega)
      have e8 : j = 8 := by omega
      subst e8
      obtain ⟨d0, d1⟩ := DR.out 8 (by omega)
      generalize dot L 8 = s at *
      go_wp2_with fail
      refine (HO.out _).mono ?_
      rintro e w1 ⟨rfl, rfl⟩
      go_wp2
      go_ret2
      exact ⟨rfl, B3.out⟩

end Go.Proofs.Ytamefddgpdhccaa.Lin
