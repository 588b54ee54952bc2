/-
  The contract of lms.Guess. No condition.
-/
import Derived.Test.YtamefddgpdhccaaLMay
namespace Go.Proofs.Ytamefddgpdhccaa.Lin
open Go.RowKit Go.Sort Go.Proofs.Ytamefddgpdhccaa.Mod
set_option linter.unusedVariables false
set_option linter.unusedSimpArgs false

set_option maxHeartbeats 1000000 in
theorem guess_no (L : List Int) (hL : L.length = 16) (hm : mayL L = false) (w : World) :
    Calls Try.prog 35 #[mdl L] w fun e w' => e = .returned (.tuple #[.int .i64 0, .int .i64 1400]) ∧ Bel w w' := by
  have NL : Hid (L.length = 16) := hL
  have M : Hid (∀ w, Calls Try.prog 40 #[mdl L] w fun e w' => e = .returned (.bool false) ∧ Bel w w') := fun w => hm ▸ may_ok L hL w
  have H1 : Hid (Holds (w.alloc (.cells (vals L).toArray 41)) w.heap.size L) := holds_new w L 41
  clear hm hL
  go_enter Try.func35, Try.ntmps35
  go_wp2_with (first | (with_reducible refine wpl_load24 H1.out NL.out rfl ?_))
  refine (M.out _).mono ?_
  rintro e w1 ⟨rfl, b⟩
  have B1 : Hid (Bel w w1) := ((Bel.refl w).alloc _).trans b
  clear b
  go_wp2
  go_ret2
  exact ⟨rfl, B1.out⟩

set_option maxHeartbeats 2000000 in
theorem guess_yes (L : List Int) (hL : L.length = 16) (hm : mayL L = true) (w : World) :
    Calls Try.prog 35 #[mdl L] w fun e w' => e = .returned (.tuple #[.int .i64 (guess L), .int .i64 0]) ∧ Bel w w' := by
  have NL : Hid (L.length = 16) := hL
  have M : Hid (∀ w, Calls Try.prog 40 #[mdl L] w fun e w' => e = .returned (.bool true) ∧ Bel w w') := fun w => hm ▸ may_ok L hL w
  have H1 : Hid (Holds (w.alloc (.cells (vals L).toArray 41)) w.heap.size L) := holds_new w L 41
  have PR : Hid (∀ k, k < 8 → -4398046511104 ≤ L.getD k 0 * L.getD (8 + k) 0 ∧ L.getD k 0 * L.getD (8 + k) 0 ≤ 4398046511104) := prod_range hm
  have DR : Hid (∀ n : Nat, n ≤ 8 → -((n : Int) * 4398046511104) ≤ dot L n ∧ dot L n ≤ (n : Int) * 4398046511104) := dot_range hm
  obtain ⟨W, hW⟩ : ∃ W, (L.drop 0).take 8 = W := ⟨_, rfl⟩
  have HW : Hid ((L.drop 0).take 8 = W) := hW
  have IX : Hid (∀ (k : Nat) (w : World), k < 8 → (Instr.index 39 (mdl W) (.int .i64 (k : Int))).run Try.prog w = .ok (.int .i64 (L.getD k 0)) w) := fun k w hk => by
    have := ix22 ((L.drop 0).take 8) (by simp; omega) k hk w
    rwa [part8_get L 0 k hk, Nat.zero_add, hW] at this
  have DN : Hid (∀ n, dot L (n + 1) = dot L n + L.getD n 0 * L.getD (8 + n) 0) := fun _ => rfl
  have HO : Hid (∀ w, Calls Try.prog 41 #[.int .i64 1048576, .int .i64 (dot L 8 / 4096)] w fun e w' => e = .returned (.int .i64 (guess L)) ∧ w' = w) := fun w => hold_ok (dot L 8 / 4096) w
  generalize guess L = g at *
  clear hm hL hW
  go_enter Try.func35, Try.ntmps35
  go_wp2_with (first | (with_reducible refine wpl_load24 H1.out NL.out rfl ?_))
  refine (M.out _).mono ?_
  rintro e w1 ⟨rfl, b⟩
  have B1 : Hid (Bel w w1) := ((Bel.refl w).alloc _).trans b
  have H2 : Hid (Holds w1 w.heap.size L) := H1.out.bel b
  clear b
  go_wp2_with (first | (with_reducible refine wpl_load22 (o := 0) HW.out H2.out (by rw [NL.out]; decide) rfl ?_))
  go_loopw [12, 4] (fun i s wr => ∃ j : Nat, j ≤ 8 ∧ i = .int .i64 (j : Int) ∧ s = .int .i64 (dot L j) ∧ wr = w1) (fun i _ _ => 8 - (intOf i).toNat)
  case atStart => exact ⟨0, by omega, rfl, rfl, rfl⟩
  case round =>
    obtain ⟨j, hj, rfl, rfl, rfl⟩ := hrel
    by_cases hlt : j < 8
    · have hd : decide ((j : Int) < 8) = true := decide_eq_true (by omega)
      have ix := fun w => IX.out j w hlt
      have c1 := H2.out.cell (8 + j) (by rw [NL.out]; omega)
      obtain ⟨p0, p1⟩ := PR.out j hlt
      obtain ⟨d0, d1⟩ := DR.out j hj
      have DN2 : Hid (dot L (j + 1) = dot L j + L.getD j 0 * L.getD (8 + j) 0) := DN.out j
      generalize dot L j = s at *
      generalize L.getD j 0 = x at *
      generalize L.getD (8 + j) 0 = y at *
      go_wp2
      go_roundw
      case rel => exact ⟨j + 1, by omega, by go_num, by first | exact congrArg (Value.int .i64) DN2.out.symm | (rw [DN2.out]), by trivial⟩
      case measure => simp [intOf]; omega
    · have hd : decide ((j : Int) < 8) = false := decide_eq_false (by omega)
      obtain rfl : j = 8 := by omega
      obtain ⟨d0, d1⟩ := DR.out 8 (by omega)
      generalize dot L 8 = s at *
      go_wp2_with fail
      refine (HO.out _).mono ?_
      rintro e w1 ⟨rfl, rfl⟩
      go_wp2
      go_ret2
      exact ⟨rfl, B1.out⟩

end Go.Proofs.Ytamefddgpdhccaa.Lin
