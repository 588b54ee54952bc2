/-
  The contracts of chain.May and chain.Guess. No condition.
-/
import Derived.Test.YtamefddgpdhccaaHLaw
import Derived.Test.YtamefddgpdhccaaLLearnY
namespace Go.Proofs.Ytamefddgpdhccaa.Chn
open Go.RowKit Go.Sort Go.Proofs.Ytamefddgpdhccaa.Mod Go.Proofs.Ytamefddgpdhccaa.Lin
set_option linter.unusedVariables false
set_option linter.unusedSimpArgs false

set_option maxRecDepth 20000 in
set_option maxHeartbeats 1000000 in
theorem may_ok (M : List Int) (hM : M.length = 33) (w : World) :
    Calls Try.prog 34 #[mdl M] w fun e w' => e = .returned (.bool (mayC M)) ∧ Bel w w' := by
  obtain ⟨x, hx⟩ : ∃ x, M.getD 0 0 = x := ⟨_, rfl⟩
  obtain ⟨A, hA⟩ : ∃ A, partA M = A := ⟨_, rfl⟩
  obtain ⟨B, hB⟩ : ∃ B, partB M = B := ⟨_, rfl⟩
  have P : Hid (∀ w, Calls Try.prog 24 #[.int .i64 131072, .int .i64 x] w fun e w' => e = .returned (.bool (passed 131072 x)) ∧ w' = w) := fun w => passed_ok 131072 x (by decide) (by decide) w
  have MA : Hid (∀ w, Calls Try.prog 40 #[mdl A] w fun e w' => e = .returned (.bool (mayL A)) ∧ Bel w w') := Lin.may_ok A (hA ▸ partA_len hM)
  have MB : Hid (∀ w, Calls Try.prog 40 #[mdl B] w fun e w' => e = .returned (.bool (mayL B)) ∧ Bel w w') := Lin.may_ok B (hB ▸ partB_len hM)
  unfold mayC
  rw [hx, hA, hB]
  have H1 : Hid (Holds (w.alloc (.cells (vals M).toArray 43)) w.heap.size M) := holds_new w M _
  have c0 := H1.out.cell 0 (by omega)
  rw [hx] at c0
  have HA : Hid ((M.drop 1).take 16 = A) := hA
  have HB : Hid ((M.drop 17).take 16 = B) := hB
  have O1 : Hid (1 + 16 ≤ M.length) := show _ ≤ _ by omega
  have O2 : Hid (17 + 16 ≤ M.length) := show _ ≤ _ by omega
  generalize passed 131072 x = p at *
  generalize mayL A = q at *
  generalize mayL B = r at *
  clear hx hA hB hM
  cases p
  · cases q
    · go_enter Try.func34, Try.ntmps34
      go_wp2_with fail
      refine (P.out _).mono ?_
      rintro e w1 ⟨rfl, rfl⟩
      go_wp2_with (first | (with_reducible refine wpl_load_wideg (o := 1) rfl wide24 HA.out H1.out O1.out rfl ?_))
      refine (MA.out _).mono ?_
      rintro e w1 ⟨rfl, b⟩
      have B1 : Hid (Bel w w1) := ((Bel.refl w).alloc _).trans b
      clear b
      go_wp2
      go_ret
      exact ⟨rfl, B1.out⟩
    · go_enter Try.func34, Try.ntmps34
      go_wp2_with fail
      refine (P.out _).mono ?_
      rintro e w1 ⟨rfl, rfl⟩
      go_wp2_with (first | (with_reducible refine wpl_load_wideg (o := 1) rfl wide24 HA.out H1.out O1.out rfl ?_))
      refine (MA.out _).mono ?_
      rintro e w1 ⟨rfl, b⟩
      have B1 : Hid (Bel w w1) := ((Bel.refl w).alloc _).trans b
      have H2 : Hid (Holds w1 w.heap.size M) := H1.out.bel b
      clear b
      go_wp2_with (first | (with_reducible refine wpl_load_wideg (o := 17) rfl wide24 HB.out H2.out O2.out rfl ?_))
      refine (MB.out _).mono ?_
      rintro e w2 ⟨rfl, b⟩
      have B2 : Hid (Bel w w2) := B1.out.trans b
      clear b
      go_wp2
      go_ret
      exact ⟨rfl, B2.out⟩
  · go_enter Try.func34, Try.ntmps34
    go_wp2_with fail
    refine (P.out _).mono ?_
    rintro e w1 ⟨rfl, rfl⟩
    go_wp2
    go_ret
    exact ⟨rfl, (Bel.refl _).alloc _⟩

set_option maxRecDepth 20000 in
set_option maxHeartbeats 1000000 in
theorem guess_no (M : List Int) (hM : M.length = 33) (hm : mayC M = false) (w : World) :
    Calls Try.prog 27 #[mdl M] w fun e w' => e = .returned (.tuple #[.int .i64 0, .int .i64 1500]) ∧ Bel w w' := by
  have K : Hid (∀ w, Calls Try.prog 34 #[mdl M] w fun e w' => e = .returned (.bool false) ∧ Bel w w') := fun w => hm ▸ may_ok M hM w
  have H1 : Hid (Holds (w.alloc (.cells (vals M).toArray 43)) w.heap.size M) := holds_new w M _
  have TA : Hid ((M.drop 0).take 33 = M) := take_all hM
  have O0 : Hid (0 + 33 ≤ M.length) := show _ ≤ _ by omega
  clear hm hM
  go_enter Try.func27, Try.ntmps27
  go_wp2_with (first | (with_reducible refine wpl_load_wide (o := 0) wide26 TA.out H1.out O0.out rfl ?_))
  refine (K.out _).mono ?_
  rintro e w1 ⟨rfl, b⟩
  have B1 : Hid (Bel w w1) := ((Bel.refl w).alloc _).trans b
  clear b
  go_wp2
  go_ret2
  exact ⟨rfl, B1.out⟩

set_option maxRecDepth 20000 in
set_option maxHeartbeats 1000000 in
theorem guess_yes (M : List Int) (hM : M.length = 33) (hm : mayC M = true) (w : World) :
    Calls Try.prog 27 #[mdl M] w fun e w' => e = .returned (.tuple #[.int .i64 (guessC M), .int .i64 0]) ∧ Bel w w' := by
  have K : Hid (∀ w, Calls Try.prog 34 #[mdl M] w fun e w' => e = .returned (.bool true) ∧ Bel w w') := fun w => hm ▸ may_ok M hM w
  have H1 : Hid (Holds (w.alloc (.cells (vals M).toArray 43)) w.heap.size M) := holds_new w M _
  have TA : Hid ((M.drop 0).take 33 = M) := take_all hM
  have O0 : Hid (0 + 33 ≤ M.length) := show _ ≤ _ by omega
  obtain ⟨⟨x0, x1⟩, mA, mB⟩ := (mayC_iff M).1 hm
  unfold guessC
  obtain ⟨x, hx⟩ : ∃ x, M.getD 0 0 = x := ⟨_, rfl⟩
  obtain ⟨A, hA⟩ : ∃ A, partA M = A := ⟨_, rfl⟩
  obtain ⟨B, hB⟩ : ∃ B, partB M = B := ⟨_, rfl⟩
  have HA : Hid ((M.drop 1).take 16 = A) := hA
  have HB : Hid ((M.drop 17).take 16 = B) := hB
  have O1 : Hid (1 + 16 ≤ M.length) := show _ ≤ _ by omega
  have O2 : Hid (17 + 16 ≤ M.length) := show _ ≤ _ by omega
  rw [hA] at mA
  rw [hB] at mB
  rw [hx] at x0 x1
  rw [hx, hA, hB]
  have GA : Hid (∀ w, Calls Try.prog 35 #[mdl A] w fun e w' => e = .returned (.tuple #[.int .i64 (guess A), .int .i64 0]) ∧ Bel w w') := Lin.guess_yes A (hA ▸ partA_len hM) mA
  have GB : Hid (∀ w, Calls Try.prog 35 #[mdl B] w fun e w' => e = .returned (.tuple #[.int .i64 (guess B), .int .i64 0]) ∧ Bel w w') := Lin.guess_yes B (hB ▸ partB_len hM) mB
  have CX : Hid (∀ w b, Holds w b M → w.cell? ⟨b, 0, none⟩ = some (.int .i64 x)) := fun w b h => hx ▸ h.cell 0 (by omega)
  obtain ⟨a0, a1⟩ := guess_range A
  obtain ⟨b0, b1⟩ := guess_range B
  generalize guess A = ga at *
  generalize guess B = gb at *
  clear hm hM hx hA hB mA mB
  go_enter Try.func27, Try.ntmps27
  go_wp2_with (first | (with_reducible refine wpl_load_wide (o := 0) wide26 TA.out H1.out O0.out rfl ?_))
  refine (K.out _).mono ?_
  rintro e w1 ⟨rfl, b⟩
  have B1 : Hid (Bel w w1) := ((Bel.refl w).alloc _).trans b
  have H2 : Hid (Holds w1 w.heap.size M) := H1.out.bel b
  clear b
  go_wp2_with (first | (with_reducible refine wpl_load_wide (o := 1) wide24 HA.out H2.out O1.out rfl ?_))
  refine (GA.out _).mono ?_
  rintro e w2 ⟨rfl, b⟩
  have B2 : Hid (Bel w w2) := B1.out.trans b
  have H3 : Hid (Holds w2 w.heap.size M) := H2.out.bel b
  clear b
  go_wp2_with (first | (with_reducible refine wpl_load_wide (o := 17) wide24 HB.out H3.out O2.out rfl ?_))
  refine (GB.out _).mono ?_
  rintro e w3 ⟨rfl, b⟩
  have B3 : Hid (Bel w w3) := B2.out.trans b
  have c0 := CX.out _ _ (H3.out.bel b)
  clear b
  go_wp2
  go_ret2
  exact ⟨rfl, B3.out⟩

end Go.Proofs.Ytamefddgpdhccaa.Chn
