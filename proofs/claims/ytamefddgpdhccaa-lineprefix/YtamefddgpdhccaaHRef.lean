/-
  The contracts of the reference's ChainMay, ChainGuess, and of its ChainLearn for what may not be. No condition.
-/
import Derived.Test.YtamefddgpdhccaaHLearn
import Derived.Test.YtamefddgpdhccaaLRefLearnY
namespace Go.Proofs.Ytamefddgpdhccaa.Chn
open Go.RowKit Go.Sort Go.Proofs.Ytamefddgpdhccaa.Mod Go.Proofs.Ytamefddgpdhccaa.Lin
set_option linter.unusedVariables false
set_option linter.unusedSimpArgs false

theorem sample_ok (x : Int) (w : World) :
    Calls Try.prog 31 #[.int .i64 x] w fun e w' => e = .returned (.bool (!passed 131072 x)) ∧ w' = w := by
  have U : Hid (∀ w, Calls Try.prog 26 #[.int .i64 x, .int .i64 (-131072), .int .i64 131072] w fun e w' => e = .returned (.bool (!passed 131072 x)) ∧ w' = w) := upto_ok 131072 x
  generalize passed 131072 x = p at *
  go_enter Try.func31, Try.ntmps31
  go_wp2_with fail
  refine (U.out _).mono ?_
  rintro e w1 ⟨rfl, rfl⟩
  go_wp2
  go_ret
  exact ⟨rfl, rfl⟩

set_option maxRecDepth 20000 in
set_option maxHeartbeats 1000000 in
theorem rcmay_ok (M : List Int) (hM : M.length = 33) (w : World) :
    Calls Try.prog 29 #[mdl M] w fun e w' => e = .returned (.bool (mayC M)) ∧ Bel w w' := by
  obtain ⟨x, hx⟩ : ∃ x, M.getD 0 0 = x := ⟨_, rfl⟩
  obtain ⟨A, hA⟩ : ∃ A, partA M = A := ⟨_, rfl⟩
  obtain ⟨B, hB⟩ : ∃ B, partB M = B := ⟨_, rfl⟩
  have P : Hid (∀ w, Calls Try.prog 31 #[.int .i64 x] w fun e w' => e = .returned (.bool (!passed 131072 x)) ∧ w' = w) := sample_ok x
  have MA : Hid (∀ w, Calls Try.prog 37 #[mdl A] w fun e w' => e = .returned (.bool (mayL A)) ∧ Bel w w') := Lin.rmay_ok A (hA ▸ partA_len hM)
  have MB : Hid (∀ w, Calls Try.prog 37 #[mdl B] w fun e w' => e = .returned (.bool (mayL B)) ∧ Bel w w') := Lin.rmay_ok B (hB ▸ partB_len hM)
  unfold mayC
  rw [hx, hA, hB]
  have H1 : Hid (Holds (w.alloc (.cells (vals M).toArray 43)) w.heap.size M) := holds_new w M _
  have c0 := H1.out.cell 0 (by omega)
  rw [hx] at c0
  have HA : Hid ((M.drop 1).take 16 = A) := hA
  have HB : Hid ((M.drop 17).take 16 = B) := hB
  have O1 : Hid (1 + 16 ≤ M.length) := show _ ≤ _ by omega
  have O2 : Hid (17 + 16 ≤ M.length) := show _ ≤ _ by omega
  generalize passed 131072 x = p at *
  generalize mayL A = q at *
  generalize mayL B = r at *
  clear hx hA hB hM
  cases p
  · cases q
    · go_enter Try.func29, Try.ntmps29
      go_wp2_with fail
      refine (P.out _).mono ?_
      rintro e w1 ⟨rfl, rfl⟩
      go_wp2_with (first | (with_reducible refine wpl_load_wideg (o := 1) rfl wide24 HA.out H1.out O1.out rfl ?_))
      refine (MA.out _).mono ?_
      rintro e w1 ⟨rfl, b⟩
      have B1 : Hid (Bel w w1) := ((Bel.refl w).alloc _).trans b
      clear b
      go_wp2
      go_ret
      exact ⟨rfl, B1.out⟩
    · go_enter Try.func29, Try.ntmps29
      go_wp2_with fail
      refine (P.out _).mono ?_
      rintro e w1 ⟨rfl, rfl⟩
      go_wp2_with (first | (with_reducible refine wpl_load_wideg (o := 1) rfl wide24 HA.out H1.out O1.out rfl ?_))
      refine (MA.out _).mono ?_
      rintro e w1 ⟨rfl, b⟩
      have B1 : Hid (Bel w w1) := ((Bel.refl w).alloc _).trans b
      have H2 : Hid (Holds w1 w.heap.size M) := H1.out.bel b
      clear b
      go_wp2_with (first | (with_reducible refine wpl_load_wideg (o := 17) rfl wide24 HB.out H2.out O2.out rfl ?_))
      refine (MB.out _).mono ?_
      rintro e w2 ⟨rfl, b⟩
      have B2 : Hid (Bel w w2) := B1.out.trans b
      clear b
      go_wp2
      go_ret
      exact ⟨rfl, B2.out⟩
  · go_enter Try.func29, Try.ntmps29
    go_wp2_with fail
    refine (P.out _).mono ?_
    rintro e w1 ⟨rfl, rfl⟩
    go_wp2
    go_ret
    exact ⟨rfl, (Bel.refl _).alloc _⟩

set_option maxRecDepth 20000 in
set_option maxHeartbeats 1000000 in
theorem rcguess_no (M : List Int) (hM : M.length = 33) (hm : mayC M = false) (w : World) :
    Calls Try.prog 21 #[mdl M] w fun e w' => e = .returned (.tuple #[.int .i64 0, .int .i64 1500]) ∧ Bel w w' := by
  have K : Hid (∀ w, Calls Try.prog 29 #[mdl M] w fun e w' => e = .returned (.bool false) ∧ Bel w w') := fun w => hm ▸ rcmay_ok M hM w
  have H1 : Hid (Holds (w.alloc (.cells (vals M).toArray 43)) w.heap.size M) := holds_new w M _
  have TA : Hid ((M.drop 0).take 33 = M) := take_all hM
  have O0 : Hid (0 + 33 ≤ M.length) := show _ ≤ _ by omega
  clear hm hM
  go_enter Try.func21, Try.ntmps21
  go_wp2_with (first | (with_reducible refine wpl_load_wide (o := 0) wide26 TA.out H1.out O0.out rfl ?_))
  refine (K.out _).mono ?_
  rintro e w1 ⟨rfl, b⟩
  have B1 : Hid (Bel w w1) := ((Bel.refl w).alloc _).trans b
  clear b
  go_wp2
  go_ret2
  exact ⟨rfl, B1.out⟩

set_option maxRecDepth 20000 in
set_option maxHeartbeats 1000000 in
theorem rcguess_yes (M : List Int) (hM : M.length = 33) (hm : mayC M = true) (w : World) :
    Calls Try.prog 21 #[mdl M] w fun e w' => e = .returned (.tuple #[.int .i64 (guessC M), .int .i64 0]) ∧ Bel w w' := by
  have K : Hid (∀ w, Calls Try.prog 29 #[mdl M] w fun e w' => e = .returned (.bool true) ∧ Bel w w') := fun w => hm ▸ rcmay_ok M hM w
  have H1 : Hid (Holds (w.alloc (.cells (vals M).toArray 43)) w.heap.size M) := holds_new w M _
  have TA : Hid ((M.drop 0).take 33 = M) := take_all hM
  have O0 : Hid (0 + 33 ≤ M.length) := show _ ≤ _ by omega
  obtain ⟨⟨x0, x1⟩, mA, mB⟩ := (mayC_iff M).1 hm
  unfold guessC
  obtain ⟨x, hx⟩ : ∃ x, M.getD 0 0 = x := ⟨_, rfl⟩
  obtain ⟨A, hA⟩ : ∃ A, partA M = A := ⟨_, rfl⟩
  obtain ⟨B, hB⟩ : ∃ B, partB M = B := ⟨_, rfl⟩
  have HA : Hid ((M.drop 1).take 16 = A) := hA
  have HB : Hid ((M.drop 17).take 16 = B) := hB
  have O1 : Hid (1 + 16 ≤ M.length) := show _ ≤ _ by omega
  have O2 : Hid (17 + 16 ≤ M.length) := show _ ≤ _ by omega
  rw [hA] at mA
  rw [hB] at mB
  rw [hx] at x0 x1
  rw [hx, hA, hB]
  have GA : Hid (∀ w, Calls Try.prog 30 #[mdl A] w fun e w' => e = .returned (.tuple #[.int .i64 (guess A), .int .i64 0]) ∧ Bel w w') := Lin.rguess_yes A (hA ▸ partA_len hM) mA
  have GB : Hid (∀ w, Calls Try.prog 30 #[mdl B] w fun e w' => e = .returned (.tuple #[.int .i64 (guess B), .int .i64 0]) ∧ Bel w w') := Lin.rguess_yes B (hB ▸ partB_len hM) mB
  have CX : Hid (∀ w b, Holds w b M → w.cell? ⟨b, 0, none⟩ = some (.int .i64 x)) := fun w b h => hx ▸ h.cell 0 (by omega)
  obtain ⟨a0, a1⟩ := guess_range A
  obtain ⟨b0, b1⟩ := guess_range B
  generalize guess A = ga at *
  generalize guess B = gb at *
  clear hm hM hx hA hB mA mB
  go_enter Try.func21, Try.ntmps21
  go_wp2_with (first | (with_reducible refine wpl_load_wide (o := 0) wide26 TA.out H1.out O0.out rfl ?_))
  refine (K.out _).mono ?_
  rintro e w1 ⟨rfl, b⟩
  have B1 : Hid (Bel w w1) := ((Bel.refl w).alloc _).trans b
  have H2 : Hid (Holds w1 w.heap.size M) := H1.out.bel b
  clear b
  go_wp2_with (first | (with_reducible refine wpl_load_wide (o := 1) wide24 HA.out H2.out O1.out rfl ?_))
  refine (GA.out _).mono ?_
  rintro e w2 ⟨rfl, b⟩
  have B2 : Hid (Bel w w2) := B1.out.trans b
  have H3 : Hid (Holds w2 w.heap.size M) := H2.out.bel b
  clear b
  go_wp2_with (first | (with_reducible refine wpl_load_wide (o := 17) wide24 HB.out H3.out O2.out rfl ?_))
  refine (GB.out _).mono ?_
  rintro e w3 ⟨rfl, b⟩
  have B3 : Hid (Bel w w3) := B2.out.trans b
  have c0 := CX.out _ _ (H3.out.bel b)
  clear b
  go_wp2
  go_ret2
  exact ⟨rfl, B3.out⟩

set_option maxRecDepth 20000 in
set_option maxHeartbeats 1000000 in
theorem rclearn_no (M : List Int) (hM : M.length = 33) (x : Int) (hm : mayC M = false) (w : World) :
    Calls Try.prog 22 #[mdl M, .int .i64 x] w fun e w' => e = .returned (.tuple #[mdl zeros33, .int .i64 1500]) ∧ Bel w w' := by
  have K : Hid (∀ w, Calls Try.prog 29 #[mdl M] w fun e w' => e = .returned (.bool false) ∧ Bel w w') := fun w => hm ▸ rcmay_ok M hM w
  have z := zero26
  have TA : Hid ((M.drop 0).take 33 = M) := take_all hM
  have O0 : Hid (0 + 33 ≤ M.length) := show _ ≤ _ by omega
  have NZ : Hid (zeros33.length = 33) := zeros33_len
  have OZ : Hid (0 + 33 ≤ zeros33.length) := show _ ≤ _ by rw [zeros33_len]; decide
  have ZZ : Hid (put zeros33 0 zeros33 = zeros33) := put_all _ _ rfl
  have H1 : Hid (Holds ((w.alloc (.cells (vals M).toArray 43)).alloc (.cells (vals zeros33).toArray 43)) w.heap.size M) := (holds_new w M _).bel ((Bel.refl _).alloc _)
  have R1 : Hid (Holds ((w.alloc (.cells (vals M).toArray 43)).alloc (.cells (vals zeros33).toArray 43)) (w.heap.size + 1) zeros33) := holds_at (by simp) zeros33 _
  clear hm hM
  go_enter Try.func22, Try.ntmps22
  go_wp2_with (first | (with_reducible refine wpl_load_wide (o := 0) wide26 TA.out H1.out O0.out rfl ?_))
  refine (K.out _).mono ?_
  rintro e w1 ⟨rfl, b⟩
  have B1 : Hid (Bel w w1) := (((Bel.refl w).alloc _).alloc _).trans b
  have R2 : Hid (Holds w1 (w.heap.size + 1) zeros33) := R1.out.bel b
  clear b R1 H1
  go_wp2_with (first
    | (with_reducible refine wpl_build26 ?_)
    | ((with_reducible refine wpl_store_widew (o := 0) wide26 B1.out R2.out (Nat.le_succ _) OZ.out NZ.out ZZ.out rfl rfl ?_); intro w2 R3 B2 K2))
  exact bodyPost_ret (v := .tuple #[mdl zeros33, .int .i64 1500]) (results_chain2 Try.results22 rfl rfl R3.out NZ.out) rfl ⟨rfl, B2.out⟩

set_option maxRecDepth 20000 in
set_option maxHeartbeats 1000000 in
theorem rclearn_far (M : List Int) (hM : M.length = 33) (x : Int) (hm : mayC M = true) (hx : passed 131072 x = true) (w : World) :
    Calls Try.prog 22 #[mdl M, .int .i64 x] w fun e w' => e = .returned (.tuple #[mdl zeros33, .int .i64 1500]) ∧ Bel w w' := by
  have K : Hid (∀ w, Calls Try.prog 29 #[mdl M] w fun e w' => e = .returned (.bool true) ∧ Bel w w') := fun w => hm ▸ rcmay_ok M hM w
  have P : Hid (∀ w, Calls Try.prog 31 #[.int .i64 x] w fun e w' => e = .returned (.bool false) ∧ w' = w) := fun w => (show (!passed 131072 x) = false by rw [hx]; rfl) ▸ sample_ok x w
  have z := zero26
  have TA : Hid ((M.drop 0).take 33 = M) := take_all hM
  have O0 : Hid (0 + 33 ≤ M.length) := show _ ≤ _ by omega
  have NZ : Hid (zeros33.length = 33) := zeros33_len
  have OZ : Hid (0 + 33 ≤ zeros33.length) := show _ ≤ _ by rw [zeros33_len]; decide
  have ZZ : Hid (put zeros33 0 zeros33 = zeros33) := put_all _ _ rfl
  have H1 : Hid (Holds ((w.alloc (.cells (vals M).toArray 43)).alloc (.cells (vals zeros33).toArray 43)) w.heap.size M) := (holds_new w M _).bel ((Bel.refl _).alloc _)
  have R1 : Hid (Holds ((w.alloc (.cells (vals M).toArray 43)).alloc (.cells (vals zeros33).toArray 43)) (w.heap.size + 1) zeros33) := holds_at (by simp) zeros33 _
  clear hm hM hx
  go_enter Try.func22, Try.ntmps22
  go_wp2_with (first | (with_reducible refine wpl_load_wide (o := 0) wide26 TA.out H1.out O0.out rfl ?_))
  refine (K.out _).mono ?_
  rintro e w1 ⟨rfl, b⟩
  have B1 : Hid (Bel w w1) := (((Bel.refl w).alloc _).alloc _).trans b
  have R2 : Hid (Holds w1 (w.heap.size + 1) zeros33) := R1.out.bel b
  clear b R1 H1
  go_wp2_with fail
  refine (P.out _).mono ?_
  rintro e w2 ⟨rfl, rfl⟩
  go_wp2_with (first
    | (with_reducible refine wpl_build26 ?_)
    | ((with_reducible refine wpl_store_widew (o := 0) wide26 B1.out R2.out (Nat.le_succ _) OZ.out NZ.out ZZ.out rfl rfl ?_); intro w2 R3 B2 K2))
  exact bodyPost_ret (v := .tuple #[mdl zeros33, .int .i64 1500]) (results_chain2 Try.results22 rfl rfl R3.out NZ.out) rfl ⟨rfl, B2.out⟩

end Go.Proofs.Ytamefddgpdhccaa.Chn
