/-
  The contract of chain.Learn. No condition.
-/
import Derived.Test.YtamefddgpdhccaaHMay
namespace Go.Proofs.Ytamefddgpdhccaa.Chn
open Go.RowKit Go.Sort Go.Proofs.Ytamefddgpdhccaa.Mod Go.Proofs.Ytamefddgpdhccaa.Lin
set_option linter.unusedVariables false
set_option linter.unusedSimpArgs false

set_option maxRecDepth 20000 in
set_option maxHeartbeats 1000000 in
theorem learn_no (M : List Int) (hM : M.length = 33) (x : Int) (hm : mayC M = false) (w : World) :
    Calls Try.prog 28 #[mdl M, .int .i64 x] w fun e w' => e = .returned (.tuple #[mdl zeros33, .int .i64 1500]) ∧ Bel w w' := by
  have K : Hid (∀ w, Calls Try.prog 34 #[mdl M] w fun e w' => e = .returned (.bool false) ∧ Bel w w') := fun w => hm ▸ may_ok M hM w
  have z := zero26
  have TA : Hid ((M.drop 0).take 33 = M) := take_all hM
  have O0 : Hid (0 + 33 ≤ M.length) := show _ ≤ _ by omega
  have NZ : Hid (zeros33.length = 33) := zeros33_len
  have OZ : Hid (0 + 33 ≤ zeros33.length) := show _ ≤ _ by rw [zeros33_len]; decide
  have ZZ : Hid (put zeros33 0 zeros33 = zeros33) := put_all _ _ rfl
  have H1 : Hid (Holds ((w.alloc (.cells (vals M).toArray 43)).alloc (.cells (vals zeros33).toArray 43)) w.heap.size M) := (holds_new w M _).bel ((Bel.refl _).alloc _)
  have R1 : Hid (Holds ((w.alloc (.cells (vals M).toArray 43)).alloc (.cells (vals zeros33).toArray 43)) (w.heap.size + 1) zeros33) := holds_at (by simp) zeros33 _
  clear hm hM
  go_enter Try.func28, Try.ntmps28
  go_wp2_with (first | (with_reducible refine wpl_load_wide (o := 0) wide26 TA.out H1.out O0.out rfl ?_))
  refine (K.out _).mono ?_
  rintro e w1 ⟨rfl, b⟩
  have B1 : Hid (Bel w w1) := (((Bel.refl w).alloc _).alloc _).trans b
  have R2 : Hid (Holds w1 (w.heap.size + 1) zeros33) := R1.out.bel b
  clear b R1 H1
  go_wp2_with (first
    | (with_reducible refine wpl_build26 ?_)
    | ((with_reducible refine wpl_store_widew (o := 0) wide26 B1.out R2.out (Nat.le_succ _) OZ.out NZ.out ZZ.out rfl rfl ?_); intro w2 R3 B2 K2))
  exact bodyPost_ret (v := .tuple #[mdl zeros33, .int .i64 1500]) (results_chain2 Try.results28 rfl rfl R3.out NZ.out) rfl ⟨rfl, B2.out⟩

set_option maxRecDepth 20000 in
set_option maxHeartbeats 1000000 in
theorem learn_far (M : List Int) (hM : M.length = 33) (x : Int) (hm : mayC M = true) (hx : passed 131072 x = true) (w : World) :
    Calls Try.prog 28 #[mdl M, .int .i64 x] w fun e w' => e = .returned (.tuple #[mdl zeros33, .int .i64 1500]) ∧ Bel w w' := by
  have K : Hid (∀ w, Calls Try.prog 34 #[mdl M] w fun e w' => e = .returned (.bool true) ∧ Bel w w') := fun w => hm ▸ may_ok M hM w
  have P : Hid (∀ w, Calls Try.prog 24 #[.int .i64 131072, .int .i64 x] w fun e w' => e = .returned (.bool true) ∧ w' = w) := fun w => hx ▸ passed_ok 131072 x (by decide) (by decide) w
  have z := zero26
  have TA : Hid ((M.drop 0).take 33 = M) := take_all hM
  have O0 : Hid (0 + 33 ≤ M.length) := show _ ≤ _ by omega
  have NZ : Hid (zeros33.length = 33) := zeros33_len
  have OZ : Hid (0 + 33 ≤ zeros33.length) := show _ ≤ _ by rw [zeros33_len]; decide
  have ZZ : Hid (put zeros33 0 zeros33 = zeros33) := put_all _ _ rfl
  have H1 : Hid (Holds ((w.alloc (.cells (vals M).toArray 43)).alloc (.cells (vals zeros33).toArray 43)) w.heap.size M) := (holds_new w M _).bel ((Bel.refl _).alloc _)
  have R1 : Hid (Holds ((w.alloc (.cells (vals M).toArray 43)).alloc (.cells (vals zeros33).toArray 43)) (w.heap.size + 1) zeros33) := holds_at (by simp) zeros33 _
  clear hm hM hx
  go_enter Try.func28, Try.ntmps28
  go_wp2_with (first | (with_reducible refine wpl_load_wide (o := 0) wide26 TA.out H1.out O0.out rfl ?_))
  refine (K.out _).mono ?_
  rintro e w1 ⟨rfl, b⟩
  have B1 : Hid (Bel w w1) := (((Bel.refl w).alloc _).alloc _).trans b
  have R2 : Hid (Holds w1 (w.heap.size + 1) zeros33) := R1.out.bel b
  clear b R1 H1
  go_wp2_with fail
  refine (P.out _).mono ?_
  rintro e w2 ⟨rfl, rfl⟩
  go_wp2_with (first
    | (with_reducible refine wpl_build26 ?_)
    | ((with_reducible refine wpl_store_widew (o := 0) wide26 B1.out R2.out (Nat.le_succ _) OZ.out NZ.out ZZ.out rfl rfl ?_); intro w2 R3 B2 K2))
  exact bodyPost_ret (v := .tuple #[mdl zeros33, .int .i64 1500]) (results_chain2 Try.results28 rfl rfl R3.out NZ.out) rfl ⟨rfl, B2.out⟩

theorem learn_puts (M : List Int) (hM : M.length = 33) (x : Int) (A B : List Int) (hA : A.length = 16) (hB : B.length = 16) : put (put (M.set 0 x) 1 A) 17 B = join x A B := by
  have e0 : M.set 0 x = ([x] : List Int) ++ partA M ++ partB M := by
    have := join_parts hM
    rw [← this, join_A (partA_len hM), join_B (partA_len hM) (partB_len hM)]
    simp [join]
  have e1 := put_mid A [x] (partA M) (partB M) ((partA_len hM).trans hA.symm)
  have e2 := put_mid B ([x] ++ A) (partB M) [] ((partB_len hM).trans hB.symm)
  rw [show ([x] : List Int).length = 1 from rfl] at e1
  rw [e0, e1]
  rw [show ([x] ++ A).length = 17 by simp [hA]] at e2
  rw [List.append_nil] at e2
  rw [e2]
  simp [join]

theorem drop_set0 (M : List Int) (x : Int) (k : Nat) : (M.set 0 x).drop (k + 1) = M.drop (k + 1) := by
  cases M <;> rfl

/-- A line that is put into a chain stays apart from the other. -/
theorem put_B (M : List Int) (hM : M.length = 33) (A : List Int) (hA : A.length = 16) : ((put M 1 A).drop 17).take 16 = (M.drop 17).take 16 := by
  refine ext_getD _ _ (by simp [put_length]) fun k hk => ?_
  have hk2 : k < 16 := by simp [put_length, hM] at hk; omega
  rw [List.getD_eq_getElem?_getD, List.getD_eq_getElem?_getD, List.getElem?_take_of_lt hk2, List.getElem?_take_of_lt hk2, List.getElem?_drop, List.getElem?_drop, ← List.getD_eq_getElem?_getD, ← List.getD_eq_getElem?_getD]
  exact getD_put_out A M 1 (17 + k) (.inr (by omega))

set_option maxRecDepth 20000 in
set_option maxHeartbeats 1000000 in
theorem learn_yes (M : List Int) (hM : M.length = 33) (x : Int) (hm : mayC M = true) (hx : passed 131072 x = false) (w : World) :
    Calls Try.prog 28 #[mdl M, .int .i64 x] w fun e w' => e = .returned (.tuple #[mdl (learnC M x), .int .i64 0]) ∧ Bel w w' := by
  have K : Hid (∀ w, Calls Try.prog 34 #[mdl M] w fun e w' => e = .returned (.bool true) ∧ Bel w w') := fun w => hm ▸ may_ok M hM w
  have P : Hid (∀ w, Calls Try.prog 24 #[.int .i64 131072, .int .i64 x] w fun e w' => e = .returned (.bool false) ∧ w' = w) := fun w => hx ▸ passed_ok 131072 x (by decide) (by decide) w
  have z := zero26
  have TA : Hid ((M.drop 0).take 33 = M) := take_all hM
  have O0 : Hid (0 + 33 ≤ M.length) := show _ ≤ _ by omega
  have O1 : Hid (1 + 16 ≤ M.length) := show _ ≤ _ by omega
  have NZ : Hid (zeros33.length = 33) := zeros33_len
  have OZ : Hid (0 + 33 ≤ zeros33.length) := show _ ≤ _ by rw [zeros33_len]; decide
  have H1 : Hid (Holds ((w.alloc (.cells (vals M).toArray 43)).alloc (.cells (vals zeros33).toArray 43)) w.heap.size M) := (holds_new w M _).bel ((Bel.refl _).alloc _)
  have R1 : Hid (Holds ((w.alloc (.cells (vals M).toArray 43)).alloc (.cells (vals zeros33).toArray 43)) (w.heap.size + 1) zeros33) := holds_at (by simp) zeros33 _
  obtain ⟨⟨y0, y1⟩, mA, mB⟩ := (mayC_iff M).1 hm
  obtain ⟨x0, x1⟩ := passed_no.1 hx
  obtain ⟨qA, qB⟩ := parts_may hm hx
  obtain ⟨y, hy⟩ : ∃ y, M.getD 0 0 = y := ⟨_, rfl⟩
  obtain ⟨A, hA⟩ : ∃ A, partA M = A := ⟨_, rfl⟩
  obtain ⟨B, hB⟩ : ∃ B, partB M = B := ⟨_, rfl⟩
  have NA0 : A.length = 16 := hA ▸ partA_len hM
  have NB0 : B.length = 16 := hB ▸ partB_len hM
  rw [hy, hA] at qB
  rw [hy] at qA
  have hC : learnC M x = join x (learn A (x - y)) (learn B (x - y - guess A)) := by rw [learnC, hy, hA, hB]
  rw [hC]
  rw [hA] at mA
  rw [hB] at mB
  rw [hy] at y0 y1
  have GA : Hid (∀ w, Calls Try.prog 35 #[mdl A] w fun e w' => e = .returned (.tuple #[.int .i64 (guess A), .int .i64 0]) ∧ Bel w w') := Lin.guess_yes A NA0 mA
  obtain ⟨g0, g1⟩ := guess_range A
  obtain ⟨A2, hA2⟩ : ∃ A2, learn A (x - y) = A2 := ⟨_, rfl⟩
  obtain ⟨B2, hB2⟩ : ∃ B2, learn B (x - y - guess A) = B2 := ⟨_, rfl⟩
  have LA : Hid (∀ w, Calls Try.prog 36 #[mdl A, .int .i64 (x - y)] w fun e w' => e = .returned (.tuple #[mdl A2, .int .i64 0]) ∧ Bel w w') := hA2 ▸ Lin.learn_yes A NA0 (x - y) mA qA
  have LB : Hid (∀ w, Calls Try.prog 36 #[mdl B, .int .i64 (x - y - guess A)] w fun e w' => e = .returned (.tuple #[mdl B2, .int .i64 0]) ∧ Bel w w') := hB2 ▸ Lin.learn_yes B NB0 (x - y - guess A) mB qB
  rw [hA2, hB2]
  have NA2 : Hid (A2.length = 16) := hA2 ▸ (learn_len _ _).trans NA0
  have NB2 : Hid (B2.length = 16) := hB2 ▸ (learn_len _ _).trans NB0
  obtain ⟨M1, hM1⟩ : ∃ M1, M.set 0 x = M1 := ⟨_, rfl⟩
  obtain ⟨M2, hM2⟩ : ∃ M2, put M1 1 A2 = M2 := ⟨_, rfl⟩
  obtain ⟨M3, hM3⟩ : ∃ M3, put M2 17 B2 = M3 := ⟨_, rfl⟩
  have L1 : M1.length = 33 := by rw [← hM1, List.length_set, hM]
  have L2 : M2.length = 33 := by rw [← hM2, put_length, L1]
  have L3 : M3.length = 33 := by rw [← hM3, put_length, L2]
  have E1 : Hid (M.set 0 x = M1) := hM1
  have E2 : Hid (put M1 1 A2 = M2) := hM2
  have E3 : Hid (put M2 17 B2 = M3) := hM3
  have EJ : join x A2 B2 = M3 := by rw [← learn_puts M hM x A2 B2 NA2.out NB2.out, hM1, hM2, hM3]
  rw [EJ]
  have HA : Hid ((M.drop 1).take 16 = A) := hA
  have HA1 : Hid ((M1.drop 1).take 16 = A) := show _ = _ by rw [← hA, ← hM1, drop_set0 M x 0]; rfl
  have HB2 : Hid ((M2.drop 17).take 16 = B) := show _ = _ by
    rw [← hM2, put_B M1 L1 A2 NA2.out, ← hM1, ← hB, drop_set0 M x 16]; rfl
  have O11 : Hid (1 + 16 ≤ M1.length) := show _ ≤ _ by omega
  have O22 : Hid (17 + 16 ≤ M2.length) := show _ ≤ _ by omega
  have O33 : Hid (0 + 33 ≤ M3.length) := show _ ≤ _ by omega
  have TA3 : Hid ((M3.drop 0).take 33 = M3) := take_all L3
  have N3 : Hid (M3.length = 33) := L3
  have ZZ : Hid (put zeros33 0 M3 = M3) := put_all _ _ (zeros33_len.trans L3.symm)
  have CX : Hid (∀ w b, Holds w b M → w.cell? ⟨b, 0, none⟩ = some (.int .i64 y)) := fun w b h => hy ▸ h.cell 0 (by omega)
  have FX : Hid (∀ w b, Holds w b M → w.frozen? ⟨b, 0, none⟩ = false) := fun w b h => h.free 0 (by omega)
  have SX : Hid (∀ w b, Holds w b M → Holds (w.setCell ⟨b, 0, none⟩ (.int .i64 x)) b M1) := fun w b h => hM1 ▸ h.set 0 (by omega) x
  generalize guess A = g at *
  clear hm hM hx hy hA hB mA mB qA qB hC hA2 hB2 hM1 hM2 hM3 L1 L2 L3 EJ NA0 NB0
  go_enter Try.func28, Try.ntmps28
  go_wp2_with (first | (with_reducible refine wpl_load_wide (o := 0) wide26 TA.out H1.out O0.out rfl ?_))
  refine (K.out _).mono ?_
  rintro e w1 ⟨rfl, b⟩
  have B1 : Hid (Bel w w1) := (((Bel.refl w).alloc _).alloc _).trans b
  have R2 : Hid (Holds w1 (w.heap.size + 1) zeros33) := R1.out.bel b
  have H2 : Hid (Holds w1 w.heap.size M) := H1.out.bel b
  clear b R1 H1
  go_wp2_with fail
  refine (P.out _).mono ?_
  rintro e w2 ⟨rfl, rfl⟩
  have c0 := CX.out _ _ H2.out
  go_wp2_with (first | (with_reducible refine wpl_load_wide (o := 1) wide24 HA.out H2.out O1.out rfl ?_))
  refine (GA.out _).mono ?_
  rintro e w2 ⟨rfl, b⟩
  have d0 := CX.out _ _ (H2.out.bel b)
  have f0 := FX.out _ _ (H2.out.bel b)
  have B3 : Hid (Bel w (w2.setCell ⟨w.heap.size, 0, none⟩ (.int .i64 x))) := (B1.out.trans b).setCell (Nat.le_refl _) _
  have R3 : Hid (Holds (w2.setCell ⟨w.heap.size, 0, none⟩ (.int .i64 x)) (w.heap.size + 1) zeros33) := (R2.out.bel b).other _ _ (by omega) _
  have H3 : Hid (Holds (w2.setCell ⟨w.heap.size, 0, none⟩ (.int .i64 x)) w.heap.size M1) := SX.out _ _ (H2.out.bel b)
  clear b R2 H2 B1
  go_wp2_with (first | (with_reducible refine wpl_load_wide (o := 1) wide24 HA1.out H3.out O11.out rfl ?_))
  clear d0 f0
  refine (LA.out _).mono ?_
  rintro e w3 ⟨rfl, b⟩
  have B4 : Hid (Bel w w3) := B3.out.trans b
  have R4 : Hid (Holds w3 (w.heap.size + 1) zeros33) := R3.out.bel b
  have H4 : Hid (Holds w3 w.heap.size M1) := H3.out.bel b
  clear b R3 H3 B3
  go_wp2_with (first
    | ((with_reducible refine wpl_store_widew (o := 1) wide24 B4.out H4.out (Nat.le_refl _) O11.out NA2.out E2.out rfl rfl ?_); intro w4 H5 B5 K5)
    | (with_reducible refine wpl_load_wide (o := 17) wide24 HB2.out H5.out O22.out rfl ?_))
  have R5 := K5.out _ _ (by omega) R4.out
  refine (LB.out _).mono ?_
  rintro e w5 ⟨rfl, b⟩
  have B6 : Hid (Bel w w5) := B5.out.trans b
  have R6 : Hid (Holds w5 (w.heap.size + 1) zeros33) := R5.bel b
  have H6 : Hid (Holds w5 w.heap.size M2) := H5.out.bel b
  have NE : Hid (w.heap.size + 1 ≠ w.heap.size) := show _ ≠ _ by omega
  clear b R5 H5 B5 K5 R4 H4 B4
  go_wp2_with (first
    | ((with_reducible refine wpl_store_widew (o := 17) wide24 B6.out H6.out (Nat.le_refl _) O22.out NB2.out E3.out rfl rfl ?_); intro w6 H7 B7 K7)
    | (with_reducible refine wpl_load_wide (o := 0) wide26 TA3.out H7.out O33.out rfl ?_)
    | ((with_reducible refine wpl_store_widew (o := 0) wide26 B7.out (K7.out _ _ NE.out R6.out) (Nat.le_succ _) OZ.out N3.out ZZ.out rfl rfl ?_); intro w7 R8 B8 K8))
  exact bodyPost_ret (v := .tuple #[mdl M3, .int .i64 0]) (results_chain2 Try.results28 rfl rfl R8.out N3.out) rfl ⟨rfl, B8.out⟩

end Go.Proofs.Ytamefddgpdhccaa.Chn
