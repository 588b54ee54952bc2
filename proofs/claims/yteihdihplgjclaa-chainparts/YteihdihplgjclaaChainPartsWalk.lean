/-
  ChainParts answers true for every chain and every int: a chain is its last sample and two lines. No condition.
-/
import Derived.Test.YteihdihplgjclaaHRefLearn
import Derived.Test.YteihdihplgjclaaHAwake
namespace Go.Proofs.Yteihdihplgjclaa.Chn
open Go.RowKit Go.Sort Go.Proofs.Yteihdihplgjclaa.Mod Go.Proofs.Yteihdihplgjclaa.Lin
set_option linter.unusedVariables false
set_option linter.unusedSimpArgs false

set_option maxRecDepth 20000 in
set_option maxHeartbeats 1000000 in
theorem parts_no (M : List Int) (hM : M.length = 33) (x : Int)
    (no : ∀ w, Calls Try.prog 10 #[mdl M, .int .i64 x] w fun e w' => e = .returned (.tuple #[mdl zeros33, .int .i64 1500]) ∧ Bel w w') (w : World) :
    Calls Try.prog 7 #[mdl M, .int .i64 x] w fun e w' => e = .returned (.bool true) ∧ Bel w w' := by
  obtain ⟨g, ge, g1, _⟩ := rcguess_ok M hM
  have G1 : Hid (∀ w, Calls Try.prog 8 #[mdl M] w fun r w' => r = .returned (.tuple #[.int .i64 g, .int .i64 ge]) ∧ Bel w w') := g1
  have NO : Hid (∀ w, Calls Try.prog 10 #[mdl M, .int .i64 x] w fun e w' => e = .returned (.tuple #[mdl zeros33, .int .i64 1500]) ∧ Bel w w') := no
  have NZ : Hid (zeros33.length = 33) := zeros33_len
  have TZ : Hid ((zeros33.drop 0).take 33 = zeros33) := take_all zeros33_len
  have OZ : Hid (0 + 33 ≤ zeros33.length) := show _ ≤ _ by rw [zeros33_len]; decide
  have z := zero26
  have q1 := eq_26 zeros33 zeros33 zeros33_len zeros33_len
  have q2 := eq_in26 zeros33 zeros33 zeros33_len zeros33_len
  simp only [decide_true] at q1 q2
  have TM : Hid ((M.drop 0).take 33 = M) := take_all hM
  have OM : Hid (0 + 33 ≤ M.length) := show _ ≤ _ by omega
  have H0 : Hid (Holds (w.alloc (.cells (vals M).toArray 26)) w.heap.size M) := holds_new w M _
  clear no hM g1
  go_enter Try.func7, Try.ntmps7
  go_wp2_with fail
  refine (awake_true _).mono ?_
  rintro e w1 ⟨rfl, b⟩
  have H1 : Hid (Holds w1 w.heap.size M) := H0.out.bel b
  have B1 : Hid (Bel w w1) := ((Bel.refl w).alloc _).trans b
  clear b H0
  go_wp2_with (first | (with_reducible refine wpl_load_wide (o := 0) wide26 TM.out H1.out OM.out rfl ?_))
  refine (NO.out _).mono ?_
  rintro e w2 ⟨rfl, b⟩
  have bb : Bel w1 (w2.alloc (.cells (vals zeros33).toArray 26)) := Bel.alloc b _
  have H3 : Hid (Holds (w2.alloc (.cells (vals zeros33).toArray 26)) w.heap.size M) := H1.out.bel bb
  have A3 : Hid (Holds (w2.alloc (.cells (vals zeros33).toArray 26)) w2.heap.size zeros33) := holds_new w2 zeros33 _
  have B3 : Hid (Bel w (w2.alloc (.cells (vals zeros33).toArray 26))) := B1.out.trans bb
  clear b bb H1 B1 NO
  go_wp2_with (first
    | (with_reducible refine wpl_store_widen wide26 NZ.out NZ.out rfl rfl ?_)
    | (with_reducible refine wpl_load_wide (o := 0) wide26 TM.out H3.out OM.out rfl ?_))
  refine (G1.out _).mono ?_
  rintro e w3 ⟨rfl, b⟩
  have A4 : Hid (Holds w3 w2.heap.size zeros33) := A3.out.bel b
  have B4 : Hid (Bel w w3) := B3.out.trans b
  clear b H3 A3 B3
  go_wp2_with fail
  refine (num_ok _ _).mono ?_
  rintro e W ⟨rfl, rfl⟩
  go_wp2_with (first
    | (with_reducible refine wpl_load_wide (o := 0) wide26 TZ.out A4.out OZ.out rfl ?_)
    | (with_reducible refine wpl_build26 ?_))
  go_ret
  exact ⟨rfl, B4.out⟩

set_option maxRecDepth 20000 in
set_option maxHeartbeats 2000000 in
theorem parts_yes (M : List Int) (hM : M.length = 33) (x : Int) (hm : mayC M = true) (hx : passed 131072 x = false) (w : World) :
    Calls Try.prog 7 #[mdl M, .int .i64 x] w fun e w' => e = .returned (.bool true) ∧ Bel w w' := by
  have LY := learn_yes M hM x hm hx
  have GY := guess_yes M hM hm
  obtain ⟨⟨y0, y1⟩, mA, mB⟩ := (mayC_iff M).1 hm
  obtain ⟨x0, x1⟩ := passed_no.1 hx
  obtain ⟨qA, qB⟩ := parts_may hm hx
  obtain ⟨y, hy⟩ : ∃ y, M.getD 0 0 = y := ⟨_, rfl⟩
  obtain ⟨A, hA⟩ : ∃ A, partA M = A := ⟨_, rfl⟩
  obtain ⟨B, hB⟩ : ∃ B, partB M = B := ⟨_, rfl⟩
  have NA0 : A.length = 16 := hA ▸ partA_len hM
  have NB0 : B.length = 16 := hB ▸ partB_len hM
  rw [hy, hA] at qB
  rw [hy] at qA
  have hC : learnC M x = join x (learn A (x - y)) (learn B (x - y - guess A)) := by rw [learnC, hy, hA, hB]
  have hG : guessC M = y + guess A + guess B := by rw [guessC, hy, hA, hB]
  rw [hC] at LY
  rw [hG] at GY
  rw [hA] at mA
  rw [hB] at mB
  rw [hy] at y0 y1
  have GA : Hid (∀ w, Calls Try.prog 16 #[mdl A] w fun e w' => e = .returned (.tuple #[.int .i64 (guess A), .int .i64 0]) ∧ Bel w w') := Lin.rguess_yes A NA0 mA
  have GB : Hid (∀ w, Calls Try.prog 16 #[mdl B] w fun e w' => e = .returned (.tuple #[.int .i64 (guess B), .int .i64 0]) ∧ Bel w w') := Lin.rguess_yes B NB0 mB
  obtain ⟨g0, g1⟩ := guess_range A
  obtain ⟨k0, k1⟩ := guess_range B
  obtain ⟨A2, hA2⟩ : ∃ A2, learn A (x - y) = A2 := ⟨_, rfl⟩
  obtain ⟨B2, hB2⟩ : ∃ B2, learn B (x - y - guess A) = B2 := ⟨_, rfl⟩
  have LA : Hid (∀ w, Calls Try.prog 17 #[mdl A, .int .i64 (x - y)] w fun e w' => e = .returned (.tuple #[mdl A2, .int .i64 0]) ∧ Bel w w') := hA2 ▸ Lin.rlearn_yes A NA0 (x - y) mA qA
  have LB : Hid (∀ w, Calls Try.prog 17 #[mdl B, .int .i64 (x - y - guess A)] w fun e w' => e = .returned (.tuple #[mdl B2, .int .i64 0]) ∧ Bel w w') := hB2 ▸ Lin.rlearn_yes B NB0 (x - y - guess A) mB qB
  rw [hA2, hB2] at LY
  have NA2 : Hid (A2.length = 16) := hA2 ▸ (learn_len _ _).trans NA0
  have NB2 : Hid (B2.length = 16) := hB2 ▸ (learn_len _ _).trans NB0
  obtain ⟨N, hN⟩ : ∃ N, join x A2 B2 = N := ⟨_, rfl⟩
  have EN : Hid (join x A2 B2 = N) := hN
  have nN : N.length = 33 := hN ▸ join_len NA2.out NB2.out
  have NN : Hid (N.length = 33) := nN
  rw [hN] at LY
  have LC : Hid (∀ w, Calls Try.prog 10 #[mdl M, .int .i64 x] w fun e w' => e = .returned (.tuple #[mdl N, .int .i64 0]) ∧ Bel w w') := LY
  have GC : Hid (∀ w, Calls Try.prog 8 #[mdl M] w fun e w' => e = .returned (.tuple #[.int .i64 (y + guess A + guess B), .int .i64 0]) ∧ Bel w w') := GY
  have q1 := eq_26 N N nN nN
  have q2 := eq_in26 N N nN nN
  simp only [decide_true] at q1 q2
  have z := zero26
  have z2 := zero24
  have NZ : Hid (zeros33.length = 33) := zeros33_len
  have NY : Hid (zeros16.length = 16) := zeros16_len
  have TM : Hid ((M.drop 0).take 33 = M) := take_all hM
  have OM : Hid (0 + 33 ≤ M.length) := show _ ≤ _ by omega
  have TN : Hid ((N.drop 0).take 33 = N) := take_all nN
  have ON : Hid (0 + 33 ≤ N.length) := show _ ≤ _ by omega
  have O1 : Hid (1 + 16 ≤ M.length) := show _ ≤ _ by omega
  have O2 : Hid (17 + 16 ≤ M.length) := show _ ≤ _ by omega
  have HA : Hid ((M.drop 1).take 16 = A) := hA
  have HB : Hid ((M.drop 17).take 16 = B) := hB
  have TA2 : Hid ((A2.drop 0).take 16 = A2) := take_all NA2.out
  have TB2 : Hid ((B2.drop 0).take 16 = B2) := take_all NB2.out
  have OA2 : Hid (0 + 16 ≤ A2.length) := show _ ≤ _ by rw [NA2.out]; decide
  have OB2 : Hid (0 + 16 ≤ B2.length) := show _ ≤ _ by rw [NB2.out]; decide
  have CX : Hid (∀ w b, Holds w b M → w.cell? ⟨b, 0, none⟩ = some (.int .i64 y)) := fun w b h => hy ▸ h.cell 0 (by omega)
  have H0 : Hid (Holds (w.alloc (.cells (vals M).toArray 26)) w.heap.size M) := holds_new w M _
  generalize guess A = g at *
  generalize guess B = k at *
  clear hm hM hx hy hA hB mA mB qA qB hC hG hA2 hB2 hN NA0 NB0 LY GY nN
  go_enter Try.func7, Try.ntmps7
  go_wp2_with fail
  refine (awake_true _).mono ?_
  rintro e w1 ⟨rfl, b⟩
  have H1 : Hid (Holds w1 w.heap.size M) := H0.out.bel b
  have B1 : Hid (Bel w w1) := ((Bel.refl w).alloc _).trans b
  clear b H0
  go_wp2_with (first | (with_reducible refine wpl_load_wide (o := 0) wide26 TM.out H1.out OM.out rfl ?_))
  refine (LC.out _).mono ?_
  rintro e w2 ⟨rfl, b⟩
  have bb : Bel w1 (w2.alloc (.cells (vals N).toArray 26)) := Bel.alloc b _
  have H3 : Hid (Holds (w2.alloc (.cells (vals N).toArray 26)) w.heap.size M) := H1.out.bel bb
  have A3 : Hid (Holds (w2.alloc (.cells (vals N).toArray 26)) w2.heap.size N) := holds_new w2 N _
  have B3 : Hid (Bel w (w2.alloc (.cells (vals N).toArray 26))) := B1.out.trans bb
  clear b bb H1 B1 LC
  go_wp2_with (first
    | (with_reducible refine wpl_store_widen wide26 NZ.out NN.out rfl rfl ?_)
    | (with_reducible refine wpl_load_wide (o := 0) wide26 TM.out H3.out OM.out rfl ?_))
  refine (GC.out _).mono ?_
  rintro e w3 ⟨rfl, b⟩
  have H4 : Hid (Holds w3 w.heap.size M) := H3.out.bel b
  have A4 : Hid (Holds w3 w2.heap.size N) := A3.out.bel b
  have B4 : Hid (Bel w w3) := B3.out.trans b
  clear b H3 A3 B3
  go_wp2_with fail
  refine (num_ok _ _).mono ?_
  rintro e W ⟨rfl, rfl⟩
  go_wp2_with fail
  refine (num_ok _ _).mono ?_
  rintro e W ⟨rfl, rfl⟩
  go_wp2_with (first | (with_reducible refine wpl_load_wide (o := 1) wide24 HA.out H4.out O1.out rfl ?_))
  refine (GA.out _).mono ?_
  rintro e w5 ⟨rfl, b⟩
  have H5 : Hid (Holds w5 w.heap.size M) := H4.out.bel b
  have A5 : Hid (Holds w5 w2.heap.size N) := A4.out.bel b
  have B5 : Hid (Bel w w5) := B4.out.trans b
  clear b H4 A4 B4
  go_wp2_with (first | (with_reducible refine wpl_load_wide (o := 17) wide24 HB.out H5.out O2.out rfl ?_))
  refine (GB.out _).mono ?_
  rintro e w6 ⟨rfl, b⟩
  have H6 : Hid (Holds w6 w.heap.size M) := H5.out.bel b
  have A6 : Hid (Holds w6 w2.heap.size N) := A5.out.bel b
  have B6 : Hid (Bel w w6) := B5.out.trans b
  have c6 := CX.out _ _ H6.out
  clear b H5 A5 B5
  go_wp2_with (first | (with_reducible refine wpl_load_wide (o := 1) wide24 HA.out H6.out O1.out rfl ?_))
  refine (LA.out _).mono ?_
  rintro e w7 ⟨rfl, b⟩
  have bb : Bel w6 (w7.alloc (.cells (vals A2).toArray 24)) := Bel.alloc b _
  have H7 : Hid (Holds (w7.alloc (.cells (vals A2).toArray 24)) w.heap.size M) := H6.out.bel bb
  have A7 : Hid (Holds (w7.alloc (.cells (vals A2).toArray 24)) w2.heap.size N) := A6.out.bel bb
  have B7 : Hid (Bel w (w7.alloc (.cells (vals A2).toArray 24))) := B6.out.trans bb
  have D7 : Hid (Holds (w7.alloc (.cells (vals A2).toArray 24)) w7.heap.size A2) := holds_new _ _ _
  have c7 := CX.out _ _ H7.out
  clear b bb H6 A6 B6 c6
  go_wp2_with (first
    | (with_reducible refine wpl_store_widen wide24 NY.out NA2.out rfl rfl ?_)
    | (with_reducible refine wpl_load_wide (o := 17) wide24 HB.out H7.out O2.out rfl ?_))
  refine (LB.out _).mono ?_
  rintro e w8 ⟨rfl, b⟩
  have bb : Bel (w7.alloc (.cells (vals A2).toArray 24)) (w8.alloc (.cells (vals B2).toArray 24)) := Bel.alloc b _
  have H8 : Hid (Holds (w8.alloc (.cells (vals B2).toArray 24)) w.heap.size M) := H7.out.bel bb
  have A8 : Hid (Holds (w8.alloc (.cells (vals B2).toArray 24)) w2.heap.size N) := A7.out.bel bb
  have B8 : Hid (Bel w (w8.alloc (.cells (vals B2).toArray 24))) := B7.out.trans bb
  have D8 : Hid (Holds (w8.alloc (.cells (vals B2).toArray 24)) w7.heap.size A2) := D7.out.bel bb
  have E8 : Hid (Holds (w8.alloc (.cells (vals B2).toArray 24)) w8.heap.size B2) := holds_new _ _ _
  have c8 := CX.out _ _ H8.out
  clear b bb H7 A7 B7 D7 c7
  go_wp2_with (first
    | (with_reducible refine wpl_store_widen wide24 NY.out NB2.out rfl rfl ?_)
    | (with_reducible refine wpl_load_wideg (o := 0) rfl wide26 TN.out A8.out ON.out rfl ?_)
    | (with_reducible refine wpl_load_wideg (o := 0) rfl wide24 TA2.out D8.out OA2.out rfl ?_)
    | (with_reducible refine wpl_load_wideg (o := 0) rfl wide24 TB2.out E8.out OB2.out rfl ?_)
    | (with_reducible refine wpl_build26pg rfl EN.out NA2.out NB2.out rfl rfl rfl ?_))
  go_ret
  exact ⟨rfl, B8.out⟩

theorem parts_walk (M : List Int) (hM : M.length = 33) (x : Int) (w : World) :
    Calls Try.prog 7 #[mdl M, .int .i64 x] w fun e w' => e = .returned (.bool true) ∧ Bel w w' := by
  cases hm : mayC M
  · exact parts_no M hM x (learn_no M hM x hm) w
  · cases hx : passed 131072 x
    · exact parts_yes M hM x hm hx w
    · exact parts_no M hM x (learn_far M hM x hm hx) w

end Go.Proofs.Yteihdihplgjclaa.Chn
