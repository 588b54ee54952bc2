/-
  The contract of the reference's ChainLearn: it answers as the program's does. No condition.
-/
import Derived.Test.YtamefddgpdhccaaHRef
namespace Go.Proofs.Ytamefddgpdhccaa.Chn
open Go.RowKit Go.Sort Go.Proofs.Ytamefddgpdhccaa.Mod Go.Proofs.Ytamefddgpdhccaa.Lin
set_option linter.unusedVariables false
set_option linter.unusedSimpArgs false

set_option maxRecDepth 20000 in
set_option maxHeartbeats 1000000 in
theorem rclearn_yes (M : List Int) (hM : M.length = 33) (x : Int) (hm : mayC M = true) (hx : passed 131072 x = false) (w : World) :
    Calls Try.prog 22 #[mdl M, .int .i64 x] w fun e w' => e = .returned (.tuple #[mdl (learnC M x), .int .i64 0]) ∧ Bel w w' := by
  have K : Hid (∀ w, Calls Try.prog 29 #[mdl M] w fun e w' => e = .returned (.bool true) ∧ Bel w w') := fun w => hm ▸ rcmay_ok M hM w
  have P : Hid (∀ w, Calls Try.prog 31 #[.int .i64 x] w fun e w' => e = .returned (.bool true) ∧ w' = w) := fun w => (show (!passed 131072 x) = true by rw [hx]; rfl) ▸ sample_ok x w
  have z := zero26
  have z2 := zero24
  have TA : Hid ((M.drop 0).take 33 = M) := take_all hM
  have O0 : Hid (0 + 33 ≤ M.length) := show _ ≤ _ by omega
  have O1 : Hid (1 + 16 ≤ M.length) := show _ ≤ _ by omega
  have O2 : Hid (17 + 16 ≤ M.length) := show _ ≤ _ by omega
  have NZ : Hid (zeros33.length = 33) := zeros33_len
  have NY : Hid (zeros16.length = 16) := zeros16_len
  have OZ : Hid (0 + 33 ≤ zeros33.length) := show _ ≤ _ by rw [zeros33_len]; decide
  have H1 : Hid (Holds ((w.alloc (.cells (vals M).toArray 43)).alloc (.cells (vals zeros33).toArray 43)) w.heap.size M) := (holds_new w M _).bel ((Bel.refl _).alloc _)
  have R1 : Hid (Holds ((w.alloc (.cells (vals M).toArray 43)).alloc (.cells (vals zeros33).toArray 43)) (w.heap.size + 1) zeros33) := holds_at (by simp) zeros33 _
  obtain ⟨⟨y0, y1⟩, mA, mB⟩ := (mayC_iff M).1 hm
  obtain ⟨x0, x1⟩ := passed_no.1 hx
  obtain ⟨qA, qB⟩ := parts_may hm hx
  obtain ⟨y, hy⟩ : ∃ y, M.getD 0 0 = y := ⟨_, rfl⟩
  obtain ⟨A, hA⟩ : ∃ A, partA M = A := ⟨_, rfl⟩
  obtain ⟨B, hB⟩ : ∃ B, partB M = B := ⟨_, rfl⟩
  have NA0 : A.length = 16 := hA ▸ partA_len hM
  have NB0 : B.length = 16 := hB ▸ partB_len hM
  rw [hy, hA] at qB
  rw [hy] at qA
  have hC : learnC M x = join x (learn A (x - y)) (learn B (x - y - guess A)) := by rw [learnC, hy, hA, hB]
  rw [hC]
  rw [hA] at mA
  rw [hB] at mB
  rw [hy] at y0 y1
  have GA : Hid (∀ w, Calls Try.prog 30 #[mdl A] w fun e w' => e = .returned (.tuple #[.int .i64 (guess A), .int .i64 0]) ∧ Bel w w') := Lin.rguess_yes A NA0 mA
  obtain ⟨g0, g1⟩ := guess_range A
  obtain ⟨A2, hA2⟩ : ∃ A2, learn A (x - y) = A2 := ⟨_, rfl⟩
  obtain ⟨B2, hB2⟩ : ∃ B2, learn B (x - y - guess A) = B2 := ⟨_, rfl⟩
  have LA : Hid (∀ w, Calls Try.prog 32 #[mdl A, .int .i64 (x - y)] w fun e w' => e = .returned (.tuple #[mdl A2, .int .i64 0]) ∧ Bel w w') := hA2 ▸ Lin.rlearn_yes A NA0 (x - y) mA qA
  have LB : Hid (∀ w, Calls Try.prog 32 #[mdl B, .int .i64 (x - y - guess A)] w fun e w' => e = .returned (.tuple #[mdl B2, .int .i64 0]) ∧ Bel w w') := hB2 ▸ Lin.rlearn_yes B NB0 (x - y - guess A) mB qB
  rw [hA2, hB2]
  have NA2 : Hid (A2.length = 16) := hA2 ▸ (learn_len _ _).trans NA0
  have NB2 : Hid (B2.length = 16) := hB2 ▸ (learn_len _ _).trans NB0
  obtain ⟨N, hN⟩ : ∃ N, join x A2 B2 = N := ⟨_, rfl⟩
  have EN : Hid (join x A2 B2 = N) := hN
  have NN : Hid (N.length = 33) := hN ▸ join_len NA2.out NB2.out
  rw [hN]
  have HA : Hid ((M.drop 1).take 16 = A) := hA
  have HB : Hid ((M.drop 17).take 16 = B) := hB
  have TA2 : Hid ((A2.drop 0).take 16 = A2) := take_all NA2.out
  have TB2 : Hid ((B2.drop 0).take 16 = B2) := take_all NB2.out
  have OA2 : Hid (0 + 16 ≤ A2.length) := show _ ≤ _ by rw [NA2.out]; decide
  have OB2 : Hid (0 + 16 ≤ B2.length) := show _ ≤ _ by rw [NB2.out]; decide
  have ZZ : Hid (put zeros33 0 N = N) := put_all _ _ (zeros33_len.trans NN.out.symm)
  have CX : Hid (∀ w b, Holds w b M → w.cell? ⟨b, 0, none⟩ = some (.int .i64 y)) := fun w b h => hy ▸ h.cell 0 (by omega)
  generalize guess A = g at *
  clear hm hM hx hy hA hB mA mB qA qB hC hA2 hB2 hN NA0 NB0
  go_enter Try.func22, Try.ntmps22
  go_wp2_with (first | (with_reducible refine wpl_load_wide (o := 0) wide26 TA.out H1.out O0.out rfl ?_))
  refine (K.out _).mono ?_
  rintro e w1 ⟨rfl, b⟩
  have B1 : Hid (Bel w w1) := (((Bel.refl w).alloc _).alloc _).trans b
  have R2 : Hid (Holds w1 (w.heap.size + 1) zeros33) := R1.out.bel b
  have H2 : Hid (Holds w1 w.heap.size M) := H1.out.bel b
  clear b R1 H1
  go_wp2_with fail
  refine (P.out _).mono ?_
  rintro e w2 ⟨rfl, rfl⟩
  have c0 := CX.out _ _ H2.out
  go_wp2_with (first | (with_reducible refine wpl_load_wide (o := 1) wide24 HA.out H2.out O1.out rfl ?_))
  refine (GA.out _).mono ?_
  rintro e w2 ⟨rfl, b⟩
  have B3 : Hid (Bel w w2) := B1.out.trans b
  have R3 : Hid (Holds w2 (w.heap.size + 1) zeros33) := R2.out.bel b
  have H3 : Hid (Holds w2 w.heap.size M) := H2.out.bel b
  clear b R2 H2 B1 c0
  go_wp2_with (first | (with_reducible refine wpl_load_wide (o := 1) wide24 HA.out H3.out O1.out rfl ?_))
  refine (LA.out _).mono ?_
  rintro e w3 ⟨rfl, b⟩
  have bb : Bel w2 (w3.alloc (.cells (vals A2).toArray 41)) := Bel.alloc b _
  have B4 : Hid (Bel w (w3.alloc (.cells (vals A2).toArray 41))) := B3.out.trans bb
  have R4 : Hid (Holds (w3.alloc (.cells (vals A2).toArray 41)) (w.heap.size + 1) zeros33) := R3.out.bel bb
  have H4 : Hid (Holds (w3.alloc (.cells (vals A2).toArray 41)) w.heap.size M) := H3.out.bel bb
  have A4 : Hid (Holds (w3.alloc (.cells (vals A2).toArray 41)) w3.heap.size A2) := holds_new _ _ _
  clear b bb R3 H3 B3
  go_wp2_with (first
    | (with_reducible refine wpl_store_widen wide24 NY.out NA2.out rfl rfl ?_)
    | (with_reducible refine wpl_load_wide (o := 17) wide24 HB.out H4.out O2.out rfl ?_))
  refine (LB.out _).mono ?_
  rintro e w4 ⟨rfl, b⟩
  have bb : Bel (w3.alloc (.cells (vals A2).toArray 41)) (w4.alloc (.cells (vals B2).toArray 41)) := Bel.alloc b _
  have B5 : Hid (Bel w (w4.alloc (.cells (vals B2).toArray 41))) := B4.out.trans bb
  have R5 : Hid (Holds (w4.alloc (.cells (vals B2).toArray 41)) (w.heap.size + 1) zeros33) := R4.out.bel bb
  have A5 : Hid (Holds (w4.alloc (.cells (vals B2).toArray 41)) w3.heap.size A2) := A4.out.bel bb
  have D5 : Hid (Holds (w4.alloc (.cells (vals B2).toArray 41)) w4.heap.size B2) := holds_new _ _ _
  clear b bb R4 H4 B4 A4
  go_wp2_with (first
    | (with_reducible refine wpl_store_widen wide24 NY.out NB2.out rfl rfl ?_)
    | (with_reducible refine wpl_load_wide (o := 0) wide24 TA2.out A5.out OA2.out rfl ?_)
    | (with_reducible refine wpl_load_wide (o := 0) wide24 TB2.out D5.out OB2.out rfl ?_)
    | (with_reducible refine wpl_build26p EN.out NA2.out NB2.out rfl rfl rfl ?_)
    | ((with_reducible refine wpl_store_widew (o := 0) wide26 B5.out R5.out (Nat.le_succ _) OZ.out NN.out ZZ.out rfl rfl ?_); intro w6 R6 B6 K6))
  exact bodyPost_ret (v := .tuple #[mdl N, .int .i64 0]) (results_chain2 Try.results22 rfl rfl R6.out NN.out) rfl ⟨rfl, B6.out⟩

/-- Program and reference learn alike. -/
theorem rclearn_ok (M : List Int) (hM : M.length = 33) (x : Int) : ∃ A e, A.length = 33 ∧
    (∀ w, Calls Try.prog 28 #[mdl M, .int .i64 x] w fun r w' => r = .returned (.tuple #[mdl A, .int .i64 e]) ∧ Bel w w') ∧
    (∀ w, Calls Try.prog 22 #[mdl M, .int .i64 x] w fun r w' => r = .returned (.tuple #[mdl A, .int .i64 e]) ∧ Bel w w') := by
  cases hm : mayC M
  · exact ⟨_, _, zeros33_len, learn_no M hM x hm, rclearn_no M hM x hm⟩
  · cases hx : passed 131072 x
    · exact ⟨_, _, learnC_len hM x, learn_yes M hM x hm hx, rclearn_yes M hM x hm hx⟩
    · exact ⟨_, _, zeros33_len, learn_far M hM x hm hx, rclearn_far M hM x hm hx⟩

theorem rcguess_ok (M : List Int) (hM : M.length = 33) : ∃ g e : Int,
    (∀ w, Calls Try.prog 27 #[mdl M] w fun r w' => r = .returned (.tuple #[.int .i64 g, .int .i64 e]) ∧ Bel w w') ∧
    (∀ w, Calls Try.prog 21 #[mdl M] w fun r w' => r = .returned (.tuple #[.int .i64 g, .int .i64 e]) ∧ Bel w w') := by
  cases hm : mayC M
  · exact ⟨_, _, guess_no M hM hm, rcguess_no M hM hm⟩
  · exact ⟨_, _, guess_yes M hM hm, rcguess_yes M hM hm⟩

end Go.Proofs.Ytamefddgpdhccaa.Chn
