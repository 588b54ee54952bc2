/-
  The check that every statement of layer 15 makes ahead. No condition.
-/
import Derived.Test.YteihdihplgjclaaHLearn
namespace Go.Proofs.Yteihdihplgjclaa.Chn
open Go.RowKit Go.Sort Go.Proofs.Yteihdihplgjclaa.Mod Go.Proofs.Yteihdihplgjclaa.Lin
set_option linter.unusedVariables false
set_option linter.unusedSimpArgs false

set_option maxRecDepth 20000 in
set_option maxHeartbeats 1000000 in
theorem awake_true (w : World) :
    Calls Try.prog 15 #[] w fun e w' => e = .returned (.bool true) ∧ Bel w w' := by
  obtain ⟨X, hX⟩ : ∃ X, learnC zeros33 5 = X := ⟨_, rfl⟩
  have nX : X.length = 33 := hX ▸ learnC_len zeros33_len 5
  have mX : mayC X = true := hX ▸ (show mayC (learnC zeros33 5) = true by decide +kernel)
  have NX : Hid (X.length = 33) := nX
  have LX : Hid (∀ w, Calls Try.prog 10 #[mdl zeros33, .int .i64 5] w fun e w' => e = .returned (.tuple #[mdl X, .int .i64 0]) ∧ Bel w w') := hX ▸ learn_yes zeros33 zeros33_len 5 zeros33_may (by decide)
  have GX : Hid (∀ w, Calls Try.prog 8 #[mdl X] w fun e w' => e = .returned (.tuple #[.int .i64 5, .int .i64 0]) ∧ Bel w w') := by
    have := guess_yes X nX mX
    rwa [show guessC X = 5 by rw [← hX]; decide +kernel] at this
  have G2 : Hid (∀ w, Calls Try.prog 8 #[mdl (alone 131073)] w fun e w' => e = .returned (.tuple #[.int .i64 0, .int .i64 1500]) ∧ Bel w w') := guess_no _ (alone_len _) (by decide +kernel)
  have F0 : Hid (∀ w, Calls Try.prog 10 #[mdl X, .int .i64 (-131073)] w fun e w' => e = .returned (.tuple #[mdl zeros33, .int .i64 1500]) ∧ Bel w w') := learn_far X nX _ mX (by decide)
  have MX : Hid (∀ w, Calls Try.prog 13 #[mdl X] w fun e w' => e = .returned (.bool true) ∧ Bel w w') := fun w => mX ▸ may_ok X nX w
  have e0 : X.getD 0 0 = 5 := by rw [← hX]; decide +kernel
  have e9 : X.getD 9 0 = 5 := by rw [← hX]; decide +kernel
  have e25 : X.getD 25 0 = 5 := by rw [← hX]; decide +kernel
  have C0 : Hid (∀ w b, Holds w b X → w.cell? ⟨b, 0, none⟩ = some (.int .i64 5)) := fun w b h => e0 ▸ h.cell 0 (by omega)
  have C9 : Hid (∀ w b, Holds w b X → w.cell? ⟨b, 9, none⟩ = some (.int .i64 5)) := fun w b h => e9 ▸ h.cell 9 (by omega)
  have C25 : Hid (∀ w b, Holds w b X → w.cell? ⟨b, 25, none⟩ = some (.int .i64 5)) := fun w b h => e25 ▸ h.cell 25 (by omega)
  have TX : Hid ((X.drop 0).take 33 = X) := take_all nX
  have OX : Hid (0 + 33 ≤ X.length) := show _ ≤ _ by omega
  have NZ : Hid (zeros33.length = 33) := zeros33_len
  obtain ⟨Y, hY⟩ : ∃ Y, alone 131073 = Y := ⟨_, rfl⟩
  have AE : Hid (alone 131073 = Y) := hY
  rw [hY] at G2
  have z := zero26
  clear hX nX mX e0 e9 e25 hY
  go_enter Try.func15, Try.ntmps15
  go_wp2_with (first | (with_reducible refine wpl_build26 ?_))
  refine (LX.out _).mono ?_
  rintro e w1 ⟨rfl, b⟩
  have B1 : Hid (Bel w (w1.alloc (.cells (vals X).toArray 26))) := Bel.alloc b _
  have H1 : Hid (Holds (w1.alloc (.cells (vals X).toArray 26)) w1.heap.size X) := holds_new _ _ _
  clear b
  go_wp2_with (first
    | (with_reducible refine wpl_store_widen wide26 NZ.out NX.out rfl rfl ?_)
    | (with_reducible refine wpl_load_wide (o := 0) wide26 TX.out H1.out OX.out rfl ?_))
  refine (GX.out _).mono ?_
  rintro e w2 ⟨rfl, b⟩
  have B2 : Hid (Bel w w2) := B1.out.trans b
  have H2 : Hid (Holds w2 w1.heap.size X) := H1.out.bel b
  clear b H1 B1
  go_wp2_with (first | (with_reducible refine wpl_build26q AE.out rfl ?_))
  refine (G2.out _).mono ?_
  rintro e w3 ⟨rfl, b⟩
  have B3 : Hid (Bel w w3) := B2.out.trans b
  have H3 : Hid (Holds w3 w1.heap.size X) := H2.out.bel b
  clear b H2 B2
  go_wp2_with (first | (with_reducible refine wpl_load_wide (o := 0) wide26 TX.out H3.out OX.out rfl ?_))
  refine (F0.out _).mono ?_
  rintro e w4 ⟨rfl, b⟩
  have bb : Bel w3 (w4.alloc (.cells (vals zeros33).toArray 26)) := Bel.alloc b _
  have B4 : Hid (Bel w (w4.alloc (.cells (vals zeros33).toArray 26))) := B3.out.trans bb
  have H4 : Hid (Holds (w4.alloc (.cells (vals zeros33).toArray 26)) w1.heap.size X) := H3.out.bel bb
  have c0 := C0.out _ _ H4.out
  have c9 := C9.out _ _ H4.out
  have c25 := C25.out _ _ H4.out
  clear b bb H3 B3
  go_wp2_with (first
    | (with_reducible refine wpl_store_widen wide26 NZ.out NZ.out rfl rfl ?_)
    | (with_reducible refine wpl_load_wideg (o := 0) rfl wide26 TX.out H4.out OX.out rfl ?_))
  refine (num_ok _ _).mono ?_
  rintro e W ⟨rfl, rfl⟩
  generalize w4.alloc (.cells (vals zeros33).toArray 26) = W at *
  go_wp2_with (first
    | (with_reducible refine wpl_load_wideg (o := 0) rfl wide26 TX.out H4.out OX.out rfl ?_))
  refine (num_ok _ _).mono ?_
  rintro e W2 ⟨rfl, rfl⟩
  go_wp2_with (first
    | (with_reducible refine wpl_load_wideg (o := 0) rfl wide26 TX.out H4.out OX.out rfl ?_))
  refine (num_ok _ _).mono ?_
  rintro e W2 ⟨rfl, rfl⟩
  go_wp2_with (first
    | (with_reducible refine wpl_load_wideg (o := 0) rfl wide26 TX.out H4.out OX.out rfl ?_))
  refine (num_ok _ _).mono ?_
  rintro e W2 ⟨rfl, rfl⟩
  go_wp2_with (first
    | (with_reducible refine wpl_load_wideg (o := 0) rfl wide26 TX.out H4.out OX.out rfl ?_))
  refine (MX.out _).mono ?_
  rintro e w8 ⟨rfl, b⟩
  have B8 : Hid (Bel w w8) := B4.out.trans b
  clear b
  go_wp2
  go_ret
  exact ⟨rfl, B8.out⟩

end Go.Proofs.Yteihdihplgjclaa.Chn
