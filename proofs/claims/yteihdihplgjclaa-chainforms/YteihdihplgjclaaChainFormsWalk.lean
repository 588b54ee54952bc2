/-
  ChainForms answers true for every two ints. No condition.
-/
import Derived.Test.YteihdihplgjclaaHAwake
namespace Go.Proofs.Yteihdihplgjclaa.Chn
open Go.RowKit Go.Sort Go.Proofs.Yteihdihplgjclaa.Mod Go.Proofs.Yteihdihplgjclaa.Lin Go.Proofs.Yteihdihplgjclaa.Num
set_option linter.unusedVariables false
set_option linter.unusedSimpArgs false

theorem bad_w (k : Nat) (y : Int) (hk : k < 8) (hy : passed 1048576 y = true) : mayL (zeros16.set k y) = false := by
  unfold mayL
  rw [anyOf_yes (p := passed 1048576) k hk (by rw [Mod.getD_set_eq _ _ _ (by rw [zeros16_len]; omega)]; exact hy)]
  rfl
theorem bad_h (k : Nat) (y : Int) (hk : k < 8) (hy : passed 4194304 y = true) : mayL (zeros16.set (8 + k) y) = false := by
  unfold mayL
  rw [anyOf_yes (p := passed 4194304) k hk (by rw [Mod.getD_set_eq _ _ _ (by rw [zeros16_len]; omega)]; exact hy)]
  cases anyOf (passed 1048576) _ 8 <;> rfl
theorem setA (k : Nat) (hk : k < 8) (y : Int) : partA (zeros33.set (1 + k) y) = zeros16.set k y := by
  match k, hk with
  | 0, _ => rfl
  | 1, _ => rfl
  | 2, _ => rfl
  | 3, _ => rfl
  | 4, _ => rfl
  | 5, _ => rfl
  | 6, _ => rfl
  | 7, _ => rfl
  | k + 8, h => exact absurd h (by omega)
theorem setB (k : Nat) (hk : k < 8) (y : Int) : partB (zeros33.set (25 + k) y) = zeros16.set (8 + k) y := by
  match k, hk with
  | 0, _ => rfl
  | 1, _ => rfl
  | 2, _ => rfl
  | 3, _ => rfl
  | 4, _ => rfl
  | 5, _ => rfl
  | 6, _ => rfl
  | 7, _ => rfl
  | k + 8, h => exact absurd h (by omega)
theorem bad_0 (k : Nat) (y : Int) (hk : k < 8) (hy : passed 131072 y = true) : mayC (zeros33.set 0 y) = false := by
  unfold mayC
  rw [show (zeros33.set 0 y).getD 0 0 = y from rfl, hy]
  rfl
theorem bad_1 (k : Nat) (y : Int) (hk : k < 8) (hy : passed 1048576 y = true) : mayC (zeros33.set (1 + k) y) = false := by
  unfold mayC
  rw [setA k hk, bad_w k y hk hy, Bool.false_and, Bool.and_false]
theorem bad_25 (k : Nat) (y : Int) (hk : k < 8) (hy : passed 4194304 y = true) : mayC (zeros33.set (25 + k) y) = false := by
  unfold mayC
  rw [setB k hk, bad_h k y hk hy, Bool.and_false, Bool.and_false]
theorem zeros_at (k : Nat) (hk : k < 33) : (vals zeros33)[k]? = some (.int .i64 0) := by
  rw [vals_get _ k (by rw [zeros33_len]; exact hk)]
  congr 2
  unfold zeros33
  rw [List.getD_eq_getElem?_getD, List.getElem?_replicate, if_pos hk]
  rfl

set_option maxRecDepth 20000 in
set_option maxHeartbeats 1000000 in
theorem forms_0 (a x d0 d : Int) (k : Nat) (h0 : bits .and .i64 a 3 = 0) (h1 : bits .and .i64 x 1023 = d0) (hd0 : 0 ≤ d0 ∧ d0 ≤ 1023) (hd : 1 + d0 = d) (h2 : bits .and .i64 x 7 = (k : Int)) (hk : k < 8) (h5 : bits .and .i64 a 1 = 0) (w : World) :
    Calls Try.prog 4 #[.int .i64 a, .int .i64 x] w fun e w' => e = .returned (.bool true) ∧ Bel w w' := by
  have z := zero26
  obtain ⟨d1, d2⟩ := hd0
  have bad : mayC (zeros33.set 0 (131072 + d)) = false := bad_0 k _ hk (decide_eq_true (by omega))
  obtain ⟨L, hL⟩ : ∃ L, zeros33.set 0 (131072 + d) = L := ⟨_, rfl⟩
  have LE : Hid (zeros33.set 0 (131072 + d) = L) := hL
  rw [hL] at bad
  have nl : L.length = 33 := by rw [← hL, List.length_set]; exact zeros33_len
  have TL : Hid ((L.drop 0).take 33 = L) := take_all nl
  have OL : Hid (0 + 33 ≤ L.length) := show _ ≤ _ by omega
  have TZ : Hid ((zeros33.drop 0).take 33 = zeros33) := take_all zeros33_len
  have OZ : Hid (0 + 33 ≤ zeros33.length) := show _ ≤ _ by rw [zeros33_len]; decide
  have NZ : Hid (zeros33.length = 33) := zeros33_len
  have GU : Hid (∀ w, Calls Try.prog 8 #[mdl L] w fun e w' => e = .returned (.tuple #[.int .i64 0, .int .i64 1500]) ∧ Bel w w') := guess_no L nl bad
  have LN : Hid (∀ w, Calls Try.prog 10 #[mdl L, .int .i64 5] w fun e w' => e = .returned (.tuple #[mdl zeros33, .int .i64 1500]) ∧ Bel w w') := learn_no L nl 5 bad
  have LF : Hid (∀ w, Calls Try.prog 10 #[mdl zeros33, .int .i64 (-131072 - d)] w fun e w' => e = .returned (.tuple #[mdl zeros33, .int .i64 1500]) ∧ Bel w w') := learn_far zeros33 zeros33_len _ zeros33_may (decide_eq_true (by omega))
  have MF : Hid (∀ w, Calls Try.prog 13 #[mdl L] w fun e w' => e = .returned (.bool false) ∧ Bel w w') := fun w => bad ▸ may_ok L nl w
  have q1 := eq_26 zeros33 zeros33 zeros33_len zeros33_len
  have q2 := eq_in26 zeros33 zeros33 zeros33_len zeros33_len
  simp only [decide_true] at q1 q2
  have hz := zeros_at 0 (by omega)
  clear bad hL nl
  go_enter Try.func4, Try.ntmps4
  go_wp2_with fail
  refine (awake_true _).mono ?_
  rintro e w1 ⟨rfl, b1⟩
  have vl : (vals zeros33).set 0 (.int .i64 (131072 + d)) = vals L := by rw [← LE.out]; simp [vals, List.map_set]
  have H2 : Hid (Holds (w1.alloc (.cells ((vals zeros33).set 0 (.int .i64 (131072 + d))).toArray 26)) w1.heap.size L) := by
    rw [vl]
    exact holds_new w1 L 26
  have B2 : Hid (Bel w (w1.alloc (.cells ((vals zeros33).set 0 (.int .i64 (131072 + d))).toArray 26))) := Bel.alloc b1 _
  clear vl b1
  go_wp2_with (first | (with_reducible refine wpl_load_wide (o := 0) wide26 TL.out H2.out OL.out rfl ?_))
  refine (GU.out _).mono ?_
  rintro e w2 ⟨rfl, b⟩
  have H3 : Hid (Holds w2 w1.heap.size L) := H2.out.bel b
  have B3 : Hid (Bel w w2) := B2.out.trans b
  clear b H2 B2 hz
  go_wp2_with (first | (with_reducible refine wpl_load_wide (o := 0) wide26 TL.out H3.out OL.out rfl ?_))
  refine (LN.out _).mono ?_
  rintro e w3 ⟨rfl, b⟩
  have H4 : Hid (Holds ((w3.alloc (.cells (vals zeros33).toArray 26)).alloc (.cells #[.int .i64 (-131072 - d), .int .i64 (131072 + d)] 3)) w1.heap.size L) := ((H3.out.bel b).bel ((Bel.refl _).alloc _)).bel ((Bel.refl _).alloc _)
  have A4 : Hid (Holds ((w3.alloc (.cells (vals zeros33).toArray 26)).alloc (.cells #[.int .i64 (-131072 - d), .int .i64 (131072 + d)] 3)) w3.heap.size zeros33) := (holds_new w3 zeros33 _).bel ((Bel.refl _).alloc _)
  have B4 : Hid (Bel w ((w3.alloc (.cells (vals zeros33).toArray 26)).alloc (.cells #[.int .i64 (-131072 - d), .int .i64 (131072 + d)] 3))) := ((B3.out.trans b).alloc _).alloc _
  clear b H3 B3
  go_wp2_with (first
    | (with_reducible refine wpl_store_widen wide26 NZ.out NZ.out rfl rfl ?_)
    | (with_reducible refine wpl_build26 ?_))
  refine (LF.out _).mono ?_
  rintro e w5 ⟨rfl, b⟩
  have H6 : Hid (Holds (w5.alloc (.cells (vals zeros33).toArray 26)) w1.heap.size L) := (H4.out.bel b).bel ((Bel.refl _).alloc _)
  have A6 : Hid (Holds (w5.alloc (.cells (vals zeros33).toArray 26)) w3.heap.size zeros33) := (A4.out.bel b).bel ((Bel.refl _).alloc _)
  have B6 : Hid (Bel w (w5.alloc (.cells (vals zeros33).toArray 26))) := (B4.out.trans b).alloc _
  clear b H4 A4 B4
  go_wp2_with (first
    | (with_reducible refine wpl_store_widen wide26 NZ.out NZ.out rfl rfl ?_)
    | (with_reducible refine wpl_load_wide (o := 0) wide26 TL.out H6.out OL.out rfl ?_))
  refine (MF.out _).mono ?_
  rintro e w6 ⟨rfl, b⟩
  have A7 : Hid (Holds w6 w3.heap.size zeros33) := A6.out.bel b
  have B7 : Hid (Bel w w6) := B6.out.trans b
  clear b H6 A6 B6
  go_wp2_with fail
  refine (num_ok _ _).mono ?_
  rintro e w7 ⟨rfl, rfl⟩
  go_wp2_with (first
    | (with_reducible refine wpl_load_wideg (o := 0) rfl wide26 TZ.out A7.out OZ.out rfl ?_)
    | (with_reducible refine wpl_build26g rfl ?_))
  refine (num_ok _ _).mono ?_
  rintro e w7 ⟨rfl, rfl⟩
  go_wp2_with fail
  refine (num_ok _ _).mono ?_
  rintro e w7 ⟨rfl, rfl⟩
  go_wp2
  go_ret
  exact ⟨rfl, B7.out⟩

set_option maxRecDepth 20000 in
set_option maxHeartbeats 1000000 in
theorem forms_1 (a x d0 d : Int) (k : Nat) (h0 : bits .and .i64 a 3 = 1) (h1 : bits .and .i64 x 1023 = d0) (hd0 : 0 ≤ d0 ∧ d0 ≤ 1023) (hd : 1 + d0 = d) (h2 : bits .and .i64 x 7 = (k : Int)) (hk : k < 8) (h5 : bits .and .i64 a 1 = 1) (w : World) :
    Calls Try.prog 4 #[.int .i64 a, .int .i64 x] w fun e w' => e = .returned (.bool true) ∧ Bel w w' := by
  have z := zero26
  obtain ⟨d1, d2⟩ := hd0
  have bad : mayC (zeros33.set 0 (-131072 - d)) = false := bad_0 k _ hk (decide_eq_true (by omega))
  obtain ⟨L, hL⟩ : ∃ L, zeros33.set 0 (-131072 - d) = L := ⟨_, rfl⟩
  have LE : Hid (zeros33.set 0 (-131072 - d) = L) := hL
  rw [hL] at bad
  have nl : L.length = 33 := by rw [← hL, List.length_set]; exact zeros33_len
  have TL : Hid ((L.drop 0).take 33 = L) := take_all nl
  have OL : Hid (0 + 33 ≤ L.length) := show _ ≤ _ by omega
  have TZ : Hid ((zeros33.drop 0).take 33 = zeros33) := take_all zeros33_len
  have OZ : Hid (0 + 33 ≤ zeros33.length) := show _ ≤ _ by rw [zeros33_len]; decide
  have NZ : Hid (zeros33.length = 33) := zeros33_len
  have GU : Hid (∀ w, Calls Try.prog 8 #[mdl L] w fun e w' => e = .returned (.tuple #[.int .i64 0, .int .i64 1500]) ∧ Bel w w') := guess_no L nl bad
  have LN : Hid (∀ w, Calls Try.prog 10 #[mdl L, .int .i64 5] w fun e w' => e = .returned (.tuple #[mdl zeros33, .int .i64 1500]) ∧ Bel w w') := learn_no L nl 5 bad
  have LF : Hid (∀ w, Calls Try.prog 10 #[mdl zeros33, .int .i64 (131072 + d)] w fun e w' => e = .returned (.tuple #[mdl zeros33, .int .i64 1500]) ∧ Bel w w') := learn_far zeros33 zeros33_len _ zeros33_may (decide_eq_true (by omega))
  have MF : Hid (∀ w, Calls Try.prog 13 #[mdl L] w fun e w' => e = .returned (.bool false) ∧ Bel w w') := fun w => bad ▸ may_ok L nl w
  have q1 := eq_26 zeros33 zeros33 zeros33_len zeros33_len
  have q2 := eq_in26 zeros33 zeros33 zeros33_len zeros33_len
  simp only [decide_true] at q1 q2
  have hz := zeros_at 0 (by omega)
  clear bad hL nl
  go_enter Try.func4, Try.ntmps4
  go_wp2_with fail
  refine (awake_true _).mono ?_
  rintro e w1 ⟨rfl, b1⟩
  have vl : (vals zeros33).set 0 (.int .i64 (-131072 - d)) = vals L := by rw [← LE.out]; simp [vals, List.map_set]
  have H2 : Hid (Holds (w1.alloc (.cells ((vals zeros33).set 0 (.int .i64 (-131072 - d))).toArray 26)) w1.heap.size L) := by
    rw [vl]
    exact holds_new w1 L 26
  have B2 : Hid (Bel w (w1.alloc (.cells ((vals zeros33).set 0 (.int .i64 (-131072 - d))).toArray 26))) := Bel.alloc b1 _
  clear vl b1
  go_wp2_with (first | (with_reducible refine wpl_load_wide (o := 0) wide26 TL.out H2.out OL.out rfl ?_))
  refine (GU.out _).mono ?_
  rintro e w2 ⟨rfl, b⟩
  have H3 : Hid (Holds w2 w1.heap.size L) := H2.out.bel b
  have B3 : Hid (Bel w w2) := B2.out.trans b
  clear b H2 B2 hz
  go_wp2_with (first | (with_reducible refine wpl_load_wide (o := 0) wide26 TL.out H3.out OL.out rfl ?_))
  refine (LN.out _).mono ?_
  rintro e w3 ⟨rfl, b⟩
  have H4 : Hid (Holds ((w3.alloc (.cells (vals zeros33).toArray 26)).alloc (.cells #[.int .i64 (-131072 - d), .int .i64 (131072 + d)] 3)) w1.heap.size L) := ((H3.out.bel b).bel ((Bel.refl _).alloc _)).bel ((Bel.refl _).alloc _)
  have A4 : Hid (Holds ((w3.alloc (.cells (vals zeros33).toArray 26)).alloc (.cells #[.int .i64 (-131072 - d), .int .i64 (131072 + d)] 3)) w3.heap.size zeros33) := (holds_new w3 zeros33 _).bel ((Bel.refl _).alloc _)
  have B4 : Hid (Bel w ((w3.alloc (.cells (vals zeros33).toArray 26)).alloc (.cells #[.int .i64 (-131072 - d), .int .i64 (131072 + d)] 3))) := ((B3.out.trans b).alloc _).alloc _
  clear b H3 B3
  go_wp2_with (first
    | (with_reducible refine wpl_store_widen wide26 NZ.out NZ.out rfl rfl ?_)
    | (with_reducible refine wpl_build26 ?_))
  refine (LF.out _).mono ?_
  rintro e w5 ⟨rfl, b⟩
  have H6 : Hid (Holds (w5.alloc (.cells (vals zeros33).toArray 26)) w1.heap.size L) := (H4.out.bel b).bel ((Bel.refl _).alloc _)
  have A6 : Hid (Holds (w5.alloc (.cells (vals zeros33).toArray 26)) w3.heap.size zeros33) := (A4.out.bel b).bel ((Bel.refl _).alloc _)
  have B6 : Hid (Bel w (w5.alloc (.cells (vals zeros33).toArray 26))) := (B4.out.trans b).alloc _
  clear b H4 A4 B4
  go_wp2_with (first
    | (with_reducible refine wpl_store_widen wide26 NZ.out NZ.out rfl rfl ?_)
    | (with_reducible refine wpl_load_wide (o := 0) wide26 TL.out H6.out OL.out rfl ?_))
  refine (MF.out _).mono ?_
  rintro e w6 ⟨rfl, b⟩
  have A7 : Hid (Holds w6 w3.heap.size zeros33) := A6.out.bel b
  have B7 : Hid (Bel w w6) := B6.out.trans b
  clear b H6 A6 B6
  go_wp2_with fail
  refine (num_ok _ _).mono ?_
  rintro e w7 ⟨rfl, rfl⟩
  go_wp2_with (first
    | (with_reducible refine wpl_load_wideg (o := 0) rfl wide26 TZ.out A7.out OZ.out rfl ?_)
    | (with_reducible refine wpl_build26g rfl ?_))
  refine (num_ok _ _).mono ?_
  rintro e w7 ⟨rfl, rfl⟩
  go_wp2_with fail
  refine (num_ok _ _).mono ?_
  rintro e w7 ⟨rfl, rfl⟩
  go_wp2
  go_ret
  exact ⟨rfl, B7.out⟩

set_option maxRecDepth 20000 in
set_option maxHeartbeats 1000000 in
theorem forms_2 (a x d0 d : Int) (k : Nat) (h0 : bits .and .i64 a 3 = 2) (h1 : bits .and .i64 x 1023 = d0) (hd0 : 0 ≤ d0 ∧ d0 ≤ 1023) (hd : 1 + d0 = d) (h2 : bits .and .i64 x 7 = (k : Int)) (hk : k < 8) (h5 : bits .and .i64 a 1 = 0) (w : World) :
    Calls Try.prog 4 #[.int .i64 a, .int .i64 x] w fun e w' => e = .returned (.bool true) ∧ Bel w w' := by
  have z := zero26
  obtain ⟨d1, d2⟩ := hd0
  have bad : mayC (zeros33.set (1 + k) (1048576 + d)) = false := bad_1 k _ hk (decide_eq_true (by omega))
  obtain ⟨L, hL⟩ : ∃ L, zeros33.set (1 + k) (1048576 + d) = L := ⟨_, rfl⟩
  have LE : Hid (zeros33.set (1 + k) (1048576 + d) = L) := hL
  rw [hL] at bad
  have nl : L.length = 33 := by rw [← hL, List.length_set]; exact zeros33_len
  have TL : Hid ((L.drop 0).take 33 = L) := take_all nl
  have OL : Hid (0 + 33 ≤ L.length) := show _ ≤ _ by omega
  have TZ : Hid ((zeros33.drop 0).take 33 = zeros33) := take_all zeros33_len
  have OZ : Hid (0 + 33 ≤ zeros33.length) := show _ ≤ _ by rw [zeros33_len]; decide
  have NZ : Hid (zeros33.length = 33) := zeros33_len
  have GU : Hid (∀ w, Calls Try.prog 8 #[mdl L] w fun e w' => e = .returned (.tuple #[.int .i64 0, .int .i64 1500]) ∧ Bel w w') := guess_no L nl bad
  have LN : Hid (∀ w, Calls Try.prog 10 #[mdl L, .int .i64 5] w fun e w' => e = .returned (.tuple #[mdl zeros33, .int .i64 1500]) ∧ Bel w w') := learn_no L nl 5 bad
  have LF : Hid (∀ w, Calls Try.prog 10 #[mdl zeros33, .int .i64 (-131072 - d)] w fun e w' => e = .returned (.tuple #[mdl zeros33, .int .i64 1500]) ∧ Bel w w') := learn_far zeros33 zeros33_len _ zeros33_may (decide_eq_true (by omega))
  have MF : Hid (∀ w, Calls Try.prog 13 #[mdl L] w fun e w' => e = .returned (.bool false) ∧ Bel w w') := fun w => bad ▸ may_ok L nl w
  have q1 := eq_26 zeros33 zeros33 zeros33_len zeros33_len
  have q2 := eq_in26 zeros33 zeros33 zeros33_len zeros33_len
  simp only [decide_true] at q1 q2
  have hz := zeros_at (1 + k) (by omega)
  clear bad hL nl
  go_enter Try.func4, Try.ntmps4
  go_wp2_with fail
  refine (awake_true _).mono ?_
  rintro e w1 ⟨rfl, b1⟩
  have vl : (vals zeros33).set (1 + k) (.int .i64 (1048576 + d)) = vals L := by rw [← LE.out]; simp [vals, List.map_set]
  have H2 : Hid (Holds (w1.alloc (.cells ((vals zeros33).set (1 + k) (.int .i64 (1048576 + d))).toArray 26)) w1.heap.size L) := by
    rw [vl]
    exact holds_new w1 L 26
  have B2 : Hid (Bel w (w1.alloc (.cells ((vals zeros33).set (1 + k) (.int .i64 (1048576 + d))).toArray 26))) := Bel.alloc b1 _
  clear vl b1
  go_wp2_with (first | (with_reducible refine wpl_load_wide (o := 0) wide26 TL.out H2.out OL.out rfl ?_))
  refine (GU.out _).mono ?_
  rintro e w2 ⟨rfl, b⟩
  have H3 : Hid (Holds w2 w1.heap.size L) := H2.out.bel b
  have B3 : Hid (Bel w w2) := B2.out.trans b
  clear b H2 B2 hz
  go_wp2_with (first | (with_reducible refine wpl_load_wide (o := 0) wide26 TL.out H3.out OL.out rfl ?_))
  refine (LN.out _).mono ?_
  rintro e w3 ⟨rfl, b⟩
  have H4 : Hid (Holds ((w3.alloc (.cells (vals zeros33).toArray 26)).alloc (.cells #[.int .i64 (-131072 - d), .int .i64 (131072 + d)] 3)) w1.heap.size L) := ((H3.out.bel b).bel ((Bel.refl _).alloc _)).bel ((Bel.refl _).alloc _)
  have A4 : Hid (Holds ((w3.alloc (.cells (vals zeros33).toArray 26)).alloc (.cells #[.int .i64 (-131072 - d), .int .i64 (131072 + d)] 3)) w3.heap.size zeros33) := (holds_new w3 zeros33 _).bel ((Bel.refl _).alloc _)
  have B4 : Hid (Bel w ((w3.alloc (.cells (vals zeros33).toArray 26)).alloc (.cells #[.int .i64 (-131072 - d), .int .i64 (131072 + d)] 3))) := ((B3.out.trans b).alloc _).alloc _
  clear b H3 B3
  go_wp2_with (first
    | (with_reducible refine wpl_store_widen wide26 NZ.out NZ.out rfl rfl ?_)
    | (with_reducible refine wpl_build26 ?_))
  refine (LF.out _).mono ?_
  rintro e w5 ⟨rfl, b⟩
  have H6 : Hid (Holds (w5.alloc (.cells (vals zeros33).toArray 26)) w1.heap.size L) := (H4.out.bel b).bel ((Bel.refl _).alloc _)
  have A6 : Hid (Holds (w5.alloc (.cells (vals zeros33).toArray 26)) w3.heap.size zeros33) := (A4.out.bel b).bel ((Bel.refl _).alloc _)
  have B6 : Hid (Bel w (w5.alloc (.cells (vals zeros33).toArray 26))) := (B4.out.trans b).alloc _
  clear b H4 A4 B4
  go_wp2_with (first
    | (with_reducible refine wpl_store_widen wide26 NZ.out NZ.out rfl rfl ?_)
    | (with_reducible refine wpl_load_wide (o := 0) wide26 TL.out H6.out OL.out rfl ?_))
  refine (MF.out _).mono ?_
  rintro e w6 ⟨rfl, b⟩
  have A7 : Hid (Holds w6 w3.heap.size zeros33) := A6.out.bel b
  have B7 : Hid (Bel w w6) := B6.out.trans b
  clear b H6 A6 B6
  go_wp2_with fail
  refine (num_ok _ _).mono ?_
  rintro e w7 ⟨rfl, rfl⟩
  go_wp2_with (first
    | (with_reducible refine wpl_load_wideg (o := 0) rfl wide26 TZ.out A7.out OZ.out rfl ?_)
    | (with_reducible refine wpl_build26g rfl ?_))
  refine (num_ok _ _).mono ?_
  rintro e w7 ⟨rfl, rfl⟩
  go_wp2_with fail
  refine (num_ok _ _).mono ?_
  rintro e w7 ⟨rfl, rfl⟩
  go_wp2
  go_ret
  exact ⟨rfl, B7.out⟩

set_option maxRecDepth 20000 in
set_option maxHeartbeats 1000000 in
theorem forms_3 (a x d0 d : Int) (k : Nat) (h0 : bits .and .i64 a 3 = 3) (h1 : bits .and .i64 x 1023 = d0) (hd0 : 0 ≤ d0 ∧ d0 ≤ 1023) (hd : 1 + d0 = d) (h2 : bits .and .i64 x 7 = (k : Int)) (hk : k < 8) (h5 : bits .and .i64 a 1 = 1) (w : World) :
    Calls Try.prog 4 #[.int .i64 a, .int .i64 x] w fun e w' => e = .returned (.bool true) ∧ Bel w w' := by
  have z := zero26
  obtain ⟨d1, d2⟩ := hd0
  have bad : mayC (zeros33.set (25 + k) (-4194304 - d)) = false := bad_25 k _ hk (decide_eq_true (by omega))
  obtain ⟨L, hL⟩ : ∃ L, zeros33.set (25 + k) (-4194304 - d) = L := ⟨_, rfl⟩
  have LE : Hid (zeros33.set (25 + k) (-4194304 - d) = L) := hL
  rw [hL] at bad
  have nl : L.length = 33 := by rw [← hL, List.length_set]; exact zeros33_len
  have TL : Hid ((L.drop 0).take 33 = L) := take_all nl
  have OL : Hid (0 + 33 ≤ L.length) := show _ ≤ _ by omega
  have TZ : Hid ((zeros33.drop 0).take 33 = zeros33) := take_all zeros33_len
  have OZ : Hid (0 + 33 ≤ zeros33.length) := show _ ≤ _ by rw [zeros33_len]; decide
  have NZ : Hid (zeros33.length = 33) := zeros33_len
  have GU : Hid (∀ w, Calls Try.prog 8 #[mdl L] w fun e w' => e = .returned (.tuple #[.int .i64 0, .int .i64 1500]) ∧ Bel w w') := guess_no L nl bad
  have LN : Hid (∀ w, Calls Try.prog 10 #[mdl L, .int .i64 5] w fun e w' => e = .returned (.tuple #[mdl zeros33, .int .i64 1500]) ∧ Bel w w') := learn_no L nl 5 bad
  have LF : Hid (∀ w, Calls Try.prog 10 #[mdl zeros33, .int .i64 (131072 + d)] w fun e w' => e = .returned (.tuple #[mdl zeros33, .int .i64 1500]) ∧ Bel w w') := learn_far zeros33 zeros33_len _ zeros33_may (decide_eq_true (by omega))
  have MF : Hid (∀ w, Calls Try.prog 13 #[mdl L] w fun e w' => e = .returned (.bool false) ∧ Bel w w') := fun w => bad ▸ may_ok L nl w
  have q1 := eq_26 zeros33 zeros33 zeros33_len zeros33_len
  have q2 := eq_in26 zeros33 zeros33 zeros33_len zeros33_len
  simp only [decide_true] at q1 q2
  have hz := zeros_at (25 + k) (by omega)
  clear bad hL nl
  go_enter Try.func4, Try.ntmps4
  go_wp2_with fail
  refine (awake_true _).mono ?_
  rintro e w1 ⟨rfl, b1⟩
  have vl : (vals zeros33).set (25 + k) (.int .i64 (-4194304 - d)) = vals L := by rw [← LE.out]; simp [vals, List.map_set]
  have H2 : Hid (Holds (w1.alloc (.cells ((vals zeros33).set (25 + k) (.int .i64 (-4194304 - d))).toArray 26)) w1.heap.size L) := by
    rw [vl]
    exact holds_new w1 L 26
  have B2 : Hid (Bel w (w1.alloc (.cells ((vals zeros33).set (25 + k) (.int .i64 (-4194304 - d))).toArray 26))) := Bel.alloc b1 _
  clear vl b1
  go_wp2_with (first | (with_reducible refine wpl_load_wide (o := 0) wide26 TL.out H2.out OL.out rfl ?_))
  refine (GU.out _).mono ?_
  rintro e w2 ⟨rfl, b⟩
  have H3 : Hid (Holds w2 w1.heap.size L) := H2.out.bel b
  have B3 : Hid (Bel w w2) := B2.out.trans b
  clear b H2 B2 hz
  go_wp2_with (first | (with_reducible refine wpl_load_wide (o := 0) wide26 TL.out H3.out OL.out rfl ?_))
  refine (LN.out _).mono ?_
  rintro e w3 ⟨rfl, b⟩
  have H4 : Hid (Holds ((w3.alloc (.cells (vals zeros33).toArray 26)).alloc (.cells #[.int .i64 (-131072 - d), .int .i64 (131072 + d)] 3)) w1.heap.size L) := ((H3.out.bel b).bel ((Bel.refl _).alloc _)).bel ((Bel.refl _).alloc _)
  have A4 : Hid (Holds ((w3.alloc (.cells (vals zeros33).toArray 26)).alloc (.cells #[.int .i64 (-131072 - d), .int .i64 (131072 + d)] 3)) w3.heap.size zeros33) := (holds_new w3 zeros33 _).bel ((Bel.refl _).alloc _)
  have B4 : Hid (Bel w ((w3.alloc (.cells (vals zeros33).toArray 26)).alloc (.cells #[.int .i64 (-131072 - d), .int .i64 (131072 + d)] 3))) := ((B3.out.trans b).alloc _).alloc _
  clear b H3 B3
  go_wp2_with (first
    | (with_reducible refine wpl_store_widen wide26 NZ.out NZ.out rfl rfl ?_)
    | (with_reducible refine wpl_build26 ?_))
  refine (LF.out _).mono ?_
  rintro e w5 ⟨rfl, b⟩
  have H6 : Hid (Holds (w5.alloc (.cells (vals zeros33).toArray 26)) w1.heap.size L) := (H4.out.bel b).bel ((Bel.refl _).alloc _)
  have A6 : Hid (Holds (w5.alloc (.cells (vals zeros33).toArray 26)) w3.heap.size zeros33) := (A4.out.bel b).bel ((Bel.refl _).alloc _)
  have B6 : Hid (Bel w (w5.alloc (.cells (vals zeros33).toArray 26))) := (B4.out.trans b).alloc _
  clear b H4 A4 B4
  go_wp2_with (first
    | (with_reducible refine wpl_store_widen wide26 NZ.out NZ.out rfl rfl ?_)
    | (with_reducible refine wpl_load_wide (o := 0) wide26 TL.out H6.out OL.out rfl ?_))
  refine (MF.out _).mono ?_
  rintro e w6 ⟨rfl, b⟩
  have A7 : Hid (Holds w6 w3.heap.size zeros33) := A6.out.bel b
  have B7 : Hid (Bel w w6) := B6.out.trans b
  clear b H6 A6 B6
  go_wp2_with fail
  refine (num_ok _ _).mono ?_
  rintro e w7 ⟨rfl, rfl⟩
  go_wp2_with (first
    | (with_reducible refine wpl_load_wideg (o := 0) rfl wide26 TZ.out A7.out OZ.out rfl ?_)
    | (with_reducible refine wpl_build26g rfl ?_))
  refine (num_ok _ _).mono ?_
  rintro e w7 ⟨rfl, rfl⟩
  go_wp2_with fail
  refine (num_ok _ _).mono ?_
  rintro e w7 ⟨rfl, rfl⟩
  go_wp2
  go_ret
  exact ⟨rfl, B7.out⟩

theorem forms_walk (a x : Int) (w : World) :
    Calls Try.prog 4 #[.int .i64 a, .int .i64 x] w fun e w' => e = .returned (.bool true) ∧ Bel w w' := by
  have h3 := and3 a
  have h1 := and1023 x
  have h7 : bits .and .i64 x 7 = x % 8 := and_mask 3 7 (by decide) (by decide) x
  have h5 : bits .and .i64 a 1 = a % 2 := and_mask 1 1 (by decide) (by decide) a
  have k7 : bits .and .i64 x 7 = (((x % 8).toNat : Nat) : Int) := by rw [h7]; omega
  rcases (by omega : a % 4 = 0 ∨ a % 4 = 1 ∨ a % 4 = 2 ∨ a % 4 = 3) with e | e | e | e
  · exact forms_0 a x _ _ _ (h3.trans e) h1 (by omega) rfl k7 (by omega) (h5.trans (by omega)) w
  · exact forms_1 a x _ _ _ (h3.trans e) h1 (by omega) rfl k7 (by omega) (h5.trans (by omega)) w
  · exact forms_2 a x _ _ _ (h3.trans e) h1 (by omega) rfl k7 (by omega) (h5.trans (by omega)) w
  · exact forms_3 a x _ _ _ (h3.trans e) h1 (by omega) rfl k7 (by omega) (h5.trans (by omega)) w

end Go.Proofs.Yteihdihplgjclaa.Chn
