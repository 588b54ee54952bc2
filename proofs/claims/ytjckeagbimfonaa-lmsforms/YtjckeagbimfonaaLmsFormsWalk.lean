/-
  LmsForms answers true for every two ints. No condition.
-/
import Derived.Test.YtjckeagbimfonaaLAwake
namespace Go.Proofs.Ytjckeagbimfonaa.Lin
open Go.RowKit Go.Sort Go.Proofs.Ytjckeagbimfonaa.Mod Go.Proofs.Ytjckeagbimfonaa.Num
set_option linter.unusedVariables false
set_option linter.unusedSimpArgs false

theorem bad_w (k : Nat) (y : Int) (hk : k < 8) (hy : passed 1048576 y = true) : mayL (zeros16.set k y) = false := by
  unfold mayL
  rw [anyOf_yes (p := passed 1048576) k hk (by rw [Mod.getD_set_eq _ _ _ (by rw [zeros16_len]; omega)]; exact hy)]
  rfl
theorem bad_h (k : Nat) (y : Int) (hk : k < 8) (hy : passed 4194304 y = true) : mayL (zeros16.set (8 + k) y) = false := by
  unfold mayL
  rw [anyOf_yes (p := passed 4194304) k hk (by rw [Mod.getD_set_eq _ _ _ (by rw [zeros16_len]; omega)]; exact hy)]
  cases anyOf (passed 1048576) _ 8 <;> rfl
theorem zeros_at (k : Nat) (hk : k < 16) : (vals zeros16)[k]? = some (.int .i64 0) := by
  rw [vals_get _ k (by rw [zeros16_len]; exact hk), zeros16_get]

set_option maxRecDepth 20000 in
set_option maxHeartbeats 1000000 in
theorem forms_w00 (a x d0 d : Int) (k : Nat) (h1 : bits .and .i64 x 1023 = d0) (hd0 : 0 ≤ d0 ∧ d0 ≤ 1023) (hd : 1 + d0 = d) (h2 : bits .and .i64 a 7 = (k : Int)) (hk : k < 8) (h3 : bits .and .i64 a 8 = 8) (h4 : bits .and .i64 (a / 16) 1 = 0) (h5 : bits .and .i64 a 1 = 0) (w : World) :
    Calls Try.prog 4 #[.int .i64 a, .int .i64 x] w fun e w' => e = .returned (.bool true) ∧ Bel w w' := by
  have z := zero24
  obtain ⟨d1, d2⟩ := hd0
  have bad : mayL (zeros16.set k (-1048576 - d)) = false := bad_w k _ hk (decide_eq_true (by omega))
  obtain ⟨L, hL⟩ : ∃ L, zeros16.set k (-1048576 - d) = L := ⟨_, rfl⟩
  have LE : Hid (zeros16.set k (-1048576 - d) = L) := hL
  rw [hL] at bad
  have nl : L.length = 16 := by rw [← hL, List.length_set]; exact zeros16_len
  have NL : Hid (L.length = 16) := nl
  have NZ : Hid (zeros16.length = 16) := zeros16_len
  have GU : Hid (∀ w, Calls Try.prog 9 #[mdl L] w fun e w' => e = .returned (.tuple #[.int .i64 0, .int .i64 1400]) ∧ Bel w w') := guess_no L nl bad
  have LN : Hid (∀ w, Calls Try.prog 11 #[mdl L, .int .i64 5] w fun e w' => e = .returned (.tuple #[mdl zeros16, .int .i64 1400]) ∧ Bel w w') := learn_no L nl 5 bad
  have LF : Hid (∀ w, Calls Try.prog 11 #[mdl zeros16, .int .i64 (-4194304 - d)] w fun e w' => e = .returned (.tuple #[mdl zeros16, .int .i64 1400]) ∧ Bel w w') := learn_far zeros16 zeros16_len _ zeros16_may (decide_eq_true (by omega))
  have MF : Hid (∀ w, Calls Try.prog 14 #[mdl L] w fun e w' => e = .returned (.bool false) ∧ Bel w w') := fun w => bad ▸ may_ok L nl w
  have q1 := eq_24 zeros16 zeros16 zeros16_len zeros16_len
  have q2 := eq_in24 zeros16 zeros16 zeros16_len zeros16_len
  simp only [decide_true] at q1 q2
  have hz := zeros_at k (by omega)
  clear bad hL nl
  go_enter Try.func4, Try.ntmps4
  go_wp2_with fail
  refine (awake_true _).mono ?_
  rintro e w1 ⟨rfl, b1⟩
  have B1 : Hid (Bel w w1) := b1
  have vl : (vals zeros16).set k (.int .i64 (-1048576 - d)) = vals L := by rw [← LE.out]; simp [vals, List.map_set]
  have H2 : Hid (Holds ((w1.alloc (.cells ((vals zeros16).set k (.int .i64 (-1048576 - d))).toArray 24)).alloc (.cells #[.int .i64 (-1048576 - d), .int .i64 (1048576 + d)] 3)) w1.heap.size L) := by
    rw [vl]
    exact (holds_new w1 L 24).bel ((Bel.refl _).alloc _)
  have B2 : Hid (Bel w ((w1.alloc (.cells ((vals zeros16).set k (.int .i64 (-1048576 - d))).toArray 24)).alloc (.cells #[.int .i64 (-1048576 - d), .int .i64 (1048576 + d)] 3))) := (Bel.alloc b1 _).alloc _
  clear vl
  clear b1
  go_wp2_with (first | (with_reducible refine wpl_load24 H2.out NL.out rfl ?_))
  refine (GU.out _).mono ?_
  rintro e w2 ⟨rfl, b⟩
  have H3 : Hid (Holds w2 w1.heap.size L) := H2.out.bel b
  have B3 : Hid (Bel w w2) := B2.out.trans b
  clear b H2 B2 B1 hz
  go_wp2_with (first | (with_reducible refine wpl_load24 H3.out NL.out rfl ?_))
  refine (LN.out _).mono ?_
  rintro e w3 ⟨rfl, b⟩
  have H4 : Hid (Holds (w3.alloc (.cells (vals zeros16).toArray 24)) w1.heap.size L) := (H3.out.bel b).bel ((Bel.refl _).alloc _)
  have A4 : Hid (Holds (w3.alloc (.cells (vals zeros16).toArray 24)) w3.heap.size zeros16) := holds_new w3 zeros16 _
  have B4 : Hid (Bel w (w3.alloc (.cells (vals zeros16).toArray 24))) := (B3.out.trans b).alloc _
  clear b H3 B3
  go_wp2_with (first
    | (with_reducible refine wpl_store24n NZ.out NZ.out rfl rfl ?_)
    | (with_reducible refine wpl_build24 ?_))
  refine (LF.out _).mono ?_
  rintro e w5 ⟨rfl, b⟩
  have H6 : Hid (Holds (w5.alloc (.cells (vals zeros16).toArray 24)) w1.heap.size L) := ((H4.out.bel ((Bel.refl _).alloc _)).bel b).bel ((Bel.refl _).alloc _)
  have A6 : Hid (Holds (w5.alloc (.cells (vals zeros16).toArray 24)) w3.heap.size zeros16) := ((A4.out.bel ((Bel.refl _).alloc _)).bel b).bel ((Bel.refl _).alloc _)
  have B6 : Hid (Bel w (w5.alloc (.cells (vals zeros16).toArray 24))) := ((B4.out.alloc _).trans b).alloc _
  clear b H4 A4 B4
  go_wp2_with (first
    | (with_reducible refine wpl_store24n NZ.out NZ.out rfl rfl ?_)
    | (with_reducible refine wpl_load24 H6.out NL.out rfl ?_))
  refine (MF.out _).mono ?_
  rintro e w6 ⟨rfl, b⟩
  have A7 : Hid (Holds w6 w3.heap.size zeros16) := A6.out.bel b
  have B7 : Hid (Bel w w6) := B6.out.trans b
  clear b H6 A6 B6
  go_wp2_with fail
  refine (num_ok _ _).mono ?_
  rintro e w7 ⟨rfl, rfl⟩
  go_wp2_with (first
    | (with_reducible refine wpl_load24g rfl A7.out NZ.out rfl ?_)
    | (with_reducible refine wpl_build24g rfl ?_))
  refine (num_ok _ _).mono ?_
  rintro e w7 ⟨rfl, rfl⟩
  go_wp2_with fail
  refine (num_ok _ _).mono ?_
  rintro e w7 ⟨rfl, rfl⟩
  go_wp2
  go_ret
  exact ⟨rfl, B7.out⟩

set_option maxRecDepth 20000 in
set_option maxHeartbeats 1000000 in
theorem forms_w01 (a x d0 d : Int) (k : Nat) (h1 : bits .and .i64 x 1023 = d0) (hd0 : 0 ≤ d0 ∧ d0 ≤ 1023) (hd : 1 + d0 = d) (h2 : bits .and .i64 a 7 = (k : Int)) (hk : k < 8) (h3 : bits .and .i64 a 8 = 8) (h4 : bits .and .i64 (a / 16) 1 = 0) (h5 : bits .and .i64 a 1 = 1) (w : World) :
    Calls Try.prog 4 #[.int .i64 a, .int .i64 x] w fun e w' => e = .returned (.bool true) ∧ Bel w w' := by
  have z := zero24
  obtain ⟨d1, d2⟩ := hd0
  have bad : mayL (zeros16.set k (-1048576 - d)) = false := bad_w k _ hk (decide_eq_true (by omega))
  obtain ⟨L, hL⟩ : ∃ L, zeros16.set k (-1048576 - d) = L := ⟨_, rfl⟩
  have LE : Hid (zeros16.set k (-1048576 - d) = L) := hL
  rw [hL] at bad
  have nl : L.length = 16 := by rw [← hL, List.length_set]; exact zeros16_len
  have NL : Hid (L.length = 16) := nl
  have NZ : Hid (zeros16.length = 16) := zeros16_len
  have GU : Hid (∀ w, Calls Try.prog 9 #[mdl L] w fun e w' => e = .returned (.tuple #[.int .i64 0, .int .i64 1400]) ∧ Bel w w') := guess_no L nl bad
  have LN : Hid (∀ w, Calls Try.prog 11 #[mdl L, .int .i64 5] w fun e w' => e = .returned (.tuple #[mdl zeros16, .int .i64 1400]) ∧ Bel w w') := learn_no L nl 5 bad
  have LF : Hid (∀ w, Calls Try.prog 11 #[mdl zeros16, .int .i64 (4194304 + d)] w fun e w' => e = .returned (.tuple #[mdl zeros16, .int .i64 1400]) ∧ Bel w w') := learn_far zeros16 zeros16_len _ zeros16_may (decide_eq_true (by omega))
  have MF : Hid (∀ w, Calls Try.prog 14 #[mdl L] w fun e w' => e = .returned (.bool false) ∧ Bel w w') := fun w => bad ▸ may_ok L nl w
  have q1 := eq_24 zeros16 zeros16 zeros16_len zeros16_len
  have q2 := eq_in24 zeros16 zeros16 zeros16_len zeros16_len
  simp only [decide_true] at q1 q2
  have hz := zeros_at k (by omega)
  clear bad hL nl
  go_enter Try.func4, Try.ntmps4
  go_wp2_with fail
  refine (awake_true _).mono ?_
  rintro e w1 ⟨rfl, b1⟩
  have B1 : Hid (Bel w w1) := b1
  have vl : (vals zeros16).set k (.int .i64 (-1048576 - d)) = vals L := by rw [← LE.out]; simp [vals, List.map_set]
  have H2 : Hid (Holds ((w1.alloc (.cells ((vals zeros16).set k (.int .i64 (-1048576 - d))).toArray 24)).alloc (.cells #[.int .i64 (-1048576 - d), .int .i64 (1048576 + d)] 3)) w1.heap.size L) := by
    rw [vl]
    exact (holds_new w1 L 24).bel ((Bel.refl _).alloc _)
  have B2 : Hid (Bel w ((w1.alloc (.cells ((vals zeros16).set k (.int .i64 (-1048576 - d))).toArray 24)).alloc (.cells #[.int .i64 (-1048576 - d), .int .i64 (1048576 + d)] 3))) := (Bel.alloc b1 _).alloc _
  clear vl
  clear b1
  go_wp2_with (first | (with_reducible refine wpl_load24 H2.out NL.out rfl ?_))
  refine (GU.out _).mono ?_
  rintro e w2 ⟨rfl, b⟩
  have H3 : Hid (Holds w2 w1.heap.size L) := H2.out.bel b
  have B3 : Hid (Bel w w2) := B2.out.trans b
  clear b H2 B2 B1 hz
  go_wp2_with (first | (with_reducible refine wpl_load24 H3.out NL.out rfl ?_))
  refine (LN.out _).mono ?_
  rintro e w3 ⟨rfl, b⟩
  have H4 : Hid (Holds (w3.alloc (.cells (vals zeros16).toArray 24)) w1.heap.size L) := (H3.out.bel b).bel ((Bel.refl _).alloc _)
  have A4 : Hid (Holds (w3.alloc (.cells (vals zeros16).toArray 24)) w3.heap.size zeros16) := holds_new w3 zeros16 _
  have B4 : Hid (Bel w (w3.alloc (.cells (vals zeros16).toArray 24))) := (B3.out.trans b).alloc _
  clear b H3 B3
  go_wp2_with (first
    | (with_reducible refine wpl_store24n NZ.out NZ.out rfl rfl ?_)
    | (with_reducible refine wpl_build24 ?_))
  refine (LF.out _).mono ?_
  rintro e w5 ⟨rfl, b⟩
  have H6 : Hid (Holds (w5.alloc (.cells (vals zeros16).toArray 24)) w1.heap.size L) := ((H4.out.bel ((Bel.refl _).alloc _)).bel b).bel ((Bel.refl _).alloc _)
  have A6 : Hid (Holds (w5.alloc (.cells (vals zeros16).toArray 24)) w3.heap.size zeros16) := ((A4.out.bel ((Bel.refl _).alloc _)).bel b).bel ((Bel.refl _).alloc _)
  have B6 : Hid (Bel w (w5.alloc (.cells (vals zeros16).toArray 24))) := ((B4.out.alloc _).trans b).alloc _
  clear b H4 A4 B4
  go_wp2_with (first
    | (with_reducible refine wpl_store24n NZ.out NZ.out rfl rfl ?_)
    | (with_reducible refine wpl_load24 H6.out NL.out rfl ?_))
  refine (MF.out _).mono ?_
  rintro e w6 ⟨rfl, b⟩
  have A7 : Hid (Holds w6 w3.heap.size zeros16) := A6.out.bel b
  have B7 : Hid (Bel w w6) := B6.out.trans b
  clear b H6 A6 B6
  go_wp2_with fail
  refine (num_ok _ _).mono ?_
  rintro e w7 ⟨rfl, rfl⟩
  go_wp2_with (first
    | (with_reducible refine wpl_load24g rfl A7.out NZ.out rfl ?_)
    | (with_reducible refine wpl_build24g rfl ?_))
  refine (num_ok _ _).mono ?_
  rintro e w7 ⟨rfl, rfl⟩
  go_wp2_with fail
  refine (num_ok _ _).mono ?_
  rintro e w7 ⟨rfl, rfl⟩
  go_wp2
  go_ret
  exact ⟨rfl, B7.out⟩

set_option maxRecDepth 20000 in
set_option maxHeartbeats 1000000 in
theorem forms_w10 (a x d0 d : Int) (k : Nat) (h1 : bits .and .i64 x 1023 = d0) (hd0 : 0 ≤ d0 ∧ d0 ≤ 1023) (hd : 1 + d0 = d) (h2 : bits .and .i64 a 7 = (k : Int)) (hk : k < 8) (h3 : bits .and .i64 a 8 = 8) (h4 : bits .and .i64 (a / 16) 1 = 1) (h5 : bits .and .i64 a 1 = 0) (w : World) :
    Calls Try.prog 4 #[.int .i64 a, .int .i64 x] w fun e w' => e = .returned (.bool true) ∧ Bel w w' := by
  have z := zero24
  obtain ⟨d1, d2⟩ := hd0
  have bad : mayL (zeros16.set k (1048576 + d)) = false := bad_w k _ hk (decide_eq_true (by omega))
  obtain ⟨L, hL⟩ : ∃ L, zeros16.set k (1048576 + d) = L := ⟨_, rfl⟩
  have LE : Hid (zeros16.set k (1048576 + d) = L) := hL
  rw [hL] at bad
  have nl : L.length = 16 := by rw [← hL, List.length_set]; exact zeros16_len
  have NL : Hid (L.length = 16) := nl
  have NZ : Hid (zeros16.length = 16) := zeros16_len
  have GU : Hid (∀ w, Calls Try.prog 9 #[mdl L] w fun e w' => e = .returned (.tuple #[.int .i64 0, .int .i64 1400]) ∧ Bel w w') := guess_no L nl bad
  have LN : Hid (∀ w, Calls Try.prog 11 #[mdl L, .int .i64 5] w fun e w' => e = .returned (.tuple #[mdl zeros16, .int .i64 1400]) ∧ Bel w w') := learn_no L nl 5 bad
  have LF : Hid (∀ w, Calls Try.prog 11 #[mdl zeros16, .int .i64 (-4194304 - d)] w fun e w' => e = .returned (.tuple #[mdl zeros16, .int .i64 1400]) ∧ Bel w w') := learn_far zeros16 zeros16_len _ zeros16_may (decide_eq_true (by omega))
  have MF : Hid (∀ w, Calls Try.prog 14 #[mdl L] w fun e w' => e = .returned (.bool false) ∧ Bel w w') := fun w => bad ▸ may_ok L nl w
  have q1 := eq_24 zeros16 zeros16 zeros16_len zeros16_len
  have q2 := eq_in24 zeros16 zeros16 zeros16_len zeros16_len
  simp only [decide_true] at q1 q2
  have hz := zeros_at k (by omega)
  clear bad hL nl
  go_enter Try.func4, Try.ntmps4
  go_wp2_with fail
  refine (awake_true _).mono ?_
  rintro e w1 ⟨rfl, b1⟩
  have B1 : Hid (Bel w w1) := b1
  have vl : (vals zeros16).set k (.int .i64 (1048576 + d)) = vals L := by rw [← LE.out]; simp [vals, List.map_set]
  have H2 : Hid (Holds ((w1.alloc (.cells ((vals zeros16).set k (.int .i64 (1048576 + d))).toArray 24)).alloc (.cells #[.int .i64 (-1048576 - d), .int .i64 (1048576 + d)] 3)) w1.heap.size L) := by
    rw [vl]
    exact (holds_new w1 L 24).bel ((Bel.refl _).alloc _)
  have B2 : Hid (Bel w ((w1.alloc (.cells ((vals zeros16).set k (.int .i64 (1048576 + d))).toArray 24)).alloc (.cells #[.int .i64 (-1048576 - d), .int .i64 (1048576 + d)] 3))) := (Bel.alloc b1 _).alloc _
  clear vl
  clear b1
  go_wp2_with (first | (with_reducible refine wpl_load24 H2.out NL.out rfl ?_))
  refine (GU.out _).mono ?_
  rintro e w2 ⟨rfl, b⟩
  have H3 : Hid (Holds w2 w1.heap.size L) := H2.out.bel b
  have B3 : Hid (Bel w w2) := B2.out.trans b
  clear b H2 B2 B1 hz
  go_wp2_with (first | (with_reducible refine wpl_load24 H3.out NL.out rfl ?_))
  refine (LN.out _).mono ?_
  rintro e w3 ⟨rfl, b⟩
  have H4 : Hid (Holds (w3.alloc (.cells (vals zeros16).toArray 24)) w1.heap.size L) := (H3.out.bel b).bel ((Bel.refl _).alloc _)
  have A4 : Hid (Holds (w3.alloc (.cells (vals zeros16).toArray 24)) w3.heap.size zeros16) := holds_new w3 zeros16 _
  have B4 : Hid (Bel w (w3.alloc (.cells (vals zeros16).toArray 24))) := (B3.out.trans b).alloc _
  clear b H3 B3
  go_wp2_with (first
    | (with_reducible refine wpl_store24n NZ.out NZ.out rfl rfl ?_)
    | (with_reducible refine wpl_build24 ?_))
  refine (LF.out _).mono ?_
  rintro e w5 ⟨rfl, b⟩
  have H6 : Hid (Holds (w5.alloc (.cells (vals zeros16).toArray 24)) w1.heap.size L) := ((H4.out.bel ((Bel.refl _).alloc _)).bel b).bel ((Bel.refl _).alloc _)
  have A6 : Hid (Holds (w5.alloc (.cells (vals zeros16).toArray 24)) w3.heap.size zeros16) := ((A4.out.bel ((Bel.refl _).alloc _)).bel b).bel ((Bel.refl _).alloc _)
  have B6 : Hid (Bel w (w5.alloc (.cells (vals zeros16).toArray 24))) := ((B4.out.alloc _).trans b).alloc _
  clear b H4 A4 B4
  go_wp2_with (first
    | (with_reducible refine wpl_store24n NZ.out NZ.out rfl rfl ?_)
    | (with_reducible refine wpl_load24 H6.out NL.out rfl ?_))
  refine (MF.out _).mono ?_
  rintro e w6 ⟨rfl, b⟩
  have A7 : Hid (Holds w6 w3.heap.size zeros16) := A6.out.bel b
  have B7 : Hid (Bel w w6) := B6.out.trans b
  clear b H6 A6 B6
  go_wp2_with fail
  refine (num_ok _ _).mono ?_
  rintro e w7 ⟨rfl, rfl⟩
  go_wp2_with (first
    | (with_reducible refine wpl_load24g rfl A7.out NZ.out rfl ?_)
    | (with_reducible refine wpl_build24g rfl ?_))
  refine (num_ok _ _).mono ?_
  rintro e w7 ⟨rfl, rfl⟩
  go_wp2_with fail
  refine (num_ok _ _).mono ?_
  rintro e w7 ⟨rfl, rfl⟩
  go_wp2
  go_ret
  exact ⟨rfl, B7.out⟩

set_option maxRecDepth 20000 in
set_option maxHeartbeats 1000000 in
theorem forms_w11 (a x d0 d : Int) (k : Nat) (h1 : bits .and .i64 x 1023 = d0) (hd0 : 0 ≤ d0 ∧ d0 ≤ 1023) (hd : 1 + d0 = d) (h2 : bits .and .i64 a 7 = (k : Int)) (hk : k < 8) (h3 : bits .and .i64 a 8 = 8) (h4 : bits .and .i64 (a / 16) 1 = 1) (h5 : bits .and .i64 a 1 = 1) (w : World) :
    Calls Try.prog 4 #[.int .i64 a, .int .i64 x] w fun e w' => e = .returned (.bool true) ∧ Bel w w' := by
  have z := zero24
  obtain ⟨d1, d2⟩ := hd0
  have bad : mayL (zeros16.set k (1048576 + d)) = false := bad_w k _ hk (decide_eq_true (by omega))
  obtain ⟨L, hL⟩ : ∃ L, zeros16.set k (1048576 + d) = L := ⟨_, rfl⟩
  have LE : Hid (zeros16.set k (1048576 + d) = L) := hL
  rw [hL] at bad
  have nl : L.length = 16 := by rw [← hL, List.length_set]; exact zeros16_len
  have NL : Hid (L.length = 16) := nl
  have NZ : Hid (zeros16.length = 16) := zeros16_len
  have GU : Hid (∀ w, Calls Try.prog 9 #[mdl L] w fun e w' => e = .returned (.tuple #[.int .i64 0, .int .i64 1400]) ∧ Bel w w') := guess_no L nl bad
  have LN : Hid (∀ w, Calls Try.prog 11 #[mdl L, .int .i64 5] w fun e w' => e = .returned (.tuple #[mdl zeros16, .int .i64 1400]) ∧ Bel w w') := learn_no L nl 5 bad
  have LF : Hid (∀ w, Calls Try.prog 11 #[mdl zeros16, .int .i64 (4194304 + d)] w fun e w' => e = .returned (.tuple #[mdl zeros16, .int .i64 1400]) ∧ Bel w w') := learn_far zeros16 zeros16_len _ zeros16_may (decide_eq_true (by omega))
  have MF : Hid (∀ w, Calls Try.prog 14 #[mdl L] w fun e w' => e = .returned (.bool false) ∧ Bel w w') := fun w => bad ▸ may_ok L nl w
  have q1 := eq_24 zeros16 zeros16 zeros16_len zeros16_len
  have q2 := eq_in24 zeros16 zeros16 zeros16_len zeros16_len
  simp only [decide_true] at q1 q2
  have hz := zeros_at k (by omega)
  clear bad hL nl
  go_enter Try.func4, Try.ntmps4
  go_wp2_with fail
  refine (awake_true _).mono ?_
  rintro e w1 ⟨rfl, b1⟩
  have B1 : Hid (Bel w w1) := b1
  have vl : (vals zeros16).set k (.int .i64 (1048576 + d)) = vals L := by rw [← LE.out]; simp [vals, List.map_set]
  have H2 : Hid (Holds ((w1.alloc (.cells ((vals zeros16).set k (.int .i64 (1048576 + d))).toArray 24)).alloc (.cells #[.int .i64 (-1048576 - d), .int .i64 (1048576 + d)] 3)) w1.heap.size L) := by
    rw [vl]
    exact (holds_new w1 L 24).bel ((Bel.refl _).alloc _)
  have B2 : Hid (Bel w ((w1.alloc (.cells ((vals zeros16).set k (.int .i64 (1048576 + d))).toArray 24)).alloc (.cells #[.int .i64 (-1048576 - d), .int .i64 (1048576 + d)] 3))) := (Bel.alloc b1 _).alloc _
  clear vl
  clear b1
  go_wp2_with (first | (with_reducible refine wpl_load24 H2.out NL.out rfl ?_))
  refine (GU.out _).mono ?_
  rintro e w2 ⟨rfl, b⟩
  have H3 : Hid (Holds w2 w1.heap.size L) := H2.out.bel b
  have B3 : Hid (Bel w w2) := B2.out.trans b
  clear b H2 B2 B1 hz
  go_wp2_with (first | (with_reducible refine wpl_load24 H3.out NL.out rfl ?_))
  refine (LN.out _).mono ?_
  rintro e w3 ⟨rfl, b⟩
  have H4 : Hid (Holds (w3.alloc (.cells (vals zeros16).toArray 24)) w1.heap.size L) := (H3.out.bel b).bel ((Bel.refl _).alloc _)
  have A4 : Hid (Holds (w3.alloc (.cells (vals zeros16).toArray 24)) w3.heap.size zeros16) := holds_new w3 zeros16 _
  have B4 : Hid (Bel w (w3.alloc (.cells (vals zeros16).toArray 24))) := (B3.out.trans b).alloc _
  clear b H3 B3
  go_wp2_with (first
    | (with_reducible refine wpl_store24n NZ.out NZ.out rfl rfl ?_)
    | (with_reducible refine wpl_build24 ?_))
  refine (LF.out _).mono ?_
  rintro e w5 ⟨rfl, b⟩
  have H6 : Hid (Holds (w5.alloc (.cells (vals zeros16).toArray 24)) w1.heap.size L) := ((H4.out.bel ((Bel.refl _).alloc _)).bel b).bel ((Bel.refl _).alloc _)
  have A6 : Hid (Holds (w5.alloc (.cells (vals zeros16).toArray 24)) w3.heap.size zeros16) := ((A4.out.bel ((Bel.refl _).alloc _)).bel b).bel ((Bel.refl _).alloc _)
  have B6 : Hid (Bel w (w5.alloc (.cells (vals zeros16).toArray 24))) := ((B4.out.alloc _).trans b).alloc _
  clear b H4 A4 B4
  go_wp2_with (first
    | (with_reducible refine wpl_store24n NZ.out NZ.out rfl rfl ?_)
    | (with_reducible refine wpl_load24 H6.out NL.out rfl ?_))
  refine (MF.out _).mono ?_
  rintro e w6 ⟨rfl, b⟩
  have A7 : Hid (Holds w6 w3.heap.size zeros16) := A6.out.bel b
  have B7 : Hid (Bel w w6) := B6.out.trans b
  clear b H6 A6 B6
  go_wp2_with fail
  refine (num_ok _ _).mono ?_
  rintro e w7 ⟨rfl, rfl⟩
  go_wp2_with (first
    | (with_reducible refine wpl_load24g rfl A7.out NZ.out rfl ?_)
    | (with_reducible refine wpl_build24g rfl ?_))
  refine (num_ok _ _).mono ?_
  rintro e w7 ⟨rfl, rfl⟩
  go_wp2_with fail
  refine (num_ok _ _).mono ?_
  rintro e w7 ⟨rfl, rfl⟩
  go_wp2
  go_ret
  exact ⟨rfl, B7.out⟩

set_option maxRecDepth 20000 in
set_option maxHeartbeats 1000000 in
theorem forms_h00 (a x d0 d : Int) (k : Nat) (h1 : bits .and .i64 x 1023 = d0) (hd0 : 0 ≤ d0 ∧ d0 ≤ 1023) (hd : 1 + d0 = d) (h2 : bits .and .i64 a 7 = (k : Int)) (hk : k < 8) (h3 : ¬ bits .and .i64 a 8 = 8) (h4 : bits .and .i64 (a / 16) 1 = 0) (h5 : bits .and .i64 a 1 = 0) (w : World) :
    Calls Try.prog 4 #[.int .i64 a, .int .i64 x] w fun e w' => e = .returned (.bool true) ∧ Bel w w' := by
  have z := zero24
  obtain ⟨d1, d2⟩ := hd0
  have bad : mayL (zeros16.set (8 + k) (-4194304 - d)) = false := bad_h k _ hk (decide_eq_true (by omega))
  obtain ⟨L, hL⟩ : ∃ L, zeros16.set (8 + k) (-4194304 - d) = L := ⟨_, rfl⟩
  have LE : Hid (zeros16.set (8 + k) (-4194304 - d) = L) := hL
  rw [hL] at bad
  have nl : L.length = 16 := by rw [← hL, List.length_set]; exact zeros16_len
  have NL : Hid (L.length = 16) := nl
  have NZ : Hid (zeros16.length = 16) := zeros16_len
  have GU : Hid (∀ w, Calls Try.prog 9 #[mdl L] w fun e w' => e = .returned (.tuple #[.int .i64 0, .int .i64 1400]) ∧ Bel w w') := guess_no L nl bad
  have LN : Hid (∀ w, Calls Try.prog 11 #[mdl L, .int .i64 5] w fun e w' => e = .returned (.tuple #[mdl zeros16, .int .i64 1400]) ∧ Bel w w') := learn_no L nl 5 bad
  have LF : Hid (∀ w, Calls Try.prog 11 #[mdl zeros16, .int .i64 (-4194304 - d)] w fun e w' => e = .returned (.tuple #[mdl zeros16, .int .i64 1400]) ∧ Bel w w') := learn_far zeros16 zeros16_len _ zeros16_may (decide_eq_true (by omega))
  have MF : Hid (∀ w, Calls Try.prog 14 #[mdl L] w fun e w' => e = .returned (.bool false) ∧ Bel w w') := fun w => bad ▸ may_ok L nl w
  have q1 := eq_24 zeros16 zeros16 zeros16_len zeros16_len
  have q2 := eq_in24 zeros16 zeros16 zeros16_len zeros16_len
  simp only [decide_true] at q1 q2
  have hz := zeros_at (8 + k) (by omega)
  clear bad hL nl
  obtain ⟨t, ht⟩ : ∃ t, bits .and .i64 a 8 = t := ⟨_, rfl⟩
  rw [ht] at h3
  have t8 : (t == 8) = false := by simpa using h3
  clear h3
  go_enter Try.func4, Try.ntmps4
  go_wp2_with fail
  refine (awake_true _).mono ?_
  rintro e w1 ⟨rfl, b1⟩
  have B1 : Hid (Bel w w1) := b1
  have vl : (vals zeros16).set (8 + k) (.int .i64 (-4194304 - d)) = vals L := by rw [← LE.out]; simp [vals, List.map_set]
  have H2 : Hid (Holds ((w1.alloc (.cells ((vals zeros16).set (8 + k) (.int .i64 (-4194304 - d))).toArray 24)).alloc (.cells #[.int .i64 (-4194304 - d), .int .i64 (4194304 + d)] 3)) w1.heap.size L) := by
    rw [vl]
    exact (holds_new w1 L 24).bel ((Bel.refl _).alloc _)
  have B2 : Hid (Bel w ((w1.alloc (.cells ((vals zeros16).set (8 + k) (.int .i64 (-4194304 - d))).toArray 24)).alloc (.cells #[.int .i64 (-4194304 - d), .int .i64 (4194304 + d)] 3))) := (Bel.alloc b1 _).alloc _
  clear vl
  clear b1
  go_wp2_with (first | (with_reducible refine wpl_load24 H2.out NL.out rfl ?_))
  refine (GU.out _).mono ?_
  rintro e w2 ⟨rfl, b⟩
  have H3 : Hid (Holds w2 w1.heap.size L) := H2.out.bel b
  have B3 : Hid (Bel w w2) := B2.out.trans b
  clear b H2 B2 B1 hz
  go_wp2_with (first | (with_reducible refine wpl_load24 H3.out NL.out rfl ?_))
  refine (LN.out _).mono ?_
  rintro e w3 ⟨rfl, b⟩
  have H4 : Hid (Holds (w3.alloc (.cells (vals zeros16).toArray 24)) w1.heap.size L) := (H3.out.bel b).bel ((Bel.refl _).alloc _)
  have A4 : Hid (Holds (w3.alloc (.cells (vals zeros16).toArray 24)) w3.heap.size zeros16) := holds_new w3 zeros16 _
  have B4 : Hid (Bel w (w3.alloc (.cells (vals zeros16).toArray 24))) := (B3.out.trans b).alloc _
  clear b H3 B3
  go_wp2_with (first
    | (with_reducible refine wpl_store24n NZ.out NZ.out rfl rfl ?_)
    | (with_reducible refine wpl_build24 ?_))
  refine (LF.out _).mono ?_
  rintro e w5 ⟨rfl, b⟩
  have H6 : Hid (Holds (w5.alloc (.cells (vals zeros16).toArray 24)) w1.heap.size L) := ((H4.out.bel ((Bel.refl _).alloc _)).bel b).bel ((Bel.refl _).alloc _)
  have A6 : Hid (Holds (w5.alloc (.cells (vals zeros16).toArray 24)) w3.heap.size zeros16) := ((A4.out.bel ((Bel.refl _).alloc _)).bel b).bel ((Bel.refl _).alloc _)
  have B6 : Hid (Bel w (w5.alloc (.cells (vals zeros16).toArray 24))) := ((B4.out.alloc _).trans b).alloc _
  clear b H4 A4 B4
  go_wp2_with (first
    | (with_reducible refine wpl_store24n NZ.out NZ.out rfl rfl ?_)
    | (with_reducible refine wpl_load24 H6.out NL.out rfl ?_))
  refine (MF.out _).mono ?_
  rintro e w6 ⟨rfl, b⟩
  have A7 : Hid (Holds w6 w3.heap.size zeros16) := A6.out.bel b
  have B7 : Hid (Bel w w6) := B6.out.trans b
  clear b H6 A6 B6
  go_wp2_with fail
  refine (num_ok _ _).mono ?_
  rintro e w7 ⟨rfl, rfl⟩
  go_wp2_with (first
    | (with_reducible refine wpl_load24g rfl A7.out NZ.out rfl ?_)
    | (with_reducible refine wpl_build24g rfl ?_))
  refine (num_ok _ _).mono ?_
  rintro e w7 ⟨rfl, rfl⟩
  go_wp2_with fail
  refine (num_ok _ _).mono ?_
  rintro e w7 ⟨rfl, rfl⟩
  go_wp2
  go_ret
  exact ⟨rfl, B7.out⟩

set_option maxRecDepth 20000 in
set_option maxHeartbeats 1000000 in
theorem forms_h01 (a x d0 d : Int) (k : Nat) (h1 : bits .and .i64 x 1023 = d0) (hd0 : 0 ≤ d0 ∧ d0 ≤ 1023) (hd : 1 + d0 = d) (h2 : bits .and .i64 a 7 = (k : Int)) (hk : k < 8) (h3 : ¬ bits .and .i64 a 8 = 8) (h4 : bits .and .i64 (a / 16) 1 = 0) (h5 : bits .and .i64 a 1 = 1) (w : World) :
    Calls Try.prog 4 #[.int .i64 a, .int .i64 x] w fun e w' => e = .returned (.bool true) ∧ Bel w w' := by
  have z := zero24
  obtain ⟨d1, d2⟩ := hd0
  have bad : mayL (zeros16.set (8 + k) (-4194304 - d)) = false := bad_h k _ hk (decide_eq_true (by omega))
  obtain ⟨L, hL⟩ : ∃ L, zeros16.set (8 + k) (-4194304 - d) = L := ⟨_, rfl⟩
  have LE : Hid (zeros16.set (8 + k) (-4194304 - d) = L) := hL
  rw [hL] at bad
  have nl : L.length = 16 := by rw [← hL, List.length_set]; exact zeros16_len
  have NL : Hid (L.length = 16) := nl
  have NZ : Hid (zeros16.length = 16) := zeros16_len
  have GU : Hid (∀ w, Calls Try.prog 9 #[mdl L] w fun e w' => e = .returned (.tuple #[.int .i64 0, .int .i64 1400]) ∧ Bel w w') := guess_no L nl bad
  have LN : Hid (∀ w, Calls Try.prog 11 #[mdl L, .int .i64 5] w fun e w' => e = .returned (.tuple #[mdl zeros16, .int .i64 1400]) ∧ Bel w w') := learn_no L nl 5 bad
  have LF : Hid (∀ w, Calls Try.prog 11 #[mdl zeros16, .int .i64 (4194304 + d)] w fun e w' => e = .returned (.tuple #[mdl zeros16, .int .i64 1400]) ∧ Bel w w') := learn_far zeros16 zeros16_len _ zeros16_may (decide_eq_true (by omega))
  have MF : Hid (∀ w, Calls Try.prog 14 #[mdl L] w fun e w' => e = .returned (.bool false) ∧ Bel w w') := fun w => bad ▸ may_ok L nl w
  have q1 := eq_24 zeros16 zeros16 zeros16_len zeros16_len
  have q2 := eq_in24 zeros16 zeros16 zeros16_len zeros16_len
  simp only [decide_true] at q1 q2
  have hz := zeros_at (8 + k) (by omega)
  clear bad hL nl
  obtain ⟨t, ht⟩ : ∃ t, bits .and .i64 a 8 = t := ⟨_, rfl⟩
  rw [ht] at h3
  have t8 : (t == 8) = false := by simpa using h3
  clear h3
  go_enter Try.func4, Try.ntmps4
  go_wp2_with fail
  refine (awake_true _).mono ?_
  rintro e w1 ⟨rfl, b1⟩
  have B1 : Hid (Bel w w1) := b1
  have vl : (vals zeros16).set (8 + k) (.int .i64 (-4194304 - d)) = vals L := by rw [← LE.out]; simp [vals, List.map_set]
  have H2 : Hid (Holds ((w1.alloc (.cells ((vals zeros16).set (8 + k) (.int .i64 (-4194304 - d))).toArray 24)).alloc (.cells #[.int .i64 (-4194304 - d), .int .i64 (4194304 + d)] 3)) w1.heap.size L) := by
    rw [vl]
    exact (holds_new w1 L 24).bel ((Bel.refl _).alloc _)
  have B2 : Hid (Bel w ((w1.alloc (.cells ((vals zeros16).set (8 + k) (.int .i64 (-4194304 - d))).toArray 24)).alloc (.cells #[.int .i64 (-4194304 - d), .int .i64 (4194304 + d)] 3))) := (Bel.alloc b1 _).alloc _
  clear vl
  clear b1
  go_wp2_with (first | (with_reducible refine wpl_load24 H2.out NL.out rfl ?_))
  refine (GU.out _).mono ?_
  rintro e w2 ⟨rfl, b⟩
  have H3 : Hid (Holds w2 w1.heap.size L) := H2.out.bel b
  have B3 : Hid (Bel w w2) := B2.out.trans b
  clear b H2 B2 B1 hz
  go_wp2_with (first | (with_reducible refine wpl_load24 H3.out NL.out rfl ?_))
  refine (LN.out _).mono ?_
  rintro e w3 ⟨rfl, b⟩
  have H4 : Hid (Holds (w3.alloc (.cells (vals zeros16).toArray 24)) w1.heap.size L) := (H3.out.bel b).bel ((Bel.refl _).alloc _)
  have A4 : Hid (Holds (w3.alloc (.cells (vals zeros16).toArray 24)) w3.heap.size zeros16) := holds_new w3 zeros16 _
  have B4 : Hid (Bel w (w3.alloc (.cells (vals zeros16).toArray 24))) := (B3.out.trans b).alloc _
  clear b H3 B3
  go_wp2_with (first
    | (with_reducible refine wpl_store24n NZ.out NZ.out rfl rfl ?_)
    | (with_reducible refine wpl_build24 ?_))
  refine (LF.out _).mono ?_
  rintro e w5 ⟨rfl, b⟩
  have H6 : Hid (Holds (w5.alloc (.cells (vals zeros16).toArray 24)) w1.heap.size L) := ((H4.out.bel ((Bel.refl _).alloc _)).bel b).bel ((Bel.refl _).alloc _)
  have A6 : Hid (Holds (w5.alloc (.cells (vals zeros16).toArray 24)) w3.heap.size zeros16) := ((A4.out.bel ((Bel.refl _).alloc _)).bel b).bel ((Bel.refl _).alloc _)
  have B6 : Hid (Bel w (w5.alloc (.cells (vals zeros16).toArray 24))) := ((B4.out.alloc _).trans b).alloc _
  clear b H4 A4 B4
  go_wp2_with (first
    | (with_reducible refine wpl_store24n NZ.out NZ.out rfl rfl ?_)
    | (with_reducible refine wpl_load24 H6.out NL.out rfl ?_))
  refine (MF.out _).mono ?_
  rintro e w6 ⟨rfl, b⟩
  have A7 : Hid (Holds w6 w3.heap.size zeros16) := A6.out.bel b
  have B7 : Hid (Bel w w6) := B6.out.trans b
  clear b H6 A6 B6
  go_wp2_with fail
  refine (num_ok _ _).mono ?_
  rintro e w7 ⟨rfl, rfl⟩
  go_wp2_with (first
    | (with_reducible refine wpl_load24g rfl A7.out NZ.out rfl ?_)
    | (with_reducible refine wpl_build24g rfl ?_))
  refine (num_ok _ _).mono ?_
  rintro e w7 ⟨rfl, rfl⟩
  go_wp2_with fail
  refine (num_ok _ _).mono ?_
  rintro e w7 ⟨rfl, rfl⟩
  go_wp2
  go_ret
  exact ⟨rfl, B7.out⟩

set_option maxRecDepth 20000 in
set_option maxHeartbeats 1000000 in
theorem forms_h10 (a x d0 d : Int) (k : Nat) (h1 : bits .and .i64 x 1023 = d0) (hd0 : 0 ≤ d0 ∧ d0 ≤ 1023) (hd : 1 + d0 = d) (h2 : bits .and .i64 a 7 = (k : Int)) (hk : k < 8) (h3 : ¬ bits .and .i64 a 8 = 8) (h4 : bits .and .i64 (a / 16) 1 = 1) (h5 : bits .and .i64 a 1 = 0) (w : World) :
    Calls Try.prog 4 #[.int .i64 a, .int .i64 x] w fun e w' => e = .returned (.bool true) ∧ Bel w w' := by
  have z := zero24
  obtain ⟨d1, d2⟩ := hd0
  have bad : mayL (zeros16.set (8 + k) (4194304 + d)) = false := bad_h k _ hk (decide_eq_true (by omega))
  obtain ⟨L, hL⟩ : ∃ L, zeros16.set (8 + k) (4194304 + d) = L := ⟨_, rfl⟩
  have LE : Hid (zeros16.set (8 + k) (4194304 + d) = L) := hL
  rw [hL] at bad
  have nl : L.length = 16 := by rw [← hL, List.length_set]; exact zeros16_len
  have NL : Hid (L.length = 16) := nl
  have NZ : Hid (zeros16.length = 16) := zeros16_len
  have GU : Hid (∀ w, Calls Try.prog 9 #[mdl L] w fun e w' => e = .returned (.tuple #[.int .i64 0, .int .i64 1400]) ∧ Bel w w') := guess_no L nl bad
  have LN : Hid (∀ w, Calls Try.prog 11 #[mdl L, .int .i64 5] w fun e w' => e = .returned (.tuple #[mdl zeros16, .int .i64 1400]) ∧ Bel w w') := learn_no L nl 5 bad
  have LF : Hid (∀ w, Calls Try.prog 11 #[mdl zeros16, .int .i64 (-4194304 - d)] w fun e w' => e = .returned (.tuple #[mdl zeros16, .int .i64 1400]) ∧ Bel w w') := learn_far zeros16 zeros16_len _ zeros16_may (decide_eq_true (by omega))
  have MF : Hid (∀ w, Calls Try.prog 14 #[mdl L] w fun e w' => e = .returned (.bool false) ∧ Bel w w') := fun w => bad ▸ may_ok L nl w
  have q1 := eq_24 zeros16 zeros16 zeros16_len zeros16_len
  have q2 := eq_in24 zeros16 zeros16 zeros16_len zeros16_len
  simp only [decide_true] at q1 q2
  have hz := zeros_at (8 + k) (by omega)
  clear bad hL nl
  obtain ⟨t, ht⟩ : ∃ t, bits .and .i64 a 8 = t := ⟨_, rfl⟩
  rw [ht] at h3
  have t8 : (t == 8) = false := by simpa using h3
  clear h3
  go_enter Try.func4, Try.ntmps4
  go_wp2_with fail
  refine (awake_true _).mono ?_
  rintro e w1 ⟨rfl, b1⟩
  have B1 : Hid (Bel w w1) := b1
  have vl : (vals zeros16).set (8 + k) (.int .i64 (4194304 + d)) = vals L := by rw [← LE.out]; simp [vals, List.map_set]
  have H2 : Hid (Holds ((w1.alloc (.cells ((vals zeros16).set (8 + k) (.int .i64 (4194304 + d))).toArray 24)).alloc (.cells #[.int .i64 (-4194304 - d), .int .i64 (4194304 + d)] 3)) w1.heap.size L) := by
    rw [vl]
    exact (holds_new w1 L 24).bel ((Bel.refl _).alloc _)
  have B2 : Hid (Bel w ((w1.alloc (.cells ((vals zeros16).set (8 + k) (.int .i64 (4194304 + d))).toArray 24)).alloc (.cells #[.int .i64 (-4194304 - d), .int .i64 (4194304 + d)] 3))) := (Bel.alloc b1 _).alloc _
  clear vl
  clear b1
  go_wp2_with (first | (with_reducible refine wpl_load24 H2.out NL.out rfl ?_))
  refine (GU.out _).mono ?_
  rintro e w2 ⟨rfl, b⟩
  have H3 : Hid (Holds w2 w1.heap.size L) := H2.out.bel b
  have B3 : Hid (Bel w w2) := B2.out.trans b
  clear b H2 B2 B1 hz
  go_wp2_with (first | (with_reducible refine wpl_load24 H3.out NL.out rfl ?_))
  refine (LN.out _).mono ?_
  rintro e w3 ⟨rfl, b⟩
  have H4 : Hid (Holds (w3.alloc (.cells (vals zeros16).toArray 24)) w1.heap.size L) := (H3.out.bel b).bel ((Bel.refl _).alloc _)
  have A4 : Hid (Holds (w3.alloc (.cells (vals zeros16).toArray 24)) w3.heap.size zeros16) := holds_new w3 zeros16 _
  have B4 : Hid (Bel w (w3.alloc (.cells (vals zeros16).toArray 24))) := (B3.out.trans b).alloc _
  clear b H3 B3
  go_wp2_with (first
    | (with_reducible refine wpl_store24n NZ.out NZ.out rfl rfl ?_)
    | (with_reducible refine wpl_build24 ?_))
  refine (LF.out _).mono ?_
  rintro e w5 ⟨rfl, b⟩
  have H6 : Hid (Holds (w5.alloc (.cells (vals zeros16).toArray 24)) w1.heap.size L) := ((H4.out.bel ((Bel.refl _).alloc _)).bel b).bel ((Bel.refl _).alloc _)
  have A6 : Hid (Holds (w5.alloc (.cells (vals zeros16).toArray 24)) w3.heap.size zeros16) := ((A4.out.bel ((Bel.refl _).alloc _)).bel b).bel ((Bel.refl _).alloc _)
  have B6 : Hid (Bel w (w5.alloc (.cells (vals zeros16).toArray 24))) := ((B4.out.alloc _).trans b).alloc _
  clear b H4 A4 B4
  go_wp2_with (first
    | (with_reducible refine wpl_store24n NZ.out NZ.out rfl rfl ?_)
    | (with_reducible refine wpl_load24 H6.out NL.out rfl ?_))
  refine (MF.out _).mono ?_
  rintro e w6 ⟨rfl, b⟩
  have A7 : Hid (Holds w6 w3.heap.size zeros16) := A6.out.bel b
  have B7 : Hid (Bel w w6) := B6.out.trans b
  clear b H6 A6 B6
  go_wp2_with fail
  refine (num_ok _ _).mono ?_
  rintro e w7 ⟨rfl, rfl⟩
  go_wp2_with (first
    | (with_reducible refine wpl_load24g rfl A7.out NZ.out rfl ?_)
    | (with_reducible refine wpl_build24g rfl ?_))
  refine (num_ok _ _).mono ?_
  rintro e w7 ⟨rfl, rfl⟩
  go_wp2_with fail
  refine (num_ok _ _).mono ?_
  rintro e w7 ⟨rfl, rfl⟩
  go_wp2
  go_ret
  exact ⟨rfl, B7.out⟩

set_option maxRecDepth 20000 in
set_option maxHeartbeats 1000000 in
theorem forms_h11 (a x d0 d : Int) (k : Nat) (h1 : bits .and .i64 x 1023 = d0) (hd0 : 0 ≤ d0 ∧ d0 ≤ 1023) (hd : 1 + d0 = d) (h2 : bits .and .i64 a 7 = (k : Int)) (hk : k < 8) (h3 : ¬ bits .and .i64 a 8 = 8) (h4 : bits .and .i64 (a / 16) 1 = 1) (h5 : bits .and .i64 a 1 = 1) (w : World) :
    Calls Try.prog 4 #[.int .i64 a, .int .i64 x] w fun e w' => e = .returned (.bool true) ∧ Bel w w' := by
  have z := zero24
  obtain ⟨d1, d2⟩ := hd0
  have bad : mayL (zeros16.set (8 + k) (4194304 + d)) = false := bad_h k _ hk (decide_eq_true (by omega))
  obtain ⟨L, hL⟩ : ∃ L, zeros16.set (8 + k) (4194304 + d) = L := ⟨_, rfl⟩
  have LE : Hid (zeros16.set (8 + k) (4194304 + d) = L) := hL
  rw [hL] at bad
  have nl : L.length = 16 := by rw [← hL, List.length_set]; exact zeros16_len
  have NL : Hid (L.length = 16) := nl
  have NZ : Hid (zeros16.length = 16) := zeros16_len
  have GU : Hid (∀ w, Calls Try.prog 9 #[mdl L] w fun e w' => e = .returned (.tuple #[.int .i64 0, .int .i64 1400]) ∧ Bel w w') := guess_no L nl bad
  have LN : Hid (∀ w, Calls Try.prog 11 #[mdl L, .int .i64 5] w fun e w' => e = .returned (.tuple #[mdl zeros16, .int .i64 1400]) ∧ Bel w w') := learn_no L nl 5 bad
  have LF : Hid (∀ w, Calls Try.prog 11 #[mdl zeros16, .int .i64 (4194304 + d)] w fun e w' => e = .returned (.tuple #[mdl zeros16, .int .i64 1400]) ∧ Bel w w') := learn_far zeros16 zeros16_len _ zeros16_may (decide_eq_true (by omega))
  have MF : Hid (∀ w, Calls Try.prog 14 #[mdl L] w fun e w' => e = .returned (.bool false) ∧ Bel w w') := fun w => bad ▸ may_ok L nl w
  have q1 := eq_24 zeros16 zeros16 zeros16_len zeros16_len
  have q2 := eq_in24 zeros16 zeros16 zeros16_len zeros16_len
  simp only [decide_true] at q1 q2
  have hz := zeros_at (8 + k) (by omega)
  clear bad hL nl
  obtain ⟨t, ht⟩ : ∃ t, bits .and .i64 a 8 = t := ⟨_, rfl⟩
  rw [ht] at h3
  have t8 : (t == 8) = false := by simpa using h3
  clear h3
  go_enter Try.func4, Try.ntmps4
  go_wp2_with fail
  refine (awake_true _).mono ?_
  rintro e w1 ⟨rfl, b1⟩
  have B1 : Hid (Bel w w1) := b1
  have vl : (vals zeros16).set (8 + k) (.int .i64 (4194304 + d)) = vals L := by rw [← LE.out]; simp [vals, List.map_set]
  have H2 : Hid (Holds ((w1.alloc (.cells ((vals zeros16).set (8 + k) (.int .i64 (4194304 + d))).toArray 24)).alloc (.cells #[.int .i64 (-4194304 - d), .int .i64 (4194304 + d)] 3)) w1.heap.size L) := by
    rw [vl]
    exact (holds_new w1 L 24).bel ((Bel.refl _).alloc _)
  have B2 : Hid (Bel w ((w1.alloc (.cells ((vals zeros16).set (8 + k) (.int .i64 (4194304 + d))).toArray 24)).alloc (.cells #[.int .i64 (-4194304 - d), .int .i64 (4194304 + d)] 3))) := (Bel.alloc b1 _).alloc _
  clear vl
  clear b1
  go_wp2_with (first | (with_reducible refine wpl_load24 H2.out NL.out rfl ?_))
  refine (GU.out _).mono ?_
  rintro e w2 ⟨rfl, b⟩
  have H3 : Hid (Holds w2 w1.heap.size L) := H2.out.bel b
  have B3 : Hid (Bel w w2) := B2.out.trans b
  clear b H2 B2 B1 hz
  go_wp2_with (first | (with_reducible refine wpl_load24 H3.out NL.out rfl ?_))
  refine (LN.out _).mono ?_
  rintro e w3 ⟨rfl, b⟩
  have H4 : Hid (Holds (w3.alloc (.cells (vals zeros16).toArray 24)) w1.heap.size L) := (H3.out.bel b).bel ((Bel.refl _).alloc _)
  have A4 : Hid (Holds (w3.alloc (.cells (vals zeros16).toArray 24)) w3.heap.size zeros16) := holds_new w3 zeros16 _
  have B4 : Hid (Bel w (w3.alloc (.cells (vals zeros16).toArray 24))) := (B3.out.trans b).alloc _
  clear b H3 B3
  go_wp2_with (first
    | (with_reducible refine wpl_store24n NZ.out NZ.out rfl rfl ?_)
    | (with_reducible refine wpl_build24 ?_))
  refine (LF.out _).mono ?_
  rintro e w5 ⟨rfl, b⟩
  have H6 : Hid (Holds (w5.alloc (.cells (vals zeros16).toArray 24)) w1.heap.size L) := ((H4.out.bel ((Bel.refl _).alloc _)).bel b).bel ((Bel.refl _).alloc _)
  have A6 : Hid (Holds (w5.alloc (.cells (vals zeros16).toArray 24)) w3.heap.size zeros16) := ((A4.out.bel ((Bel.refl _).alloc _)).bel b).bel ((Bel.refl _).alloc _)
  have B6 : Hid (Bel w (w5.alloc (.cells (vals zeros16).toArray 24))) := ((B4.out.alloc _).trans b).alloc _
  clear b H4 A4 B4
  go_wp2_with (first
    | (with_reducible refine wpl_store24n NZ.out NZ.out rfl rfl ?_)
    | (with_reducible refine wpl_load24 H6.out NL.out rfl ?_))
  refine (MF.out _).mono ?_
  rintro e w6 ⟨rfl, b⟩
  have A7 : Hid (Holds w6 w3.heap.size zeros16) := A6.out.bel b
  have B7 : Hid (Bel w w6) := B6.out.trans b
  clear b H6 A6 B6
  go_wp2_with fail
  refine (num_ok _ _).mono ?_
  rintro e w7 ⟨rfl, rfl⟩
  go_wp2_with (first
    | (with_reducible refine wpl_load24g rfl A7.out NZ.out rfl ?_)
    | (with_reducible refine wpl_build24g rfl ?_))
  refine (num_ok _ _).mono ?_
  rintro e w7 ⟨rfl, rfl⟩
  go_wp2_with fail
  refine (num_ok _ _).mono ?_
  rintro e w7 ⟨rfl, rfl⟩
  go_wp2
  go_ret
  exact ⟨rfl, B7.out⟩

theorem forms_walk (a x : Int) (w : World) :
    Calls Try.prog 4 #[.int .i64 a, .int .i64 x] w fun e w' => e = .returned (.bool true) ∧ Bel w w' := by
  have h1 := and1023 x
  have h2 : bits .and .i64 a 7 = (((a % 8).toNat : Nat) : Int) := (and_mask 3 7 (by decide) (by decide) a).trans (by omega)
  have h4 : bits .and .i64 (a / 16) 1 = a / 16 % 2 := and_mask 1 1 (by decide) (by decide) _
  have h5 : bits .and .i64 a 1 = a % 2 := and_mask 1 1 (by decide) (by decide) a
  have hk : (a % 8).toNat < 8 := by omega
  by_cases h3 : bits .and .i64 a 8 = 8
  · rcases (by omega : a / 16 % 2 = 0 ∨ a / 16 % 2 = 1) with h6 | h6
    · rcases (by omega : a % 2 = 0 ∨ a % 2 = 1) with h7 | h7
      · exact forms_w00 a x _ _ _ h1 (by omega) rfl h2 hk h3 (h4.trans h6) (h5.trans h7) w
      · exact forms_w01 a x _ _ _ h1 (by omega) rfl h2 hk h3 (h4.trans h6) (h5.trans h7) w
    · rcases (by omega : a % 2 = 0 ∨ a % 2 = 1) with h7 | h7
      · exact forms_w10 a x _ _ _ h1 (by omega) rfl h2 hk h3 (h4.trans h6) (h5.trans h7) w
      · exact forms_w11 a x _ _ _ h1 (by omega) rfl h2 hk h3 (h4.trans h6) (h5.trans h7) w
  · rcases (by omega : a / 16 % 2 = 0 ∨ a / 16 % 2 = 1) with h6 | h6
    · rcases (by omega : a % 2 = 0 ∨ a % 2 = 1) with h7 | h7
      · exact forms_h00 a x _ _ _ h1 (by omega) rfl h2 hk h3 (h4.trans h6) (h5.trans h7) w
      · exact forms_h01 a x _ _ _ h1 (by omega) rfl h2 hk h3 (h4.trans h6) (h5.trans h7) w
    · rcases (by omega : a % 2 = 0 ∨ a % 2 = 1) with h7 | h7
      · exact forms_h10 a x _ _ _ h1 (by omega) rfl h2 hk h3 (h4.trans h6) (h5.trans h7) w
      · exact forms_h11 a x _ _ _ h1 (by omega) rfl h2 hk h3 (h4.trans h6) (h5.trans h7) w

end Go.Proofs.Ytjckeagbimfonaa.Lin
