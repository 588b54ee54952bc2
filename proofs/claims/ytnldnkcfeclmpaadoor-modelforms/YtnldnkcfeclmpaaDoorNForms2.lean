/-
  The walk of ModelForms, in part. Condition: the package's table is laid as its text lays it.
-/
import Derived.Test.YtnldnkcfeclmpaaDoorNFormsP
namespace Go.Proofs.YtnldnkcfeclmpaaDoor.Mod
open Go.RowKit Go.Sort
set_option linter.unusedVariables false
set_option linter.unusedSimpArgs false

set_option maxRecDepth 20000 in
set_option maxHeartbeats 4000000 in
theorem forms_200 (which x : Int) (hc : which % 4 = 2) (hs : which / 4 % 2 = 0) (hr : x % 18446744073709551616 % 3 = 0) (w : World) (T : Str.Tab w) :
    Calls Tryd.prog 4 #[.int .i64 which, .int .i64 x] w fun e w' => e = .returned (.bool true) ∧ Bel w w' := by
  have TT : Hid (Str.Tab w) := T
  have hq : bits .and .i64 x 1023 = x % 1024 := Num.and1023 x
  have q0 : 0 ≤ x % 1024 := by omega
  have q1 : x % 1024 < 1024 := by omega
  obtain ⟨q, e9⟩ : ∃ q, x % 1024 = q := ⟨_, rfl⟩
  rw [e9] at hq q0 q1
  clear e9
  have h3 : bits .and .i64 which 3 = 2 := (fand3 which).trans hc
  have hs1 : bits .and .i64 (which / 4) 1 = 0 := (fand1 (which / 4)).trans hs
  have hv := mval x 3 0 (by decide) (by decide) hr
  have LE : Hid (∀ w, Str.Tab w → Calls Tryd.prog 10 #[mdl (newM), .agg #[.int .i64 (-(1 + q)), .int .i64 2, .int .i64 3], .int .i64 (1)] w fun e w' => e = .returned (.tuple #[mdl zeros, .int .i64 900]) ∧ Bel w w') := learn_no newM newM_len _ _ _ 1 (no_of_ctx (bad_ctx (by omega)))
  have PE : Hid (∀ w, Str.Tab w → Calls Tryd.prog 8 #[mdl (newM), .agg #[.int .i64 (-(1 + q)), .int .i64 2, .int .i64 3]] w fun e w' => e = .returned (.tuple #[.int .i64 0, .int .i64 900]) ∧ Bel w w') := p_no newM newM_len _ _ _ (no_of_ctx (bad_ctx (by omega)))
  have ME : Hid (∀ w, Str.Tab w → Calls Tryd.prog 13 #[mdl (newM)] w fun e w' => e = .returned (.bool true) ∧ Bel w w') := newM_may ▸ may_ok newM newM_len
  have ML : Hid ((newM).length = 195) := newM_len
  have NW : Hid (∀ w, Calls Tryd.prog 16 #[] w fun e w' => e = .returned (mdl newM) ∧ Bel w w') := ref_new_ok
  have NL : Hid (newM.length = 195) := newM_len
  have ZL : Hid (zeros.length = 195) := zeros_len
  have zz := zero26
  have E1 : ∀ w, (binOp .eql 26 (mdl zeros) (mdl zeros)).run Tryd.prog w = .ok (.bool true) w := fun w => by rw [eq_26 _ _ zeros_len zeros_len, decide_eq_true rfl]
  have E2 : ∀ w, (Op.equalIn 10000 26 (mdl zeros) (mdl zeros)).run Tryd.prog w = .ok true w := fun w => by rw [eq_in26 _ _ zeros_len zeros_len, decide_eq_true rfl]
  clear T
  go_enter Tryd.func4, Tryd.ntmps4
  go_wp2_with fail
  refine (awake_true _ TT.out).mono ?_
  rintro e w1 ⟨rfl, b1⟩
  have B1 : Hid (Bel w w1) := b1
  clear b1
  go_wp2_with fail
  refine (NW.out _).mono ?_
  rintro e w2 ⟨rfl, b2⟩
  have B2 : Hid (Bel w w2) := B1.out.trans b2
  clear b2 B1 NW
  go_wp2_with (first
    | (with_reducible refine wpl_store26m ZL.out NL.out rfl rfl ?_)
    | ((with_reducible refine wpl_store24g (w := w2) (M := newM) (p := 1) (q := 2) (r := 3) rfl rfl B2.out ?_); intro W hW hC hB hS; have MW : Hid (Holds W w2.heap.size newM) := hW; have CW : Hid (Holds W (w2.heap.size + 1) [1, 2, 3]) := hC; have BW : Hid (Bel w W) := hB; have c0 : W.cell? ⟨w2.heap.size + 1, 0, none⟩ = some (.int .i64 1) := hC.cell 0 (by simp); have c1 : W.cell? ⟨w2.heap.size + 1, 1, none⟩ = some (.int .i64 2) := hC.cell 1 (by simp); have c2 : W.cell? ⟨w2.heap.size + 1, 2, none⟩ = some (.int .i64 3) := hC.cell 2 (by simp); have f0 : W.frozen? ⟨w2.heap.size + 1, 0, none⟩ = false := hC.free 0 (by simp); have ls : w2.heap.size + 1 < W.heap.size := (by omega); have ls0 : w2.heap.size < W.heap.size := (by omega); clear hW hC hB hS)
    | (with_reducible refine wpl_load26' ((MW.out.other _ _ (Nat.ne_of_lt (Nat.lt_succ_self _)) _).bel ((Bel.refl _).alloc _)) NL.out rfl ?_))
  refine (PE.out _ (tab_bel TT.out (Bel.alloc (Bel.setCell (a := ⟨w2.heap.size + 1, 0, none⟩) BW.out (Nat.le_trans B2.out.size (Nat.le_succ _)) _) _))).mono ?_
  rintro e w5 ⟨rfl, b5⟩
  have M5 : Hid (Holds w5 w2.heap.size (newM)) := Holds.bel ((MW.out.other _ _ (Nat.ne_of_lt (Nat.lt_succ_self _)) _).bel ((Bel.refl _).alloc _)) b5
  have B5 : Hid (Bel w w5) := Bel.trans (Bel.alloc (Bel.setCell (a := ⟨w2.heap.size + 1, 0, none⟩) BW.out (Nat.le_trans B2.out.size (Nat.le_succ _)) _) _) b5
  have C5 : Hid (Holds w5 (w2.heap.size + 1) [-(1 + q), 2, 3]) := Holds.bel ((CW.out.set 0 (by simp) _).bel ((Bel.refl _).alloc _)) b5
  have k0 : w5.cell? ⟨w2.heap.size + 1, 0, none⟩ = some (.int .i64 (-(1 + q))) := C5.out.cell 0 (by simp)
  have k1 : w5.cell? ⟨w2.heap.size + 1, 1, none⟩ = some (.int .i64 2) := C5.out.cell 1 (by simp)
  have k2 : w5.cell? ⟨w2.heap.size + 1, 2, none⟩ = some (.int .i64 3) := C5.out.cell 2 (by simp)
  clear b5 c0 c1 c2 MW CW BW f0
  go_wp2_with (first
    | (with_reducible refine wpl_load26' M5.out ML.out rfl ?_))
  refine (LE.out _ (tab_bel TT.out B5.out)).mono ?_
  rintro e w6 ⟨rfl, b6⟩
  have M7 : Hid (Holds (w6.alloc (.cells (vals zeros).toArray 26)) w2.heap.size (newM)) := (M5.out.bel b6).bel ((Bel.refl _).alloc _)
  have A7 : Hid (Holds (w6.alloc (.cells (vals zeros).toArray 26)) w6.heap.size zeros) := holds_new w6 zeros 26
  have B7 : Hid (Bel w (w6.alloc (.cells (vals zeros).toArray 26))) := Bel.alloc (B5.out.trans b6) _
  clear b6 M5 B5 k0 k1 k2 LE
  go_wp2_with (first
    | (with_reducible refine wpl_store26n ZL.out ZL.out rfl rfl ?_)
    | (with_reducible refine wpl_load26' M7.out ML.out rfl ?_))
  refine (ME.out _ (tab_bel TT.out B7.out)).mono ?_
  rintro e w8 ⟨rfl, b8⟩
  have A8 : Hid (Holds w8 w6.heap.size zeros) := A7.out.bel b8
  have B8 : Hid (Bel w w8) := B7.out.trans b8
  clear b8 A7 M7 B7 ME
  go_wp2_with (first
    | ((with_reducible refine wpl_load26h ?_ A8.out ZL.out rfl ?_); · rfl)
    | ((with_reducible refine wpl_build26h ?_ ?_); · rfl)
    | (go_at_call 12; refine (Cnt.num_ok _ _).mono ?_; rintro e w9 ⟨rfl, rfl⟩))
  go_ret
  exact ⟨rfl, B8.out⟩

set_option maxRecDepth 20000 in
set_option maxHeartbeats 4000000 in
theorem forms_201 (which x : Int) (hc : which % 4 = 2) (hs : which / 4 % 2 = 1) (hr : x % 18446744073709551616 % 3 = 0) (w : World) (T : Str.Tab w) :
    Calls Tryd.prog 4 #[.int .i64 which, .int .i64 x] w fun e w' => e = .returned (.bool true) ∧ Bel w w' := by
  have TT : Hid (Str.Tab w) := T
  have hq : bits .and .i64 x 1023 = x % 1024 := Num.and1023 x
  have q0 : 0 ≤ x % 1024 := by omega
  have q1 : x % 1024 < 1024 := by omega
  obtain ⟨q, e9⟩ : ∃ q, x % 1024 = q := ⟨_, rfl⟩
  rw [e9] at hq q0 q1
  clear e9
  have h3 : bits .and .i64 which 3 = 2 := (fand3 which).trans hc
  have hs1 : bits .and .i64 (which / 4) 1 = 1 := (fand1 (which / 4)).trans hs
  have hv := mval x 3 0 (by decide) (by decide) hr
  have LE : Hid (∀ w, Str.Tab w → Calls Tryd.prog 10 #[mdl (newM), .agg #[.int .i64 (63 + (1 + q)), .int .i64 2, .int .i64 3], .int .i64 (1)] w fun e w' => e = .returned (.tuple #[mdl zeros, .int .i64 900]) ∧ Bel w w') := learn_no newM newM_len _ _ _ 1 (no_of_ctx (bad_ctx (by omega)))
  have PE : Hid (∀ w, Str.Tab w → Calls Tryd.prog 8 #[mdl (newM), .agg #[.int .i64 (63 + (1 + q)), .int .i64 2, .int .i64 3]] w fun e w' => e = .returned (.tuple #[.int .i64 0, .int .i64 900]) ∧ Bel w w') := p_no newM newM_len _ _ _ (no_of_ctx (bad_ctx (by omega)))
  have ME : Hid (∀ w, Str.Tab w → Calls Tryd.prog 13 #[mdl (newM)] w fun e w' => e = .returned (.bool true) ∧ Bel w w') := newM_may ▸ may_ok newM newM_len
  have ML : Hid ((newM).length = 195) := newM_len
  have NW : Hid (∀ w, Calls Tryd.prog 16 #[] w fun e w' => e = .returned (mdl newM) ∧ Bel w w') := ref_new_ok
  have NL : Hid (newM.length = 195) := newM_len
  have ZL : Hid (zeros.length = 195) := zeros_len
  have zz := zero26
  have E1 : ∀ w, (binOp .eql 26 (mdl zeros) (mdl zeros)).run Tryd.prog w = .ok (.bool true) w := fun w => by rw [eq_26 _ _ zeros_len zeros_len, decide_eq_true rfl]
  have E2 : ∀ w, (Op.equalIn 10000 26 (mdl zeros) (mdl zeros)).run Tryd.prog w = .ok true w := fun w => by rw [eq_in26 _ _ zeros_len zeros_len, decide_eq_true rfl]
  clear T
  go_enter Tryd.func4, Tryd.ntmps4
  go_wp2_with fail
  refine (awake_true _ TT.out).mono ?_
  rintro e w1 ⟨rfl, b1⟩
  have B1 : Hid (Bel w w1) := b1
  clear b1
  go_wp2_with fail
  refine (NW.out _).mono ?_
  rintro e w2 ⟨rfl, b2⟩
  have B2 : Hid (Bel w w2) := B1.out.trans b2
  clear b2 B1 NW
  go_wp2_with (first
    | (with_reducible refine wpl_store26m ZL.out NL.out rfl rfl ?_)
    | ((with_reducible refine wpl_store24g (w := w2) (M := newM) (p := 1) (q := 2) (r := 3) rfl rfl B2.out ?_); intro W hW hC hB hS; have MW : Hid (Holds W w2.heap.size newM) := hW; have CW : Hid (Holds W (w2.heap.size + 1) [1, 2, 3]) := hC; have BW : Hid (Bel w W) := hB; have c0 : W.cell? ⟨w2.heap.size + 1, 0, none⟩ = some (.int .i64 1) := hC.cell 0 (by simp); have c1 : W.cell? ⟨w2.heap.size + 1, 1, none⟩ = some (.int .i64 2) := hC.cell 1 (by simp); have c2 : W.cell? ⟨w2.heap.size + 1, 2, none⟩ = some (.int .i64 3) := hC.cell 2 (by simp); have f0 : W.frozen? ⟨w2.heap.size + 1, 0, none⟩ = false := hC.free 0 (by simp); have ls : w2.heap.size + 1 < W.heap.size := (by omega); have ls0 : w2.heap.size < W.heap.size := (by omega); clear hW hC hB hS)
    | (with_reducible refine wpl_load26' ((MW.out.other _ _ (Nat.ne_of_lt (Nat.lt_succ_self _)) _).bel ((Bel.refl _).alloc _)) NL.out rfl ?_))
  refine (PE.out _ (tab_bel TT.out (Bel.alloc (Bel.setCell (a := ⟨w2.heap.size + 1, 0, none⟩) BW.out (Nat.le_trans B2.out.size (Nat.le_succ _)) _) _))).mono ?_
  rintro e w5 ⟨rfl, b5⟩
  have M5 : Hid (Holds w5 w2.heap.size (newM)) := Holds.bel ((MW.out.other _ _ (Nat.ne_of_lt (Nat.lt_succ_self _)) _).bel ((Bel.refl _).alloc _)) b5
  have B5 : Hid (Bel w w5) := Bel.trans (Bel.alloc (Bel.setCell (a := ⟨w2.heap.size + 1, 0, none⟩) BW.out (Nat.le_trans B2.out.size (Nat.le_succ _)) _) _) b5
  have C5 : Hid (Holds w5 (w2.heap.size + 1) [63 + (1 + q), 2, 3]) := Holds.bel ((CW.out.set 0 (by simp) _).bel ((Bel.refl _).alloc _)) b5
  have k0 : w5.cell? ⟨w2.heap.size + 1, 0, none⟩ = some (.int .i64 (63 + (1 + q))) := C5.out.cell 0 (by simp)
  have k1 : w5.cell? ⟨w2.heap.size + 1, 1, none⟩ = some (.int .i64 2) := C5.out.cell 1 (by simp)
  have k2 : w5.cell? ⟨w2.heap.size + 1, 2, none⟩ = some (.int .i64 3) := C5.out.cell 2 (by simp)
  clear b5 c0 c1 c2 MW CW BW f0
  go_wp2_with (first
    | (with_reducible refine wpl_load26' M5.out ML.out rfl ?_))
  refine (LE.out _ (tab_bel TT.out B5.out)).mono ?_
  rintro e w6 ⟨rfl, b6⟩
  have M7 : Hid (Holds (w6.alloc (.cells (vals zeros).toArray 26)) w2.heap.size (newM)) := (M5.out.bel b6).bel ((Bel.refl _).alloc _)
  have A7 : Hid (Holds (w6.alloc (.cells (vals zeros).toArray 26)) w6.heap.size zeros) := holds_new w6 zeros 26
  have B7 : Hid (Bel w (w6.alloc (.cells (vals zeros).toArray 26))) := Bel.alloc (B5.out.trans b6) _
  clear b6 M5 B5 k0 k1 k2 LE
  go_wp2_with (first
    | (with_reducible refine wpl_store26n ZL.out ZL.out rfl rfl ?_)
    | (with_reducible refine wpl_load26' M7.out ML.out rfl ?_))
  refine (ME.out _ (tab_bel TT.out B7.out)).mono ?_
  rintro e w8 ⟨rfl, b8⟩
  have A8 : Hid (Holds w8 w6.heap.size zeros) := A7.out.bel b8
  have B8 : Hid (Bel w w8) := B7.out.trans b8
  clear b8 A7 M7 B7 ME
  go_wp2_with (first
    | ((with_reducible refine wpl_load26h ?_ A8.out ZL.out rfl ?_); · rfl)
    | ((with_reducible refine wpl_build26h ?_ ?_); · rfl)
    | (go_at_call 12; refine (Cnt.num_ok _ _).mono ?_; rintro e w9 ⟨rfl, rfl⟩))
  go_ret
  exact ⟨rfl, B8.out⟩

end Go.Proofs.YtnldnkcfeclmpaaDoor.Mod
