/-
  The contract of the check that every statement of layer 9 begins with: it answers true. Condition: the package's table is laid as its text lays it.
-/
import Derived.Test.YtnldnkcfeclmpaaDoorNQuiet
import Derived.Test.YtnldnkcfeclmpaaDoorNRefNew
namespace Go.Proofs.YtnldnkcfeclmpaaDoor.Mod
open Go.RowKit Go.Sort
set_option linter.unusedVariables false
set_option linter.unusedSimpArgs false

theorem num_ok (n : Int) (w : World) :
    Calls Tryd.prog 12 #[.int .i64 n] w fun e w' => e = .returned (.int .i64 n) ∧ Bel w w' :=
  (Cnt.num_ok n w).mono fun _ _ k => ⟨k.1, k.2 ▸ Bel.refl _⟩

def awM : List Int := learn newM 1 2 3 1
def badM : List Int := List.replicate 192 0 ++ [-1048577, 0, 0]
theorem awM_len : awM.length = 195 := (learn_len _ _ _ _ _).trans newM_len
theorem badM_len : badM.length = 195 := by decide +kernel
theorem awM_may : mayM awM = true := may_learn newM newM_len 1 2 3 (by decide) (by decide) (by decide) 1 newM_may
theorem badM_may : mayM badM = false := by
  cases h : mayM badM
  · rfl
  · have := ((may_iff _).1 h).2 192 (by decide) (by decide)
    have e : badM.getD 192 0 = -1048577 := by decide +kernel
    rw [e] at this
    omega
theorem awM_1 : awM.getD 1 0 = 34815 := by
  rw [awM, learn_get newM newM_len 1 2 3 (by decide) (by decide) (by decide), if_pos rfl, newM_get 1 (by decide)]
  decide +kernel
theorem awM_132 : awM.getD 132 0 = 32768 := by
  rw [awM, learn_get newM newM_len 1 2 3 (by decide) (by decide) (by decide), if_neg (by decide), if_neg (by decide), if_neg (by decide), if_neg (by decide), if_neg (by decide), if_neg (by decide), newM_get 132 (by decide)]

theorem aw_p (w : World) (T : Str.Tab w) : Calls Tryd.prog 8 #[mdl newM, .agg #[.int .i64 1, .int .i64 2, .int .i64 3]] w fun e w' => e = .returned (.tuple #[.int .i64 2051, .int .i64 0]) ∧ Bel w w' := by
  have := p_yes newM newM_len 1 2 3 (by decide) (by decide) (by decide) newM_may w T
  rw [new_tell 1 2 3 (by decide) (by decide) (by decide)] at this
  exact this
theorem aw_learn (w : World) (T : Str.Tab w) : Calls Tryd.prog 10 #[mdl newM, .agg #[.int .i64 1, .int .i64 2, .int .i64 3], .int .i64 1] w fun e w' => e = .returned (.tuple #[mdl awM, .int .i64 0]) ∧ Bel w w' :=
  learn_yes newM newM_len 1 2 3 (by decide) (by decide) (by decide) 1 (by decide) newM_may w T
theorem aw_p64 (w : World) (T : Str.Tab w) : Calls Tryd.prog 8 #[mdl newM, .agg #[.int .i64 64, .int .i64 0, .int .i64 0]] w fun e w' => e = .returned (.tuple #[.int .i64 0, .int .i64 900]) ∧ Bel w w' :=
  p_no newM newM_len 64 0 0 (by rw [show ctxB 64 0 0 = false by decide]; rfl) w T
theorem aw_bit (w : World) (T : Str.Tab w) : Calls Tryd.prog 10 #[mdl newM, .agg #[.int .i64 0, .int .i64 0, .int .i64 0], .int .i64 2] w fun e w' => e = .returned (.tuple #[mdl zeros, .int .i64 900]) ∧ Bel w w' :=
  learn_bit newM newM_len 0 0 0 2 (by rw [show ctxB 0 0 0 = true by decide, newM_may]; rfl) (by decide) w T
theorem aw_may (w : World) (T : Str.Tab w) : Calls Tryd.prog 13 #[mdl awM] w fun e w' => e = .returned (.bool true) ∧ Bel w w' := awM_may ▸ may_ok awM awM_len w T
theorem aw_bad (w : World) (T : Str.Tab w) : Calls Tryd.prog 13 #[mdl badM] w fun e w' => e = .returned (.bool false) ∧ Bel w w' := badM_may ▸ may_ok badM badM_len w T

set_option maxRecDepth 20000 in
set_option maxHeartbeats 4000000 in
theorem awake_true (w : World) (T : Str.Tab w) :
    Calls Tryd.prog 17 #[] w fun e w' => e = .returned (.bool true) ∧ Bel w w' := by
  have TT : Hid (Str.Tab w) := T
  have z := zero26
  have q0 := new_ok
  have q1 := aw_p
  have q2 := aw_learn
  have q3 := aw_p64
  have q4 := aw_bit
  have q5 := ref_new_ok
  have q6 := aw_may
  have q7 := aw_bad
  have ZL : Hid (zeros.length = 195) := zeros_len
  have NL : Hid (newM.length = 195) := newM_len
  have AL : Hid (awM.length = 195) := awM_len
  have A1 : Hid (awM.getD 1 0 = 34815) := awM_1
  have A2 : Hid (awM.getD 132 0 = 32768) := awM_132
  have E1 : ∀ w, (binOp .eql 26 (mdl newM) (mdl newM)).run Tryd.prog w = .ok (.bool true) w := fun w => by rw [eq_26 _ _ newM_len newM_len, decide_eq_true rfl]
  have E2 : ∀ w, (Op.equalIn 10000 26 (mdl newM) (mdl newM)).run Tryd.prog w = .ok true w := fun w => by rw [eq_in26 _ _ newM_len newM_len, decide_eq_true rfl]
  have BD : Hid (List.replicate 192 0 ++ [-1048577, 0, 0] = badM) := rfl
  generalize zeros = Z at *
  generalize newM = N at *
  generalize awM = A at *
  generalize badM = D at *
  have Q0 : Hid (∀ w, Calls Tryd.prog 15 #[] w fun e w' => e = .returned (mdl N) ∧ Bel w w') := q0
  have Q1 : Hid (∀ w, Str.Tab w → Calls Tryd.prog 8 #[mdl N, .agg #[.int .i64 1, .int .i64 2, .int .i64 3]] w fun e w' => e = .returned (.tuple #[.int .i64 2051, .int .i64 0]) ∧ Bel w w') := q1
  have Q2 : Hid (∀ w, Str.Tab w → Calls Tryd.prog 10 #[mdl N, .agg #[.int .i64 1, .int .i64 2, .int .i64 3], .int .i64 1] w fun e w' => e = .returned (.tuple #[mdl A, .int .i64 0]) ∧ Bel w w') := q2
  have Q3 : Hid (∀ w, Str.Tab w → Calls Tryd.prog 8 #[mdl N, .agg #[.int .i64 64, .int .i64 0, .int .i64 0]] w fun e w' => e = .returned (.tuple #[.int .i64 0, .int .i64 900]) ∧ Bel w w') := q3
  have Q4 : Hid (∀ w, Str.Tab w → Calls Tryd.prog 10 #[mdl N, .agg #[.int .i64 0, .int .i64 0, .int .i64 0], .int .i64 2] w fun e w' => e = .returned (.tuple #[mdl Z, .int .i64 900]) ∧ Bel w w') := q4
  have Q5 : Hid (∀ w, Calls Tryd.prog 16 #[] w fun e w' => e = .returned (mdl N) ∧ Bel w w') := q5
  have Q6 : Hid (∀ w, Str.Tab w → Calls Tryd.prog 13 #[mdl A] w fun e w' => e = .returned (.bool true) ∧ Bel w w') := q6
  have Q7 : Hid (∀ w, Str.Tab w → Calls Tryd.prog 13 #[mdl D] w fun e w' => e = .returned (.bool false) ∧ Bel w w') := q7
  clear T q0 q1 q2 q3 q4 q5 q6 q7
  go_enter Tryd.func17, Tryd.ntmps17
  go_wp2_with fail
  refine (Q0.out _).mono ?_
  rintro e w1 ⟨rfl, b⟩
  have M1 : Hid (Holds (w1.alloc (.cells (vals N).toArray 26)) w1.heap.size N) := holds_new _ _ _
  have B1 : Hid (Bel w (w1.alloc (.cells (vals N).toArray 26))) := Bel.alloc b _
  clear b
  go_wp2_with (first
    | (with_reducible refine wpl_store26n ZL.out NL.out rfl rfl ?_)
    | (with_reducible refine wpl_load26' M1.out NL.out rfl ?_))
  refine (Q1.out _ (tab_bel TT.out B1.out)).mono ?_
  rintro e w2 ⟨rfl, b⟩
  have M2 : Hid (Holds w2 w1.heap.size N) := M1.out.bel b
  have B2 : Hid (Bel w w2) := B1.out.trans b
  clear b M1 B1
  go_wp2_with (first
    | (with_reducible refine wpl_load26' M2.out NL.out rfl ?_))
  refine (Q2.out _ (tab_bel TT.out B2.out)).mono ?_
  rintro e w3 ⟨rfl, b⟩
  have M3 : Hid (Holds (w3.alloc (.cells (vals A).toArray 26)) w1.heap.size N) := (M2.out.bel b).bel ((Bel.refl _).alloc _)
  have A3 : Hid (Holds (w3.alloc (.cells (vals A).toArray 26)) w3.heap.size A) := holds_new _ _ _
  have B3 : Hid (Bel w (w3.alloc (.cells (vals A).toArray 26))) := Bel.alloc (B2.out.trans b) _
  clear b M2 B2
  go_wp2_with (first
    | (with_reducible refine wpl_store26n ZL.out AL.out rfl rfl ?_)
    | (with_reducible refine wpl_load26' M3.out NL.out rfl ?_))
  refine (Q3.out _ (tab_bel TT.out B3.out)).mono ?_
  rintro e w4 ⟨rfl, b⟩
  have M4 : Hid (Holds w4 w1.heap.size N) := M3.out.bel b
  have A4 : Hid (Holds w4 w3.heap.size A) := A3.out.bel b
  have B4 : Hid (Bel w w4) := B3.out.trans b
  clear b M3 B3 A3
  go_wp2_with (first
    | (with_reducible refine wpl_load26' M4.out NL.out rfl ?_))
  refine (Q4.out _ (tab_bel TT.out B4.out)).mono ?_
  rintro e w5 ⟨rfl, b⟩
  have m5 := (M4.out.bel b).bel ((Bel.refl _).alloc (.cells (vals Z).toArray 26))
  have a5 := (A4.out.bel b).bel ((Bel.refl _).alloc (.cells (vals Z).toArray 26))
  have b5 : Bel w (w5.alloc (.cells (vals Z).toArray 26)) := Bel.alloc (B4.out.trans b) _
  clear b M4 B4 A4
  go_wp2_with (first
    | (with_reducible refine wpl_store26n ZL.out ZL.out rfl rfl ?_))
  generalize w5.alloc (.cells (vals Z).toArray 26) = W at *
  have M5 : Hid (Holds W w1.heap.size N) := m5
  have A5 : Hid (Holds W w3.heap.size A) := a5
  have B5 : Hid (Bel w W) := b5
  have k0 := cell_regrown (a5.cell 1 (by rw [AL.out]; decide))
  have k1 := cell_regrown (a5.cell 132 (by rw [AL.out]; decide))
  rw [A1.out] at k0
  rw [A2.out] at k1
  clear m5 a5 b5
  refine wp_region_quiet_below (by kernel_rfl) (by kernel_rfl) ?_
  repeat (first
    | (with_reducible refine quiet_load26 M5.out NL.out rfl ?_)
    | ((with_reducible refine quiet_load26g ?_ A5.out AL.out rfl ?_); · rfl)
    | ((with_reducible refine quiet_build26g (p := -1048577) (q := 0) (r := 0) ?_ rfl ?_); (· rfl); rw [BD.out])
    | quiet_step (first
      | (go_at_call 12; with_reducible exact Calls.regrown_of (num_ok _ _))
      | (go_at_call 16; with_reducible exact Calls.regrown_of (Q5.out _))
      | (go_at_call 13; with_reducible exact Calls.regrown_of (Q6.out _ (tab_bel TT.out (B5.out.trans (below_regrown _ _ _)))))
      | (go_at_call 13; with_reducible exact Calls.regrown_of (Q7.out _ (tab_bel TT.out (B5.out.trans (below_regrown _ _ _)))))))
  refine wpQuiet_nil ?_
  intro _ hw'
  obtain ⟨⟨dq, osq⟩, hw''⟩ := hw'
  subst hw''
  go_wp2
  go_ret
  exact ⟨rfl, B5.out.trans (below_regrown W dq osq)⟩

end Go.Proofs.YtnldnkcfeclmpaaDoor.Mod
