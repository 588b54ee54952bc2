/-
  Models answers true for every model, every context and every int. Condition: the package's table is laid as its text lays it.
-/
import Derived.Test.YtnldnkcfeclmpaaDoorNRefLearnY
namespace Go.Proofs.YtnldnkcfeclmpaaDoor.Mod
open Go.RowKit Go.Sort
set_option linter.unusedVariables false
set_option linter.unusedSimpArgs false

set_option maxRecDepth 20000 in
set_option maxHeartbeats 4000000 in
theorem models_any (L A : List Int) (a b c bit p n m : Int) (hL : L.length = 195) (hA : A.length = 195)
    (q1 : ∀ w, Str.Tab w → Calls Tryd.prog 8 #[mdl L, .agg #[.int .i64 a, .int .i64 b, .int .i64 c]] w fun e w' => e = .returned (.tuple #[.int .i64 p, .int .i64 n]) ∧ Bel w w')
    (q2 : ∀ w, Calls Tryd.prog 9 #[mdl L, .agg #[.int .i64 a, .int .i64 b, .int .i64 c]] w fun e w' => e = .returned (.tuple #[.int .i64 p, .int .i64 n]) ∧ Bel w w')
    (q3 : ∀ w, Str.Tab w → Calls Tryd.prog 10 #[mdl L, .agg #[.int .i64 a, .int .i64 b, .int .i64 c], .int .i64 bit] w fun e w' => e = .returned (.tuple #[mdl A, .int .i64 m]) ∧ Bel w w')
    (q4 : ∀ w, Calls Tryd.prog 11 #[mdl L, .agg #[.int .i64 a, .int .i64 b, .int .i64 c], .int .i64 bit] w fun e w' => e = .returned (.tuple #[mdl A, .int .i64 m]) ∧ Bel w w')
    (w : World) (T : Str.Tab w) :
    Calls Tryd.prog 3 #[mdl L, .agg #[.int .i64 a, .int .i64 b, .int .i64 c], .int .i64 bit] w fun e w' => e = .returned (.bool true) ∧ Bel w w' := by
  have TT : Hid (Str.Tab w) := T
  have Q1 : Hid (∀ w, Str.Tab w → Calls Tryd.prog 8 #[mdl L, .agg #[.int .i64 a, .int .i64 b, .int .i64 c]] w fun e w' => e = .returned (.tuple #[.int .i64 p, .int .i64 n]) ∧ Bel w w') := q1
  have Q2 : Hid (∀ w, Calls Tryd.prog 9 #[mdl L, .agg #[.int .i64 a, .int .i64 b, .int .i64 c]] w fun e w' => e = .returned (.tuple #[.int .i64 p, .int .i64 n]) ∧ Bel w w') := q2
  have Q3 : Hid (∀ w, Str.Tab w → Calls Tryd.prog 10 #[mdl L, .agg #[.int .i64 a, .int .i64 b, .int .i64 c], .int .i64 bit] w fun e w' => e = .returned (.tuple #[mdl A, .int .i64 m]) ∧ Bel w w') := q3
  have Q4 : Hid (∀ w, Calls Tryd.prog 11 #[mdl L, .agg #[.int .i64 a, .int .i64 b, .int .i64 c], .int .i64 bit] w fun e w' => e = .returned (.tuple #[mdl A, .int .i64 m]) ∧ Bel w w') := q4
  have Q5 : Hid (∀ w, Str.Tab w → Calls Tryd.prog 13 #[mdl L] w fun e w' => e = .returned (.bool (mayM L)) ∧ Bel w w') := may_ok L hL
  have Q6 : Hid (∀ w, Calls Tryd.prog 14 #[mdl L] w fun e w' => e = .returned (.bool (mayM L)) ∧ Bel w w') := ref_may_ok L hL
  have Q7 : Hid (∀ w, Calls Tryd.prog 15 #[] w fun e w' => e = .returned (mdl newM) ∧ Bel w w') := new_ok
  have Q8 : Hid (∀ w, Calls Tryd.prog 16 #[] w fun e w' => e = .returned (mdl newM) ∧ Bel w w') := ref_new_ok
  have NL : Hid (L.length = 195) := hL
  have AL : Hid (A.length = 195) := hA
  have ZL : Hid (zeros.length = 195) := zeros_len
  have E1 : ∀ w, (binOp .eql 26 (mdl A) (mdl A)).run Tryd.prog w = .ok (.bool true) w := fun w => by rw [eq_26 _ _ hA hA, decide_eq_true rfl]
  have E2 : ∀ w, (Op.equalIn 10000 26 (mdl A) (mdl A)).run Tryd.prog w = .ok true w := fun w => by rw [eq_in26 _ _ hA hA, decide_eq_true rfl]
  have E3 : ∀ w, (binOp .eql 26 (mdl newM) (mdl newM)).run Tryd.prog w = .ok (.bool true) w := fun w => by rw [eq_26 _ _ newM_len newM_len, decide_eq_true rfl]
  have E4 : ∀ w, (Op.equalIn 10000 26 (mdl newM) (mdl newM)).run Tryd.prog w = .ok true w := fun w => by rw [eq_in26 _ _ newM_len newM_len, decide_eq_true rfl]
  have zz := zero26
  have H0 : Hid (Holds ((w.alloc (.cells (vals L).toArray 26)).alloc (.cells #[.int .i64 a, .int .i64 b, .int .i64 c] 24)) w.heap.size L) := (holds_new w L 26).bel ((Bel.refl _).alloc _)
  have H1 : Hid (Holds ((w.alloc (.cells (vals L).toArray 26)).alloc (.cells #[.int .i64 a, .int .i64 b, .int .i64 c] 24)) (w.heap.size + 1) [a, b, c]) := holds_at (by simp) [a, b, c] 24
  have B0 : Hid (Bel w ((w.alloc (.cells (vals L).toArray 26)).alloc (.cells #[.int .i64 a, .int .i64 b, .int .i64 c] 24))) := ((Bel.refl _).alloc _).alloc _
  clear T q1 q2 q3 q4 hL hA
  generalize mayM L = mb at *
  generalize newM = N at *
  generalize zeros = Z at *
  go_enter Tryd.func3, Tryd.ntmps3
  go_wp2_with (first | (with_reducible refine wpl_load26' H0.out NL.out rfl ?_))
  refine (Q1.out _ (tab_bel TT.out B0.out)).mono ?_
  rintro e w1 ⟨rfl, b1⟩
  have M1 : Hid (Holds w1 w.heap.size L) := H0.out.bel b1
  have C1 : Hid (Holds w1 (w.heap.size + 1) [a, b, c]) := H1.out.bel b1
  have B1 : Hid (Bel w w1) := B0.out.trans b1
  have k0 : w1.cell? ⟨w.heap.size + 1, 0, none⟩ = some (.int .i64 a) := C1.out.cell 0 (by simp)
  have k1 : w1.cell? ⟨w.heap.size + 1, 1, none⟩ = some (.int .i64 b) := C1.out.cell 1 (by simp)
  have k2 : w1.cell? ⟨w.heap.size + 1, 2, none⟩ = some (.int .i64 c) := C1.out.cell 2 (by simp)
  clear b1 H0 H1 B0
  go_wp2_with (first | (with_reducible refine wpl_load26' M1.out NL.out rfl ?_))
  refine (Q2.out _).mono ?_
  rintro e w2 ⟨rfl, b2⟩
  have M2 : Hid (Holds w2 w.heap.size L) := M1.out.bel b2
  have C2 : Hid (Holds w2 (w.heap.size + 1) [a, b, c]) := C1.out.bel b2
  have B2 : Hid (Bel w w2) := B1.out.trans b2
  replace k0 := b2.keep k0
  replace k1 := b2.keep k1
  replace k2 := b2.keep k2
  clear b2 M1 C1 B1
  go_wp2_with (first | (with_reducible refine wpl_load26' M2.out NL.out rfl ?_))
  refine (Q3.out _ (tab_bel TT.out B2.out)).mono ?_
  rintro e w3 ⟨rfl, b3⟩
  have bb : Bel w2 (w3.alloc (.cells (vals A).toArray 26)) := Bel.alloc b3 _
  have M3 : Hid (Holds (w3.alloc (.cells (vals A).toArray 26)) w.heap.size L) := M2.out.bel bb
  have A3 : Hid (Holds (w3.alloc (.cells (vals A).toArray 26)) w3.heap.size A) := holds_new _ _ _
  have B3 : Hid (Bel w (w3.alloc (.cells (vals A).toArray 26))) := B2.out.trans bb
  replace k0 := bb.keep k0
  replace k1 := bb.keep k1
  replace k2 := bb.keep k2
  clear bb b3 M2 C2 B2
  go_wp2_with (first
    | (with_reducible refine wpl_store26n ZL.out AL.out rfl rfl ?_)
    | (with_reducible refine wpl_load26' M3.out NL.out rfl ?_))
  refine (Q4.out _).mono ?_
  rintro e w4 ⟨rfl, b4⟩
  have bb : Bel (w3.alloc (.cells (vals A).toArray 26)) (w4.alloc (.cells (vals A).toArray 26)) := Bel.alloc b4 _
  have m4 := M3.out.bel bb
  have a4 := A3.out.bel bb
  have r4 := holds_new w4 A 26
  have b5 : Bel w (w4.alloc (.cells (vals A).toArray 26)) := B3.out.trans bb
  clear bb b4 k0 k1 k2 M3 A3 B3
  go_wp2_with (first
    | (with_reducible refine wpl_store26n ZL.out AL.out rfl rfl ?_))
  generalize w4.alloc (.cells (vals A).toArray 26) = W at *
  have M5 : Hid (Holds W w.heap.size L) := m4
  have A5 : Hid (Holds W w3.heap.size A) := a4
  have R5 : Hid (Holds W w4.heap.size A) := r4
  have B5 : Hid (Bel w W) := b5
  clear m4 a4 r4 b5
  refine wp_region_quiet_below (by kernel_rfl) (by kernel_rfl) ?_
  repeat (first
    | ((with_reducible refine quiet_load26g ?_ A5.out AL.out rfl ?_); · rfl)
    | ((with_reducible refine quiet_load26g ?_ R5.out AL.out rfl ?_); · rfl)
    | ((with_reducible refine quiet_load26g ?_ M5.out NL.out rfl ?_); · rfl)
    | quiet_step (first
      | (go_at_call 12; with_reducible exact Calls.regrown_of (num_ok _ _))
      | (go_at_call 13; with_reducible exact Calls.regrown_of (Q5.out _ (tab_bel TT.out (B5.out.trans (below_regrown _ _ _)))))
      | (go_at_call 14; with_reducible exact Calls.regrown_of (Q6.out _))
      | (go_at_call 15; with_reducible exact Calls.regrown_of (Q7.out _))
      | (go_at_call 16; with_reducible exact Calls.regrown_of (Q8.out _))
      | (go_at_call 17; with_reducible exact Calls.regrown_of (awake_true _ (tab_bel TT.out (B5.out.trans (below_regrown _ _ _)))))))
  refine wpQuiet_nil ?_
  intro _ hw'
  obtain ⟨⟨dq, osq⟩, hw''⟩ := hw'
  subst hw''
  go_wp2
  go_ret
  exact ⟨rfl, B5.out.trans (below_regrown W dq osq)⟩

theorem models_walk (L : List Int) (hL : L.length = 195) (a b c bit : Int) (w : World) (T : Str.Tab w) :
    Calls Tryd.prog 3 #[mdl L, .agg #[.int .i64 a, .int .i64 b, .int .i64 c], .int .i64 bit] w fun e w' => e = .returned (.bool true) ∧ Bel w w' := by
  by_cases hm : mayM L = true
  · by_cases hctx : ctxB a b c = true
    · have hy : (ctxB a b c && mayM L) = true := by rw [hm, hctx]; rfl
      obtain ⟨⟨a0, a1⟩, ⟨b0, b1⟩, c0, c1⟩ := ctxB_of hctx
      obtain ⟨a, rfl⟩ := Int.eq_ofNat_of_zero_le a0
      obtain ⟨b, rfl⟩ := Int.eq_ofNat_of_zero_le b0
      obtain ⟨c, rfl⟩ := Int.eq_ofNat_of_zero_le c0
      have ha : a < 64 := by omega
      have hb : b < 64 := by omega
      have hc : c < 64 := by omega
      by_cases hbit : Cnt.bitB bit = true
      · exact models_any L _ _ _ _ bit _ _ _ hL (by rw [learn_len, hL]) (p_yes L hL a b c ha hb hc hm) (ref_p_yes L hL a b c ha hb hc hm) (learn_yes L hL a b c ha hb hc bit hbit hm) (ref_learn_yes L hL a b c ha hb hc bit hbit hm) w T
      · have hn : Cnt.bitB bit = false := by simpa using hbit
        exact models_any L _ _ _ _ bit _ _ _ hL zeros_len (p_yes L hL a b c ha hb hc hm) (ref_p_yes L hL a b c ha hb hc hm) (learn_bit L hL _ _ _ bit hy hn) (ref_learn_bit L hL _ _ _ bit hm hctx hn) w T
    · have hn : ctxB a b c = false := by simpa using hctx
      have hy : (ctxB a b c && mayM L) = false := by rw [hn]; rfl
      exact models_any L _ a b c bit _ _ _ hL zeros_len (p_no L hL a b c hy) (ref_p_ctx L hL a b c hm hn) (learn_no L hL a b c bit hy) (ref_learn_ctx L hL a b c bit hm hn) w T
  · have hn : mayM L = false := by simpa using hm
    have hy : (ctxB a b c && mayM L) = false := by rw [hn, Bool.and_false]
    exact models_any L _ a b c bit _ _ _ hL zeros_len (p_no L hL a b c hy) (ref_p_may L hL a b c hn) (learn_no L hL a b c bit hy) (ref_learn_may L hL a b c bit hn) w T

end Go.Proofs.YtnldnkcfeclmpaaDoor.Mod
