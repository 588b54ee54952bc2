/-
  The walk of Coders: it answers true for every coder, bit and chance. Condition: the text is no longer than an int can tell.
-/
import Derived.Test.YthipckllancohaaKAwake
namespace Go.Proofs.Ythipckllancohaa.Coder
open Go.RowKit Go.Proofs.Ythipckllancohaa.Num
set_option linter.unusedVariables false

set_option maxHeartbeats 4000000 in
theorem coders_walk (l h : Int) (s : ByteArray) (bit p : Int) (hs : s.size ≤ maxLen) (w : World) :
    Calls Try.prog 3 #[.agg #[.int .i64 l, .int .i64 h, .string s], .int .i64 bit, .int .i64 p] w fun e w' => e = .returned (.bool true) ∧ Bel w w' := by
  obtain ⟨x, y, z, n, hc⟩ := codeBit_form l h bit p s
  obtain ⟨t, m, he⟩ := endAns_form l h s
  have q1 := bit_ok l h bit p s hs
  have q2 := codeBit_ok l h bit p s hs
  have q3 := end_ok l h s hs
  have q4 := endCoder_ok l h s hs
  have q5 := may_ok l h s hs
  have q6 := coderMay_ok l h s hs
  rw [hc] at q1 q2
  rw [he] at q3 q4
  generalize mayB l h s = mb at *
  have Q1 : Hid (∀ w, Calls Try.prog 9 #[.agg #[.int .i64 l, .int .i64 h, .string s], .int .i64 bit, .int .i64 p] w fun e w' => e = .returned (.tuple #[.agg #[.int .i64 x, .int .i64 y, .string z], .int .i64 n]) ∧ Bel w w') := q1
  have Q2 : Hid (∀ w, Calls Try.prog 10 #[.agg #[.int .i64 l, .int .i64 h, .string s], .int .i64 bit, .int .i64 p] w fun e w' => e = .returned (.tuple #[.agg #[.int .i64 x, .int .i64 y, .string z], .int .i64 n]) ∧ Bel w w') := q2
  have Q3 : Hid (∀ w, Calls Try.prog 11 #[.agg #[.int .i64 l, .int .i64 h, .string s]] w fun e w' => e = .returned (.tuple #[.string t, .int .i64 m]) ∧ Bel w w') := q3
  have Q4 : Hid (∀ w, Calls Try.prog 12 #[.agg #[.int .i64 l, .int .i64 h, .string s]] w fun e w' => e = .returned (.tuple #[.string t, .int .i64 m]) ∧ Bel w w') := q4
  have Q5 : Hid (∀ w, Calls Try.prog 14 #[.agg #[.int .i64 l, .int .i64 h, .string s]] w fun e w' => e = .returned (.bool mb) ∧ Bel w w') := q5
  have Q6 : Hid (∀ w, Calls Try.prog 15 #[.agg #[.int .i64 l, .int .i64 h, .string s]] w fun e w' => e = .returned (.bool mb) ∧ Bel w w') := q6
  clear q1 q2 q3 q4 q5 q6 hc he
  go_enter Try.func3, Try.ntmps3
  go_wp2_with fail
  refine (Q1.out _).mono ?_
  rintro e w1 ⟨rfl, b1⟩
  have c0 : w1.cell? ⟨w.heap.size, 0, none⟩ = some (.int .i64 l) := b1.keep (by simp)
  have c1 : w1.cell? ⟨w.heap.size, 1, none⟩ = some (.int .i64 h) := b1.keep (by simp)
  have c2 : w1.cell? ⟨w.heap.size, 2, none⟩ = some (.string s) := b1.keep (by simp)
  have l1 : w.heap.size < w1.heap.size := block_lt_of_cell c0
  have HB1 : Hid (Bel w w1) := Bel.trans ((Bel.refl _).alloc _) b1
  clear b1
  go_wp2_with fail
  refine (Q2.out _).mono ?_
  rintro e w2 ⟨rfl, b2⟩
  have d0 : w2.cell? ⟨w1.heap.size, 0, none⟩ = some (.int .i64 x) := b2.keep (by simp)
  have d1 : w2.cell? ⟨w1.heap.size, 1, none⟩ = some (.int .i64 y) := b2.keep (by simp)
  have d2 : w2.cell? ⟨w1.heap.size, 2, none⟩ = some (.string z) := b2.keep (by simp)
  have bb := Bel.trans ((Bel.refl w1).alloc (.cells #[.int .i64 x, .int .i64 y, .string z] 23)) b2
  replace c0 := bb.keep c0
  replace c1 := bb.keep c1
  replace c2 := bb.keep c2
  have l2 : w1.heap.size < w2.heap.size := block_lt_of_cell d0
  have l3 : w.heap.size < w2.heap.size := block_lt_of_cell c0
  have HB2 : Hid (Bel w w2) := HB1.out.trans bb
  clear b2 bb HB1 l1
  go_wp2_with fail
  refine (Q3.out _).mono ?_
  rintro e w3 ⟨rfl, b3⟩
  have f0 : w3.cell? ⟨w2.heap.size, 0, none⟩ = some (.int .i64 x) := b3.keep (by simp)
  have f1 : w3.cell? ⟨w2.heap.size, 1, none⟩ = some (.int .i64 y) := b3.keep (by simp)
  have f2 : w3.cell? ⟨w2.heap.size, 2, none⟩ = some (.string z) := b3.keep (by simp)
  have bb := Bel.trans ((Bel.refl w2).alloc (.cells #[.int .i64 x, .int .i64 y, .string z] 23)) b3
  replace c0 := bb.keep c0
  replace c1 := bb.keep c1
  replace c2 := bb.keep c2
  replace d0 := bb.keep d0
  replace d1 := bb.keep d1
  replace d2 := bb.keep d2
  have HB3 : Hid (Bel w w3) := HB2.out.trans bb
  clear b3 bb HB2 l2 l3
  go_wp2_with fail
  refine (Q4.out _).mono ?_
  rintro e w4 ⟨rfl, b4⟩
  have k0 := cell_regrown (b4.keep c0)
  have k1 := cell_regrown (b4.keep c1)
  have k2 := cell_regrown (b4.keep c2)
  have k3 := cell_regrown (b4.keep d0)
  have k4 := cell_regrown (b4.keep d1)
  have k5 := cell_regrown (b4.keep d2)
  have k6 := cell_regrown (b4.keep f0)
  have k7 := cell_regrown (b4.keep f1)
  have k8 := cell_regrown (b4.keep f2)
  have HB4 : Hid (Bel w w4) := HB3.out.trans b4
  clear b4 HB3 c0 c1 c2 d0 d1 d2 f0 f1 f2
  go_wp2_with fail
  refine wp_region_quiet_below (by kernel_rfl) (by kernel_rfl) ?_
  repeat (quiet_step (first
    | (go_at_call 13; with_reducible exact Calls.regrown_of ((num_ok _ _).mono fun _ _ k => ⟨k.1, k.2 ▸ Below.refl _ _⟩))
    | (go_at_call 14; with_reducible exact Calls.regrown_of (Q5.out _))
    | (go_at_call 15; with_reducible exact Calls.regrown_of (Q6.out _))
    | (go_at_call 16; with_reducible exact Calls.regrown_of (new_ok _))
    | (go_at_call 17; with_reducible exact Calls.regrown_of (newCoder_ok _))
    | (go_at_call 18; with_reducible exact Calls.regrown_of (awake_true _))))
  refine wpQuiet_nil ?_
  intro _ hw'
  obtain ⟨⟨dq, osq⟩, hw''⟩ := hw'
  subst hw''
  go_wp2
  go_ret
  exact ⟨rfl, HB4.out.trans (below_regrown w4 dq osq)⟩

end Go.Proofs.Ythipckllancohaa.Coder
