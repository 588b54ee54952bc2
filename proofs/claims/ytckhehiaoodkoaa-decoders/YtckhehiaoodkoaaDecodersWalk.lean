/-
  The walk of Decoders: it answers true for every decoder, text and chance. Condition: the texts are no longer than an int can tell.
-/
import Derived.Test.YtckhehiaoodkoaaDAwake
namespace Go.Proofs.Ytckhehiaoodkoaa.Coder
open Go.RowKit Go.Proofs.Ytckhehiaoodkoaa.Num
set_option linter.unusedVariables false

/-- What Bit answers has this form. -/
theorem decBit_form (l h x : Int) (s : ByteArray) (a p : Int) : ∃ x0 x1 x2 z x4 b n, decBit l h x s a p = .tuple #[.agg #[.int .i64 x0, .int .i64 x1, .int .i64 x2, .string z, .int .i64 x4], .int .i64 b, .int .i64 n] := by
  unfold decBit
  split
  · unfold decAns
    split
    · exact ⟨_, _, _, _, _, _, _, rfl⟩
    · exact ⟨_, _, _, _, _, _, _, rfl⟩
  · exact ⟨_, _, _, _, _, _, _, rfl⟩

theorem newAns_form (s : ByteArray) : ∃ x0 x1 x2 z x4 n, newAns s = .tuple #[.agg #[.int .i64 x0, .int .i64 x1, .int .i64 x2, .string z, .int .i64 x4], .int .i64 n] := by
  unfold newAns
  split
  · exact ⟨_, _, _, _, _, _, rfl⟩
  · exact ⟨_, _, _, _, _, _, rfl⟩

set_option maxHeartbeats 8000000 in
theorem decoders_walk (l h x : Int) (s : ByteArray) (a : Int) (t : ByteArray) (p : Int) (hs : s.size ≤ maxLen) (ht : t.size ≤ maxLen) (w : World) :
    Calls Try.prog 3 #[.agg #[.int .i64 l, .int .i64 h, .int .i64 x, .string s, .int .i64 a], .string t, .int .i64 p] w fun e w' => e = .returned (.bool true) ∧ Bel w w' := by
  obtain ⟨x0, x1, x2, z, x4, b, n, hc⟩ := decBit_form l h x s a p
  obtain ⟨y0, y1, y2, r, y4, m, he⟩ := newAns_form t
  have q1 := bit_ok l h x p s a hs
  have q2 := decodeBit_ok l h x p s a hs
  have q3 := new_ok t ht
  have q4 := newDecoder_ok t ht
  have q5 := may_ok l h x a s hs
  have q6 := decoderMay_ok l h x a s hs
  rw [hc] at q1 q2
  rw [he] at q3 q4
  generalize dmayB l h x s a = mb at *
  have Q1 : Hid (∀ w, Calls Try.prog 8 #[.agg #[.int .i64 l, .int .i64 h, .int .i64 x, .string s, .int .i64 a], .int .i64 p] w fun e w' => e = .returned (.tuple #[.agg #[.int .i64 x0, .int .i64 x1, .int .i64 x2, .string z, .int .i64 x4], .int .i64 b, .int .i64 n]) ∧ Bel w w') := q1
  have Q2 : Hid (∀ w, Calls Try.prog 9 #[.agg #[.int .i64 l, .int .i64 h, .int .i64 x, .string s, .int .i64 a], .int .i64 p] w fun e w' => e = .returned (.tuple #[.agg #[.int .i64 x0, .int .i64 x1, .int .i64 x2, .string z, .int .i64 x4], .int .i64 b, .int .i64 n]) ∧ Bel w w') := q2
  have Q3 : Hid (∀ w, Calls Try.prog 10 #[.string t] w fun e w' => e = .returned (.tuple #[.agg #[.int .i64 y0, .int .i64 y1, .int .i64 y2, .string r, .int .i64 y4], .int .i64 m]) ∧ Bel w w') := q3
  have Q4 : Hid (∀ w, Calls Try.prog 11 #[.string t] w fun e w' => e = .returned (.tuple #[.agg #[.int .i64 y0, .int .i64 y1, .int .i64 y2, .string r, .int .i64 y4], .int .i64 m]) ∧ Bel w w') := q4
  have Q5 : Hid (∀ w, Calls Try.prog 13 #[.agg #[.int .i64 l, .int .i64 h, .int .i64 x, .string s, .int .i64 a]] w fun e w' => e = .returned (.bool mb) ∧ Bel w w') := q5
  have Q6 : Hid (∀ w, Calls Try.prog 14 #[.agg #[.int .i64 l, .int .i64 h, .int .i64 x, .string s, .int .i64 a]] w fun e w' => e = .returned (.bool mb) ∧ Bel w w') := q6
  clear q1 q2 q3 q4 q5 q6 hc he
  go_enter Try.func3, Try.ntmps3
  go_wp2_with fail
  refine (Q1.out _).mono ?_
  rintro e w1 ⟨rfl, b1⟩
  have c0 : w1.cell? ⟨w.heap.size, 0, none⟩ = some (.int .i64 l) := b1.keep (by simp)
  have c1 : w1.cell? ⟨w.heap.size, 1, none⟩ = some (.int .i64 h) := b1.keep (by simp)
  have c2 : w1.cell? ⟨w.heap.size, 2, none⟩ = some (.int .i64 x) := b1.keep (by simp)
  have c3 : w1.cell? ⟨w.heap.size, 3, none⟩ = some (.string s) := b1.keep (by simp)
  have c4 : w1.cell? ⟨w.heap.size, 4, none⟩ = some (.int .i64 a) := b1.keep (by simp)
  have bb := Bel.trans ((Bel.refl w).alloc (.cells #[.int .i64 l, .int .i64 h, .int .i64 x, .string s, .int .i64 a] 23)) b1
  have L1c : w.heap.size < w1.heap.size := block_lt_of_cell c0
  have HB1 : Hid (Bel w w1) := bb
  clear b1 bb
  go_wp2_with fail
  refine (Q2.out _).mono ?_
  rintro e w2 ⟨rfl, b2⟩
  have d0 : w2.cell? ⟨w1.heap.size, 0, none⟩ = some (.int .i64 x0) := b2.keep (by simp)
  have d1 : w2.cell? ⟨w1.heap.size, 1, none⟩ = some (.int .i64 x1) := b2.keep (by simp)
  have d2 : w2.cell? ⟨w1.heap.size, 2, none⟩ = some (.int .i64 x2) := b2.keep (by simp)
  have d3 : w2.cell? ⟨w1.heap.size, 3, none⟩ = some (.string z) := b2.keep (by simp)
  have d4 : w2.cell? ⟨w1.heap.size, 4, none⟩ = some (.int .i64 x4) := b2.keep (by simp)
  have bb := Bel.trans ((Bel.refl w1).alloc (.cells #[.int .i64 x0, .int .i64 x1, .int .i64 x2, .string z, .int .i64 x4] 23)) b2
  replace c0 := bb.keep c0
  replace c1 := bb.keep c1
  replace c2 := bb.keep c2
  replace c3 := bb.keep c3
  replace c4 := bb.keep c4
  have L2c : w.heap.size < w2.heap.size := block_lt_of_cell c0
  have L2d : w1.heap.size < w2.heap.size := block_lt_of_cell d0
  have HB2 : Hid (Bel w w2) := HB1.out.trans bb
  clear b2 bb
  clear HB1 L1c
  go_wp2_with fail
  refine (Q3.out _).mono ?_
  rintro e w3 ⟨rfl, b3⟩
  have f0 : w3.cell? ⟨w2.heap.size, 0, none⟩ = some (.int .i64 x0) := b3.keep (by simp)
  have f1 : w3.cell? ⟨w2.heap.size, 1, none⟩ = some (.int .i64 x1) := b3.keep (by simp)
  have f2 : w3.cell? ⟨w2.heap.size, 2, none⟩ = some (.int .i64 x2) := b3.keep (by simp)
  have f3 : w3.cell? ⟨w2.heap.size, 3, none⟩ = some (.string z) := b3.keep (by simp)
  have f4 : w3.cell? ⟨w2.heap.size, 4, none⟩ = some (.int .i64 x4) := b3.keep (by simp)
  have bb := Bel.trans ((Bel.refl w2).alloc (.cells #[.int .i64 x0, .int .i64 x1, .int .i64 x2, .string z, .int .i64 x4] 23)) b3
  replace c0 := bb.keep c0
  replace c1 := bb.keep c1
  replace c2 := bb.keep c2
  replace c3 := bb.keep c3
  replace c4 := bb.keep c4
  replace d0 := bb.keep d0
  replace d1 := bb.keep d1
  replace d2 := bb.keep d2
  replace d3 := bb.keep d3
  replace d4 := bb.keep d4
  have L3c : w.heap.size < w3.heap.size := block_lt_of_cell c0
  have L3d : w1.heap.size < w3.heap.size := block_lt_of_cell d0
  have L3f : w2.heap.size < w3.heap.size := block_lt_of_cell f0
  have HB3 : Hid (Bel w w3) := HB2.out.trans bb
  clear b3 bb
  clear HB2 L2c L2d
  go_wp2_with fail
  refine (Q4.out _).mono ?_
  rintro e w4 ⟨rfl, b4⟩
  have g0 : w4.cell? ⟨w3.heap.size, 0, none⟩ = some (.int .i64 y0) := b4.keep (by simp)
  have g1 : w4.cell? ⟨w3.heap.size, 1, none⟩ = some (.int .i64 y1) := b4.keep (by simp)
  have g2 : w4.cell? ⟨w3.heap.size, 2, none⟩ = some (.int .i64 y2) := b4.keep (by simp)
  have g3 : w4.cell? ⟨w3.heap.size, 3, none⟩ = some (.string r) := b4.keep (by simp)
  have g4 : w4.cell? ⟨w3.heap.size, 4, none⟩ = some (.int .i64 y4) := b4.keep (by simp)
  have bb := Bel.trans ((Bel.refl w3).alloc (.cells #[.int .i64 y0, .int .i64 y1, .int .i64 y2, .string r, .int .i64 y4] 23)) b4
  replace c0 := bb.keep c0
  replace c1 := bb.keep c1
  replace c2 := bb.keep c2
  replace c3 := bb.keep c3
  replace c4 := bb.keep c4
  replace d0 := bb.keep d0
  replace d1 := bb.keep d1
  replace d2 := bb.keep d2
  replace d3 := bb.keep d3
  replace d4 := bb.keep d4
  replace f0 := bb.keep f0
  replace f1 := bb.keep f1
  replace f2 := bb.keep f2
  replace f3 := bb.keep f3
  replace f4 := bb.keep f4
  have L4c : w.heap.size < w4.heap.size := block_lt_of_cell c0
  have L4d : w1.heap.size < w4.heap.size := block_lt_of_cell d0
  have L4f : w2.heap.size < w4.heap.size := block_lt_of_cell f0
  have L4g : w3.heap.size < w4.heap.size := block_lt_of_cell g0
  have HB4 : Hid (Bel w w4) := HB3.out.trans bb
  clear b4 bb
  clear HB3 L3c L3d L3f
  have bz4 := (Bel.refl w4).alloc (.cells #[.int .i64 y0, .int .i64 y1, .int .i64 y2, .string r, .int .i64 y4] 23)
  have k0 := cell_regrown (bz4.keep c0)
  have k1 := cell_regrown (bz4.keep c1)
  have k2 := cell_regrown (bz4.keep c2)
  have k3 := cell_regrown (bz4.keep c3)
  have k4 := cell_regrown (bz4.keep c4)
  have k5 := cell_regrown (bz4.keep d0)
  have k6 := cell_regrown (bz4.keep d1)
  have k7 := cell_regrown (bz4.keep d2)
  have k8 := cell_regrown (bz4.keep d3)
  have k9 := cell_regrown (bz4.keep d4)
  have k10 := cell_regrown (bz4.keep f0)
  have k11 := cell_regrown (bz4.keep f1)
  have k12 := cell_regrown (bz4.keep f2)
  have k13 := cell_regrown (bz4.keep f3)
  have k14 := cell_regrown (bz4.keep f4)
  have k15 := cell_regrown (bz4.keep g0)
  have k16 := cell_regrown (bz4.keep g1)
  have k17 := cell_regrown (bz4.keep g2)
  have k18 := cell_regrown (bz4.keep g3)
  have k19 := cell_regrown (bz4.keep g4)
  have e0 : (w4.alloc (.cells #[.int .i64 y0, .int .i64 y1, .int .i64 y2, .string r, .int .i64 y4] 23)).cell? ⟨w4.heap.size, 0, none⟩ = some (.int .i64 y0) := by simp
  have k20 := cell_regrown e0
  have e1 : (w4.alloc (.cells #[.int .i64 y0, .int .i64 y1, .int .i64 y2, .string r, .int .i64 y4] 23)).cell? ⟨w4.heap.size, 1, none⟩ = some (.int .i64 y1) := by simp
  have k21 := cell_regrown e1
  have e2 : (w4.alloc (.cells #[.int .i64 y0, .int .i64 y1, .int .i64 y2, .string r, .int .i64 y4] 23)).cell? ⟨w4.heap.size, 2, none⟩ = some (.int .i64 y2) := by simp
  have k22 := cell_regrown e2
  have e3 : (w4.alloc (.cells #[.int .i64 y0, .int .i64 y1, .int .i64 y2, .string r, .int .i64 y4] 23)).cell? ⟨w4.heap.size, 3, none⟩ = some (.string r) := by simp
  have k23 := cell_regrown e3
  have e4 : (w4.alloc (.cells #[.int .i64 y0, .int .i64 y1, .int .i64 y2, .string r, .int .i64 y4] 23)).cell? ⟨w4.heap.size, 4, none⟩ = some (.int .i64 y4) := by simp
  have k24 := cell_regrown e4
  have HB5 : Hid (Bel w (w4.alloc (.cells #[.int .i64 y0, .int .i64 y1, .int .i64 y2, .string r, .int .i64 y4] 23))) := HB4.out.trans bz4
  clear bz4 HB4 c0 c1 c2 c3 c4 d0 d1 d2 d3 d4 f0 f1 f2 f3 f4 g0 g1 g2 g3 g4 e0 e1 e2 e3 e4
  go_wp2_with fail
  generalize w4.alloc (.cells #[.int .i64 y0, .int .i64 y1, .int .i64 y2, .string r, .int .i64 y4] 23) = W at *
  refine wp_region_quiet_below (by kernel_rfl) (by kernel_rfl) ?_
  repeat (quiet_step (first
    | (go_at_call 12; with_reducible exact Calls.regrown_of ((num_ok _ _).mono fun _ _ k => ⟨k.1, k.2 ▸ Below.refl _ _⟩))
    | (go_at_call 13; with_reducible exact Calls.regrown_of (Q5.out _))
    | (go_at_call 14; with_reducible exact Calls.regrown_of (Q6.out _))
    | (go_at_call 15; with_reducible exact Calls.regrown_of (awake_true _))))
  refine wpQuiet_nil ?_
  intro _ hw'
  obtain ⟨⟨dq, osq⟩, hw''⟩ := hw'
  subst hw''
  go_wp2
  go_ret
  exact ⟨rfl, HB5.out.trans (below_regrown W dq osq)⟩

end Go.Proofs.Ytckhehiaoodkoaa.Coder
