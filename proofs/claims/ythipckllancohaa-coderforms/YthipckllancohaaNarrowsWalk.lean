/-
  The walk of CoderNarrows: it answers true for every coder and int. Condition: the text is no longer than an int can tell.
-/
import Derived.Test.YthipckllancohaaKAwake
namespace Go.Proofs.Ythipckllancohaa.Coder
open Go.RowKit Go.Proofs.Ythipckllancohaa.Num
set_option linter.unusedVariables false

theorem codeBit_two (l h bit p : Int) (s : ByteArray) : codeBit l h bit p s = errV ∨ ∃ (u v : Int) (bs : ByteArray), codeBit l h bit p s = .tuple #[.agg #[.int .i64 u, .int .i64 v, .string (s ++ bs)], .int .i64 0] ∧ Between u v ∧ bs.size ≤ 4 ∧ s.size + bs.size ≤ 65536 := by
  unfold codeBit
  split
  · rename_i hk
    obtain ⟨hm, hb, hp⟩ := hk
    have m := of_decide_eq_true hm
    have c := of_decide_eq_true hp
    have n := narrow_in m.1 bit p c.1 c.2
    obtain ⟨f1, f2⟩ := settle_facts n.1 n.2.1 n.2.2
    unfold bitAns
    split
    · rename_i hz
      refine .inr ⟨_, _, _, rfl, f2, ?_, hz⟩
      show (settle 5 (narrow l h bit p).1 (narrow l h bit p).2).1.toArray.size ≤ 4
      simpa using f1
    · exact .inl rfl
  · exact .inl rfl

theorem chval (p : Int) (y : Nat) (hy : p % 18446744073709551616 % 4095 = (y : Int)) : wrap64 ((IntKind.u64.wrap p).tmod 4095) = (y : Int) := by
  have e : IntKind.u64.wrap p = p % 18446744073709551616 := by simp [IntKind.wrap, IntKind.bits, IntKind.signed]
  rw [e, Int.tmod_eq_emod_of_nonneg (by omega), hy, wrap64]
  omega

set_option maxHeartbeats 2000000 in
theorem narrows_e (l h : Int) (s : ByteArray) (p : Int) (hs : s.size ≤ maxLen) (y : Nat) (hy : p % 18446744073709551616 % 4095 = (y : Int)) (hy2 : y < 4095)
    (ha : codeBit l h 1 (1 + y) s = errV) (w : World) :
    Calls Try.prog 5 #[.agg #[.int .i64 l, .int .i64 h, .string s], .int .i64 p] w fun e w' => e = .returned (.bool true) ∧ Bel w w' := by
  have q1 := bit_ok l h 1 (1 + y) s hs
  have q0 := bit_ok l h 0 (1 + y) s hs
  obtain ⟨x0, y0, z0, n0, hc⟩ := codeBit_form l h 0 (1 + y) s
  rw [hc] at q0
  rw [ha, errV] at q1
  have hyv := chval p y hy
  clear hy hc ha
  have Q1 : Hid (∀ w, Calls Try.prog 9 #[.agg #[.int .i64 l, .int .i64 h, .string s], .int .i64 1, .int .i64 (1 + y)] w fun e w' => e = .returned (.tuple #[.agg #[.int .i64 0, .int .i64 0, .string ⟨#[]⟩], .int .i64 400]) ∧ Bel w w') := q1
  have Q0 : Hid (∀ w, Calls Try.prog 9 #[.agg #[.int .i64 l, .int .i64 h, .string s], .int .i64 0, .int .i64 (1 + y)] w fun e w' => e = .returned (.tuple #[.agg #[.int .i64 x0, .int .i64 y0, .string z0], .int .i64 n0]) ∧ Bel w w') := q0
  clear q1 q0
  go_enter Try.func5, Try.ntmps5
  go_wp2_with fail
  refine (awake_true _).mono ?_
  rintro e w1 ⟨rfl, b1⟩
  have c0 : w1.cell? ⟨w.heap.size, 0, none⟩ = some (.int .i64 l) := b1.keep (by simp)
  have c1 : w1.cell? ⟨w.heap.size, 1, none⟩ = some (.int .i64 h) := b1.keep (by simp)
  have c2 : w1.cell? ⟨w.heap.size, 2, none⟩ = some (.string s) := b1.keep (by simp)
  have HB1 : Hid (Bel w w1) := Bel.trans ((Bel.refl _).alloc _) b1
  clear b1
  go_wp2_with fail
  refine (Q1.out _).mono ?_
  rintro e w2 ⟨rfl, b2⟩
  replace c0 := b2.keep c0
  replace c1 := b2.keep c1
  replace c2 := b2.keep c2
  have l2 : w.heap.size < w2.heap.size := block_lt_of_cell c0
  have HB2 : Hid (Bel w w2) := HB1.out.trans b2
  clear b2 HB1
  go_wp2_with fail
  refine (Q0.out _).mono ?_
  rintro e w3 ⟨rfl, b3⟩
  have HB3 : Hid (Bel w w3) := (HB2.out.alloc _).trans b3
  clear b3 HB2 c0 c1 c2 l2
  go_wp2
  go_ret
  exact ⟨rfl, HB3.out.alloc _⟩

set_option maxHeartbeats 2000000 in
theorem narrows_f (l h : Int) (s : ByteArray) (p : Int) (hs : s.size ≤ maxLen) (y : Nat) (hy : p % 18446744073709551616 % 4095 = (y : Int)) (hy2 : y < 4095) (u v : Int) (bs : ByteArray)
    (ha : codeBit l h 1 (1 + y) s = .tuple #[.agg #[.int .i64 u, .int .i64 v, .string (s ++ bs)], .int .i64 0]) (hb : codeBit l h 0 (1 + y) s = errV) (w : World) :
    Calls Try.prog 5 #[.agg #[.int .i64 l, .int .i64 h, .string s], .int .i64 p] w fun e w' => e = .returned (.bool true) ∧ Bel w w' := by
  have q1 := bit_ok l h 1 (1 + y) s hs
  have q0 := bit_ok l h 0 (1 + y) s hs
  rw [hb, errV] at q0
  rw [ha] at q1
  have hyv := chval p y hy
  clear hy hb ha
  generalize s ++ bs = t at *
  have Q1 : Hid (∀ w, Calls Try.prog 9 #[.agg #[.int .i64 l, .int .i64 h, .string s], .int .i64 1, .int .i64 (1 + y)] w fun e w' => e = .returned (.tuple #[.agg #[.int .i64 u, .int .i64 v, .string t], .int .i64 0]) ∧ Bel w w') := q1
  have Q0 : Hid (∀ w, Calls Try.prog 9 #[.agg #[.int .i64 l, .int .i64 h, .string s], .int .i64 0, .int .i64 (1 + y)] w fun e w' => e = .returned (.tuple #[.agg #[.int .i64 0, .int .i64 0, .string ⟨#[]⟩], .int .i64 400]) ∧ Bel w w') := q0
  clear q1 q0
  go_enter Try.func5, Try.ntmps5
  go_wp2_with fail
  refine (awake_true _).mono ?_
  rintro e w1 ⟨rfl, b1⟩
  have c0 : w1.cell? ⟨w.heap.size, 0, none⟩ = some (.int .i64 l) := b1.keep (by simp)
  have c1 : w1.cell? ⟨w.heap.size, 1, none⟩ = some (.int .i64 h) := b1.keep (by simp)
  have c2 : w1.cell? ⟨w.heap.size, 2, none⟩ = some (.string s) := b1.keep (by simp)
  have HB1 : Hid (Bel w w1) := Bel.trans ((Bel.refl _).alloc _) b1
  clear b1
  go_wp2_with fail
  refine (Q1.out _).mono ?_
  rintro e w2 ⟨rfl, b2⟩
  replace c0 := b2.keep c0
  replace c1 := b2.keep c1
  replace c2 := b2.keep c2
  have l2 : w.heap.size < w2.heap.size := block_lt_of_cell c0
  have HB2 : Hid (Bel w w2) := HB1.out.trans b2
  clear b2 HB1
  go_wp2_with fail
  refine (Q0.out _).mono ?_
  rintro e w3 ⟨rfl, b3⟩
  have HB3 : Hid (Bel w w3) := (HB2.out.alloc _).trans b3
  clear b3 HB2 c0 c1 c2 l2
  go_wp2
  go_ret
  exact ⟨rfl, HB3.out.alloc _⟩

set_option maxHeartbeats 4000000 in
theorem narrows_g (l h : Int) (s : ByteArray) (p : Int) (hs : s.size ≤ maxLen) (y : Nat) (hy : p % 18446744073709551616 % 4095 = (y : Int)) (hy2 : y < 4095) (u v : Int) (bs : ByteArray) (u' v' : Int) (bs' : ByteArray)
    (ha : codeBit l h 1 (1 + y) s = .tuple #[.agg #[.int .i64 u, .int .i64 v, .string (s ++ bs)], .int .i64 0]) (hab : Between u v) (ha4 : bs.size ≤ 4) (haz : s.size + bs.size ≤ 65536)
    (hb : codeBit l h 0 (1 + y) s = .tuple #[.agg #[.int .i64 u', .int .i64 v', .string (s ++ bs')], .int .i64 0]) (hbb : Between u' v') (hb4 : bs'.size ≤ 4) (hbz : s.size + bs'.size ≤ 65536) (w : World) :
    Calls Try.prog 5 #[.agg #[.int .i64 l, .int .i64 h, .string s], .int .i64 p] w fun e w' => e = .returned (.bool true) ∧ Bel w w' := by
  have q1 := bit_ok l h 1 (1 + y) s hs
  have q0 := bit_ok l h 0 (1 + y) s hs
  have q2 := codeBit_ok l h 1 (1 + y) s hs
  rw [hb] at q0
  rw [ha] at q1 q2
  have hyv := chval p y hy
  have t1 : (s ++ bs).size = s.size + bs.size := ByteArray.size_append
  have t2 : (s ++ bs').size = s.size + bs'.size := ByteArray.size_append
  have q3 := may_ok u v (s ++ bs) (by unfold maxLen; omega)
  rw [show mayB u v (s ++ bs) = true from decide_eq_true ⟨hab, by omega⟩] at q3
  have q4 := may_ok u' v' (s ++ bs') (by unfold maxLen; omega)
  rw [show mayB u' v' (s ++ bs') = true from decide_eq_true ⟨hbb, by omega⟩] at q4
  have pre : ∀ b : ByteArray, (s ++ b).extract 0 s.size = s := fun b => by
    apply ByteArray.ext
    rw [ByteArray.data_extract, ByteArray.data_append]
    show (s.data ++ b.data).extract 0 s.data.size = s.data
    rw [Array.extract_append_left, Array.extract_size]
  have x1 := pre bs
  have x2 := pre bs'
  clear hy hb ha hab hbb pre
  generalize s ++ bs = t at *
  generalize s ++ bs' = t' at *
  generalize bs.size = i at *
  generalize bs'.size = i' at *
  have Q1 : Hid (∀ w, Calls Try.prog 9 #[.agg #[.int .i64 l, .int .i64 h, .string s], .int .i64 1, .int .i64 (1 + y)] w fun e w' => e = .returned (.tuple #[.agg #[.int .i64 u, .int .i64 v, .string t], .int .i64 0]) ∧ Bel w w') := q1
  have Q0 : Hid (∀ w, Calls Try.prog 9 #[.agg #[.int .i64 l, .int .i64 h, .string s], .int .i64 0, .int .i64 (1 + y)] w fun e w' => e = .returned (.tuple #[.agg #[.int .i64 u', .int .i64 v', .string t'], .int .i64 0]) ∧ Bel w w') := q0
  have Q2 : Hid (∀ w, Calls Try.prog 10 #[.agg #[.int .i64 l, .int .i64 h, .string s], .int .i64 1, .int .i64 (1 + y)] w fun e w' => e = .returned (.tuple #[.agg #[.int .i64 u, .int .i64 v, .string t], .int .i64 0]) ∧ Bel w w') := q2
  have Q3 : Hid (∀ w, Calls Try.prog 14 #[.agg #[.int .i64 u, .int .i64 v, .string t]] w fun e w' => e = .returned (.bool true) ∧ Bel w w') := q3
  have Q4 : Hid (∀ w, Calls Try.prog 14 #[.agg #[.int .i64 u', .int .i64 v', .string t']] w fun e w' => e = .returned (.bool true) ∧ Bel w w') := q4
  clear q1 q0 q2 q3 q4
  have d1 : decide ((s.size : Int) + (i : Int) < (s.size : Int)) = false := by simp; omega
  have d2 : decide ((s.size : Int) + (i' : Int) < (s.size : Int)) = false := by simp; omega
  have e1 : (s.size : Int) + (i : Int) - (s.size : Int) = (i : Int) := by omega
  have e2 : (s.size : Int) + (i' : Int) - (s.size : Int) = (i' : Int) := by omega
  have d3 : decide ((i : Int) ≤ 4) = true := by simp; omega
  have d4 : decide ((i' : Int) ≤ 4) = true := by simp; omega
  go_enter Try.func5, Try.ntmps5
  go_wp2_with fail
  refine (awake_true _).mono ?_
  rintro e w1 ⟨rfl, b1⟩
  have c0 : w1.cell? ⟨w.heap.size, 0, none⟩ = some (.int .i64 l) := b1.keep (by simp)
  have c1 : w1.cell? ⟨w.heap.size, 1, none⟩ = some (.int .i64 h) := b1.keep (by simp)
  have c2 : w1.cell? ⟨w.heap.size, 2, none⟩ = some (.string s) := b1.keep (by simp)
  have HB1 : Hid (Bel w w1) := Bel.trans ((Bel.refl _).alloc _) b1
  clear b1
  go_wp2_with fail
  refine (Q1.out _).mono ?_
  rintro e w2 ⟨rfl, b2⟩
  replace c0 := b2.keep c0
  replace c1 := b2.keep c1
  replace c2 := b2.keep c2
  have l2 : w.heap.size < w2.heap.size := block_lt_of_cell c0
  have HB2 : Hid (Bel w w2) := HB1.out.trans b2
  clear b2 HB1
  go_wp2_with fail
  refine (Q0.out _).mono ?_
  rintro e w3 ⟨rfl, b3⟩
  have a0 : w3.cell? ⟨w2.heap.size, 0, none⟩ = some (.int .i64 u) := b3.keep (by simp)
  have a1 : w3.cell? ⟨w2.heap.size, 1, none⟩ = some (.int .i64 v) := b3.keep (by simp)
  have a2 : w3.cell? ⟨w2.heap.size, 2, none⟩ = some (.string t) := b3.keep (by simp)
  have bb := Bel.trans ((Bel.refl w2).alloc (.cells #[.int .i64 u, .int .i64 v, .string t] 23)) b3
  replace c0 := bb.keep c0
  replace c1 := bb.keep c1
  replace c2 := bb.keep c2
  have l3 : w.heap.size < w3.heap.size := block_lt_of_cell c0
  have l4 : w2.heap.size < w3.heap.size := block_lt_of_cell a0
  have HB3 : Hid (Bel w w3) := HB2.out.trans bb
  clear b3 bb HB2 l2
  go_wp2_with (go_at_call 13; go_in)
  refine (Q2.out _).mono ?_
  rintro e w4 ⟨rfl, b4⟩
  have g0 : w4.cell? ⟨w3.heap.size, 0, none⟩ = some (.int .i64 u') := b4.keep (by simp)
  have g1 : w4.cell? ⟨w3.heap.size, 1, none⟩ = some (.int .i64 v') := b4.keep (by simp)
  have g2 : w4.cell? ⟨w3.heap.size, 2, none⟩ = some (.string t') := b4.keep (by simp)
  have bb := Bel.trans ((Bel.refl w3).alloc (.cells #[.int .i64 u', .int .i64 v', .string t'] 23)) b4
  replace c0 := bb.keep c0
  replace c1 := bb.keep c1
  replace c2 := bb.keep c2
  replace a0 := bb.keep a0
  replace a1 := bb.keep a1
  replace a2 := bb.keep a2
  have l5 : w.heap.size < w4.heap.size := block_lt_of_cell c0
  have l6 : w2.heap.size < w4.heap.size := block_lt_of_cell a0
  have l7 : w3.heap.size < w4.heap.size := block_lt_of_cell g0
  have HB4 : Hid (Bel w w4) := HB3.out.trans bb
  clear b4 bb HB3 l3 l4
  go_wp2_with (go_at_call 13; go_in)
  refine (Q3.out _).mono ?_
  rintro e w5 ⟨rfl, b5⟩
  have bb := Bel.trans ((Bel.refl w4).alloc (.cells #[.int .i64 u, .int .i64 v, .string t] 23)) b5
  replace c2 := bb.keep c2
  replace a2 := bb.keep a2
  replace g0 := bb.keep g0
  replace g1 := bb.keep g1
  replace g2 := bb.keep g2
  have HB5 : Hid (Bel w w5) := HB4.out.trans bb
  clear b5 bb HB4 l5 l6 l7 c0 c1 a0 a1
  go_wp2_with fail
  refine (Q4.out _).mono ?_
  rintro e w6 ⟨rfl, b6⟩
  replace c2 := b6.keep c2
  replace a2 := b6.keep a2
  replace g2 := b6.keep g2
  have HB6 : Hid (Bel w w6) := HB5.out.trans b6
  clear b6 HB5 g0 g1
  go_wp2_with fail
  go_quiet (fail)
  go_wp2_with fail
  go_quiet (fail)
  go_wp2
  go_ret
  exact ⟨rfl, HB6.out.trans ⟨rfl, rfl, rfl, Nat.le_refl _, fun _ _ => rfl⟩⟩

theorem narrows_walk (l h : Int) (s : ByteArray) (p : Int) (hs : s.size ≤ maxLen) (w : World) :
    Calls Try.prog 5 #[.agg #[.int .i64 l, .int .i64 h, .string s], .int .i64 p] w fun e w' => e = .returned (.bool true) ∧ Bel w w' := by
  have y1 := Int.emod_lt_of_pos (p % 18446744073709551616) (show (0 : Int) < 4095 by omega)
  have y0 := Int.emod_nonneg (p % 18446744073709551616) (show (4095 : Int) ≠ 0 by omega)
  obtain ⟨y, hy⟩ : ∃ y : Nat, p % 18446744073709551616 % 4095 = (y : Int) := ⟨(p % 18446744073709551616 % 4095).toNat, by omega⟩
  rcases codeBit_two l h 1 (1 + y) s with ha | ⟨u, v, bs, ha, a1, a2, a3⟩
  · exact narrows_e l h s p hs y hy (by omega) ha w
  · rcases codeBit_two l h 0 (1 + y) s with hb | ⟨u', v', bs', hb, b1, b2, b3⟩
    · exact narrows_f l h s p hs y hy (by omega) u v bs ha hb w
    · exact narrows_g l h s p hs y hy (by omega) u v bs u' v' bs' ha a1 a2 a3 hb b1 b2 b3 w

end Go.Proofs.Ythipckllancohaa.Coder
