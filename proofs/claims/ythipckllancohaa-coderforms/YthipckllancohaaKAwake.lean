/-
  The contract of the check that every statement of layer 4 begins with: it answers true, whatever the world. No condition.
-/
import Derived.Test.YthipckllancohaaKRefBit
namespace Go.Proofs.Ythipckllancohaa.Coder
open Go.RowKit Go.Proofs.Ythipckllancohaa.Num
set_option linter.unusedVariables false

/-- What Bit answers has this form. -/
theorem codeBit_form (l h bit p : Int) (s : ByteArray) : ∃ x y z n, codeBit l h bit p s = .tuple #[.agg #[.int .i64 x, .int .i64 y, .string z], .int .i64 n] := by
  unfold codeBit
  split
  · unfold bitAns
    split
    · exact ⟨_, _, _, _, rfl⟩
    · exact ⟨_, _, _, _, rfl⟩
  · exact ⟨_, _, _, _, rfl⟩

theorem endAns_form (l h : Int) (s : ByteArray) : ∃ z n, endAns l h s = .tuple #[.string z, .int .i64 n] := by
  unfold endAns
  split
  · exact ⟨_, _, rfl⟩
  · exact ⟨_, _, rfl⟩

theorem num_ok (n : Int) (w : World) : Calls Try.prog 13 #[.int .i64 n] w fun e w' => e = .returned (.int .i64 n) ∧ w' = w := by
  go_enter Try.func13, Try.ntmps13
  go_wp2
  go_ret
  exact ⟨rfl, rfl⟩

theorem bit_a (w : World) : Calls Try.prog 9 #[.agg #[.int .i64 0, .int .i64 4294967295, .string ⟨#[]⟩], .int .i64 1, .int .i64 2048] w fun e w' => e = .returned (.tuple #[.agg #[.int .i64 0, .int .i64 2147483647, .string ⟨#[]⟩], .int .i64 0]) ∧ Bel w w' := by
  have e : codeBit 0 4294967295 1 2048 ⟨#[]⟩ = .tuple #[.agg #[.int .i64 0, .int .i64 2147483647, .string ⟨#[]⟩], .int .i64 0] := by kernel_rfl
  rw [← e]
  exact bit_ok _ _ _ _ _ (by decide) w
theorem bit_b (w : World) : Calls Try.prog 9 #[.agg #[.int .i64 0, .int .i64 4294967295, .string ⟨#[]⟩], .int .i64 0, .int .i64 4095] w fun e w' => e = .returned (.tuple #[.agg #[.int .i64 4026531840, .int .i64 4294967295, .string ⟨#[255]⟩], .int .i64 0]) ∧ Bel w w' := by
  have e : codeBit 0 4294967295 0 4095 ⟨#[]⟩ = .tuple #[.agg #[.int .i64 4026531840, .int .i64 4294967295, .string ⟨#[255]⟩], .int .i64 0] := by kernel_rfl
  rw [← e]
  exact bit_ok _ _ _ _ _ (by decide) w
theorem bit_h (w : World) : Calls Try.prog 9 #[.agg #[.int .i64 0, .int .i64 4294967295, .string ⟨#[]⟩], .int .i64 2, .int .i64 2048] w fun e w' => e = .returned (.tuple #[.agg #[.int .i64 0, .int .i64 0, .string ⟨#[]⟩], .int .i64 400]) ∧ Bel w w' := by
  have e : codeBit 0 4294967295 2 2048 ⟨#[]⟩ = .tuple #[.agg #[.int .i64 0, .int .i64 0, .string ⟨#[]⟩], .int .i64 400] := by kernel_rfl
  rw [← e]
  exact bit_ok _ _ _ _ _ (by decide) w
theorem bit_i (w : World) : Calls Try.prog 9 #[.agg #[.int .i64 0, .int .i64 4294967295, .string ⟨#[]⟩], .int .i64 1, .int .i64 0] w fun e w' => e = .returned (.tuple #[.agg #[.int .i64 0, .int .i64 0, .string ⟨#[]⟩], .int .i64 400]) ∧ Bel w w' := by
  have e : codeBit 0 4294967295 1 0 ⟨#[]⟩ = .tuple #[.agg #[.int .i64 0, .int .i64 0, .string ⟨#[]⟩], .int .i64 400] := by kernel_rfl
  rw [← e]
  exact bit_ok _ _ _ _ _ (by decide) w
theorem end_b (w : World) : Calls Try.prog 11 #[.agg #[.int .i64 4026531840, .int .i64 4294967295, .string ⟨#[255]⟩]] w fun e w' => e = .returned (.tuple #[.string ⟨#[255, 240, 0, 0, 0]⟩, .int .i64 0]) ∧ Bel w w' := by
  have e : endAns 4026531840 4294967295 ⟨#[255]⟩ = .tuple #[.string ⟨#[255, 240, 0, 0, 0]⟩, .int .i64 0] := by kernel_rfl
  rw [← e]
  exact end_ok _ _ _ (by decide) w
theorem end_j (w : World) : Calls Try.prog 11 #[.agg #[.int .i64 0, .int .i64 0, .string ⟨#[]⟩]] w fun e w' => e = .returned (.tuple #[.string ⟨#[]⟩, .int .i64 400]) ∧ Bel w w' := by
  have e : endAns 0 0 ⟨#[]⟩ = .tuple #[.string ⟨#[]⟩, .int .i64 400] := by kernel_rfl
  rw [← e]
  exact end_ok _ _ _ (by decide) w
theorem may_c (w : World) : Calls Try.prog 14 #[.agg #[.int .i64 0, .int .i64 4294967295, .string ⟨#[]⟩]] w fun e w' => e = .returned (.bool true) ∧ Bel w w' := by
  have e : mayB 0 4294967295 ⟨#[]⟩ = true := by kernel_rfl
  rw [← e]
  exact may_ok _ _ _ (by decide) w

set_option maxHeartbeats 2000000 in
theorem awake_true (w : World) : Calls Try.prog 18 #[] w fun e w' => e = .returned (.bool true) ∧ Bel w w' := by
  go_enter Try.func18, Try.ntmps18
  go_wp2_with fail
  refine (new_ok _).mono ?_
  rintro e w1 ⟨rfl, b1⟩
  go_wp2_with fail
  refine (bit_a _).mono ?_
  rintro e w2 ⟨rfl, b2⟩
  have c0 : w2.cell? ⟨w1.heap.size, 0, none⟩ = some (.int .i64 0) := b2.keep (by simp)
  have c1 : w2.cell? ⟨w1.heap.size, 1, none⟩ = some (.int .i64 4294967295) := b2.keep (by simp)
  have c2 : w2.cell? ⟨w1.heap.size, 2, none⟩ = some (.string ⟨#[]⟩) := b2.keep (by simp)
  have l1 : w1.heap.size < w2.heap.size := block_lt_of_cell c0
  have HB2 : Hid (Bel w w2) := (b1.alloc _).trans b2
  clear b1 b2
  go_wp2_with fail
  refine (bit_b _).mono ?_
  rintro e w3 ⟨rfl, b3⟩
  have d0 : w3.cell? ⟨w2.heap.size, 0, none⟩ = some (.int .i64 0) := b3.keep (by simp)
  have d1 : w3.cell? ⟨w2.heap.size, 1, none⟩ = some (.int .i64 2147483647) := b3.keep (by simp)
  have d2 : w3.cell? ⟨w2.heap.size, 2, none⟩ = some (.string ⟨#[]⟩) := b3.keep (by simp)
  have bb := Bel.trans ((Bel.refl w2).alloc (.cells #[.int .i64 0, .int .i64 2147483647, .string ⟨#[]⟩] 23)) b3
  replace c0 := bb.keep c0
  replace c1 := bb.keep c1
  replace c2 := bb.keep c2
  have l2 : w2.heap.size < w3.heap.size := block_lt_of_cell d0
  have HB3 : Hid (Bel w w3) := HB2.out.trans bb
  clear b3 bb HB2
  go_wp2_with fail
  refine (end_b _).mono ?_
  rintro e w4 ⟨rfl, b4⟩
  have f0 : w4.cell? ⟨w3.heap.size, 0, none⟩ = some (.int .i64 4026531840) := b4.keep (by simp)
  have bb := Bel.trans ((Bel.refl w3).alloc (.cells #[.int .i64 4026531840, .int .i64 4294967295, .string ⟨#[255]⟩] 23)) b4
  replace c0 := bb.keep c0
  replace c1 := bb.keep c1
  replace c2 := bb.keep c2
  replace d0 := bb.keep d0
  replace d1 := bb.keep d1
  replace d2 := bb.keep d2
  have l3 : w3.heap.size < w4.heap.size := block_lt_of_cell f0
  have HB4 : Hid (Bel w w4) := HB3.out.trans bb
  clear b4 bb HB3
  go_wp2_with fail
  refine (bit_h _).mono ?_
  rintro e w5 ⟨rfl, b5⟩
  replace f0 := b5.keep f0
  replace c0 := b5.keep c0
  replace c1 := b5.keep c1
  replace c2 := b5.keep c2
  replace d0 := b5.keep d0
  replace d1 := b5.keep d1
  replace d2 := b5.keep d2
  have HB5 : Hid (Bel w w5) := HB4.out.trans b5
  clear b5 HB4
  have l4 : w1.heap.size < w5.heap.size := block_lt_of_cell c0
  have l5 : w2.heap.size < w5.heap.size := block_lt_of_cell d0
  have l6 : w3.heap.size < w5.heap.size := block_lt_of_cell f0
  go_wp2_with fail
  refine (bit_i _).mono ?_
  rintro e w6 ⟨rfl, b6⟩
  have bb := Bel.trans ((Bel.refl w5).alloc (.cells #[.int .i64 0, .int .i64 0, .string ⟨#[]⟩] 23)) b6
  replace f0 := bb.keep f0
  replace c0 := bb.keep c0
  replace c1 := bb.keep c1
  replace c2 := bb.keep c2
  replace d0 := bb.keep d0
  replace d1 := bb.keep d1
  replace d2 := bb.keep d2
  have HB6 : Hid (Bel w w6) := HB5.out.trans bb
  clear b6 bb HB5
  go_wp2_with fail
  refine (end_j _).mono ?_
  rintro e w7 ⟨rfl, b7⟩
  have bb := Bel.trans ((Bel.refl w6).alloc (.cells #[.int .i64 0, .int .i64 0, .string ⟨#[]⟩] 23)) b7
  replace f0 := bb.keep f0
  replace c0 := bb.keep c0
  replace c1 := bb.keep c1
  replace c2 := bb.keep c2
  replace d0 := bb.keep d0
  replace d1 := bb.keep d1
  replace d2 := bb.keep d2
  have HB7 : Hid (Bel w w7) := HB6.out.trans bb
  clear b7 bb HB6 l1 l2 l3 l4 l5 l6
  go_wp2_with (go_at_call 13; go_in)
  refine (may_c _).mono ?_
  rintro e w8 ⟨rfl, b8⟩
  have HB8 : Hid (Bel w w8) := HB7.out.trans b8
  clear b8
  go_wp2
  go_ret
  exact ⟨rfl, HB8.out⟩

end Go.Proofs.Ythipckllancohaa.Coder
