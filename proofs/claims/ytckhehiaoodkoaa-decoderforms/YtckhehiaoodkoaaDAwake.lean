/-
  The contract of the check that every statement of layer 5 begins with: it answers true, whatever the world. No condition.
-/
import Derived.Test.YtckhehiaoodkoaaDRefDec
namespace Go.Proofs.Ytckhehiaoodkoaa.Coder
open Go.RowKit Go.Proofs.Ytckhehiaoodkoaa.Num
set_option linter.unusedVariables false

theorem num_ok (n : Int) (w : World) : Calls Try.prog 12 #[.int .i64 n] w fun e w' => e = .returned (.int .i64 n) ∧ w' = w := by
  go_enter Try.func12, Try.ntmps12
  go_wp2
  go_ret
  exact ⟨rfl, rfl⟩

theorem new_d (w : World) : Calls Try.prog 10 #[.string ⟨#[128, 0, 0, 0]⟩] w fun e w' => e = .returned (.tuple #[.agg #[.int .i64 0, .int .i64 4294967295, .int .i64 2147483648, .string (⟨#[128, 0, 0, 0]⟩), .int .i64 4], .int .i64 0]) ∧ Bel w w' := by
  have e : newAns ⟨#[128, 0, 0, 0]⟩ = .tuple #[.agg #[.int .i64 0, .int .i64 4294967295, .int .i64 2147483648, .string (⟨#[128, 0, 0, 0]⟩), .int .i64 4], .int .i64 0] := by kernel_rfl
  rw [← e]
  exact new_ok _ (by decide) w
theorem bit_a (w : World) : Calls Try.prog 8 #[.agg #[.int .i64 0, .int .i64 4294967295, .int .i64 2147483648, .string (⟨#[128, 0, 0, 0]⟩), .int .i64 4], .int .i64 2048] w fun e w' => e = .returned (.tuple #[.agg #[.int .i64 2147483648, .int .i64 4294967295, .int .i64 2147483648, .string (⟨#[128, 0, 0, 0]⟩), .int .i64 4], .int .i64 0, .int .i64 0]) ∧ Bel w w' := by
  have e : decBit 0 4294967295 2147483648 ⟨#[128, 0, 0, 0]⟩ 4 2048 = .tuple #[.agg #[.int .i64 2147483648, .int .i64 4294967295, .int .i64 2147483648, .string (⟨#[128, 0, 0, 0]⟩), .int .i64 4], .int .i64 0, .int .i64 0] := by kernel_rfl
  rw [← e]
  exact bit_ok _ _ _ _ _ _ (by decide) w
theorem bit_b (w : World) : Calls Try.prog 8 #[.agg #[.int .i64 0, .int .i64 4294967295, .int .i64 2147483648, .string (⟨#[128, 0, 0, 0]⟩), .int .i64 4], .int .i64 2049] w fun e w' => e = .returned (.tuple #[.agg #[.int .i64 0, .int .i64 2148532223, .int .i64 2147483648, .string (⟨#[128, 0, 0, 0]⟩), .int .i64 4], .int .i64 1, .int .i64 0]) ∧ Bel w w' := by
  have e : decBit 0 4294967295 2147483648 ⟨#[128, 0, 0, 0]⟩ 4 2049 = .tuple #[.agg #[.int .i64 0, .int .i64 2148532223, .int .i64 2147483648, .string (⟨#[128, 0, 0, 0]⟩), .int .i64 4], .int .i64 1, .int .i64 0] := by kernel_rfl
  rw [← e]
  exact bit_ok _ _ _ _ _ _ (by decide) w
theorem bit_z (w : World) : Calls Try.prog 8 #[.agg #[.int .i64 0, .int .i64 0, .int .i64 0, .string (⟨#[]⟩), .int .i64 0], .int .i64 2048] w fun e w' => e = .returned (.tuple #[.agg #[.int .i64 0, .int .i64 0, .int .i64 0, .string (⟨#[]⟩), .int .i64 0], .int .i64 0, .int .i64 500]) ∧ Bel w w' := by
  have e : decBit 0 0 0 ⟨#[]⟩ 0 2048 = .tuple #[.agg #[.int .i64 0, .int .i64 0, .int .i64 0, .string (⟨#[]⟩), .int .i64 0], .int .i64 0, .int .i64 500] := by kernel_rfl
  rw [← e]
  exact bit_ok _ _ _ _ _ _ (by decide) w
theorem bit_p (w : World) : Calls Try.prog 8 #[.agg #[.int .i64 0, .int .i64 4294967295, .int .i64 2147483648, .string (⟨#[128, 0, 0, 0]⟩), .int .i64 4], .int .i64 4096] w fun e w' => e = .returned (.tuple #[.agg #[.int .i64 0, .int .i64 0, .int .i64 0, .string (⟨#[]⟩), .int .i64 0], .int .i64 0, .int .i64 500]) ∧ Bel w w' := by
  have e : decBit 0 4294967295 2147483648 ⟨#[128, 0, 0, 0]⟩ 4 4096 = .tuple #[.agg #[.int .i64 0, .int .i64 0, .int .i64 0, .string (⟨#[]⟩), .int .i64 0], .int .i64 0, .int .i64 500] := by kernel_rfl
  rw [← e]
  exact bit_ok _ _ _ _ _ _ (by decide) w
theorem may_d (w : World) : Calls Try.prog 13 #[.agg #[.int .i64 0, .int .i64 4294967295, .int .i64 2147483648, .string (⟨#[128, 0, 0, 0]⟩), .int .i64 4]] w fun e w' => e = .returned (.bool true) ∧ Bel w w' := by
  have e : dmayB 0 4294967295 2147483648 ⟨#[128, 0, 0, 0]⟩ 4 = true := by kernel_rfl
  rw [← e]
  exact may_ok _ _ _ _ _ (by decide) w

set_option maxHeartbeats 4000000 in
theorem awake_true (w : World) : Calls Try.prog 15 #[] w fun e w' => e = .returned (.bool true) ∧ Bel w w' := by
  go_enter Try.func15, Try.ntmps15
  go_wp2_with fail
  refine (new_d _).mono ?_
  rintro e w1 ⟨rfl, b1⟩
  go_wp2_with fail
  refine (bit_a _).mono ?_
  rintro e w2 ⟨rfl, b2⟩
  have c0 : w2.cell? ⟨w1.heap.size, 0, none⟩ = some (.int .i64 0) := b2.keep (by simp)
  have c1 : w2.cell? ⟨w1.heap.size, 1, none⟩ = some (.int .i64 4294967295) := b2.keep (by simp)
  have c2 : w2.cell? ⟨w1.heap.size, 2, none⟩ = some (.int .i64 2147483648) := b2.keep (by simp)
  have c3 : w2.cell? ⟨w1.heap.size, 3, none⟩ = some (.string ⟨#[128, 0, 0, 0]⟩) := b2.keep (by simp)
  have c4 : w2.cell? ⟨w1.heap.size, 4, none⟩ = some (.int .i64 4) := b2.keep (by simp)
  have l1 : w1.heap.size < w2.heap.size := block_lt_of_cell c0
  have HB2 : Hid (Bel w w2) := (b1.alloc _).trans b2
  clear b1 b2
  go_wp2_with fail
  refine (bit_b _).mono ?_
  rintro e w3 ⟨rfl, b3⟩
  have d0 : w3.cell? ⟨w2.heap.size, 0, none⟩ = some (.int .i64 2147483648) := b3.keep (by simp)
  have bb := Bel.trans ((Bel.refl w2).alloc (.cells #[.int .i64 2147483648, .int .i64 4294967295, .int .i64 2147483648, .string (⟨#[128, 0, 0, 0]⟩), .int .i64 4] 23)) b3
  replace c0 := bb.keep c0
  replace c1 := bb.keep c1
  replace c2 := bb.keep c2
  replace c3 := bb.keep c3
  replace c4 := bb.keep c4
  have l2 : w2.heap.size < w3.heap.size := block_lt_of_cell d0
  have HB3 : Hid (Bel w w3) := HB2.out.trans bb
  clear b3 bb HB2
  go_wp2_with fail
  refine (bit_z _).mono ?_
  rintro e w4 ⟨rfl, b4⟩
  have f0 : w4.cell? ⟨w3.heap.size, 0, none⟩ = some (.int .i64 0) := b4.keep (by simp)
  have bb := Bel.trans ((Bel.refl w3).alloc (.cells #[.int .i64 0, .int .i64 2148532223, .int .i64 2147483648, .string (⟨#[128, 0, 0, 0]⟩), .int .i64 4] 23)) b4
  replace d0 := bb.keep d0
  replace c0 := bb.keep c0
  replace c1 := bb.keep c1
  replace c2 := bb.keep c2
  replace c3 := bb.keep c3
  replace c4 := bb.keep c4
  have l3 : w1.heap.size < w4.heap.size := block_lt_of_cell c0
  have l4 : w2.heap.size < w4.heap.size := block_lt_of_cell d0
  have l5 : w3.heap.size < w4.heap.size := block_lt_of_cell f0
  have HB4 : Hid (Bel w w4) := HB3.out.trans bb
  clear b4 bb HB3
  go_wp2_with fail
  refine (bit_p _).mono ?_
  rintro e w5 ⟨rfl, b5⟩
  have bb := Bel.trans ((Bel.refl w4).alloc (.cells #[.int .i64 0, .int .i64 0, .int .i64 0, .string (⟨#[]⟩), .int .i64 0] 23)) b5
  replace d0 := bb.keep d0
  replace f0 := bb.keep f0
  replace c0 := bb.keep c0
  replace c1 := bb.keep c1
  replace c2 := bb.keep c2
  replace c3 := bb.keep c3
  replace c4 := bb.keep c4
  have HB5 : Hid (Bel w w5) := HB4.out.trans bb
  clear b5 bb HB4 l1 l2 l3 l4 l5
  have l6 : w1.heap.size < w5.heap.size := block_lt_of_cell c0
  have l7 : w2.heap.size < w5.heap.size := block_lt_of_cell d0
  have l8 : w3.heap.size < w5.heap.size := block_lt_of_cell f0
  go_wp2_with (go_at_call 12; go_in)
  refine (may_d _).mono ?_
  rintro e w8 ⟨rfl, b8⟩
  have HB8 : Hid (Bel w w8) := (HB5.out.alloc _).trans b8
  clear b8
  go_wp2
  go_ret
  exact ⟨rfl, HB8.out⟩

end Go.Proofs.Ytckhehiaoodkoaa.Coder
