/-
  The walk of DecoderForms, a theorem for each way. No condition.
-/
import Derived.Test.YtckhehiaoodkoaaDForms
import Derived.Deep.CutRange
namespace Go.Proofs.Ytckhehiaoodkoaa.Coder
open Go.RowKit Go.Proofs.Ytckhehiaoodkoaa.Num
set_option linter.unusedVariables false
attribute [local go_sem ↓] Go.wp_at_zero Go.wp_at_succ

set_option maxRecDepth 20000 in
set_option maxHeartbeats 2000000 in
theorem forms_4 (n x : Int) (hc : n % 18446744073709551616 % 8 = 4) (d : Nat) (hd : 1 + x % 1024 = (d : Int)) (hd1 : 1 ≤ d) (hd2 : d ≤ 1024) (w : World) :
    Calls Try.prog 5 #[.int .i64 n, .int .i64 x] w fun e w' => e = .returned (.bool true) ∧ Bel w w' := by
  have hcv : (IntKind.u64.wrap n).tmod 8 = 4 := c8val n 4 hc
  have hx := and1023 x
  have hn1 : bits .and .i64 n 1 = 0 := by rw [and1]; omega
  have hx2 : 1 + x % 1024 = (d : Int) := hd
  clear hc hd
  have hmk := mkN (65536 + d) (by omega)
  rw [show (((65536 + d : Nat)) : Int) = 65536 + (d : Int) from by omega] at hmk
  have hcon := cvN (65536 + d)
  have z1 := zerosOf_size (65536 + d)
  generalize zerosOf (65536 + d) = za at *
  generalize Obj.cells (madeCells #[Value.int .u8 0] (65536 + d)) 5 = O1 at *
  have hbad : dmayB 0 4294967295 1633837924 ⟨#[97, 98, 99, 100, 101, 102]⟩ (4 - (d : Int)) = false := decide_eq_false fun ⟨⟨a1, a2, a3⟩, a4, a5, a6, a7, a8⟩ => by omega
  have qb := bit_refused 0 4294967295 1633837924 9 ⟨#[97, 98, 99, 100, 101, 102]⟩ (4 - (d : Int)) (by decide) hbad
  have qm := may_ok 0 4294967295 1633837924 (4 - (d : Int)) ⟨#[97, 98, 99, 100, 101, 102]⟩ (by decide)
  rw [hbad] at qm
  have QB : Hid (∀ w, Calls Try.prog 8 #[.agg #[.int .i64 0, .int .i64 4294967295, .int .i64 1633837924, .string (⟨#[97, 98, 99, 100, 101, 102]⟩), .int .i64 (4 - (d : Int))], .int .i64 9] w fun e w' => e = .returned (.tuple #[.agg #[.int .i64 0, .int .i64 0, .int .i64 0, .string (⟨#[]⟩), .int .i64 0], .int .i64 0, .int .i64 500]) ∧ Bel w w') := qb
  have QM : Hid (∀ w, Calls Try.prog 13 #[.agg #[.int .i64 0, .int .i64 4294967295, .int .i64 1633837924, .string (⟨#[97, 98, 99, 100, 101, 102]⟩), .int .i64 (4 - (d : Int))]] w fun e w' => e = .returned (.bool false) ∧ Bel w w') := qm
  have QP : Hid (∀ w, Calls Try.prog 8 #[.agg #[.int .i64 0, .int .i64 4294967295, .int .i64 1633837924, .string (⟨#[97, 98, 99, 100, 101, 102]⟩), .int .i64 4], .int .i64 (1 - (d : Int))] w fun e w' => e = .returned (.tuple #[.agg #[.int .i64 0, .int .i64 0, .int .i64 0, .string (⟨#[]⟩), .int .i64 0], .int .i64 0, .int .i64 500]) ∧ Bel w w') := bit_unlike (1 - (d : Int)) (by omega)
  have QN : Hid (∀ w, Calls Try.prog 10 #[.string za] w fun e w' => e = .returned (.tuple #[.agg #[.int .i64 0, .int .i64 0, .int .i64 0, .string (⟨#[]⟩), .int .i64 0], .int .i64 500]) ∧ Bel w w') := new_long za (by unfold maxLen; omega) (by omega)
  clear qb qm hbad z1
  have wd : IntKind.i64.wrap (1 - (d : Int)) = (1 - (d : Int)) := by rw [IntKind.wrap_i64]; omega
  have wd2 : IntKind.i64.wrap (4095 + (d : Int)) = (4095 + (d : Int)) := by rw [IntKind.wrap_i64]; omega
  go_enter Try.func5, Try.ntmps5
  go_wp2_with fail
  refine (awake_true _).mono ?_
  rintro e w1 ⟨rfl, b1⟩
  go_wp2_with fail
  refine (newDecoder_t _).mono ?_
  rintro e w2 ⟨rfl, b2⟩
  have HB2 : Hid (Bel w w2) := Bel.trans b1 b2
  clear b1 b2
  go_wp2_with fail
  with_reducible refine (QB.out _).mono ?_
  rintro e w3 ⟨rfl, b3⟩
  have g0 : w3.cell? ⟨w2.heap.size, 0, none⟩ = some (.int .i64 0) := b3.keep (by simp)
  have g1 : w3.cell? ⟨w2.heap.size, 1, none⟩ = some (.int .i64 4294967295) := b3.keep (by simp)
  have g2 : w3.cell? ⟨w2.heap.size, 2, none⟩ = some (.int .i64 1633837924) := b3.keep (by simp)
  have g3 : w3.cell? ⟨w2.heap.size, 3, none⟩ = some (.string ⟨#[97, 98, 99, 100, 101, 102]⟩) := b3.keep (by simp)
  have g4 : w3.cell? ⟨w2.heap.size, 4, none⟩ = some (.int .i64 4) := b3.keep (by simp)
  have c0 : w3.cell? ⟨w2.heap.size + 1, 0, none⟩ = some (.int .i64 0) := b3.keep (by simp)
  have c1 : w3.cell? ⟨w2.heap.size + 1, 1, none⟩ = some (.int .i64 4294967295) := b3.keep (by simp)
  have c2 : w3.cell? ⟨w2.heap.size + 1, 2, none⟩ = some (.int .i64 1633837924) := b3.keep (by simp)
  have c3 : w3.cell? ⟨w2.heap.size + 1, 3, none⟩ = some (.string ⟨#[97, 98, 99, 100, 101, 102]⟩) := b3.keep (by simp)
  have c4 : w3.cell? ⟨w2.heap.size + 1, 4, none⟩ = some (.int .i64 (4 - (d : Int))) := b3.keep (by simp)
  have HB3 : Hid (Bel w w3) := Bel.trans (Bel.trans HB2.out (by repeat (first | exact Bel.refl _ | apply Bel.alloc | (refine Bel.setCell ?_ (by dsimp only; omega) _)))) b3
  have lG : w2.heap.size < w3.heap.size := block_lt_of_cell g0
  have lB : w2.heap.size + 1 < w3.heap.size := block_lt_of_cell c0
  clear b3 HB2 hcv
  have lne : w2.heap.size ≠ w2.heap.size + 1 := by omega
  generalize w2.heap.size + 1 = NB at *
  generalize w2.heap.size = NG at *
  go_wp2_with fail
  have bz3 := (Bel.refl w3).alloc (.cells #[.int .i64 0, .int .i64 0, .int .i64 0, .string ⟨#[]⟩, .int .i64 0] 23)
  replace g0 := bz3.keep g0
  replace c0 := bz3.keep c0
  replace g1 := bz3.keep g1
  replace c1 := bz3.keep c1
  replace g2 := bz3.keep g2
  replace c2 := bz3.keep c2
  replace g3 := bz3.keep g3
  replace c3 := bz3.keep c3
  replace g4 := bz3.keep g4
  replace c4 := bz3.keep c4
  have lG' : NG < w3.heap.size + 1 := by omega
  have HB4 : Hid (Bel w (w3.alloc (.cells #[.int .i64 0, .int .i64 0, .int .i64 0, .string ⟨#[]⟩, .int .i64 0] 23))) := HB3.out.trans bz3
  have hsz4 : (w3.alloc (.cells #[.int .i64 0, .int .i64 0, .int .i64 0, .string ⟨#[]⟩, .int .i64 0] 23)).heap.size = w3.heap.size + 1 := by simp
  clear bz3 HB3 lG lB
  generalize w3.alloc (.cells #[.int .i64 0, .int .i64 0, .int .i64 0, .string ⟨#[]⟩, .int .i64 0] 23) = W at *
  have lG : NG < W.heap.size := block_lt_of_cell g0
  clear hsz4 lG'
  go_cut [14] from 82 to 96 (fun s wx => s = .int .i64 500 ∧ Bel W wx)
  case first =>
    clear hmk hcon hx hx2 c0 c1 c2 c3 c4 QB QM QN
    go_region_with (first
        | (go_at_call 8
           with_reducible refine (QP.out _).mono ?_
           rintro e w6 ⟨rfl, b6⟩
           have hc6 := @Below.cell _ _ _ b6
           have hf6 := @Below.frozen _ _ _ b6
           have HB6 : Hid (Bel W w6) := Bel.trans (by repeat (first | exact Bel.refl _ | apply Bel.drew | apply Bel.alloc)) b6
           clear b6))
    all_goals clear hc6 hf6
    all_goals go_wp2_with fail
    all_goals go_meet
    all_goals refine ⟨rfl, ?_⟩
    all_goals first | (with_reducible exact HB6.out) | (with_reducible exact HB6.out.alloc _) | (with_reducible exact bel5 HB6.out (by omega) _ _ _ _ _)
  case rest =>
  obtain ⟨rfl, bc⟩ := hcut
  replace g0 := bc.keep g0
  replace c0 := bc.keep c0
  replace g1 := bc.keep g1
  replace c1 := bc.keep c1
  replace g2 := bc.keep g2
  replace c2 := bc.keep c2
  replace g3 := bc.keep g3
  replace c3 := bc.keep c3
  replace g4 := bc.keep g4
  replace c4 := bc.keep c4
  have HB5 : Hid (Bel w wc) := HB4.out.trans bc
  clear bc HB4 lG
  have lG : NG < wc.heap.size := block_lt_of_cell g0
  have lB : NB < wc.heap.size := block_lt_of_cell c0
  go_wp2_with fail
  with_reducible refine (QN.out _).mono ?_
  rintro e w7 ⟨rfl, b7⟩
  have bb := Bel.trans ((Bel.refl wc).alloc O1) b7
  replace g0 := bb.keep g0
  replace c0 := bb.keep c0
  replace g1 := bb.keep g1
  replace c1 := bb.keep c1
  replace g2 := bb.keep g2
  replace c2 := bb.keep c2
  replace g3 := bb.keep g3
  replace c3 := bb.keep c3
  replace g4 := bb.keep g4
  replace c4 := bb.keep c4
  have HB7 : Hid (Bel w w7) := HB5.out.trans bb
  clear b7 bb HB5 lG lB hmk hcon
  have lG : NG < w7.heap.size := block_lt_of_cell g0
  have lB : NB < w7.heap.size := block_lt_of_cell c0
  go_wp2_with fail
  with_reducible refine (may_g _).mono ?_
  rintro e w8 ⟨rfl, b8⟩
  have bb := Bel.trans ((Bel.refl w7).alloc (.cells #[.int .i64 0, .int .i64 0, .int .i64 0, .string ⟨#[]⟩, .int .i64 0] 23)) b8
  replace c0 := bb.keep c0
  replace c1 := bb.keep c1
  replace c2 := bb.keep c2
  replace c3 := bb.keep c3
  replace c4 := bb.keep c4
  have HB8 : Hid (Bel w w8) := HB7.out.trans bb
  clear b8 bb HB7 lG lB g0 g1 g2 g3 g4
  go_wp2_with fail
  with_reducible refine (QM.out _).mono ?_
  rintro e w9 ⟨rfl, b9⟩
  have HB9 : Hid (Bel w w9) := HB8.out.trans b9
  clear b9 HB8 c0 c1 c2 c3 c4
  go_wp2_with (go_at_call 12; go_in)
  go_ret
  exact ⟨rfl, HB9.out⟩

set_option maxRecDepth 20000 in
set_option maxHeartbeats 2000000 in
theorem forms_5 (n x : Int) (hc : n % 18446744073709551616 % 8 = 5) (d : Nat) (hd : 1 + x % 1024 = (d : Int)) (hd1 : 1 ≤ d) (hd2 : d ≤ 1024) (w : World) :
    Calls Try.prog 5 #[.int .i64 n, .int .i64 x] w fun e w' => e = .returned (.bool true) ∧ Bel w w' := by
  have hcv : (IntKind.u64.wrap n).tmod 8 = 5 := c8val n 5 hc
  have hx := and1023 x
  have hn1 : bits .and .i64 n 1 = 1 := by rw [and1]; omega
  have hx2 : 1 + x % 1024 = (d : Int) := hd
  clear hc hd
  have hmk := mkN (65536 + d) (by omega)
  rw [show (((65536 + d : Nat)) : Int) = 65536 + (d : Int) from by omega] at hmk
  have hcon := cvN (65536 + d)
  have z1 := zerosOf_size (65536 + d)
  generalize zerosOf (65536 + d) = za at *
  generalize Obj.cells (madeCells #[Value.int .u8 0] (65536 + d)) 5 = O1 at *
  have hbad : dmayB 0 4294967295 1633837924 ⟨#[97, 98, 99, 100, 101, 102]⟩ (65544 + (d : Int)) = false := decide_eq_false fun ⟨⟨a1, a2, a3⟩, a4, a5, a6, a7, a8⟩ => by omega
  have qb := bit_refused 0 4294967295 1633837924 9 ⟨#[97, 98, 99, 100, 101, 102]⟩ (65544 + (d : Int)) (by decide) hbad
  have qm := may_ok 0 4294967295 1633837924 (65544 + (d : Int)) ⟨#[97, 98, 99, 100, 101, 102]⟩ (by decide)
  rw [hbad] at qm
  have QB : Hid (∀ w, Calls Try.prog 8 #[.agg #[.int .i64 0, .int .i64 4294967295, .int .i64 1633837924, .string (⟨#[97, 98, 99, 100, 101, 102]⟩), .int .i64 (65544 + (d : Int))], .int .i64 9] w fun e w' => e = .returned (.tuple #[.agg #[.int .i64 0, .int .i64 0, .int .i64 0, .string (⟨#[]⟩), .int .i64 0], .int .i64 0, .int .i64 500]) ∧ Bel w w') := qb
  have QM : Hid (∀ w, Calls Try.prog 13 #[.agg #[.int .i64 0, .int .i64 4294967295, .int .i64 1633837924, .string (⟨#[97, 98, 99, 100, 101, 102]⟩), .int .i64 (65544 + (d : Int))]] w fun e w' => e = .returned (.bool false) ∧ Bel w w') := qm
  have QP : Hid (∀ w, Calls Try.prog 8 #[.agg #[.int .i64 0, .int .i64 4294967295, .int .i64 1633837924, .string (⟨#[97, 98, 99, 100, 101, 102]⟩), .int .i64 4], .int .i64 (4095 + (d : Int))] w fun e w' => e = .returned (.tuple #[.agg #[.int .i64 0, .int .i64 0, .int .i64 0, .string (⟨#[]⟩), .int .i64 0], .int .i64 0, .int .i64 500]) ∧ Bel w w') := bit_unlike (4095 + (d : Int)) (by omega)
  have QN : Hid (∀ w, Calls Try.prog 10 #[.string za] w fun e w' => e = .returned (.tuple #[.agg #[.int .i64 0, .int .i64 0, .int .i64 0, .string (⟨#[]⟩), .int .i64 0], .int .i64 500]) ∧ Bel w w') := new_long za (by unfold maxLen; omega) (by omega)
  clear qb qm hbad z1
  have wd : IntKind.i64.wrap (1 - (d : Int)) = (1 - (d : Int)) := by rw [IntKind.wrap_i64]; omega
  have wd2 : IntKind.i64.wrap (4095 + (d : Int)) = (4095 + (d : Int)) := by rw [IntKind.wrap_i64]; omega
  go_enter Try.func5, Try.ntmps5
  go_wp2_with fail
  refine (awake_true _).mono ?_
  rintro e w1 ⟨rfl, b1⟩
  go_wp2_with fail
  refine (newDecoder_t _).mono ?_
  rintro e w2 ⟨rfl, b2⟩
  have HB2 : Hid (Bel w w2) := Bel.trans b1 b2
  clear b1 b2
  go_wp2_with fail
  with_reducible refine (QB.out _).mono ?_
  rintro e w3 ⟨rfl, b3⟩
  have g0 : w3.cell? ⟨w2.heap.size, 0, none⟩ = some (.int .i64 0) := b3.keep (by simp)
  have g1 : w3.cell? ⟨w2.heap.size, 1, none⟩ = some (.int .i64 4294967295) := b3.keep (by simp)
  have g2 : w3.cell? ⟨w2.heap.size, 2, none⟩ = some (.int .i64 1633837924) := b3.keep (by simp)
  have g3 : w3.cell? ⟨w2.heap.size, 3, none⟩ = some (.string ⟨#[97, 98, 99, 100, 101, 102]⟩) := b3.keep (by simp)
  have g4 : w3.cell? ⟨w2.heap.size, 4, none⟩ = some (.int .i64 4) := b3.keep (by simp)
  have c0 : w3.cell? ⟨w2.heap.size + 1, 0, none⟩ = some (.int .i64 0) := b3.keep (by simp)
  have c1 : w3.cell? ⟨w2.heap.size + 1, 1, none⟩ = some (.int .i64 4294967295) := b3.keep (by simp)
  have c2 : w3.cell? ⟨w2.heap.size + 1, 2, none⟩ = some (.int .i64 1633837924) := b3.keep (by simp)
  have c3 : w3.cell? ⟨w2.heap.size + 1, 3, none⟩ = some (.string ⟨#[97, 98, 99, 100, 101, 102]⟩) := b3.keep (by simp)
  have c4 : w3.cell? ⟨w2.heap.size + 1, 4, none⟩ = some (.int .i64 (65544 + (d : Int))) := b3.keep (by simp)
  have HB3 : Hid (Bel w w3) := Bel.trans (Bel.trans HB2.out (by repeat (first | exact Bel.refl _ | apply Bel.alloc | (refine Bel.setCell ?_ (by dsimp only; omega) _)))) b3
  have lG : w2.heap.size < w3.heap.size := block_lt_of_cell g0
  have lB : w2.heap.size + 1 < w3.heap.size := block_lt_of_cell c0
  clear b3 HB2 hcv
  have lne : w2.heap.size ≠ w2.heap.size + 1 := by omega
  generalize w2.heap.size + 1 = NB at *
  generalize w2.heap.size = NG at *
  go_wp2_with fail
  have bz3 := (Bel.refl w3).alloc (.cells #[.int .i64 0, .int .i64 0, .int .i64 0, .string ⟨#[]⟩, .int .i64 0] 23)
  replace g0 := bz3.keep g0
  replace c0 := bz3.keep c0
  replace g1 := bz3.keep g1
  replace c1 := bz3.keep c1
  replace g2 := bz3.keep g2
  replace c2 := bz3.keep c2
  replace g3 := bz3.keep g3
  replace c3 := bz3.keep c3
  replace g4 := bz3.keep g4
  replace c4 := bz3.keep c4
  have lG' : NG < w3.heap.size + 1 := by omega
  have HB4 : Hid (Bel w (w3.alloc (.cells #[.int .i64 0, .int .i64 0, .int .i64 0, .string ⟨#[]⟩, .int .i64 0] 23))) := HB3.out.trans bz3
  have hsz4 : (w3.alloc (.cells #[.int .i64 0, .int .i64 0, .int .i64 0, .string ⟨#[]⟩, .int .i64 0] 23)).heap.size = w3.heap.size + 1 := by simp
  clear bz3 HB3 lG lB
  generalize w3.alloc (.cells #[.int .i64 0, .int .i64 0, .int .i64 0, .string ⟨#[]⟩, .int .i64 0] 23) = W at *
  have lG : NG < W.heap.size := block_lt_of_cell g0
  clear hsz4 lG'
  go_cut [14] from 82 to 96 (fun s wx => s = .int .i64 500 ∧ Bel W wx)
  case first =>
    clear hmk hcon hx hx2 c0 c1 c2 c3 c4 QB QM QN
    go_region_with (first
        | (go_at_call 8
           with_reducible refine (QP.out _).mono ?_
           rintro e w6 ⟨rfl, b6⟩
           have hc6 := @Below.cell _ _ _ b6
           have hf6 := @Below.frozen _ _ _ b6
           have HB6 : Hid (Bel W w6) := Bel.trans (by repeat (first | exact Bel.refl _ | apply Bel.drew | apply Bel.alloc)) b6
           clear b6))
    all_goals clear hc6 hf6
    all_goals go_wp2_with fail
    all_goals go_meet
    all_goals refine ⟨rfl, ?_⟩
    all_goals first | (with_reducible exact HB6.out) | (with_reducible exact HB6.out.alloc _) | (with_reducible exact bel5 HB6.out (by omega) _ _ _ _ _)
  case rest =>
  obtain ⟨rfl, bc⟩ := hcut
  replace g0 := bc.keep g0
  replace c0 := bc.keep c0
  replace g1 := bc.keep g1
  replace c1 := bc.keep c1
  replace g2 := bc.keep g2
  replace c2 := bc.keep c2
  replace g3 := bc.keep g3
  replace c3 := bc.keep c3
  replace g4 := bc.keep g4
  replace c4 := bc.keep c4
  have HB5 : Hid (Bel w wc) := HB4.out.trans bc
  clear bc HB4 lG
  have lG : NG < wc.heap.size := block_lt_of_cell g0
  have lB : NB < wc.heap.size := block_lt_of_cell c0
  go_wp2_with fail
  with_reducible refine (QN.out _).mono ?_
  rintro e w7 ⟨rfl, b7⟩
  have bb := Bel.trans ((Bel.refl wc).alloc O1) b7
  replace g0 := bb.keep g0
  replace c0 := bb.keep c0
  replace g1 := bb.keep g1
  replace c1 := bb.keep c1
  replace g2 := bb.keep g2
  replace c2 := bb.keep c2
  replace g3 := bb.keep g3
  replace c3 := bb.keep c3
  replace g4 := bb.keep g4
  replace c4 := bb.keep c4
  have HB7 : Hid (Bel w w7) := HB5.out.trans bb
  clear b7 bb HB5 lG lB hmk hcon
  have lG : NG < w7.heap.size := block_lt_of_cell g0
  have lB : NB < w7.heap.size := block_lt_of_cell c0
  go_wp2_with fail
  with_reducible refine (may_g _).mono ?_
  rintro e w8 ⟨rfl, b8⟩
  have bb := Bel.trans ((Bel.refl w7).alloc (.cells #[.int .i64 0, .int .i64 0, .int .i64 0, .string ⟨#[]⟩, .int .i64 0] 23)) b8
  replace c0 := bb.keep c0
  replace c1 := bb.keep c1
  replace c2 := bb.keep c2
  replace c3 := bb.keep c3
  replace c4 := bb.keep c4
  have HB8 : Hid (Bel w w8) := HB7.out.trans bb
  clear b8 bb HB7 lG lB g0 g1 g2 g3 g4
  go_wp2_with fail
  with_reducible refine (QM.out _).mono ?_
  rintro e w9 ⟨rfl, b9⟩
  have HB9 : Hid (Bel w w9) := HB8.out.trans b9
  clear b9 HB8 c0 c1 c2 c3 c4
  go_wp2_with (go_at_call 12; go_in)
  go_ret
  exact ⟨rfl, HB9.out⟩

set_option maxRecDepth 20000 in
set_option maxHeartbeats 2000000 in
theorem forms_7 (n x : Int) (hc : n % 18446744073709551616 % 8 = 7) (d : Nat) (hd : 1 + x % 1024 = (d : Int)) (hd1 : 1 ≤ d) (hd2 : d ≤ 1024) (w : World) :
    Calls Try.prog 5 #[.int .i64 n, .int .i64 x] w fun e w' => e = .returned (.bool true) ∧ Bel w w' := by
  have hcv : (IntKind.u64.wrap n).tmod 8 = 7 := c8val n 7 hc
  have hx := and1023 x
  have hn1 : bits .and .i64 n 1 = 1 := by rw [and1]; omega
  have hx2 : 1 + x % 1024 = (d : Int) := hd
  clear hc hd
  have hmk := mkN (65536 + d) (by omega)
  rw [show (((65536 + d : Nat)) : Int) = 65536 + (d : Int) from by omega] at hmk
  have hcon := cvN (65536 + d)
  have z1 := zerosOf_size (65536 + d)
  generalize zerosOf (65536 + d) = za at *
  generalize Obj.cells (madeCells #[Value.int .u8 0] (65536 + d)) 5 = O1 at *
  have hbad : dmayB 4294967290 4294967295 4294967295 ⟨#[97, 98, 99, 100, 101, 102]⟩ 4 = false := decide_eq_false fun ⟨⟨a1, a2, a3⟩, a4, a5, a6, a7, a8⟩ => by omega
  have qb := bit_refused 4294967290 4294967295 4294967295 9 ⟨#[97, 98, 99, 100, 101, 102]⟩ 4 (by decide) hbad
  have qm := may_ok 4294967290 4294967295 4294967295 4 ⟨#[97, 98, 99, 100, 101, 102]⟩ (by decide)
  rw [hbad] at qm
  have QB : Hid (∀ w, Calls Try.prog 8 #[.agg #[.int .i64 4294967290, .int .i64 4294967295, .int .i64 4294967295, .string (⟨#[97, 98, 99, 100, 101, 102]⟩), .int .i64 4], .int .i64 9] w fun e w' => e = .returned (.tuple #[.agg #[.int .i64 0, .int .i64 0, .int .i64 0, .string (⟨#[]⟩), .int .i64 0], .int .i64 0, .int .i64 500]) ∧ Bel w w') := qb
  have QM : Hid (∀ w, Calls Try.prog 13 #[.agg #[.int .i64 4294967290, .int .i64 4294967295, .int .i64 4294967295, .string (⟨#[97, 98, 99, 100, 101, 102]⟩), .int .i64 4]] w fun e w' => e = .returned (.bool false) ∧ Bel w w') := qm
  have QP : Hid (∀ w, Calls Try.prog 8 #[.agg #[.int .i64 0, .int .i64 4294967295, .int .i64 1633837924, .string (⟨#[97, 98, 99, 100, 101, 102]⟩), .int .i64 4], .int .i64 (4095 + (d : Int))] w fun e w' => e = .returned (.tuple #[.agg #[.int .i64 0, .int .i64 0, .int .i64 0, .string (⟨#[]⟩), .int .i64 0], .int .i64 0, .int .i64 500]) ∧ Bel w w') := bit_unlike (4095 + (d : Int)) (by omega)
  have QN : Hid (∀ w, Calls Try.prog 10 #[.string za] w fun e w' => e = .returned (.tuple #[.agg #[.int .i64 0, .int .i64 0, .int .i64 0, .string (⟨#[]⟩), .int .i64 0], .int .i64 500]) ∧ Bel w w') := new_long za (by unfold maxLen; omega) (by omega)
  clear qb qm hbad z1
  have wd : IntKind.i64.wrap (1 - (d : Int)) = (1 - (d : Int)) := by rw [IntKind.wrap_i64]; omega
  have wd2 : IntKind.i64.wrap (4095 + (d : Int)) = (4095 + (d : Int)) := by rw [IntKind.wrap_i64]; omega
  go_enter Try.func5, Try.ntmps5
  go_wp2_with fail
  refine (awake_true _).mono ?_
  rintro e w1 ⟨rfl, b1⟩
  go_wp2_with fail
  refine (newDecoder_t _).mono ?_
  rintro e w2 ⟨rfl, b2⟩
  have HB2 : Hid (Bel w w2) := Bel.trans b1 b2
  clear b1 b2
  go_wp2_with fail
  with_reducible refine (QB.out _).mono ?_
  rintro e w3 ⟨rfl, b3⟩
  have g0 : w3.cell? ⟨w2.heap.size, 0, none⟩ = some (.int .i64 0) := b3.keep (by simp)
  have g1 : w3.cell? ⟨w2.heap.size, 1, none⟩ = some (.int .i64 4294967295) := b3.keep (by simp)
  have g2 : w3.cell? ⟨w2.heap.size, 2, none⟩ = some (.int .i64 1633837924) := b3.keep (by simp)
  have g3 : w3.cell? ⟨w2.heap.size, 3, none⟩ = some (.string ⟨#[97, 98, 99, 100, 101, 102]⟩) := b3.keep (by simp)
  have g4 : w3.cell? ⟨w2.heap.size, 4, none⟩ = some (.int .i64 4) := b3.keep (by simp)
  have c0 : w3.cell? ⟨w2.heap.size + 1, 0, none⟩ = some (.int .i64 4294967290) := b3.keep (by simp)
  have c1 : w3.cell? ⟨w2.heap.size + 1, 1, none⟩ = some (.int .i64 4294967295) := b3.keep (by simp)
  have c2 : w3.cell? ⟨w2.heap.size + 1, 2, none⟩ = some (.int .i64 4294967295) := b3.keep (by simp)
  have c3 : w3.cell? ⟨w2.heap.size + 1, 3, none⟩ = some (.string ⟨#[97, 98, 99, 100, 101, 102]⟩) := b3.keep (by simp)
  have c4 : w3.cell? ⟨w2.heap.size + 1, 4, none⟩ = some (.int .i64 4) := b3.keep (by simp)
  have HB3 : Hid (Bel w w3) := Bel.trans (Bel.trans HB2.out (by repeat (first | exact Bel.refl _ | apply Bel.alloc | (refine Bel.setCell ?_ (by dsimp only; omega) _)))) b3
  have lG : w2.heap.size < w3.heap.size := block_lt_of_cell g0
  have lB : w2.heap.size + 1 < w3.heap.size := block_lt_of_cell c0
  clear b3 HB2 hcv
  have lne : w2.heap.size ≠ w2.heap.size + 1 := by omega
  generalize w2.heap.size + 1 = NB at *
  generalize w2.heap.size = NG at *
  go_wp2_with fail
  have bz3 := (Bel.refl w3).alloc (.cells #[.int .i64 0, .int .i64 0, .int .i64 0, .string ⟨#[]⟩, .int .i64 0] 23)
  replace g0 := bz3.keep g0
  replace c0 := bz3.keep c0
  replace g1 := bz3.keep g1
  replace c1 := bz3.keep c1
  replace g2 := bz3.keep g2
  replace c2 := bz3.keep c2
  replace g3 := bz3.keep g3
  replace c3 := bz3.keep c3
  replace g4 := bz3.keep g4
  replace c4 := bz3.keep c4
  have lG' : NG < w3.heap.size + 1 := by omega
  have HB4 : Hid (Bel w (w3.alloc (.cells #[.int .i64 0, .int .i64 0, .int .i64 0, .string ⟨#[]⟩, .int .i64 0] 23))) := HB3.out.trans bz3
  have hsz4 : (w3.alloc (.cells #[.int .i64 0, .int .i64 0, .int .i64 0, .string ⟨#[]⟩, .int .i64 0] 23)).heap.size = w3.heap.size + 1 := by simp
  clear bz3 HB3 lG lB
  generalize w3.alloc (.cells #[.int .i64 0, .int .i64 0, .int .i64 0, .string ⟨#[]⟩, .int .i64 0] 23) = W at *
  have lG : NG < W.heap.size := block_lt_of_cell g0
  clear hsz4 lG'
  go_cut [14] from 82 to 96 (fun s wx => s = .int .i64 500 ∧ Bel W wx)
  case first =>
    clear hmk hcon hx hx2 c0 c1 c2 c3 c4 QB QM QN
    go_region_with (first
        | (go_at_call 8
           with_reducible refine (QP.out _).mono ?_
           rintro e w6 ⟨rfl, b6⟩
           have hc6 := @Below.cell _ _ _ b6
           have hf6 := @Below.frozen _ _ _ b6
           have HB6 : Hid (Bel W w6) := Bel.trans (by repeat (first | exact Bel.refl _ | apply Bel.drew | apply Bel.alloc)) b6
           clear b6))
    all_goals clear hc6 hf6
    all_goals go_wp2_with fail
    all_goals go_meet
    all_goals refine ⟨rfl, ?_⟩
    all_goals first | (with_reducible exact HB6.out) | (with_reducible exact HB6.out.alloc _) | (with_reducible exact bel5 HB6.out (by omega) _ _ _ _ _)
  case rest =>
  obtain ⟨rfl, bc⟩ := hcut
  replace g0 := bc.keep g0
  replace c0 := bc.keep c0
  replace g1 := bc.keep g1
  replace c1 := bc.keep c1
  replace g2 := bc.keep g2
  replace c2 := bc.keep c2
  replace g3 := bc.keep g3
  replace c3 := bc.keep c3
  replace g4 := bc.keep g4
  replace c4 := bc.keep c4
  have HB5 : Hid (Bel w wc) := HB4.out.trans bc
  clear bc HB4 lG
  have lG : NG < wc.heap.size := block_lt_of_cell g0
  have lB : NB < wc.heap.size := block_lt_of_cell c0
  go_wp2_with fail
  with_reducible refine (QN.out _).mono ?_
  rintro e w7 ⟨rfl, b7⟩
  have bb := Bel.trans ((Bel.refl wc).alloc O1) b7
  replace g0 := bb.keep g0
  replace c0 := bb.keep c0
  replace g1 := bb.keep g1
  replace c1 := bb.keep c1
  replace g2 := bb.keep g2
  replace c2 := bb.keep c2
  replace g3 := bb.keep g3
  replace c3 := bb.keep c3
  replace g4 := bb.keep g4
  replace c4 := bb.keep c4
  have HB7 : Hid (Bel w w7) := HB5.out.trans bb
  clear b7 bb HB5 lG lB hmk hcon
  have lG : NG < w7.heap.size := block_lt_of_cell g0
  have lB : NB < w7.heap.size := block_lt_of_cell c0
  go_wp2_with fail
  with_reducible refine (may_g _).mono ?_
  rintro e w8 ⟨rfl, b8⟩
  have bb := Bel.trans ((Bel.refl w7).alloc (.cells #[.int .i64 0, .int .i64 0, .int .i64 0, .string ⟨#[]⟩, .int .i64 0] 23)) b8
  replace c0 := bb.keep c0
  replace c1 := bb.keep c1
  replace c2 := bb.keep c2
  replace c3 := bb.keep c3
  replace c4 := bb.keep c4
  have HB8 : Hid (Bel w w8) := HB7.out.trans bb
  clear b8 bb HB7 lG lB g0 g1 g2 g3 g4
  go_wp2_with fail
  with_reducible refine (QM.out _).mono ?_
  rintro e w9 ⟨rfl, b9⟩
  have HB9 : Hid (Bel w w9) := HB8.out.trans b9
  clear b9 HB8 c0 c1 c2 c3 c4
  go_wp2_with (go_at_call 12; go_in)
  go_ret
  exact ⟨rfl, HB9.out⟩

end Go.Proofs.Ytckhehiaoodkoaa.Coder
