/-
  The walk of CoderForms where its first int is even. No condition.
-/
import Derived.Test.YthipckllancohaaKForms
import Derived.Deep.CutRange
namespace Go.Proofs.Ythipckllancohaa.Coder
open Go.RowKit Go.Proofs.Ythipckllancohaa.Num
set_option linter.unusedVariables false
attribute [local go_sem ↓] Go.wp_at_zero Go.wp_at_succ

set_option maxRecDepth 20000 in
set_option maxHeartbeats 8000000 in
theorem forms_0 (n x : Int) (c : Nat) (hc : n % 18446744073709551616 % 6 = (c : Int)) (hc6 : c < 6) (d : Nat) (hd : 1 + x % 1024 = (d : Int)) (hd1 : 1 ≤ d) (hd2 : d ≤ 1024) (he : n % 2 = 0) (w : World) :
    Calls Try.prog 4 #[.int .i64 n, .int .i64 x] w fun e w' => e = .returned (.bool true) ∧ Bel w w' := by
  have hcv := c6val n c hc
  have hx := and1023 x
  have hn1 := and1' n
  rw [he] at hn1
  have hx2 : 1 + x % 1024 = (d : Int) := hd
  clear hc hd he
  have hmk := mkN (65536 + d) (by omega)
  rw [show (((65536 + d : Nat)) : Int) = 65536 + (d : Int) from by omega] at hmk
  have hmk2 := mkN 65536 (by omega)
  rw [show (((65536 : Nat)) : Int) = 65536 from rfl] at hmk2
  have hcon := cvN (65536 + d)
  have hcon2 := cvN 65536
  have z1 := zerosOf_size (65536 + d)
  have z2 := zerosOf_size 65536
  generalize zerosOf (65536 + d) = za at *
  generalize zerosOf 65536 = zb at *
  generalize Obj.cells (madeCells #[Value.int .u8 0] (65536 + d)) 5 = O1 at *
  generalize Obj.cells (madeCells #[Value.int .u8 0] 65536) 5 = O2 at *
  have hbad := bad_no c hc6 (d : Int) (by omega) (by omega) za (by omega) (by unfold maxLen; omega)
  have hat := fun w => bads_at w O1 (d : Int) za c hc6
  generalize (bad c (d : Int) za).1 = bl at *
  generalize (bad c (d : Int) za).2.1 = bh at *
  generalize (bad c (d : Int) za).2.2 = bz at *
  have qb := bit_refused bl bh 1 9 bz hbad.2 (no_may _ _ _ _ _ hbad.1)
  have qe := end_no bl bh bz hbad.2 hbad.1
  have qm := may_ok bl bh bz hbad.2
  rw [hbad.1] at qm
  have qf := bit_refused 0 16777216 1 1 zb (by unfold maxLen; omega) (full_no zb z2)
  have qn := may_ok 0 16777216 zb (by unfold maxLen; omega)
  rw [show mayB 0 16777216 zb = true from decide_eq_true ⟨by decide, by omega⟩] at qn
  have QB : Hid (∀ w, Calls Try.prog 9 #[.agg #[.int .i64 bl, .int .i64 bh, .string bz], .int .i64 1, .int .i64 9] w fun e w' => e = .returned (.tuple #[.agg #[.int .i64 0, .int .i64 0, .string ⟨#[]⟩], .int .i64 400]) ∧ Bel w w') := qb
  have QE : Hid (∀ w, Calls Try.prog 11 #[.agg #[.int .i64 bl, .int .i64 bh, .string bz]] w fun e w' => e = .returned (.tuple #[.string ⟨#[]⟩, .int .i64 400]) ∧ Bel w w') := qe
  have QM : Hid (∀ w, Calls Try.prog 14 #[.agg #[.int .i64 bl, .int .i64 bh, .string bz]] w fun e w' => e = .returned (.bool false) ∧ Bel w w') := qm
  have QF : Hid (∀ w, Calls Try.prog 9 #[.agg #[.int .i64 0, .int .i64 16777216, .string zb], .int .i64 1, .int .i64 1] w fun e w' => e = .returned (.tuple #[.agg #[.int .i64 0, .int .i64 0, .string ⟨#[]⟩], .int .i64 400]) ∧ Bel w w') := qf
  have QN : Hid (∀ w, Calls Try.prog 14 #[.agg #[.int .i64 0, .int .i64 16777216, .string zb]] w fun e w' => e = .returned (.bool true) ∧ Bel w w') := qn
  clear qb qe qm qf qn hbad z1 z2
  go_enter Try.func4, Try.ntmps4
  go_wp2_with fail
  refine (awake_true _).mono ?_
  rintro e w1 ⟨rfl, b1⟩
  have HB1 : Hid (Bel w w1) := b1
  clear b1
  have hci : (0 : Int) ≤ (c : Int) := by omega
  have hci2 : (c : Int) < 6 := by omega
  obtain ⟨t0, t1, t2⟩ := hat w1
  clear hat
  go_wp2_with fail
  refine (QB.out _).mono ?_
  rintro e w2 ⟨rfl, b2⟩
  have c0 : w2.cell? ⟨w1.heap.size + 1 + 1, 0, none⟩ = some (.int .i64 bl) := b2.keep (by rw [World.cell?_alloc_at _ _ _ _ (by simp)]; rfl)
  have c1 : w2.cell? ⟨w1.heap.size + 1 + 1, 1, none⟩ = some (.int .i64 bh) := b2.keep (by rw [World.cell?_alloc_at _ _ _ _ (by simp)]; rfl)
  have c2 : w2.cell? ⟨w1.heap.size + 1 + 1, 2, none⟩ = some (.string bz) := b2.keep (by rw [World.cell?_alloc_at _ _ _ _ (by simp)]; rfl)
  have HB2 : Hid (Bel w w2) := (((HB1.out.alloc _).alloc _).alloc _).trans b2
  have l2 : w1.heap.size + 1 + 1 < w2.heap.size := block_lt_of_cell c0
  clear b2 t0 t1 t2 HB1 hmk hcon hcv
  generalize w1.heap.size + 1 + 1 = N at *
  go_wp2_with fail
  refine (QE.out _).mono ?_
  rintro e w3 ⟨rfl, b3⟩
  have bb := Bel.trans ((Bel.refl w2).alloc (.cells #[.int .i64 0, .int .i64 0, .string ⟨#[]⟩] 23)) b3
  replace c0 := bb.keep c0
  replace c1 := bb.keep c1
  replace c2 := bb.keep c2
  have HB3 : Hid (Bel w w3) := HB2.out.trans bb
  clear b3 bb l2 HB2
  go_wp2_with fail
  go_cut [13] from 58 to 71 (fun s wx => s = .int .i64 400 ∧ Bel w3 wx)
  case first =>
    clear hmk2 hcon2 hx hx2 c0 c1 c2 QB QE QM QF QN hci hci2
    · have q := bit_refused 0 4294967295 (-(d : Int)) 9 ⟨#[]⟩ (by decide) (no_bit _ _ _ _ _ (decide_eq_false (by omega)))
      have Q : Hid (∀ w, Calls Try.prog 9 #[.agg #[.int .i64 0, .int .i64 4294967295, .string ⟨#[]⟩], .int .i64 (-(d : Int)), .int .i64 9] w fun e w' => e = .returned (.tuple #[.agg #[.int .i64 0, .int .i64 0, .string ⟨#[]⟩], .int .i64 400]) ∧ Bel w w') := q
      clear q
      have wd : IntKind.i64.wrap (-(d : Int)) = (-(d : Int)) := by rw [IntKind.wrap_i64]; omega
      have wd2 : IntKind.i64.wrap (1 + (d : Int)) = (1 + (d : Int)) := by rw [IntKind.wrap_i64]; omega
      go_region_with (first
        | (go_at_call 16; with_reducible refine (new_exact _).mono ?_; rintro e w' ⟨rfl, rfl⟩)
        | (go_at_call 9
           with_reducible refine (Q.out _).mono ?_
           rintro e w6 ⟨rfl, b6⟩
           have hc6 := @Below.cell _ _ _ b6
           have hf6 := @Below.frozen _ _ _ b6
           have HB6 : Hid (Bel w3 w6) := Bel.trans (by repeat (first | exact Bel.refl _ | apply Bel.drew | apply Bel.alloc)) b6
           clear b6))
      all_goals clear hc6 hf6
      all_goals go_wp2_with fail
      all_goals go_meet
      all_goals exact ⟨rfl, by first | exact HB6.out | exact HB6.out.alloc _ | exact ((HB6.out.setCell (by dsimp only; omega) _).setCell (by dsimp only; omega) _).setCell (by dsimp only; omega) _⟩
  case rest =>
  obtain ⟨rfl, bc⟩ := hcut
  replace c0 := bc.keep c0
  replace c1 := bc.keep c1
  replace c2 := bc.keep c2
  have HB4 : Hid (Bel w wc) := HB3.out.trans bc
  clear bc HB3
  go_wp2_with fail
  go_cut [15] from 72 to 85 (fun s wx => s = .int .i64 400 ∧ Bel wc wx)
  case first =>
    clear hmk2 hcon2 hx hx2 c0 c1 c2 QB QE QM QF QN hci hci2
    · have q := bit_refused 0 4294967295 1 (1 - (d : Int)) ⟨#[]⟩ (by decide) (no_chance _ _ _ _ _ (decide_eq_false (by omega)))
      have Q : Hid (∀ w, Calls Try.prog 9 #[.agg #[.int .i64 0, .int .i64 4294967295, .string ⟨#[]⟩], .int .i64 1, .int .i64 (1 - (d : Int))] w fun e w' => e = .returned (.tuple #[.agg #[.int .i64 0, .int .i64 0, .string ⟨#[]⟩], .int .i64 400]) ∧ Bel w w') := q
      clear q
      have wd : IntKind.i64.wrap (1 - (d : Int)) = (1 - (d : Int)) := by rw [IntKind.wrap_i64]; omega
      have wd2 : IntKind.i64.wrap (4095 + (d : Int)) = (4095 + (d : Int)) := by rw [IntKind.wrap_i64]; omega
      go_region_with (first
        | (go_at_call 16; with_reducible refine (new_exact _).mono ?_; rintro e w' ⟨rfl, rfl⟩)
        | (go_at_call 9
           with_reducible refine (Q.out _).mono ?_
           rintro e w6 ⟨rfl, b6⟩
           have hc6 := @Below.cell _ _ _ b6
           have hf6 := @Below.frozen _ _ _ b6
           have HB6 : Hid (Bel wc w6) := Bel.trans (by repeat (first | exact Bel.refl _ | apply Bel.drew | apply Bel.alloc)) b6
           clear b6))
      all_goals clear hc6 hf6
      all_goals go_wp2_with fail
      all_goals go_meet
      all_goals exact ⟨rfl, by first | exact HB6.out | exact HB6.out.alloc _ | exact ((HB6.out.setCell (by dsimp only; omega) _).setCell (by dsimp only; omega) _).setCell (by dsimp only; omega) _⟩
  case rest =>
  obtain ⟨rfl, bc⟩ := hcut
  rename_i wd _
  replace c0 := bc.keep c0
  replace c1 := bc.keep c1
  replace c2 := bc.keep c2
  have HB5 : Hid (Bel w wc) := HB4.out.trans bc
  clear bc HB4
  have lN : N < wc.heap.size := block_lt_of_cell c0
  go_wp2_with fail
  refine (QF.out _).mono ?_
  rintro e w7 ⟨rfl, b7⟩
  have f0 : w7.cell? ⟨wc.heap.size + 1, 0, none⟩ = some (.int .i64 0) := b7.keep (by rw [World.cell?_alloc_at _ _ _ _ (by simp)]; rfl)
  have f1 : w7.cell? ⟨wc.heap.size + 1, 1, none⟩ = some (.int .i64 16777216) := b7.keep (by rw [World.cell?_alloc_at _ _ _ _ (by simp)]; rfl)
  have f2 : w7.cell? ⟨wc.heap.size + 1, 2, none⟩ = some (.string zb) := b7.keep (by rw [World.cell?_alloc_at _ _ _ _ (by simp)]; rfl)
  have bb := Bel.trans (((Bel.refl wc).alloc O2).alloc (.cells #[.int .i64 0, .int .i64 16777216, .string zb] 23)) b7
  replace c0 := bb.keep c0
  replace c1 := bb.keep c1
  replace c2 := bb.keep c2
  have HB7 : Hid (Bel w w7) := HB5.out.trans bb
  have l7 : N < w7.heap.size := block_lt_of_cell c0
  have l8 : wc.heap.size + 1 < w7.heap.size := block_lt_of_cell f0
  clear b7 bb HB5 hmk2 hcon2 lN
  generalize wc.heap.size + 1 = M at *
  go_wp2_with (go_at_call 13; go_in)
  refine (QM.out _).mono ?_
  rintro e w8 ⟨rfl, b8⟩
  have bb := Bel.trans ((Bel.refl w7).alloc (.cells #[.int .i64 0, .int .i64 0, .string ⟨#[]⟩] 23)) b8
  replace f0 := bb.keep f0
  replace f1 := bb.keep f1
  replace f2 := bb.keep f2
  have HB8 : Hid (Bel w w8) := HB7.out.trans bb
  clear b8 bb HB7 l7 l8 c0 c1 c2
  go_wp2_with (go_at_call 13; go_in)
  refine (QN.out _).mono ?_
  rintro e w9 ⟨rfl, b9⟩
  have HB9 : Hid (Bel w w9) := HB8.out.trans b9
  clear b9 HB8 f0 f1 f2
  go_wp2
  go_ret
  exact ⟨rfl, HB9.out⟩

end Go.Proofs.Ythipckllancohaa.Coder
