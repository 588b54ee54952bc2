/-
  GammaForms, walked: the ways where which is odd. No condition.
-/
import Derived.Test.YtmpbljkbpkbnbaaGFormsP
namespace Go.Proofs.Ytmpbljkbpkbnbaa.Gam
open Go.RowKit Go.Proofs.Ytmpbljkbpkbnbaa.Mod Go.Proofs.Ytmpbljkbpkbnbaa.Ints Go.Proofs.Ytmpbljkbpkbnbaa.Num
set_option linter.unusedVariables false

set_option maxRecDepth 20000 in
set_option maxHeartbeats 1000000 in
theorem forms_1_0 (x y d : Int) (hk : bits .and .i64 x 1 = 1) (hd : bits .and .i64 y 1023 = d) (d0 : 0 ≤ d) (d1 : d ≤ 1023) (hj : wrap64 ((IntKind.u64.wrap x).tmod 11) = 0)
    (w : World) : Calls Try.prog 4 #[.int .i64 x, .int .i64 y] w fun e w' => e = .returned (.bool true) ∧ Bel w w' := by
  obtain ⟨i0, hi, hz0, hz1, hz2⟩ := info_parts info_int
  have m1 : Hid (i0.bytes * 52 ≤ 281474976710656) := (by rw [hz2]; decide : i0.bytes * 52 ≤ 281474976710656)
  go_enter Try.func4, Try.ntmps4
  go_wp2_with fail
  refine (awake_ok _).mono ?_
  rintro e w1 ⟨rfl, b1⟩
  go_wp2_with fail
  refine (bits_no _ (by omega) _).mono ?_
  rintro e w2 ⟨rfl, hw⟩
  have b2 : Bel w w2 := by rw [hw]; exact b1.alloc _
  clear hw b1
  have B2 : Hid (Bel w w2) := b2
  clear b2
  go_wp2_with (at_make; refine wpList_make_full _ rfl _ _ 22 rfl w2.heap.size 3 i0 (.int .i64 0) 1 Try.underlying22 hi hz0 hz1 .i64 .i64 _ _ 52 rfl rfl rfl rfl m1.out (by decide) (Nat.le_refl _) ?_)
  intro w3 ho hg
  have b3 : Bel w2 w3 := Below.grown (Bel.refl w2) hg (Nat.le_refl _) (fun k hk => by cases hk)
  have H3 : Hid (∃ M : List Value, w3.ownsRow w2.heap.size 3 1 (.slice (some ⟨w2.heap.size, 0, none⟩) 52 52) 52 M ∧ Bel w2 w3) := ⟨_, ho, b3⟩
  clear ho hg b3 m1
  go_wp2_with fail
  go_loopw [9] (fun i wr => ∃ j : Nat, j ≤ 26 ∧ i = .int .i64 j ∧ Hid (∃ M : List Value, wr.ownsRow w2.heap.size 3 1 (.slice (some ⟨w2.heap.size, 0, none⟩) 52 52) 52 M ∧ Bel w2 wr)) (fun i _ => 26 - (intOf i).toNat)
  case atStart => exact ⟨0, Nat.zero_le _, rfl, H3⟩
  case round =>
    obtain ⟨j, hj26, rfl, H⟩ := hrel
    clear H3
    obtain ⟨M, ho, hb⟩ := H.out
    have HO : Hid (wr.ownsRow w2.heap.size 3 1 (.slice (some ⟨w2.heap.size, 0, none⟩) 52 52) 52 M ∧ Bel w2 wr) := ⟨ho, hb⟩
    clear H
    by_cases hlt : j < 26
    · have hc := ho.cellAt j (by omega)
      have hf := ho.frozenAt j
      have hM : j < M.length := by have := ho.1; omega
      rw [List.getElem?_eq_getElem hM] at hc
      generalize M[j] = p at *
      clear ho hb hM
      go_wp2
      go_roundw
      case rel => exact ⟨j + 1, by omega, by go_num, ⟨_, (HO.out.1.stored j _).1, HO.out.2.setCell (Nat.le_refl _) _⟩⟩
      case measure => simp [intOf]; omega
    · obtain rfl : j = 26 := by omega
      clear ho hb
      have c3 : Hid (52 + 1 ≤ maxLen) := (by decide : 52 + 1 ≤ maxLen)
      have c4 : Hid ((52 + 1) * 8 ≤ 140737488355328) := (by decide : (52 + 1) * 8 ≤ 140737488355328)
      go_wp2_with (at_builtin; refine wpList_append_own _ rfl (.tmp 39) (.tmp 40) 22 rfl w2.heap.size 3 i0 (.int .i64 0) 1 8 Try.underlying22 hi hz0 hz1 hz2 rfl (by decide) _ 52 _ rfl (HO.out.1.alloc _) ⟨wr.heap.size, 0, none⟩ 1 1 (vals [0]) rfl rfl (one_cell _ _) (ints_oneCell _ _) c3.out c4.out (size_ok HO.out.2 _) ?_)
      intro v' w4 ho hg _
      have b4 : Bel w2 w4 := Below.grown (HO.out.2.alloc _) hg (by have := HO.out.2.size; simp; omega) (fun k hk => (HO.out.1.lt k hk).1)
      have B4 : Hid (Bel w w4) := B2.out.trans b4
      rcases ho.2 with ⟨_, h0⟩ | ⟨g, cap, cur, rfl, hg1, hg2, hcap, hmax, _, _⟩
      · omega
      have g4 : g < w4.heap.size := (Array.getElem?_eq_some_iff.1 hg2).1
      clear ho hg b4 HO B2 c3 c4 hg1 hg2
      go_wp2_with fail
      refine (number_len _ ([] : List Int) 0 0 rfl (by decide) (by decide) _).mono ?_
      rintro e w5 ⟨rfl, hw⟩
      have ev : numV ([] : List Int) = .tuple #[.int .i64 0, .int .i64 1100] := by rfl
      rw [ev]
      clear ev
      have b5 : Bel w w5 := by rw [hw]; exact ((((((((((B4.out).alloc _).alloc _).alloc _).alloc _).alloc _).alloc _).alloc _).alloc _).alloc _).alloc _
      clear hw
      go_wp2_with (go_at_call 13; refine (num_ok _ _).mono ?_; rintro e w6 ⟨rfl, hw⟩; replace hw := hw.symm; subst hw)
      go_ret
      exact ⟨rfl, b5⟩

set_option maxRecDepth 20000 in
set_option maxHeartbeats 1000000 in
theorem forms_1_1 (x y d : Int) (hk : bits .and .i64 x 1 = 1) (hd : bits .and .i64 y 1023 = d) (d0 : 0 ≤ d) (d1 : d ≤ 1023) (hj : wrap64 ((IntKind.u64.wrap x).tmod 11) = 1)
    (w : World) : Calls Try.prog 4 #[.int .i64 x, .int .i64 y] w fun e w' => e = .returned (.bool true) ∧ Bel w w' := by
  obtain ⟨i0, hi, hz0, hz1, hz2⟩ := info_parts info_int
  have m1 : Hid (i0.bytes * 52 ≤ 281474976710656) := (by rw [hz2]; decide : i0.bytes * 52 ≤ 281474976710656)
  go_enter Try.func4, Try.ntmps4
  go_wp2_with fail
  refine (awake_ok _).mono ?_
  rintro e w1 ⟨rfl, b1⟩
  go_wp2_with fail
  refine (bits_no _ (by omega) _).mono ?_
  rintro e w2 ⟨rfl, hw⟩
  have b2 : Bel w w2 := by rw [hw]; exact b1.alloc _
  clear hw b1
  have B2 : Hid (Bel w w2) := b2
  clear b2
  go_wp2_with (at_make; refine wpList_make_full _ rfl _ _ 22 rfl w2.heap.size 3 i0 (.int .i64 0) 1 Try.underlying22 hi hz0 hz1 .i64 .i64 _ _ 52 rfl rfl rfl rfl m1.out (by decide) (Nat.le_refl _) ?_)
  intro w3 ho hg
  have b3 : Bel w2 w3 := Below.grown (Bel.refl w2) hg (Nat.le_refl _) (fun k hk => by cases hk)
  have H3 : Hid (∃ M : List Value, w3.ownsRow w2.heap.size 3 1 (.slice (some ⟨w2.heap.size, 0, none⟩) 52 52) 52 M ∧ Bel w2 w3) := ⟨_, ho, b3⟩
  clear ho hg b3 m1
  go_wp2_with fail
  go_loopw [9] (fun i wr => ∃ j : Nat, j ≤ 26 ∧ i = .int .i64 j ∧ Hid (∃ M : List Value, wr.ownsRow w2.heap.size 3 1 (.slice (some ⟨w2.heap.size, 0, none⟩) 52 52) 52 M ∧ Bel w2 wr)) (fun i _ => 26 - (intOf i).toNat)
  case atStart => exact ⟨0, Nat.zero_le _, rfl, H3⟩
  case round =>
    obtain ⟨j, hj26, rfl, H⟩ := hrel
    clear H3
    obtain ⟨M, ho, hb⟩ := H.out
    have HO : Hid (wr.ownsRow w2.heap.size 3 1 (.slice (some ⟨w2.heap.size, 0, none⟩) 52 52) 52 M ∧ Bel w2 wr) := ⟨ho, hb⟩
    clear H
    by_cases hlt : j < 26
    · have hc := ho.cellAt j (by omega)
      have hf := ho.frozenAt j
      have hM : j < M.length := by have := ho.1; omega
      rw [List.getElem?_eq_getElem hM] at hc
      generalize M[j] = p at *
      clear ho hb hM
      go_wp2
      go_roundw
      case rel => exact ⟨j + 1, by omega, by go_num, ⟨_, (HO.out.1.stored j _).1, HO.out.2.setCell (Nat.le_refl _) _⟩⟩
      case measure => simp [intOf]; omega
    · obtain rfl : j = 26 := by omega
      clear ho hb
      have c3 : Hid (52 + 1 ≤ maxLen) := (by decide : 52 + 1 ≤ maxLen)
      have c4 : Hid ((52 + 1) * 8 ≤ 140737488355328) := (by decide : (52 + 1) * 8 ≤ 140737488355328)
      go_wp2_with (at_builtin; refine wpList_append_own _ rfl (.tmp 39) (.tmp 40) 22 rfl w2.heap.size 3 i0 (.int .i64 0) 1 8 Try.underlying22 hi hz0 hz1 hz2 rfl (by decide) _ 52 _ rfl (HO.out.1.alloc _) ⟨wr.heap.size, 0, none⟩ 1 1 (vals [0]) rfl rfl (one_cell _ _) (ints_oneCell _ _) c3.out c4.out (size_ok HO.out.2 _) ?_)
      intro v' w4 ho hg _
      have b4 : Bel w2 w4 := Below.grown (HO.out.2.alloc _) hg (by have := HO.out.2.size; simp; omega) (fun k hk => (HO.out.1.lt k hk).1)
      have B4 : Hid (Bel w w4) := B2.out.trans b4
      rcases ho.2 with ⟨_, h0⟩ | ⟨g, cap, cur, rfl, hg1, hg2, hcap, hmax, _, _⟩
      · omega
      have g4 : g < w4.heap.size := (Array.getElem?_eq_some_iff.1 hg2).1
      clear ho hg b4 HO B2 c3 c4 hg1 hg2
      go_wp2_with fail
      refine (number_ok _ ([1] : List Int) 1 1 rfl (by decide) (by decide) _ ?_).mono ?_
      · exact slc_1 (by go_simp)
      rintro e w5 ⟨rfl, hw⟩
      have ev : numV ([1] : List Int) = .tuple #[.int .i64 0, .int .i64 1100] := by rfl
      rw [ev]
      clear ev
      have b5 : Bel w w5 := by rw [hw]; exact ((((((((((B4.out).alloc _).alloc _).alloc _).alloc _).alloc _).alloc _).alloc _).alloc _).alloc _).alloc _
      clear hw
      go_wp2_with (go_at_call 13; refine (num_ok _ _).mono ?_; rintro e w6 ⟨rfl, hw⟩; replace hw := hw.symm; subst hw)
      go_ret
      exact ⟨rfl, b5⟩

set_option maxRecDepth 20000 in
set_option maxHeartbeats 1000000 in
theorem forms_1_2 (x y d : Int) (hk : bits .and .i64 x 1 = 1) (hd : bits .and .i64 y 1023 = d) (d0 : 0 ≤ d) (d1 : d ≤ 1023) (hj : wrap64 ((IntKind.u64.wrap x).tmod 11) = 2)
    (w : World) : Calls Try.prog 4 #[.int .i64 x, .int .i64 y] w fun e w' => e = .returned (.bool true) ∧ Bel w w' := by
  obtain ⟨i0, hi, hz0, hz1, hz2⟩ := info_parts info_int
  have m1 : Hid (i0.bytes * 52 ≤ 281474976710656) := (by rw [hz2]; decide : i0.bytes * 52 ≤ 281474976710656)
  go_enter Try.func4, Try.ntmps4
  go_wp2_with fail
  refine (awake_ok _).mono ?_
  rintro e w1 ⟨rfl, b1⟩
  go_wp2_with fail
  refine (bits_no _ (by omega) _).mono ?_
  rintro e w2 ⟨rfl, hw⟩
  have b2 : Bel w w2 := by rw [hw]; exact b1.alloc _
  clear hw b1
  have B2 : Hid (Bel w w2) := b2
  clear b2
  go_wp2_with (at_make; refine wpList_make_full _ rfl _ _ 22 rfl w2.heap.size 3 i0 (.int .i64 0) 1 Try.underlying22 hi hz0 hz1 .i64 .i64 _ _ 52 rfl rfl rfl rfl m1.out (by decide) (Nat.le_refl _) ?_)
  intro w3 ho hg
  have b3 : Bel w2 w3 := Below.grown (Bel.refl w2) hg (Nat.le_refl _) (fun k hk => by cases hk)
  have H3 : Hid (∃ M : List Value, w3.ownsRow w2.heap.size 3 1 (.slice (some ⟨w2.heap.size, 0, none⟩) 52 52) 52 M ∧ Bel w2 w3) := ⟨_, ho, b3⟩
  clear ho hg b3 m1
  go_wp2_with fail
  go_loopw [9] (fun i wr => ∃ j : Nat, j ≤ 26 ∧ i = .int .i64 j ∧ Hid (∃ M : List Value, wr.ownsRow w2.heap.size 3 1 (.slice (some ⟨w2.heap.size, 0, none⟩) 52 52) 52 M ∧ Bel w2 wr)) (fun i _ => 26 - (intOf i).toNat)
  case atStart => exact ⟨0, Nat.zero_le _, rfl, H3⟩
  case round =>
    obtain ⟨j, hj26, rfl, H⟩ := hrel
    clear H3
    obtain ⟨M, ho, hb⟩ := H.out
    have HO : Hid (wr.ownsRow w2.heap.size 3 1 (.slice (some ⟨w2.heap.size, 0, none⟩) 52 52) 52 M ∧ Bel w2 wr) := ⟨ho, hb⟩
    clear H
    by_cases hlt : j < 26
    · have hc := ho.cellAt j (by omega)
      have hf := ho.frozenAt j
      have hM : j < M.length := by have := ho.1; omega
      rw [List.getElem?_eq_getElem hM] at hc
      generalize M[j] = p at *
      clear ho hb hM
      go_wp2
      go_roundw
      case rel => exact ⟨j + 1, by omega, by go_num, ⟨_, (HO.out.1.stored j _).1, HO.out.2.setCell (Nat.le_refl _) _⟩⟩
      case measure => simp [intOf]; omega
    · obtain rfl : j = 26 := by omega
      clear ho hb
      have c3 : Hid (52 + 1 ≤ maxLen) := (by decide : 52 + 1 ≤ maxLen)
      have c4 : Hid ((52 + 1) * 8 ≤ 140737488355328) := (by decide : (52 + 1) * 8 ≤ 140737488355328)
      go_wp2_with (at_builtin; refine wpList_append_own _ rfl (.tmp 39) (.tmp 40) 22 rfl w2.heap.size 3 i0 (.int .i64 0) 1 8 Try.underlying22 hi hz0 hz1 hz2 rfl (by decide) _ 52 _ rfl (HO.out.1.alloc _) ⟨wr.heap.size, 0, none⟩ 1 1 (vals [0]) rfl rfl (one_cell _ _) (ints_oneCell _ _) c3.out c4.out (size_ok HO.out.2 _) ?_)
      intro v' w4 ho hg _
      have b4 : Bel w2 w4 := Below.grown (HO.out.2.alloc _) hg (by have := HO.out.2.size; simp; omega) (fun k hk => (HO.out.1.lt k hk).1)
      have B4 : Hid (Bel w w4) := B2.out.trans b4
      rcases ho.2 with ⟨_, h0⟩ | ⟨g, cap, cur, rfl, hg1, hg2, hcap, hmax, _, _⟩
      · omega
      have g4 : g < w4.heap.size := (Array.getElem?_eq_some_iff.1 hg2).1
      clear ho hg b4 HO B2 c3 c4 hg1 hg2
      go_wp2_with fail
      refine (number_len _ ([1, 1] : List Int) 2 2 rfl (by decide) (by decide) _).mono ?_
      rintro e w5 ⟨rfl, hw⟩
      have ev : numV ([1, 1] : List Int) = .tuple #[.int .i64 0, .int .i64 1100] := by rfl
      rw [ev]
      clear ev
      have b5 : Bel w w5 := by rw [hw]; exact ((((((((((B4.out).alloc _).alloc _).alloc _).alloc _).alloc _).alloc _).alloc _).alloc _).alloc _).alloc _
      clear hw
      go_wp2_with (go_at_call 13; refine (num_ok _ _).mono ?_; rintro e w6 ⟨rfl, hw⟩; replace hw := hw.symm; subst hw)
      go_ret
      exact ⟨rfl, b5⟩

set_option maxRecDepth 20000 in
set_option maxHeartbeats 1000000 in
theorem forms_1_3 (x y d : Int) (hk : bits .and .i64 x 1 = 1) (hd : bits .and .i64 y 1023 = d) (d0 : 0 ≤ d) (d1 : d ≤ 1023) (hj : wrap64 ((IntKind.u64.wrap x).tmod 11) = 3)
    (w : World) : Calls Try.prog 4 #[.int .i64 x, .int .i64 y] w fun e w' => e = .returned (.bool true) ∧ Bel w w' := by
  obtain ⟨i0, hi, hz0, hz1, hz2⟩ := info_parts info_int
  have m1 : Hid (i0.bytes * 52 ≤ 281474976710656) := (by rw [hz2]; decide : i0.bytes * 52 ≤ 281474976710656)
  go_enter Try.func4, Try.ntmps4
  go_wp2_with fail
  refine (awake_ok _).mono ?_
  rintro e w1 ⟨rfl, b1⟩
  go_wp2_with fail
  refine (bits_no _ (by omega) _).mono ?_
  rintro e w2 ⟨rfl, hw⟩
  have b2 : Bel w w2 := by rw [hw]; exact b1.alloc _
  clear hw b1
  have B2 : Hid (Bel w w2) := b2
  clear b2
  go_wp2_with (at_make; refine wpList_make_full _ rfl _ _ 22 rfl w2.heap.size 3 i0 (.int .i64 0) 1 Try.underlying22 hi hz0 hz1 .i64 .i64 _ _ 52 rfl rfl rfl rfl m1.out (by decide) (Nat.le_refl _) ?_)
  intro w3 ho hg
  have b3 : Bel w2 w3 := Below.grown (Bel.refl w2) hg (Nat.le_refl _) (fun k hk => by cases hk)
  have H3 : Hid (∃ M : List Value, w3.ownsRow w2.heap.size 3 1 (.slice (some ⟨w2.heap.size, 0, none⟩) 52 52) 52 M ∧ Bel w2 w3) := ⟨_, ho, b3⟩
  clear ho hg b3 m1
  go_wp2_with fail
  go_loopw [9] (fun i wr => ∃ j : Nat, j ≤ 26 ∧ i = .int .i64 j ∧ Hid (∃ M : List Value, wr.ownsRow w2.heap.size 3 1 (.slice (some ⟨w2.heap.size, 0, none⟩) 52 52) 52 M ∧ Bel w2 wr)) (fun i _ => 26 - (intOf i).toNat)
  case atStart => exact ⟨0, Nat.zero_le _, rfl, H3⟩
  case round =>
    obtain ⟨j, hj26, rfl, H⟩ := hrel
    clear H3
    obtain ⟨M, ho, hb⟩ := H.out
    have HO : Hid (wr.ownsRow w2.heap.size 3 1 (.slice (some ⟨w2.heap.size, 0, none⟩) 52 52) 52 M ∧ Bel w2 wr) := ⟨ho, hb⟩
    clear H
    by_cases hlt : j < 26
    · have hc := ho.cellAt j (by omega)
      have hf := ho.frozenAt j
      have hM : j < M.length := by have := ho.1; omega
      rw [List.getElem?_eq_getElem hM] at hc
      generalize M[j] = p at *
      clear ho hb hM
      go_wp2
      go_roundw
      case rel => exact ⟨j + 1, by omega, by go_num, ⟨_, (HO.out.1.stored j _).1, HO.out.2.setCell (Nat.le_refl _) _⟩⟩
      case measure => simp [intOf]; omega
    · obtain rfl : j = 26 := by omega
      clear ho hb
      have c3 : Hid (52 + 1 ≤ maxLen) := (by decide : 52 + 1 ≤ maxLen)
      have c4 : Hid ((52 + 1) * 8 ≤ 140737488355328) := (by decide : (52 + 1) * 8 ≤ 140737488355328)
      go_wp2_with (at_builtin; refine wpList_append_own _ rfl (.tmp 39) (.tmp 40) 22 rfl w2.heap.size 3 i0 (.int .i64 0) 1 8 Try.underlying22 hi hz0 hz1 hz2 rfl (by decide) _ 52 _ rfl (HO.out.1.alloc _) ⟨wr.heap.size, 0, none⟩ 1 1 (vals [0]) rfl rfl (one_cell _ _) (ints_oneCell _ _) c3.out c4.out (size_ok HO.out.2 _) ?_)
      intro v' w4 ho hg _
      have b4 : Bel w2 w4 := Below.grown (HO.out.2.alloc _) hg (by have := HO.out.2.size; simp; omega) (fun k hk => (HO.out.1.lt k hk).1)
      have B4 : Hid (Bel w w4) := B2.out.trans b4
      rcases ho.2 with ⟨_, h0⟩ | ⟨g, cap, cur, rfl, hg1, hg2, hcap, hmax, _, _⟩
      · omega
      have g4 : g < w4.heap.size := (Array.getElem?_eq_some_iff.1 hg2).1
      clear ho hg b4 HO B2 c3 c4 hg1 hg2
      go_wp2_with fail
      refine (number_len _ ([0, 0] : List Int) 2 2 rfl (by decide) (by decide) _).mono ?_
      rintro e w5 ⟨rfl, hw⟩
      have ev : numV ([0, 0] : List Int) = .tuple #[.int .i64 0, .int .i64 1100] := by rfl
      rw [ev]
      clear ev
      have b5 : Bel w w5 := by rw [hw]; exact ((((((((((B4.out).alloc _).alloc _).alloc _).alloc _).alloc _).alloc _).alloc _).alloc _).alloc _).alloc _
      clear hw
      go_wp2_with (go_at_call 13; refine (num_ok _ _).mono ?_; rintro e w6 ⟨rfl, hw⟩; replace hw := hw.symm; subst hw)
      go_ret
      exact ⟨rfl, b5⟩

set_option maxRecDepth 20000 in
set_option maxHeartbeats 1000000 in
theorem forms_1_4 (x y d : Int) (hk : bits .and .i64 x 1 = 1) (hd : bits .and .i64 y 1023 = d) (d0 : 0 ≤ d) (d1 : d ≤ 1023) (hj : wrap64 ((IntKind.u64.wrap x).tmod 11) = 4)
    (w : World) : Calls Try.prog 4 #[.int .i64 x, .int .i64 y] w fun e w' => e = .returned (.bool true) ∧ Bel w w' := by
  obtain ⟨i0, hi, hz0, hz1, hz2⟩ := info_parts info_int
  have m1 : Hid (i0.bytes * 52 ≤ 281474976710656) := (by rw [hz2]; decide : i0.bytes * 52 ≤ 281474976710656)
  go_enter Try.func4, Try.ntmps4
  go_wp2_with fail
  refine (awake_ok _).mono ?_
  rintro e w1 ⟨rfl, b1⟩
  go_wp2_with fail
  refine (bits_no _ (by omega) _).mono ?_
  rintro e w2 ⟨rfl, hw⟩
  have b2 : Bel w w2 := by rw [hw]; exact b1.alloc _
  clear hw b1
  have B2 : Hid (Bel w w2) := b2
  clear b2
  go_wp2_with (at_make; refine wpList_make_full _ rfl _ _ 22 rfl w2.heap.size 3 i0 (.int .i64 0) 1 Try.underlying22 hi hz0 hz1 .i64 .i64 _ _ 52 rfl rfl rfl rfl m1.out (by decide) (Nat.le_refl _) ?_)
  intro w3 ho hg
  have b3 : Bel w2 w3 := Below.grown (Bel.refl w2) hg (Nat.le_refl _) (fun k hk => by cases hk)
  have H3 : Hid (∃ M : List Value, w3.ownsRow w2.heap.size 3 1 (.slice (some ⟨w2.heap.size, 0, none⟩) 52 52) 52 M ∧ Bel w2 w3) := ⟨_, ho, b3⟩
  clear ho hg b3 m1
  go_wp2_with fail
  go_loopw [9] (fun i wr => ∃ j : Nat, j ≤ 26 ∧ i = .int .i64 j ∧ Hid (∃ M : List Value, wr.ownsRow w2.heap.size 3 1 (.slice (some ⟨w2.heap.size, 0, none⟩) 52 52) 52 M ∧ Bel w2 wr)) (fun i _ => 26 - (intOf i).toNat)
  case atStart => exact ⟨0, Nat.zero_le _, rfl, H3⟩
  case round =>
    obtain ⟨j, hj26, rfl, H⟩ := hrel
    clear H3
    obtain ⟨M, ho, hb⟩ := H.out
    have HO : Hid (wr.ownsRow w2.heap.size 3 1 (.slice (some ⟨w2.heap.size, 0, none⟩) 52 52) 52 M ∧ Bel w2 wr) := ⟨ho, hb⟩
    clear H
    by_cases hlt : j < 26
    · have hc := ho.cellAt j (by omega)
      have hf := ho.frozenAt j
      have hM : j < M.length := by have := ho.1; omega
      rw [List.getElem?_eq_getElem hM] at hc
      generalize M[j] = p at *
      clear ho hb hM
      go_wp2
      go_roundw
      case rel => exact ⟨j + 1, by omega, by go_num, ⟨_, (HO.out.1.stored j _).1, HO.out.2.setCell (Nat.le_refl _) _⟩⟩
      case measure => simp [intOf]; omega
    · obtain rfl : j = 26 := by omega
      clear ho hb
      have c3 : Hid (52 + 1 ≤ maxLen) := (by decide : 52 + 1 ≤ maxLen)
      have c4 : Hid ((52 + 1) * 8 ≤ 140737488355328) := (by decide : (52 + 1) * 8 ≤ 140737488355328)
      go_wp2_with (at_builtin; refine wpList_append_own _ rfl (.tmp 39) (.tmp 40) 22 rfl w2.heap.size 3 i0 (.int .i64 0) 1 8 Try.underlying22 hi hz0 hz1 hz2 rfl (by decide) _ 52 _ rfl (HO.out.1.alloc _) ⟨wr.heap.size, 0, none⟩ 1 1 (vals [0]) rfl rfl (one_cell _ _) (ints_oneCell _ _) c3.out c4.out (size_ok HO.out.2 _) ?_)
      intro v' w4 ho hg _
      have b4 : Bel w2 w4 := Below.grown (HO.out.2.alloc _) hg (by have := HO.out.2.size; simp; omega) (fun k hk => (HO.out.1.lt k hk).1)
      have B4 : Hid (Bel w w4) := B2.out.trans b4
      rcases ho.2 with ⟨_, h0⟩ | ⟨g, cap, cur, rfl, hg1, hg2, hcap, hmax, _, _⟩
      · omega
      have g4 : g < w4.heap.size := (Array.getElem?_eq_some_iff.1 hg2).1
      clear ho hg b4 HO B2 c3 c4 hg1 hg2
      go_wp2_with fail
      refine (number_len _ ([1, 0] : List Int) 2 2 rfl (by decide) (by decide) _).mono ?_
      rintro e w5 ⟨rfl, hw⟩
      have ev : numV ([1, 0] : List Int) = .tuple #[.int .i64 0, .int .i64 1100] := by rfl
      rw [ev]
      clear ev
      have b5 : Bel w w5 := by rw [hw]; exact ((((((((((B4.out).alloc _).alloc _).alloc _).alloc _).alloc _).alloc _).alloc _).alloc _).alloc _).alloc _
      clear hw
      go_wp2_with (go_at_call 13; refine (num_ok _ _).mono ?_; rintro e w6 ⟨rfl, hw⟩; replace hw := hw.symm; subst hw)
      go_ret
      exact ⟨rfl, b5⟩

set_option maxRecDepth 20000 in
set_option maxHeartbeats 1000000 in
theorem forms_1_5 (x y d : Int) (hk : bits .and .i64 x 1 = 1) (hd : bits .and .i64 y 1023 = d) (d0 : 0 ≤ d) (d1 : d ≤ 1023) (hj : wrap64 ((IntKind.u64.wrap x).tmod 11) = 5)
    (w : World) : Calls Try.prog 4 #[.int .i64 x, .int .i64 y] w fun e w' => e = .returned (.bool true) ∧ Bel w w' := by
  obtain ⟨i0, hi, hz0, hz1, hz2⟩ := info_parts info_int
  have m1 : Hid (i0.bytes * 52 ≤ 281474976710656) := (by rw [hz2]; decide : i0.bytes * 52 ≤ 281474976710656)
  go_enter Try.func4, Try.ntmps4
  go_wp2_with fail
  refine (awake_ok _).mono ?_
  rintro e w1 ⟨rfl, b1⟩
  go_wp2_with fail
  refine (bits_no _ (by omega) _).mono ?_
  rintro e w2 ⟨rfl, hw⟩
  have b2 : Bel w w2 := by rw [hw]; exact b1.alloc _
  clear hw b1
  have B2 : Hid (Bel w w2) := b2
  clear b2
  go_wp2_with (at_make; refine wpList_make_full _ rfl _ _ 22 rfl w2.heap.size 3 i0 (.int .i64 0) 1 Try.underlying22 hi hz0 hz1 .i64 .i64 _ _ 52 rfl rfl rfl rfl m1.out (by decide) (Nat.le_refl _) ?_)
  intro w3 ho hg
  have b3 : Bel w2 w3 := Below.grown (Bel.refl w2) hg (Nat.le_refl _) (fun k hk => by cases hk)
  have H3 : Hid (∃ M : List Value, w3.ownsRow w2.heap.size 3 1 (.slice (some ⟨w2.heap.size, 0, none⟩) 52 52) 52 M ∧ Bel w2 w3) := ⟨_, ho, b3⟩
  clear ho hg b3 m1
  go_wp2_with fail
  go_loopw [9] (fun i wr => ∃ j : Nat, j ≤ 26 ∧ i = .int .i64 j ∧ Hid (∃ M : List Value, wr.ownsRow w2.heap.size 3 1 (.slice (some ⟨w2.heap.size, 0, none⟩) 52 52) 52 M ∧ Bel w2 wr)) (fun i _ => 26 - (intOf i).toNat)
  case atStart => exact ⟨0, Nat.zero_le _, rfl, H3⟩
  case round =>
    obtain ⟨j, hj26, rfl, H⟩ := hrel
    clear H3
    obtain ⟨M, ho, hb⟩ := H.out
    have HO : Hid (wr.ownsRow w2.heap.size 3 1 (.slice (some ⟨w2.heap.size, 0, none⟩) 52 52) 52 M ∧ Bel w2 wr) := ⟨ho, hb⟩
    clear H
    by_cases hlt : j < 26
    · have hc := ho.cellAt j (by omega)
      have hf := ho.frozenAt j
      have hM : j < M.length := by have := ho.1; omega
      rw [List.getElem?_eq_getElem hM] at hc
      generalize M[j] = p at *
      clear ho hb hM
      go_wp2
      go_roundw
      case rel => exact ⟨j + 1, by omega, by go_num, ⟨_, (HO.out.1.stored j _).1, HO.out.2.setCell (Nat.le_refl _) _⟩⟩
      case measure => simp [intOf]; omega
    · obtain rfl : j = 26 := by omega
      clear ho hb
      have c3 : Hid (52 + 1 ≤ maxLen) := (by decide : 52 + 1 ≤ maxLen)
      have c4 : Hid ((52 + 1) * 8 ≤ 140737488355328) := (by decide : (52 + 1) * 8 ≤ 140737488355328)
      go_wp2_with (at_builtin; refine wpList_append_own _ rfl (.tmp 39) (.tmp 40) 22 rfl w2.heap.size 3 i0 (.int .i64 0) 1 8 Try.underlying22 hi hz0 hz1 hz2 rfl (by decide) _ 52 _ rfl (HO.out.1.alloc _) ⟨wr.heap.size, 0, none⟩ 1 1 (vals [0]) rfl rfl (one_cell _ _) (ints_oneCell _ _) c3.out c4.out (size_ok HO.out.2 _) ?_)
      intro v' w4 ho hg _
      have b4 : Bel w2 w4 := Below.grown (HO.out.2.alloc _) hg (by have := HO.out.2.size; simp; omega) (fun k hk => (HO.out.1.lt k hk).1)
      have B4 : Hid (Bel w w4) := B2.out.trans b4
      rcases ho.2 with ⟨_, h0⟩ | ⟨g, cap, cur, rfl, hg1, hg2, hcap, hmax, _, _⟩
      · omega
      have g4 : g < w4.heap.size := (Array.getElem?_eq_some_iff.1 hg2).1
      clear ho hg b4 HO B2 c3 c4 hg1 hg2
      go_wp2_with fail
      refine (number_ok _ ([1, 0, 2] : List Int) 3 3 rfl (by decide) (by decide) _ ?_).mono ?_
      · exact slc_3 (by go_simp) (by go_simp) (by go_simp)
      rintro e w5 ⟨rfl, hw⟩
      have ev : numV ([1, 0, 2] : List Int) = .tuple #[.int .i64 0, .int .i64 1100] := by rfl
      rw [ev]
      clear ev
      have b5 : Bel w w5 := by rw [hw]; exact ((((((((((B4.out).alloc _).alloc _).alloc _).alloc _).alloc _).alloc _).alloc _).alloc _).alloc _).alloc _
      clear hw
      go_wp2_with (go_at_call 13; refine (num_ok _ _).mono ?_; rintro e w6 ⟨rfl, hw⟩; replace hw := hw.symm; subst hw)
      go_ret
      exact ⟨rfl, b5⟩

set_option maxRecDepth 20000 in
set_option maxHeartbeats 1000000 in
theorem forms_1_6 (x y d : Int) (hk : bits .and .i64 x 1 = 1) (hd : bits .and .i64 y 1023 = d) (d0 : 0 ≤ d) (d1 : d ≤ 1023) (hj : wrap64 ((IntKind.u64.wrap x).tmod 11) = 6)
    (w : World) : Calls Try.prog 4 #[.int .i64 x, .int .i64 y] w fun e w' => e = .returned (.bool true) ∧ Bel w w' := by
  obtain ⟨i0, hi, hz0, hz1, hz2⟩ := info_parts info_int
  have m1 : Hid (i0.bytes * 52 ≤ 281474976710656) := (by rw [hz2]; decide : i0.bytes * 52 ≤ 281474976710656)
  go_enter Try.func4, Try.ntmps4
  go_wp2_with fail
  refine (awake_ok _).mono ?_
  rintro e w1 ⟨rfl, b1⟩
  go_wp2_with fail
  refine (bits_no _ (by omega) _).mono ?_
  rintro e w2 ⟨rfl, hw⟩
  have b2 : Bel w w2 := by rw [hw]; exact b1.alloc _
  clear hw b1
  have B2 : Hid (Bel w w2) := b2
  clear b2
  go_wp2_with (at_make; refine wpList_make_full _ rfl _ _ 22 rfl w2.heap.size 3 i0 (.int .i64 0) 1 Try.underlying22 hi hz0 hz1 .i64 .i64 _ _ 52 rfl rfl rfl rfl m1.out (by decide) (Nat.le_refl _) ?_)
  intro w3 ho hg
  have b3 : Bel w2 w3 := Below.grown (Bel.refl w2) hg (Nat.le_refl _) (fun k hk => by cases hk)
  have H3 : Hid (∃ M : List Value, w3.ownsRow w2.heap.size 3 1 (.slice (some ⟨w2.heap.size, 0, none⟩) 52 52) 52 M ∧ Bel w2 w3) := ⟨_, ho, b3⟩
  clear ho hg b3 m1
  go_wp2_with fail
  go_loopw [9] (fun i wr => ∃ j : Nat, j ≤ 26 ∧ i = .int .i64 j ∧ Hid (∃ M : List Value, wr.ownsRow w2.heap.size 3 1 (.slice (some ⟨w2.heap.size, 0, none⟩) 52 52) 52 M ∧ Bel w2 wr)) (fun i _ => 26 - (intOf i).toNat)
  case atStart => exact ⟨0, Nat.zero_le _, rfl, H3⟩
  case round =>
    obtain ⟨j, hj26, rfl, H⟩ := hrel
    clear H3
    obtain ⟨M, ho, hb⟩ := H.out
    have HO : Hid (wr.ownsRow w2.heap.size 3 1 (.slice (some ⟨w2.heap.size, 0, none⟩) 52 52) 52 M ∧ Bel w2 wr) := ⟨ho, hb⟩
    clear H
    by_cases hlt : j < 26
    · have hc := ho.cellAt j (by omega)
      have hf := ho.frozenAt j
      have hM : j < M.length := by have := ho.1; omega
      rw [List.getElem?_eq_getElem hM] at hc
      generalize M[j] = p at *
      clear ho hb hM
      go_wp2
      go_roundw
      case rel => exact ⟨j + 1, by omega, by go_num, ⟨_, (HO.out.1.stored j _).1, HO.out.2.setCell (Nat.le_refl _) _⟩⟩
      case measure => simp [intOf]; omega
    · obtain rfl : j = 26 := by omega
      clear ho hb
      have c3 : Hid (52 + 1 ≤ maxLen) := (by decide : 52 + 1 ≤ maxLen)
      have c4 : Hid ((52 + 1) * 8 ≤ 140737488355328) := (by decide : (52 + 1) * 8 ≤ 140737488355328)
      go_wp2_with (at_builtin; refine wpList_append_own _ rfl (.tmp 39) (.tmp 40) 22 rfl w2.heap.size 3 i0 (.int .i64 0) 1 8 Try.underlying22 hi hz0 hz1 hz2 rfl (by decide) _ 52 _ rfl (HO.out.1.alloc _) ⟨wr.heap.size, 0, none⟩ 1 1 (vals [0]) rfl rfl (one_cell _ _) (ints_oneCell _ _) c3.out c4.out (size_ok HO.out.2 _) ?_)
      intro v' w4 ho hg _
      have b4 : Bel w2 w4 := Below.grown (HO.out.2.alloc _) hg (by have := HO.out.2.size; simp; omega) (fun k hk => (HO.out.1.lt k hk).1)
      have B4 : Hid (Bel w w4) := B2.out.trans b4
      rcases ho.2 with ⟨_, h0⟩ | ⟨g, cap, cur, rfl, hg1, hg2, hcap, hmax, _, _⟩
      · omega
      have g4 : g < w4.heap.size := (Array.getElem?_eq_some_iff.1 hg2).1
      clear ho hg b4 HO B2 c3 c4 hg1 hg2
      go_wp2_with fail
      refine (number_len _ ([1, 0, 0, 0] : List Int) 4 4 rfl (by decide) (by decide) _).mono ?_
      rintro e w5 ⟨rfl, hw⟩
      have ev : numV ([1, 0, 0, 0] : List Int) = .tuple #[.int .i64 0, .int .i64 1100] := by rfl
      rw [ev]
      clear ev
      have b5 : Bel w w5 := by rw [hw]; exact ((((((((((B4.out).alloc _).alloc _).alloc _).alloc _).alloc _).alloc _).alloc _).alloc _).alloc _).alloc _
      clear hw
      go_wp2_with (go_at_call 13; refine (num_ok _ _).mono ?_; rintro e w6 ⟨rfl, hw⟩; replace hw := hw.symm; subst hw)
      go_ret
      exact ⟨rfl, b5⟩

set_option maxRecDepth 20000 in
set_option maxHeartbeats 1000000 in
theorem forms_1_7 (x y d : Int) (hk : bits .and .i64 x 1 = 1) (hd : bits .and .i64 y 1023 = d) (d0 : 0 ≤ d) (d1 : d ≤ 1023) (hj : wrap64 ((IntKind.u64.wrap x).tmod 11) = 7)
    (w : World) : Calls Try.prog 4 #[.int .i64 x, .int .i64 y] w fun e w' => e = .returned (.bool true) ∧ Bel w w' := by
  obtain ⟨i0, hi, hz0, hz1, hz2⟩ := info_parts info_int
  have m1 : Hid (i0.bytes * 52 ≤ 281474976710656) := (by rw [hz2]; decide : i0.bytes * 52 ≤ 281474976710656)
  go_enter Try.func4, Try.ntmps4
  go_wp2_with fail
  refine (awake_ok _).mono ?_
  rintro e w1 ⟨rfl, b1⟩
  go_wp2_with fail
  refine (bits_no _ (by omega) _).mono ?_
  rintro e w2 ⟨rfl, hw⟩
  have b2 : Bel w w2 := by rw [hw]; exact b1.alloc _
  clear hw b1
  have B2 : Hid (Bel w w2) := b2
  clear b2
  go_wp2_with (at_make; refine wpList_make_full _ rfl _ _ 22 rfl w2.heap.size 3 i0 (.int .i64 0) 1 Try.underlying22 hi hz0 hz1 .i64 .i64 _ _ 52 rfl rfl rfl rfl m1.out (by decide) (Nat.le_refl _) ?_)
  intro w3 ho hg
  have b3 : Bel w2 w3 := Below.grown (Bel.refl w2) hg (Nat.le_refl _) (fun k hk => by cases hk)
  have H3 : Hid (∃ M : List Value, w3.ownsRow w2.heap.size 3 1 (.slice (some ⟨w2.heap.size, 0, none⟩) 52 52) 52 M ∧ Bel w2 w3) := ⟨_, ho, b3⟩
  clear ho hg b3 m1
  go_wp2_with fail
  go_loopw [9] (fun i wr => ∃ j : Nat, j ≤ 26 ∧ i = .int .i64 j ∧ Hid (∃ M : List Value, wr.ownsRow w2.heap.size 3 1 (.slice (some ⟨w2.heap.size, 0, none⟩) 52 52) 52 M ∧ Bel w2 wr)) (fun i _ => 26 - (intOf i).toNat)
  case atStart => exact ⟨0, Nat.zero_le _, rfl, H3⟩
  case round =>
    obtain ⟨j, hj26, rfl, H⟩ := hrel
    clear H3
    obtain ⟨M, ho, hb⟩ := H.out
    have HO : Hid (wr.ownsRow w2.heap.size 3 1 (.slice (some ⟨w2.heap.size, 0, none⟩) 52 52) 52 M ∧ Bel w2 wr) := ⟨ho, hb⟩
    clear H
    by_cases hlt : j < 26
    · have hc := ho.cellAt j (by omega)
      have hf := ho.frozenAt j
      have hM : j < M.length := by have := ho.1; omega
      rw [List.getElem?_eq_getElem hM] at hc
      generalize M[j] = p at *
      clear ho hb hM
      go_wp2
      go_roundw
      case rel => exact ⟨j + 1, by omega, by go_num, ⟨_, (HO.out.1.stored j _).1, HO.out.2.setCell (Nat.le_refl _) _⟩⟩
      case measure => simp [intOf]; omega
    · obtain rfl : j = 26 := by omega
      clear ho hb
      have c3 : Hid (52 + 1 ≤ maxLen) := (by decide : 52 + 1 ≤ maxLen)
      have c4 : Hid ((52 + 1) * 8 ≤ 140737488355328) := (by decide : (52 + 1) * 8 ≤ 140737488355328)
      go_wp2_with (at_builtin; refine wpList_append_own _ rfl (.tmp 39) (.tmp 40) 22 rfl w2.heap.size 3 i0 (.int .i64 0) 1 8 Try.underlying22 hi hz0 hz1 hz2 rfl (by decide) _ 52 _ rfl (HO.out.1.alloc _) ⟨wr.heap.size, 0, none⟩ 1 1 (vals [0]) rfl rfl (one_cell _ _) (ints_oneCell _ _) c3.out c4.out (size_ok HO.out.2 _) ?_)
      intro v' w4 ho hg _
      have b4 : Bel w2 w4 := Below.grown (HO.out.2.alloc _) hg (by have := HO.out.2.size; simp; omega) (fun k hk => (HO.out.1.lt k hk).1)
      have B4 : Hid (Bel w w4) := B2.out.trans b4
      rcases ho.2 with ⟨_, h0⟩ | ⟨g, cap, cur, rfl, hg1, hg2, hcap, hmax, _, _⟩
      · omega
      have g4 : g < w4.heap.size := (Array.getElem?_eq_some_iff.1 hg2).1
      clear ho hg b4 HO B2 c3 c4 hg1 hg2
      go_wp2_with fail
      refine (number_ok _ ([2] : List Int) 1 1 rfl (by decide) (by decide) _ ?_).mono ?_
      · exact slc_1 (by go_simp)
      rintro e w5 ⟨rfl, hw⟩
      have ev : numV ([2] : List Int) = .tuple #[.int .i64 0, .int .i64 1100] := by rfl
      rw [ev]
      clear ev
      have b5 : Bel w w5 := by rw [hw]; exact ((((((((((B4.out).alloc _).alloc _).alloc _).alloc _).alloc _).alloc _).alloc _).alloc _).alloc _).alloc _
      clear hw
      go_wp2_with (go_at_call 13; refine (num_ok _ _).mono ?_; rintro e w6 ⟨rfl, hw⟩; replace hw := hw.symm; subst hw)
      go_ret
      exact ⟨rfl, b5⟩

set_option maxRecDepth 20000 in
set_option maxHeartbeats 1000000 in
theorem forms_1_8 (x y d : Int) (hk : bits .and .i64 x 1 = 1) (hd : bits .and .i64 y 1023 = d) (d0 : 0 ≤ d) (d1 : d ≤ 1023) (hj : wrap64 ((IntKind.u64.wrap x).tmod 11) = 8)
    (w : World) : Calls Try.prog 4 #[.int .i64 x, .int .i64 y] w fun e w' => e = .returned (.bool true) ∧ Bel w w' := by
  obtain ⟨i0, hi, hz0, hz1, hz2⟩ := info_parts info_int
  have m1 : Hid (i0.bytes * 52 ≤ 281474976710656) := (by rw [hz2]; decide : i0.bytes * 52 ≤ 281474976710656)
  go_enter Try.func4, Try.ntmps4
  go_wp2_with fail
  refine (awake_ok _).mono ?_
  rintro e w1 ⟨rfl, b1⟩
  go_wp2_with fail
  refine (bits_no _ (by omega) _).mono ?_
  rintro e w2 ⟨rfl, hw⟩
  have b2 : Bel w w2 := by rw [hw]; exact b1.alloc _
  clear hw b1
  have B2 : Hid (Bel w w2) := b2
  clear b2
  go_wp2_with (at_make; refine wpList_make_full _ rfl _ _ 22 rfl w2.heap.size 3 i0 (.int .i64 0) 1 Try.underlying22 hi hz0 hz1 .i64 .i64 _ _ 52 rfl rfl rfl rfl m1.out (by decide) (Nat.le_refl _) ?_)
  intro w3 ho hg
  have b3 : Bel w2 w3 := Below.grown (Bel.refl w2) hg (Nat.le_refl _) (fun k hk => by cases hk)
  have H3 : Hid (∃ M : List Value, w3.ownsRow w2.heap.size 3 1 (.slice (some ⟨w2.heap.size, 0, none⟩) 52 52) 52 M ∧ Bel w2 w3) := ⟨_, ho, b3⟩
  clear ho hg b3 m1
  go_wp2_with fail
  go_loopw [9] (fun i wr => ∃ j : Nat, j ≤ 26 ∧ i = .int .i64 j ∧ Hid (∃ M : List Value, wr.ownsRow w2.heap.size 3 1 (.slice (some ⟨w2.heap.size, 0, none⟩) 52 52) 52 M ∧ Bel w2 wr)) (fun i _ => 26 - (intOf i).toNat)
  case atStart => exact ⟨0, Nat.zero_le _, rfl, H3⟩
  case round =>
    obtain ⟨j, hj26, rfl, H⟩ := hrel
    clear H3
    obtain ⟨M, ho, hb⟩ := H.out
    have HO : Hid (wr.ownsRow w2.heap.size 3 1 (.slice (some ⟨w2.heap.size, 0, none⟩) 52 52) 52 M ∧ Bel w2 wr) := ⟨ho, hb⟩
    clear H
    by_cases hlt : j < 26
    · have hc := ho.cellAt j (by omega)
      have hf := ho.frozenAt j
      have hM : j < M.length := by have := ho.1; omega
      rw [List.getElem?_eq_getElem hM] at hc
      generalize M[j] = p at *
      clear ho hb hM
      go_wp2
      go_roundw
      case rel => exact ⟨j + 1, by omega, by go_num, ⟨_, (HO.out.1.stored j _).1, HO.out.2.setCell (Nat.le_refl _) _⟩⟩
      case measure => simp [intOf]; omega
    · obtain rfl : j = 26 := by omega
      clear ho hb
      have c3 : Hid (52 + 1 ≤ maxLen) := (by decide : 52 + 1 ≤ maxLen)
      have c4 : Hid ((52 + 1) * 8 ≤ 140737488355328) := (by decide : (52 + 1) * 8 ≤ 140737488355328)
      go_wp2_with (at_builtin; refine wpList_append_own _ rfl (.tmp 39) (.tmp 40) 22 rfl w2.heap.size 3 i0 (.int .i64 0) 1 8 Try.underlying22 hi hz0 hz1 hz2 rfl (by decide) _ 52 _ rfl (HO.out.1.alloc _) ⟨wr.heap.size, 0, none⟩ 1 1 (vals [0]) rfl rfl (one_cell _ _) (ints_oneCell _ _) c3.out c4.out (size_ok HO.out.2 _) ?_)
      intro v' w4 ho hg _
      have b4 : Bel w2 w4 := Below.grown (HO.out.2.alloc _) hg (by have := HO.out.2.size; simp; omega) (fun k hk => (HO.out.1.lt k hk).1)
      have B4 : Hid (Bel w w4) := B2.out.trans b4
      rcases ho.2 with ⟨_, h0⟩ | ⟨g, cap, cur, rfl, hg1, hg2, hcap, hmax, _, _⟩
      · omega
      have g4 : g < w4.heap.size := (Array.getElem?_eq_some_iff.1 hg2).1
      clear ho hg b4 HO B2 c3 c4 hg1 hg2
      go_wp2_with fail
      refine (number_ok _ ([-1] : List Int) 1 1 rfl (by decide) (by decide) _ ?_).mono ?_
      · exact slc_1 (by go_simp)
      rintro e w5 ⟨rfl, hw⟩
      have ev : numV ([-1] : List Int) = .tuple #[.int .i64 0, .int .i64 1100] := by rfl
      rw [ev]
      clear ev
      have b5 : Bel w w5 := by rw [hw]; exact ((((((((((B4.out).alloc _).alloc _).alloc _).alloc _).alloc _).alloc _).alloc _).alloc _).alloc _).alloc _
      clear hw
      go_wp2_with (go_at_call 13; refine (num_ok _ _).mono ?_; rintro e w6 ⟨rfl, hw⟩; replace hw := hw.symm; subst hw)
      go_ret
      exact ⟨rfl, b5⟩

set_option maxRecDepth 20000 in
set_option maxHeartbeats 1000000 in
theorem forms_1_9 (x y d : Int) (hk : bits .and .i64 x 1 = 1) (hd : bits .and .i64 y 1023 = d) (d0 : 0 ≤ d) (d1 : d ≤ 1023) (hj : wrap64 ((IntKind.u64.wrap x).tmod 11) = 9)
    (w : World) : Calls Try.prog 4 #[.int .i64 x, .int .i64 y] w fun e w' => e = .returned (.bool true) ∧ Bel w w' := by
  obtain ⟨i0, hi, hz0, hz1, hz2⟩ := info_parts info_int
  have m1 : Hid (i0.bytes * 52 ≤ 281474976710656) := (by rw [hz2]; decide : i0.bytes * 52 ≤ 281474976710656)
  go_enter Try.func4, Try.ntmps4
  go_wp2_with fail
  refine (awake_ok _).mono ?_
  rintro e w1 ⟨rfl, b1⟩
  go_wp2_with fail
  refine (bits_no _ (by omega) _).mono ?_
  rintro e w2 ⟨rfl, hw⟩
  have b2 : Bel w w2 := by rw [hw]; exact b1.alloc _
  clear hw b1
  have B2 : Hid (Bel w w2) := b2
  clear b2
  go_wp2_with (at_make; refine wpList_make_full _ rfl _ _ 22 rfl w2.heap.size 3 i0 (.int .i64 0) 1 Try.underlying22 hi hz0 hz1 .i64 .i64 _ _ 52 rfl rfl rfl rfl m1.out (by decide) (Nat.le_refl _) ?_)
  intro w3 ho hg
  have b3 : Bel w2 w3 := Below.grown (Bel.refl w2) hg (Nat.le_refl _) (fun k hk => by cases hk)
  have H3 : Hid (∃ M : List Value, w3.ownsRow w2.heap.size 3 1 (.slice (some ⟨w2.heap.size, 0, none⟩) 52 52) 52 M ∧ Bel w2 w3) := ⟨_, ho, b3⟩
  clear ho hg b3 m1
  go_wp2_with fail
  go_loopw [9] (fun i wr => ∃ j : Nat, j ≤ 26 ∧ i = .int .i64 j ∧ Hid (∃ M : List Value, wr.ownsRow w2.heap.size 3 1 (.slice (some ⟨w2.heap.size, 0, none⟩) 52 52) 52 M ∧ Bel w2 wr)) (fun i _ => 26 - (intOf i).toNat)
  case atStart => exact ⟨0, Nat.zero_le _, rfl, H3⟩
  case round =>
    obtain ⟨j, hj26, rfl, H⟩ := hrel
    clear H3
    obtain ⟨M, ho, hb⟩ := H.out
    have HO : Hid (wr.ownsRow w2.heap.size 3 1 (.slice (some ⟨w2.heap.size, 0, none⟩) 52 52) 52 M ∧ Bel w2 wr) := ⟨ho, hb⟩
    clear H
    by_cases hlt : j < 26
    · have hc := ho.cellAt j (by omega)
      have hf := ho.frozenAt j
      have hM : j < M.length := by have := ho.1; omega
      rw [List.getElem?_eq_getElem hM] at hc
      generalize M[j] = p at *
      clear ho hb hM
      go_wp2
      go_roundw
      case rel => exact ⟨j + 1, by omega, by go_num, ⟨_, (HO.out.1.stored j _).1, HO.out.2.setCell (Nat.le_refl _) _⟩⟩
      case measure => simp [intOf]; omega
    · obtain rfl : j = 26 := by omega
      clear ho hb
      have c3 : Hid (52 + 1 ≤ maxLen) := (by decide : 52 + 1 ≤ maxLen)
      have c4 : Hid ((52 + 1) * 8 ≤ 140737488355328) := (by decide : (52 + 1) * 8 ≤ 140737488355328)
      go_wp2_with (at_builtin; refine wpList_append_own _ rfl (.tmp 39) (.tmp 40) 22 rfl w2.heap.size 3 i0 (.int .i64 0) 1 8 Try.underlying22 hi hz0 hz1 hz2 rfl (by decide) _ 52 _ rfl (HO.out.1.alloc _) ⟨wr.heap.size, 0, none⟩ 1 1 (vals [0]) rfl rfl (one_cell _ _) (ints_oneCell _ _) c3.out c4.out (size_ok HO.out.2 _) ?_)
      intro v' w4 ho hg _
      have b4 : Bel w2 w4 := Below.grown (HO.out.2.alloc _) hg (by have := HO.out.2.size; simp; omega) (fun k hk => (HO.out.1.lt k hk).1)
      have B4 : Hid (Bel w w4) := B2.out.trans b4
      rcases ho.2 with ⟨_, h0⟩ | ⟨g, cap, cur, rfl, hg1, hg2, hcap, hmax, _, _⟩
      · omega
      have g4 : g < w4.heap.size := (Array.getElem?_eq_some_iff.1 hg2).1
      clear ho hg b4 HO B2 c3 c4 hg1 hg2
      go_wp2_with fail
      refine (number_ok _ ([1, 2, 0] : List Int) 3 3 rfl (by decide) (by decide) _ ?_).mono ?_
      · exact slc_3 (by go_simp) (by go_simp) (by go_simp)
      rintro e w5 ⟨rfl, hw⟩
      have ev : numV ([1, 2, 0] : List Int) = .tuple #[.int .i64 0, .int .i64 1100] := by rfl
      rw [ev]
      clear ev
      have b5 : Bel w w5 := by rw [hw]; exact ((((((((((B4.out).alloc _).alloc _).alloc _).alloc _).alloc _).alloc _).alloc _).alloc _).alloc _).alloc _
      clear hw
      go_wp2_with (go_at_call 13; refine (num_ok _ _).mono ?_; rintro e w6 ⟨rfl, hw⟩; replace hw := hw.symm; subst hw)
      go_ret
      exact ⟨rfl, b5⟩

set_option maxRecDepth 20000 in
set_option maxHeartbeats 1000000 in
theorem forms_1_10 (x y d : Int) (hk : bits .and .i64 x 1 = 1) (hd : bits .and .i64 y 1023 = d) (d0 : 0 ≤ d) (d1 : d ≤ 1023) (hj : wrap64 ((IntKind.u64.wrap x).tmod 11) = 10)
    (w : World) : Calls Try.prog 4 #[.int .i64 x, .int .i64 y] w fun e w' => e = .returned (.bool true) ∧ Bel w w' := by
  obtain ⟨i0, hi, hz0, hz1, hz2⟩ := info_parts info_int
  have m1 : Hid (i0.bytes * 52 ≤ 281474976710656) := (by rw [hz2]; decide : i0.bytes * 52 ≤ 281474976710656)
  go_enter Try.func4, Try.ntmps4
  go_wp2_with fail
  refine (awake_ok _).mono ?_
  rintro e w1 ⟨rfl, b1⟩
  go_wp2_with fail
  refine (bits_no _ (by omega) _).mono ?_
  rintro e w2 ⟨rfl, hw⟩
  have b2 : Bel w w2 := by rw [hw]; exact b1.alloc _
  clear hw b1
  have B2 : Hid (Bel w w2) := b2
  clear b2
  go_wp2_with (at_make; refine wpList_make_full _ rfl _ _ 22 rfl w2.heap.size 3 i0 (.int .i64 0) 1 Try.underlying22 hi hz0 hz1 .i64 .i64 _ _ 52 rfl rfl rfl rfl m1.out (by decide) (Nat.le_refl _) ?_)
  intro w3 ho hg
  have b3 : Bel w2 w3 := Below.grown (Bel.refl w2) hg (Nat.le_refl _) (fun k hk => by cases hk)
  have H3 : Hid (∃ M : List Value, w3.ownsRow w2.heap.size 3 1 (.slice (some ⟨w2.heap.size, 0, none⟩) 52 52) 52 M ∧ Bel w2 w3) := ⟨_, ho, b3⟩
  clear ho hg b3 m1
  go_wp2_with fail
  go_loopw [9] (fun i wr => ∃ j : Nat, j ≤ 26 ∧ i = .int .i64 j ∧ Hid (∃ M : List Value, wr.ownsRow w2.heap.size 3 1 (.slice (some ⟨w2.heap.size, 0, none⟩) 52 52) 52 M ∧ Bel w2 wr)) (fun i _ => 26 - (intOf i).toNat)
  case atStart => exact ⟨0, Nat.zero_le _, rfl, H3⟩
  case round =>
    obtain ⟨j, hj26, rfl, H⟩ := hrel
    clear H3
    obtain ⟨M, ho, hb⟩ := H.out
    have HO : Hid (wr.ownsRow w2.heap.size 3 1 (.slice (some ⟨w2.heap.size, 0, none⟩) 52 52) 52 M ∧ Bel w2 wr) := ⟨ho, hb⟩
    clear H
    by_cases hlt : j < 26
    · have hc := ho.cellAt j (by omega)
      have hf := ho.frozenAt j
      have hM : j < M.length := by have := ho.1; omega
      rw [List.getElem?_eq_getElem hM] at hc
      generalize M[j] = p at *
      clear ho hb hM
      go_wp2
      go_roundw
      case rel => exact ⟨j + 1, by omega, by go_num, ⟨_, (HO.out.1.stored j _).1, HO.out.2.setCell (Nat.le_refl _) _⟩⟩
      case measure => simp [intOf]; omega
    · obtain rfl : j = 26 := by omega
      clear ho hb
      have c3 : Hid (52 + 1 ≤ maxLen) := (by decide : 52 + 1 ≤ maxLen)
      have c4 : Hid ((52 + 1) * 8 ≤ 140737488355328) := (by decide : (52 + 1) * 8 ≤ 140737488355328)
      go_wp2_with (at_builtin; refine wpList_append_own _ rfl (.tmp 39) (.tmp 40) 22 rfl w2.heap.size 3 i0 (.int .i64 0) 1 8 Try.underlying22 hi hz0 hz1 hz2 rfl (by decide) _ 52 _ rfl (HO.out.1.alloc _) ⟨wr.heap.size, 0, none⟩ 1 1 (vals [0]) rfl rfl (one_cell _ _) (ints_oneCell _ _) c3.out c4.out (size_ok HO.out.2 _) ?_)
      intro v' w4 ho hg _
      have b4 : Bel w2 w4 := Below.grown (HO.out.2.alloc _) hg (by have := HO.out.2.size; simp; omega) (fun k hk => (HO.out.1.lt k hk).1)
      have B4 : Hid (Bel w w4) := B2.out.trans b4
      rcases ho.2 with ⟨_, h0⟩ | ⟨g, cap, cur, rfl, hg1, hg2, hcap, hmax, _, _⟩
      · omega
      have g4 : g < w4.heap.size := (Array.getElem?_eq_some_iff.1 hg2).1
      clear ho hg b4 HO B2 c3 c4 hg1 hg2
      go_wp2_with fail
      refine (number_len _ (List.replicate 53 0) 53 cap (by decide) (by decide) (by decide) _).mono ?_
      rintro e w5 ⟨rfl, hw⟩
      have ev : numV (List.replicate 53 0) = .tuple #[.int .i64 0, .int .i64 1100] := by rfl
      rw [ev]
      clear ev
      have b5 : Bel w w5 := by rw [hw]; exact ((((((((((B4.out).alloc _).alloc _).alloc _).alloc _).alloc _).alloc _).alloc _).alloc _).alloc _).alloc _
      clear hw
      go_wp2_with (go_at_call 13; refine (num_ok _ _).mono ?_; rintro e w6 ⟨rfl, hw⟩; replace hw := hw.symm; subst hw)
      go_ret
      exact ⟨rfl, b5⟩

end Go.Proofs.Ytmpbljkbpkbnbaa.Gam
