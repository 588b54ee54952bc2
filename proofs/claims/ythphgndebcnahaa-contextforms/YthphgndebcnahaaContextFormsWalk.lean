/-
  ContextForms, walked: it answers true for every two ints. No condition.
-/
import Derived.Test.YthphgndebcnahaaXAwake
import Derived.Laws.OwnMore
import Derived.OwnWalk
namespace Go.Proofs.Ythphgndebcnahaa.Ctx
open Go.RowKit Go.Proofs.Ythphgndebcnahaa.Mod Go.Proofs.Ythphgndebcnahaa.Ints Go.Proofs.Ythphgndebcnahaa.Num Go.Proofs.Ythphgndebcnahaa.Gam
set_option linter.unusedVariables false

theorem made_zeros (n : Nat) : (madeCells #[.int .i64 0] n).toList = vals (List.replicate n 0) := by
  refine List.ext_getElem (by simp [madeCells, vals]) fun i a b => ?_
  simp [madeCells, vals, Nat.mod_one]

theorem owns_zeros {w : World} {base g n : Nat} (h : w.ownsRow base 3 1 (.slice (some ⟨g, 0, none⟩) n n) n (madeCells #[.int .i64 0] n).toList) : Slc w (some ⟨g, 0, none⟩) (List.replicate n 0) := by
  rw [made_zeros] at h
  obtain ⟨ao, cap, e, _, _, _, hs⟩ := owns_slc h
  injection e with e1
  rw [e1]
  exact hs

theorem and_10 (n : Int) : bits .and .i64 n 1023 = n % 1024 := and_mask 10 1023 (by decide) (by decide) n

theorem zeros63 : c0 (List.replicate 63 0) = 32 ∧ c1 63 (List.replicate 63 0) = 63 ∧ c2 (List.replicate 63 0) = 31 := by decide

set_option maxRecDepth 20000 in
set_option maxHeartbeats 1000000 in
theorem forms_0 (x y : Int) (d : Nat) (hk : bits .and .i64 x 1 = 0) (hd : bits .and .i64 y 1023 = (d : Int)) (d1 : d ≤ 1023)
    (w : World) : Calls Try.prog 4 #[.int .i64 x, .int .i64 y] w fun e w' => e = .returned (.bool true) ∧ Bel w w' := by
  obtain ⟨i0, hi, hz0, hz1, hz2⟩ := info_parts info_int
  have E1 := eq_same 32 63 31
  have E2 := eq_in_same 32 63 31
  have m1 : Hid (i0.bytes * (64 + d) ≤ 281474976710656) := (by rw [hz2]; omega : i0.bytes * (64 + d) ≤ 281474976710656)
  have m2 : Hid (i0.bytes * 63 ≤ 281474976710656) := (by rw [hz2]; decide : i0.bytes * 63 ≤ 281474976710656)
  have m3 : Hid (64 + d ≤ maxLen) := (by unfold maxLen; omega : 64 + d ≤ maxLen)
  go_enter Try.func4, Try.ntmps4
  go_wp2_with fail
  refine (awake_ok _).mono ?_
  rintro e w1 ⟨rfl, b1⟩
  have B1 : Hid (Bel w w1) := b1
  clear b1
  go_wp2_with fail
  refine (of_no (-(1 + (d : Int))) none [] 0 0 rfl (Nat.zero_le _) (fun h => by have := h.1; have := h.2.1; omega) _ (slc_nil _ _)).mono ?_
  rintro e w2 ⟨rfl, b2⟩
  have B2 : Hid (Bel w w2) := (B1.out.alloc _).trans b2
  clear b2 B1
  have B3 : Hid (Bel w (w2.alloc (.cells #[.int .i64 0, .int .i64 0, .int .i64 0] 24))) := B2.out.alloc _
  clear B2
  go_wp2_with (at_make; refine wpList_make_full _ rfl _ _ 22 rfl (w2.alloc (.cells #[.int .i64 0, .int .i64 0, .int .i64 0] 24)).heap.size 3 i0 (.int .i64 0) 1 Try.underlying22 hi hz0 hz1 .i64 .i64 _ _ (64 + d) rfl rfl (by omega) (by omega) m1.out m3.out (Nat.le_refl _) ?_)
  intro w3 ho hg
  have B4 : Hid (Bel w w3 ∧ Slc w3 (some ⟨w2.heap.size + 1, 0, none⟩) (List.replicate (64 + d) 0)) := ⟨B3.out.trans (Below.grown (Bel.refl _) hg (Nat.le_refl _) (fun k hk => by cases hk)), owns_zeros ho⟩
  clear ho hg B3 m1
  go_wp2_with fail
  refine (of_no 5 _ (List.replicate (64 + d) 0) (64 + d) _ (by simp) m3.out (fun h => by have := h.2.2.1; rw [List.length_replicate] at this; omega) _ B4.out.2).mono ?_
  rintro e w4 ⟨rfl, b4⟩
  have B5 : Hid (Bel w w4) := B4.out.1.trans b4
  clear b4 B4 m3
  go_wp2_with fail
  refine (of_no 5 _ [0, 1, -(1 + (d : Int))] 3 3 rfl (by decide) (fun h => by have := h.2.2.2 2 (Nat.lt_succ_self 2); simp at this; omega) _ ?_).mono ?_
  · exact slc_3 (by go_simp) (by go_simp) (by go_simp)
  rintro e w5 ⟨rfl, b5⟩
  have B6 : Hid (Bel w w5) := (((B5.out.alloc _).alloc _).alloc _).trans b5
  clear b5 B5
  have B7 : Hid (Bel w (w5.alloc (.cells #[.int .i64 0, .int .i64 0, .int .i64 0] 24))) := B6.out.alloc _
  clear B6
  go_wp2_with (at_make; refine wpList_make_full _ rfl _ _ 22 rfl (w5.alloc (.cells #[.int .i64 0, .int .i64 0, .int .i64 0] 24)).heap.size 3 i0 (.int .i64 0) 1 Try.underlying22 hi hz0 hz1 .i64 .i64 _ _ 63 rfl rfl rfl rfl m2.out (by decide) (Nat.le_refl _) ?_)
  intro w6 ho hg
  have B8 : Hid (Bel w w6 ∧ Slc w6 (some ⟨w5.heap.size + 1, 0, none⟩) (List.replicate 63 0)) := ⟨B7.out.trans (Below.grown (Bel.refl _) hg (Nat.le_refl _) (fun k hk => by cases hk)), owns_zeros ho⟩
  clear ho hg B7 m2
  go_wp2_with fail
  refine (of_at 63 32 63 31 _ (List.replicate 63 0) 63 _ (by decide) ⟨by decide, by decide, by decide, bits_rep 63 0 (.inl rfl)⟩ zeros63.1 zeros63.2.1 zeros63.2.2 _ B8.out.2).mono ?_
  rintro e w7 ⟨rfl, b7⟩
  have B9 : Hid (Bel w w7) := B8.out.1.trans b7
  clear b7 B8
  go_wp2_with (go_at_call 10; refine (num_ok _ _).mono ?_; rintro e w8 ⟨rfl, hw⟩; replace hw := hw.symm; subst hw)
  go_ret
  exact ⟨rfl, B9.out.alloc _⟩

set_option maxRecDepth 20000 in
set_option maxHeartbeats 1000000 in
theorem forms_1 (x y : Int) (d : Nat) (hk : bits .and .i64 x 1 = 1) (hd : bits .and .i64 y 1023 = (d : Int)) (d1 : d ≤ 1023)
    (w : World) : Calls Try.prog 4 #[.int .i64 x, .int .i64 y] w fun e w' => e = .returned (.bool true) ∧ Bel w w' := by
  obtain ⟨i0, hi, hz0, hz1, hz2⟩ := info_parts info_int
  have E1 := eq_same 32 63 31
  have E2 := eq_in_same 32 63 31
  have m1 : Hid (i0.bytes * (64 + d) ≤ 281474976710656) := (by rw [hz2]; omega : i0.bytes * (64 + d) ≤ 281474976710656)
  have m2 : Hid (i0.bytes * 63 ≤ 281474976710656) := (by rw [hz2]; decide : i0.bytes * 63 ≤ 281474976710656)
  have m3 : Hid (64 + d ≤ maxLen) := (by unfold maxLen; omega : 64 + d ≤ maxLen)
  go_enter Try.func4, Try.ntmps4
  go_wp2_with fail
  refine (awake_ok _).mono ?_
  rintro e w1 ⟨rfl, b1⟩
  have B1 : Hid (Bel w w1) := b1
  clear b1
  go_wp2_with fail
  refine (of_no (63 + (1 + (d : Int))) none [] 0 0 rfl (Nat.zero_le _) (fun h => by have := h.1; have := h.2.1; omega) _ (slc_nil _ _)).mono ?_
  rintro e w2 ⟨rfl, b2⟩
  have B2 : Hid (Bel w w2) := (B1.out.alloc _).trans b2
  clear b2 B1
  have B3 : Hid (Bel w (w2.alloc (.cells #[.int .i64 0, .int .i64 0, .int .i64 0] 24))) := B2.out.alloc _
  clear B2
  go_wp2_with (at_make; refine wpList_make_full _ rfl _ _ 22 rfl (w2.alloc (.cells #[.int .i64 0, .int .i64 0, .int .i64 0] 24)).heap.size 3 i0 (.int .i64 0) 1 Try.underlying22 hi hz0 hz1 .i64 .i64 _ _ (64 + d) rfl rfl (by omega) (by omega) m1.out m3.out (Nat.le_refl _) ?_)
  intro w3 ho hg
  have B4 : Hid (Bel w w3 ∧ Slc w3 (some ⟨w2.heap.size + 1, 0, none⟩) (List.replicate (64 + d) 0)) := ⟨B3.out.trans (Below.grown (Bel.refl _) hg (Nat.le_refl _) (fun k hk => by cases hk)), owns_zeros ho⟩
  clear ho hg B3 m1
  go_wp2_with fail
  refine (of_no 5 _ (List.replicate (64 + d) 0) (64 + d) _ (by simp) m3.out (fun h => by have := h.2.2.1; rw [List.length_replicate] at this; omega) _ B4.out.2).mono ?_
  rintro e w4 ⟨rfl, b4⟩
  have B5 : Hid (Bel w w4) := B4.out.1.trans b4
  clear b4 B4 m3
  go_wp2_with fail
  refine (of_no 5 _ [0, 1, 1 + (1 + (d : Int))] 3 3 rfl (by decide) (fun h => by have := h.2.2.2 2 (Nat.lt_succ_self 2); simp at this; omega) _ ?_).mono ?_
  · exact slc_3 (by go_simp) (by go_simp) (by go_simp)
  rintro e w5 ⟨rfl, b5⟩
  have B6 : Hid (Bel w w5) := (((B5.out.alloc _).alloc _).alloc _).trans b5
  clear b5 B5
  have B7 : Hid (Bel w (w5.alloc (.cells #[.int .i64 0, .int .i64 0, .int .i64 0] 24))) := B6.out.alloc _
  clear B6
  go_wp2_with (at_make; refine wpList_make_full _ rfl _ _ 22 rfl (w5.alloc (.cells #[.int .i64 0, .int .i64 0, .int .i64 0] 24)).heap.size 3 i0 (.int .i64 0) 1 Try.underlying22 hi hz0 hz1 .i64 .i64 _ _ 63 rfl rfl rfl rfl m2.out (by decide) (Nat.le_refl _) ?_)
  intro w6 ho hg
  have B8 : Hid (Bel w w6 ∧ Slc w6 (some ⟨w5.heap.size + 1, 0, none⟩) (List.replicate 63 0)) := ⟨B7.out.trans (Below.grown (Bel.refl _) hg (Nat.le_refl _) (fun k hk => by cases hk)), owns_zeros ho⟩
  clear ho hg B7 m2
  go_wp2_with fail
  refine (of_at 63 32 63 31 _ (List.replicate 63 0) 63 _ (by decide) ⟨by decide, by decide, by decide, bits_rep 63 0 (.inl rfl)⟩ zeros63.1 zeros63.2.1 zeros63.2.2 _ B8.out.2).mono ?_
  rintro e w7 ⟨rfl, b7⟩
  have B9 : Hid (Bel w w7) := B8.out.1.trans b7
  clear b7 B8
  go_wp2_with (go_at_call 10; refine (num_ok _ _).mono ?_; rintro e w8 ⟨rfl, hw⟩; replace hw := hw.symm; subst hw)
  go_ret
  exact ⟨rfl, B9.out.alloc _⟩

theorem forms_walk (x y : Int) (w : World) : Calls Try.prog 4 #[.int .i64 x, .int .i64 y] w fun e w' => e = .returned (.bool true) ∧ Bel w w' := by
  have hk := and_one x
  have hd : bits .and .i64 y 1023 = (((y % 1024).toNat : Nat) : Int) := by rw [and_10]; omega
  rcases (by omega : x % 2 = 0 ∨ x % 2 = 1) with q | q
  · rw [q] at hk
    exact forms_0 x y _ hk hd (by omega) w
  · rw [q] at hk
    exact forms_1 x y _ hk hd (by omega) w

end Go.Proofs.Ythphgndebcnahaa.Ctx
