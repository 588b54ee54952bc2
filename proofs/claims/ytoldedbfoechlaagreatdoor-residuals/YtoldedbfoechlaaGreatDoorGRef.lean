/-
  The contracts of the reference's Bits, of any int: what gamma.Bits tells. No condition.
-/
import Derived.Test.YtoldedbfoechlaaGreatDoorGBits
namespace Go.Proofs.YtoldedbfoechlaaGreatDoor.Gam
open Go.RowKit Go.Proofs.YtoldedbfoechlaaGreatDoor.Mod Go.Proofs.YtoldedbfoechlaaGreatDoor.Ints Go.Proofs.YtoldedbfoechlaaGreatDoor.Num
set_option linter.unusedVariables false

theorem upto_ok (x lo hi : Int) (r : Bool) (h : decide (lo ≤ x ∧ x ≤ hi) = r) (w : World) :
    Calls Tryz.prog 51 #[.int .i64 x, .int .i64 lo, .int .i64 hi] w fun e w' => e = .returned (.bool r) ∧ w' = w := by
  subst h
  by_cases a : lo ≤ x
  · have hb : decide (lo ≤ x) = true := decide_eq_true a
    have hr : decide (lo ≤ x ∧ x ≤ hi) = decide (x ≤ hi) := by simp [a]
    rw [hr]
    clear hr
    go_enter Tryz.func51, Tryz.ntmps51
    go_wp2
    go_ret
    exact ⟨rfl, rfl⟩
  · have hb : decide (lo ≤ x) = false := decide_eq_false a
    have hr : decide (lo ≤ x ∧ x ≤ hi) = false := by simp [a]
    rw [hr]
    clear hr
    go_enter Tryz.func51, Tryz.ntmps51
    go_wp2
    go_ret
    exact ⟨rfl, rfl⟩

set_option maxHeartbeats 400000 in
theorem rbits_no (u : Int) (h : u < 0 ∨ 33554432 < u) (w : World) :
    Calls Tryz.prog 28 #[.int .i64 u] w fun e w' => e = .returned (.tuple #[.slice none 0 0, .int .i64 1100]) ∧ w' = w := by
  have U := upto_ok u 0 33554432 false (decide_eq_false (by omega)) w
  go_enter Tryz.func28, Tryz.ntmps28
  go_wp2_with (go_at_call 51; refine U.mono ?_; rintro e w1 ⟨rfl, h2⟩; replace h2 := h2.symm; subst h2)
  go_ret2
  exact ⟨rfl, rfl⟩

theorem above (u k : Nat) (h : k < many u) : ∃ q : Int, ((u : Int) + 1) / 2 ^ (k + 1) = q ∧ 0 < q := by
  refine ⟨_, rfl, ?_⟩
  have h1 : 2 ^ (k + 1) ≤ u + 1 := Nat.le_trans (Nat.pow_le_pow_right (by decide) h) (many_low u)
  have h2 : 0 < (u + 1) / 2 ^ (k + 1) := Nat.div_pos h1 (Nat.two_pow_pos _)
  have e : ((u : Int) + 1) / 2 ^ (k + 1) = (((u + 1) / 2 ^ (k + 1) : Nat) : Int) := by simp
  omega
theorem ended (u : Nat) : ((u : Int) + 1) / 2 ^ (many u + 1) = 0 := by
  have h := Nat.div_eq_of_lt (many_high u)
  have e : ((u : Int) + 1) / 2 ^ (many u + 1) = (((u + 1) / 2 ^ (many u + 1) : Nat) : Int) := by simp
  omega

set_option maxRecDepth 20000 in
set_option maxHeartbeats 2000000 in
theorem rbits_own (u n : Nat) (hu : u ≤ 33554432) (hn : n = many u) (w : World) :
    Calls Tryz.prog 28 #[.int .i64 (u : Int)] w fun e w' => ∃ v, e = .returned (.tuple #[v, .int .i64 0]) ∧ w'.ownsRow w.heap.size 3 1 v (2 * n + 1) (vals (bitsOf u)) ∧ Bel w w' := by
  obtain ⟨i0, hi, hz0, hz1, hz2⟩ := info_parts info_int
  have n25 : n ≤ 25 := hn ▸ many_25 u hu
  have HN : Hid (n = many u) := hn
  clear hn
  have U := upto_ok (u : Int) 0 33554432 true (decide_eq_true (by omega)) w
  go_enter Tryz.func28, Tryz.ntmps28
  go_wp2_with (go_at_call 51; refine U.mono ?_; rintro e w1 ⟨rfl, h2⟩; replace h2 := h2.symm; subst h2)
  go_loopw [4] (fun i wr => ∃ j : Nat, j ≤ n ∧ i = .int .i64 j ∧ w = wr) (fun i _ => n - (intOf i).toNat)
  case atStart => exact ⟨0, Nat.zero_le _, rfl, rfl⟩
  case round =>
    obtain ⟨j, hj, rfl, rfl⟩ := hrel
    by_cases hlt : j < n
    · obtain ⟨q, hq, hq0⟩ := above u j (HN.out ▸ hlt)
      go_wp2
      go_roundw
      case rel => exact ⟨j + 1, by omega, by go_num, by first | rfl | trivial⟩
      case measure => simp [intOf]; omega
    · obtain rfl : j = n := by omega
      have he := ended u
      rw [← HN.out] at he
      have R0 : Hid (w.ownsRow w.heap.size 3 1 (.slice none 0 0) 0 (vals (List.replicate 0 1)) ∧ Bel w w) := ⟨World.ownsRow_nil _ _ _ _, Bel.refl w⟩
      go_wp2
      go_loopw [5, 6] (fun v i wr => ∃ (t : Nat) (x : Value), t ≤ j ∧ i = .int .i64 t ∧ x = v ∧ Hid (wr.ownsRow w.heap.size 3 1 x t (vals (List.replicate t 1)) ∧ Bel w wr)) (fun _ i _ => j - (intOf i).toNat)
      case atStart => exact ⟨0, _, Nat.zero_le _, rfl, rfl, R0⟩
      case round =>
        obtain ⟨t, x, ht, rfl, rfl, H1⟩ := hrel
        clear R0
        by_cases hlt : t < j
        · have c3 : Hid (t + 1 ≤ maxLen) := (by unfold maxLen; omega : t + 1 ≤ maxLen)
          have c4 : Hid ((t + 1) * 8 ≤ 140737488355328) := (by omega : (t + 1) * 8 ≤ 140737488355328)
          go_wp2_with (at_builtin; refine wpList_append_own _ rfl (.tmp 24) (.tmp 25) 22 rfl w.heap.size 3 i0 (.int .i64 0) 1 8 Tryz.underlying22 hi hz0 hz1 hz2 rfl (by decide) _ t _ rfl (H1.out.1.alloc _) ⟨wr.heap.size, 0, none⟩ 1 1 (vals [1]) rfl rfl (one_cell _ _) (ints_oneCell _ _) c3.out c4.out (size_ok H1.out.2 _) ?_)
          intro v' w2 ho hg _
          have R := owns_more H1.out.1 H1.out.2 ho hg
          rw [rep_snoc] at R
          have R2 : Hid (w2.ownsRow w.heap.size 3 1 v' (t + 1) (vals (List.replicate (t + 1) 1)) ∧ Bel w w2) := R
          clear ho hg H1 c3 c4 R
          go_wp2
          go_roundw
          case rel => exact ⟨t + 1, _, by omega, by go_num, rfl, R2⟩
          case measure => simp [intOf]; omega
        · obtain rfl : t = j := by omega
          have c3 : Hid (t + 1 ≤ maxLen) := (by unfold maxLen; omega : t + 1 ≤ maxLen)
          have c4 : Hid ((t + 1) * 8 ≤ 140737488355328) := (by omega : (t + 1) * 8 ≤ 140737488355328)
          go_wp2_with (at_builtin; refine wpList_append_own _ rfl (.tmp 27) (.tmp 28) 22 rfl w.heap.size 3 i0 (.int .i64 0) 1 8 Tryz.underlying22 hi hz0 hz1 hz2 rfl (by decide) _ t _ rfl (H1.out.1.alloc _) ⟨wr.heap.size, 0, none⟩ 1 1 (vals [0]) rfl rfl (one_cell _ _) (ints_oneCell _ _) c3.out c4.out (size_ok H1.out.2 _) ?_)
          intro v' w2 ho hg _
          have R : Hid (w2.ownsRow w.heap.size 3 1 v' (t + 1 + 0) (vals (front u t 0)) ∧ Bel w w2) := front_zero u t ▸ owns_more H1.out.1 H1.out.2 ho hg
          clear ho hg H1 c3 c4 he
          go_wp2
          go_loopw [5, 7] (fun v i wr => ∃ (s : Nat) (z : Int) (x : Value), s ≤ t ∧ i = .int .i64 z ∧ x = v ∧ z = (t : Int) - 1 - s ∧ Hid (wr.ownsRow w.heap.size 3 1 x (t + 1 + s) (vals (front u t s)) ∧ Bel w wr)) (fun _ i _ => (intOf i + 1).toNat)
          case atStart => exact ⟨0, _, _, Nat.zero_le _, rfl, rfl, by omega, R⟩
          case round =>
            obtain ⟨s, z, x, hs, rfl, rfl, hz, H1⟩ := hrel
            clear R
            by_cases hlt : s < t
            · obtain ⟨q, rfl⟩ : ∃ q : Nat, z = (q : Int) := ⟨z.toNat, by omega⟩
              have hq : t - 1 - s = q := by omega
              have c3 : Hid (t + 1 + s + 1 ≤ maxLen) := (by unfold maxLen; omega : t + 1 + s + 1 ≤ maxLen)
              have c4 : Hid ((t + 1 + s + 1) * 8 ≤ 140737488355328) := (by omega : (t + 1 + s + 1) * 8 ≤ 140737488355328)
              have hand := bit_is u t s
              rw [hq] at hand
              have HF : Hid (front u t (s + 1) = front u t s ++ [bitAt u t s]) := front_succ u t s
              have q25 : q ≤ 25 := by omega
              have HZ : Hid ((q : Int) = (t : Int) - 1 - s) := hz
              clear hq hz
              generalize bitAt u t s = y at *
              go_wp2_with (at_builtin; refine wpList_append_own _ rfl (.tmp 36) (.tmp 42) 22 rfl w.heap.size 3 i0 (.int .i64 0) 1 8 Tryz.underlying22 hi hz0 hz1 hz2 rfl (by decide) _ (t + 1 + s) _ rfl (H1.out.1.alloc _) ⟨wr.heap.size, 0, none⟩ 1 1 (vals [y]) rfl rfl (one_cell _ _) (ints_oneCell _ _) c3.out c4.out (size_ok H1.out.2 _) ?_)
              intro v' w2 ho hg _
              have R := owns_more H1.out.1 H1.out.2 ho hg
              rw [← HF.out] at R
              have R2 : Hid (w2.ownsRow w.heap.size 3 1 v' (t + 1 + (s + 1)) (vals (front u t (s + 1))) ∧ Bel w w2) := R
              clear ho hg H1 c3 c4 R
              go_wp2
              go_roundw
              case rel => exact ⟨s + 1, _, _, by omega, rfl, rfl, by have := HZ.out; omega, R2⟩
              case measure => simp [intOf]
            · obtain rfl : s = t := by omega
              obtain rfl : z = -1 := by omega
              have HE : Hid (w = w ∧ wr.ownsRow w.heap.size 3 1 x (2 * s + 1) (vals (bitsOf u))) := ⟨rfl, by
                have := H1.out.1
                rw [front_all u s HN.out] at this
                have e : s + 1 + s = 2 * s + 1 := by omega
                rwa [e] at this⟩
              clear hz
              go_wp2
              go_ret2
              exact ⟨_, rfl, HE.out.2, H1.out.2⟩

/-- The reference's Bits of a number. -/
theorem rbits_ok (u n : Nat) (hu : u ≤ 33554432) (hn : n = 2 * many u + 1) (w : World) :
    Calls Tryz.prog 28 #[.int .i64 (u : Int)] w fun e w' => ∃ g c, e = .returned (.tuple #[.slice (some ⟨g, 0, none⟩) n c, .int .i64 0]) ∧ w.heap.size ≤ g ∧ g < w'.heap.size ∧ n ≤ c ∧ c ≤ maxLen ∧ Holds w' g (bitsOf u) ∧ Bel w w' := by
  subst hn
  refine (rbits_own u _ hu rfl w).mono ?_
  rintro e w1 ⟨v, rfl, ho, b⟩
  obtain ⟨g, c, rfl, q1, q2, q3, q4, _, hh⟩ := owns_shape ho (by omega)
  exact ⟨g, c, rfl, q1, q2, q3, q4, hh, b⟩

end Go.Proofs.YtoldedbfoechlaaGreatDoor.Gam
