/-
  The contract of gamma.Bits, of any int, as P11.1 has it. No condition.
-/
import Derived.Test.YtoldedbfoechlaaGreatDoorGLen
import Derived.Test.YtoldedbfoechlaaGreatDoorLInts
namespace Go.Proofs.YtoldedbfoechlaaGreatDoor.Gam
open Go.RowKit Go.Proofs.YtoldedbfoechlaaGreatDoor.Mod Go.Proofs.YtoldedbfoechlaaGreatDoor.Ints Go.Proofs.YtoldedbfoechlaaGreatDoor.Num
set_option linter.unusedVariables false

theorem num_ok (n : Int) (w : World) :
    Calls Tryz.prog 10 #[.int .i64 n] w fun e w' => e = .returned (.int .i64 n) ∧ w' = w := by
  go_enter Tryz.func10, Tryz.ntmps10
  go_wp2
  go_ret
  exact ⟨rfl, rfl⟩

set_option maxHeartbeats 400000 in
/-- Bits of a number that is none. -/
theorem bits_no (u : Int) (h : u < 0 ∨ 33554432 < u) (w : World) :
    Calls Tryz.prog 21 #[.int .i64 u] w fun e w' => e = .returned (.tuple #[.slice none 0 0, .int .i64 1100]) ∧ w' = w := by
  rcases h with h | h
  · go_enter Tryz.func21, Tryz.ntmps21
    go_wp2
    go_ret2
    exact ⟨rfl, rfl⟩
  · go_enter Tryz.func21, Tryz.ntmps21
    go_wp2
    go_ret2
    exact ⟨rfl, rfl⟩

theorem one_cell (w : World) (x : Int) : ∀ j u, (vals [x])[j]? = some u → (w.alloc (.cells #[.int .i64 x] 3)).cell? ((⟨w.heap.size, 0, none⟩ : Addr).add j) = some u := fun j u hu => by
  have hj : j < [x].length := by have := (List.getElem?_eq_some_iff.1 hu).1; rwa [vals_length] at this
  rw [vals_get _ j hj] at hu
  rw [Addr.add_lit, Nat.zero_add, ← hu]
  exact (holds_new w [x] 3).cell j hj

theorem and_one (n : Int) : bits .and .i64 n 1 = n % 2 := and_mask 1 1 (by decide) (by decide) n
theorem bit_is (u n j : Nat) : bits .and .i64 (((u : Int) + 1) / 2 ^ (n - 1 - j)) 1 = bitAt u n j := by
  rw [and_one]
  unfold bitAt
  simp

/-- What is made by appending one. -/
theorem owns_more {w wr w1 : World} {v v' : Value} {k : Nat} {L : List Int} {x : Int} (ho : wr.ownsRow w.heap.size 3 1 v k (vals L)) (hb : Bel w wr)
    (h1 : w1.ownsRow w.heap.size 3 1 v' (k + 1) (vals L ++ vals [x])) (hg : (wr.alloc (.cells #[.int .i64 x] 3)).grownBy w1 v.ownBlock) :
    w1.ownsRow w.heap.size 3 1 v' (k + 1) (vals (L ++ [x])) ∧ Bel w w1 :=
  ⟨by rw [vals_append]; exact h1, Below.grown (hb.alloc _) hg (by have := hb.size; simp; omega) (fun k hk => (ho.lt k hk).1)⟩

theorem rep_snoc (j : Nat) : List.replicate j (1 : Int) ++ [1] = List.replicate (j + 1) 1 := by
  rw [List.replicate_succ']

theorem size_ok {w wr : World} (hb : Bel w wr) (o : Obj) : w.heap.size ≤ (wr.alloc o).heap.size := by have := hb.size; simp; omega

/-- The bits that are told when i of the last ones are. -/
def front (u n i : Nat) : List Int := List.replicate n 1 ++ 0 :: tail u n i
theorem front_zero (u n : Nat) : List.replicate n (1 : Int) ++ [0] = front u n 0 := by simp [front, tail]
theorem front_succ (u n i : Nat) : front u n (i + 1) = front u n i ++ [bitAt u n i] := by simp [front, tail_succ]
theorem front_all (u n : Nat) (h : n = many u) : front u n n = bitsOf u := by subst h; rfl

set_option maxRecDepth 20000 in
set_option maxHeartbeats 2000000 in
theorem bits_own (u n : Nat) (hu : u ≤ 33554432) (hn : n = many u) (w : World) :
    Calls Tryz.prog 21 #[.int .i64 (u : Int)] w fun e w' => ∃ v, e = .returned (.tuple #[v, .int .i64 0]) ∧ w'.ownsRow w.heap.size 3 1 v (2 * n + 1) (vals (bitsOf u)) ∧ Bel w w' := by
  obtain ⟨i0, hi, hz0, hz1, hz2⟩ := info_parts info_int
  have n25 : n ≤ 25 := hn ▸ many_25 u hu
  have C := behind_ok ((u : Int) + 1) n (by omega) (by omega) (by rw [hn]; unfold many; congr 1) w
  have HN : Hid (n = many u) := hn
  clear hn
  have hcap : 2 * (n : Int) + 1 = ((2 * n + 1 : Nat) : Int) := by omega
  have HC : Hid (2 * (n : Int) + 1 = ((2 * n + 1 : Nat) : Int)) := hcap
  clear hcap
  have m1 : Hid (i0.bytes * (2 * n + 1) ≤ 281474976710656) := (by rw [hz2]; omega : i0.bytes * (2 * n + 1) ≤ 281474976710656)
  have m2 : Hid (2 * n + 1 ≤ maxLen) := (by unfold maxLen; omega : 2 * n + 1 ≤ maxLen)
  go_enter Tryz.func21, Tryz.ntmps21
  go_wp2_with fail
  refine C.mono ?_
  rintro e w0 ⟨rfl, rfl⟩
  clear C
  go_wp2_with (at_make; refine wpList_make_own _ rfl _ _ 22 rfl w0.heap.size 3 i0 (.int .i64 0) 1 Tryz.underlying22 hi hz0 hz1 .i64 .i64 _ (2 * n + 1) rfl rfl HC.out m1.out m2.out (Nat.le_refl _) ?_)
  intro w1 ho hg
  have b1 : Bel w0 w1 := Below.grown (Bel.refl w0) hg (Nat.le_refl _) (fun k hk => by cases hk)
  have HO : Hid (w1.ownsRow w0.heap.size 3 1 (.slice (some ⟨w0.heap.size, 0, none⟩) 0 (2 * n + 1)) 0 (vals []) ∧ Bel w0 w1) := ⟨ho, b1⟩
  clear ho hg b1 m1 m2
  go_wp2_with fail
  go_loopw [6, 23] (fun v i wr => ∃ (j : Nat) (x : Value), j ≤ n ∧ i = .int .i64 j ∧ x = v ∧ Hid (wr.ownsRow w0.heap.size 3 1 x j (vals (List.replicate j 1)) ∧ Bel w0 wr)) (fun _ i _ => n - (intOf i).toNat)
  case atStart => exact ⟨0, _, Nat.zero_le _, rfl, rfl, HO.out⟩
  case round =>
    obtain ⟨j, x, hj, rfl, rfl, H1⟩ := hrel
    clear HO
    by_cases hlt : j < n
    · have c3 : Hid (j + 1 ≤ maxLen) := (by unfold maxLen; omega : j + 1 ≤ maxLen)
      have c4 : Hid ((j + 1) * 8 ≤ 140737488355328) := (by omega : (j + 1) * 8 ≤ 140737488355328)
      go_wp2_with (at_builtin; refine wpList_append_own _ rfl (.tmp 25) (.tmp 26) 22 rfl w0.heap.size 3 i0 (.int .i64 0) 1 8 Tryz.underlying22 hi hz0 hz1 hz2 rfl (by decide) _ j _ rfl (H1.out.1.alloc _) ⟨wr.heap.size, 0, none⟩ 1 1 (vals [1]) rfl rfl (one_cell _ _) (ints_oneCell _ _) c3.out c4.out (size_ok H1.out.2 _) ?_)
      intro v' w2 ho hg _
      have R := owns_more H1.out.1 H1.out.2 ho hg
      rw [rep_snoc] at R
      have R2 : Hid (w2.ownsRow w0.heap.size 3 1 v' (j + 1) (vals (List.replicate (j + 1) 1)) ∧ Bel w0 w2) := R
      clear ho hg H1 c3 c4 R
      go_wp2
      go_roundw
      case rel => exact ⟨j + 1, _, by omega, by go_num, rfl, R2⟩
      case measure => simp [intOf]; omega
    · obtain rfl : j = n := by omega
      have c3 : Hid (j + 1 ≤ maxLen) := (by unfold maxLen; omega : j + 1 ≤ maxLen)
      have c4 : Hid ((j + 1) * 8 ≤ 140737488355328) := (by omega : (j + 1) * 8 ≤ 140737488355328)
      go_wp2_with (at_builtin; refine wpList_append_own _ rfl (.tmp 29) (.tmp 30) 22 rfl w0.heap.size 3 i0 (.int .i64 0) 1 8 Tryz.underlying22 hi hz0 hz1 hz2 rfl (by decide) _ j _ rfl (H1.out.1.alloc _) ⟨wr.heap.size, 0, none⟩ 1 1 (vals [0]) rfl rfl (one_cell _ _) (ints_oneCell _ _) c3.out c4.out (size_ok H1.out.2 _) ?_)
      intro v' w2 ho hg _
      have R : Hid (w2.ownsRow w0.heap.size 3 1 v' (j + 1 + 0) (vals (front u j 0)) ∧ Bel w0 w2) := front_zero u j ▸ owns_more H1.out.1 H1.out.2 ho hg
      clear ho hg H1 c3 c4
      go_wp2_with fail
      go_loopw [6, 33] (fun v i wr => ∃ (t : Nat) (x : Value), t ≤ j ∧ i = .int .i64 t ∧ x = v ∧ Hid (wr.ownsRow w0.heap.size 3 1 x (j + 1 + t) (vals (front u j t)) ∧ Bel w0 wr)) (fun _ i _ => j - (intOf i).toNat)
      case atStart => exact ⟨0, _, Nat.zero_le _, rfl, rfl, R⟩
      case round =>
        obtain ⟨t, x, ht, rfl, rfl, H1⟩ := hrel
        clear R
        by_cases hlt : t < j
        · have c3 : Hid (j + 1 + t + 1 ≤ maxLen) := (by unfold maxLen; omega : j + 1 + t + 1 ≤ maxLen)
          have c4 : Hid ((j + 1 + t + 1) * 8 ≤ 140737488355328) := (by omega : (j + 1 + t + 1) * 8 ≤ 140737488355328)
          have hand := bit_is u j t
          have HF : Hid (front u j (t + 1) = front u j t ++ [bitAt u j t]) := front_succ u j t
          generalize bitAt u j t = y at *
          go_wp2_with (at_builtin; refine wpList_append_own _ rfl (.tmp 36) (.tmp 44) 22 rfl w0.heap.size 3 i0 (.int .i64 0) 1 8 Tryz.underlying22 hi hz0 hz1 hz2 rfl (by decide) _ (j + 1 + t) _ rfl (H1.out.1.alloc _) ⟨wr.heap.size, 0, none⟩ 1 1 (vals [y]) rfl rfl (one_cell _ _) (ints_oneCell _ _) c3.out c4.out (size_ok H1.out.2 _) ?_)
          intro v' w2 ho hg _
          have R := owns_more H1.out.1 H1.out.2 ho hg
          rw [← HF.out] at R
          have R2 : Hid (w2.ownsRow w0.heap.size 3 1 v' (j + 1 + (t + 1)) (vals (front u j (t + 1))) ∧ Bel w0 w2) := R
          clear ho hg H1 c3 c4 R
          go_wp2
          go_roundw
          case rel => exact ⟨t + 1, _, by omega, by go_num, rfl, R2⟩
          case measure => simp [intOf]; omega
        · obtain rfl : t = j := by omega
          have HE : Hid (w0 = w0 ∧ wr.ownsRow w0.heap.size 3 1 x (2 * t + 1) (vals (bitsOf u))) := ⟨rfl, by
            have := H1.out.1
            rw [front_all u t HN.out] at this
            have e : t + 1 + t = 2 * t + 1 := by omega
            rwa [e] at this⟩
          go_wp2
          go_ret2
          exact ⟨_, rfl, HE.out.2, H1.out.2⟩

/-- Bits of a number. -/
theorem bits_ok (u n : Nat) (hu : u ≤ 33554432) (hn : n = 2 * many u + 1) (w : World) :
    Calls Tryz.prog 21 #[.int .i64 (u : Int)] w fun e w' => ∃ g c, e = .returned (.tuple #[.slice (some ⟨g, 0, none⟩) n c, .int .i64 0]) ∧ w.heap.size ≤ g ∧ g < w'.heap.size ∧ n ≤ c ∧ c ≤ maxLen ∧ Holds w' g (bitsOf u) ∧ Bel w w' := by
  subst hn
  refine (bits_own u _ hu rfl w).mono ?_
  rintro e w1 ⟨v, rfl, ho, b⟩
  obtain ⟨g, c, rfl, q1, q2, q3, q4, _, hh⟩ := owns_shape ho (by omega)
  exact ⟨g, c, rfl, q1, q2, q3, q4, hh, b⟩

end Go.Proofs.YtoldedbfoechlaaGreatDoor.Gam
