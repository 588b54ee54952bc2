/-
  GammaLong, walked: it answers true for every int. No condition.
-/
import Derived.Test.YtmpbljkbpkbnbaaGAwake
namespace Go.Proofs.Ytmpbljkbpkbnbaa.Gam
open Go.RowKit Go.Proofs.Ytmpbljkbpkbnbaa.Mod Go.Proofs.Ytmpbljkbpkbnbaa.Ints Go.Proofs.Ytmpbljkbpkbnbaa.Num
set_option linter.unusedVariables false

theorem half_above (u k : Nat) (h : k < many u) : ∃ q : Int, ((u : Int) + 1) / 2 / 2 ^ k = q ∧ 0 < q := by
  refine ⟨_, rfl, ?_⟩
  have h1 : 2 ^ (k + 1) ≤ u + 1 := Nat.le_trans (Nat.pow_le_pow_right (by decide) h) (many_low u)
  have h2 : 0 < (u + 1) / 2 / 2 ^ k := by
    rw [Nat.div_div_eq_div_mul, Nat.mul_comm, ← Nat.pow_succ]
    exact Nat.div_pos h1 (Nat.two_pow_pos _)
  have e : ((u : Int) + 1) / 2 / 2 ^ k = (((u + 1) / 2 / 2 ^ k : Nat) : Int) := by simp
  omega
theorem half_ended (u : Nat) : ((u : Int) + 1) / 2 / 2 ^ many u = 0 := by
  have h := Nat.div_eq_of_lt (many_high u)
  rw [Nat.pow_succ, Nat.mul_comm, ← Nat.div_div_eq_div_mul] at h
  have e : ((u : Int) + 1) / 2 / 2 ^ many u = (((u + 1) / 2 / 2 ^ many u : Nat) : Int) := by simp
  omega

theorem rem_u (x : Int) : ∃ u : Nat, wrap64 ((IntKind.u64.wrap x).tmod 33554433) = (u : Int) ∧ u ≤ 33554432 := by
  have e : IntKind.u64.wrap x = x % 18446744073709551616 := by simp [IntKind.wrap, IntKind.bits, IntKind.signed]
  refine ⟨(x % 18446744073709551616 % 33554433).toNat, ?_, by omega⟩
  rw [e, Int.tmod_eq_emod_of_nonneg (by omega)]
  unfold wrap64
  omega

set_option maxRecDepth 20000 in
set_option maxHeartbeats 1000000 in
theorem long_go (x : Int) (u n : Nat) (hu : wrap64 ((IntKind.u64.wrap x).tmod 33554433) = (u : Int)) (ul : u ≤ 33554432) (hn : n = many u)
    (w : World) : Calls Try.prog 5 #[.int .i64 x] w fun e w' => e = .returned (.bool true) ∧ Bel w w' := by
  have n25 : n ≤ 25 := hn ▸ many_25 u ul
  have HN : Hid (n = many u) := hn
  have C := fun w => bits_ok u (2 * n + 1) ul (by omega) w
  have HC : Hid (∀ w, Calls Try.prog 8 #[.int .i64 (u : Int)] w _) := C
  clear C hn
  go_enter Try.func5, Try.ntmps5
  go_wp2_with fail
  refine (awake_ok _).mono ?_
  rintro e w1 ⟨rfl, b1⟩
  have B1 : Hid (Bel w w1) := b1
  clear b1
  go_wp2_with fail
  refine (HC.out _).mono ?_
  rintro e w2 ⟨g, c, rfl, q1, q2, q3, q4, hh, b2⟩
  have B2 : Hid (Bel w w2) := B1.out.trans b2
  have H1 : Hid (Holds w2 g (bitsOf u)) := hh
  unfold maxLen at q4
  clear b2 hh B1 HC
  go_wp2
  go_loopw [6] (fun i wr => ∃ j : Nat, j ≤ n ∧ i = .int .i64 j ∧ w2 = wr) (fun i _ => n - (intOf i).toNat)
  case atStart => exact ⟨0, Nat.zero_le _, rfl, rfl⟩
  case round =>
    obtain ⟨j, hj, rfl, rfl⟩ := hrel
    by_cases hlt : j < n
    · obtain ⟨q, hq, hq0⟩ := half_above u j (HN.out ▸ hlt)
      go_wp2
      go_roundw
      case rel => exact ⟨j + 1, by omega, by go_num, by first | rfl | trivial⟩
      case measure => simp [intOf]; omega
    · obtain rfl : j = n := by omega
      have he := half_ended u
      rw [← HN.out] at he
      have hb : ((2 * (j : Int) + 1) != 2 * (j : Int) + 1) = false := by simp
      go_wp2_with (go_at_call 13; refine (num_ok _ _).mono ?_; rintro e w3 ⟨rfl, hw⟩; replace hw := hw.symm; subst hw)
      clear he hb
      go_loopw [7] (fun i wr => ∃ t q : Nat, t ≤ j ∧ i = .int .i64 t ∧ wr = w2.drewN q) (fun i _ => j - (intOf i).toNat)
      case atStart => exact ⟨0, 0, Nat.zero_le _, rfl, rfl⟩
      case round =>
        obtain ⟨t, q, ht, rfl, rfl⟩ := hrel
        by_cases hlt : t < j
        · have lb := bitsOf_length u
          have hc1 := H1.out.cell t (by rw [lb, ← HN.out]; omega)
          rw [getD_one u t (HN.out ▸ hlt)] at hc1
          have hc2 := H1.out.cell (j + 1 + t) (by rw [lb, ← HN.out]; omega)
          have gt := getD_tail u t (HN.out ▸ hlt)
          rw [← HN.out] at gt
          rw [gt] at hc2
          have hand := bit_is u j t
          clear lb gt
          generalize bitAt u j t = y at *
          have hb : (y != y) = false := by simp
          go_wp2
          go_quiet (fail)
          go_wp2
          go_roundw
          case rel => exact ⟨t + 1, _, by omega, by go_num, by first | rfl | (simp; rfl)⟩
          case measure => simp [intOf]; omega
        · obtain rfl : t = j := by omega
          have lb := bitsOf_length u
          have hc1 := H1.out.cell t (by rw [lb, ← HN.out]; omega)
          have gm := getD_mid u
          rw [← HN.out] at gm
          rw [gm] at hc1
          clear lb gm
          go_wp2
          go_ret
          exact ⟨rfl, B2.out.drewN _⟩

theorem long_walk (x : Int) (w : World) : Calls Try.prog 5 #[.int .i64 x] w fun e w' => e = .returned (.bool true) ∧ Bel w w' := by
  obtain ⟨u, hu, ul⟩ := rem_u x
  exact long_go x u _ hu ul rfl w

end Go.Proofs.Ytmpbljkbpkbnbaa.Gam
