/-
  GammaPrefix, walked: it answers true for every two ints. No condition.
-/
import Derived.Test.YtmpbljkbpkbnbaaGAwake
namespace Go.Proofs.Ytmpbljkbpkbnbaa.Gam
open Go.RowKit Go.Proofs.Ytmpbljkbpkbnbaa.Mod Go.Proofs.Ytmpbljkbpkbnbaa.Ints Go.Proofs.Ytmpbljkbpkbnbaa.Num
set_option linter.unusedVariables false

theorem and_16 (n : Int) : bits .and .i64 n 65535 = n % 65536 := and_mask 16 65535 (by decide) (by decide) n

theorem same_takes (u v k : Nat) (hu : u ≤ 33554432) (hv : v ≤ 33554432) (hk : k = min (2 * many u + 1) (2 * many v + 1)) : decide ((bitsOf u).take k = (bitsOf v).take k) = decide (u = v) := by
  by_cases e : u = v
  · subst e; simp
  · have : ¬ (bitsOf u).take k = (bitsOf v).take k := fun q => e (prefix_eq u v hu hv k (by rw [bitsOf_length]; omega) (by rw [bitsOf_length]; omega) (by rw [bitsOf_length, bitsOf_length]; omega) q)
    simp [e, this]

set_option maxRecDepth 20000 in
set_option maxHeartbeats 1000000 in
theorem prefix_go (x y : Int) (u v nu nv k : Nat) (hu : bits .and .i64 x 65535 = (u : Int)) (hv : bits .and .i64 y 65535 = (v : Int)) (ul : u ≤ 65535) (vl : v ≤ 65535) (hnu : nu = 2 * many u + 1) (hnv : nv = 2 * many v + 1) (hk : k = min nu nv)
    (w : World) : Calls Try.prog 6 #[.int .i64 x, .int .i64 y] w fun e w' => e = .returned (.bool true) ∧ Bel w w' := by
  have lu : nu ≤ 51 := by have := many_25 u (by omega); omega
  have lv : nv ≤ 51 := by have := many_25 v (by omega); omega
  have hmin : min (nu : Int) (nv : Int) = (k : Int) := by omega
  have ku : k ≤ nu := by omega
  have kv : k ≤ nv := by omega
  have HM : Hid (u ≤ v → nu ≤ nv) := fun h => by have := many_mono u v h; omega
  have HS : Hid (decide ((bitsOf u).take k = (bitsOf v).take k) = decide (u = v)) := same_takes u v k (by omega) (by omega) (by omega)
  have HU : Hid (nu = (bitsOf u).length ∧ nv = (bitsOf v).length) := ⟨by rw [bitsOf_length]; exact hnu, by rw [bitsOf_length]; exact hnv⟩
  have CU := fun w => bits_ok u nu (by omega) hnu w
  have CV := fun w => bits_ok v nv (by omega) hnv w
  have HCU : Hid (∀ w, Calls Try.prog 8 #[.int .i64 (u : Int)] w _) := CU
  have HCV : Hid (∀ w, Calls Try.prog 8 #[.int .i64 (v : Int)] w _) := CV
  clear CU CV hnu hnv hk
  go_enter Try.func6, Try.ntmps6
  go_wp2_with fail
  refine (awake_ok _).mono ?_
  rintro e w1 ⟨rfl, b1⟩
  have B1 : Hid (Bel w w1) := b1
  clear b1
  go_wp2_with fail
  refine (HCU.out _).mono ?_
  rintro e w2 ⟨g1, c1, rfl, q1, q2, q3, q4, hh1, b2⟩
  have B2 : Hid (Bel w w2) := B1.out.trans b2
  have H1 : Hid (Holds w2 g1 (bitsOf u)) := hh1
  clear b2 hh1 B1
  go_wp2_with fail
  refine (HCV.out _).mono ?_
  rintro e w3 ⟨g2, c2, rfl, r1, r2, r3, r4, hh2, b3⟩
  have B3 : Hid (Bel w w3) := B2.out.trans b3
  have S1 : Hid (Slc w3 (some ⟨g1, 0, none⟩) ((bitsOf u).take k)) := (H1.out.bel b3).slc.take k
  have S2 : Hid (Slc w3 (some ⟨g2, 0, none⟩) ((bitsOf v).take k)) := hh2.slc.take k
  clear b3 hh2 B2 H1
  have Q : Hid (∀ n, Calls Try.prog 12 #[.slice (some ⟨g1, 0, none⟩) k c1, .slice (some ⟨g2, 0, none⟩) k c2] (w3.drewN n) fun e w' => e = .returned (.bool (decide (u = v))) ∧ ∃ q, w' = (w3.drewN n).drewN q) := fun n => by
    have := same_ok (some ⟨g1, 0, none⟩) (some ⟨g2, 0, none⟩) ((bitsOf u).take k) ((bitsOf v).take k) k k c1 c2 (by simp; have := HU.out; omega) (by simp; have := HU.out; omega) (by unfold maxLen; omega) (by unfold maxLen; omega) (w3.drewN n) (S1.out.drewN n) (S2.out.drewN n)
    rwa [HS.out] at this
  unfold maxLen at q4 r4
  have hb2 : (true == true) = true := rfl
  have hb3 : (false == false) = true := rfl
  rcases (by have := HM.out; omega : (nv < nu ∧ v < u) ∨ (nu ≤ nv ∧ u = v) ∨ (nu ≤ nv ∧ u < v) ∨ (nu ≤ nv ∧ v < u)) with ⟨o, e⟩ | ⟨o, e⟩ | ⟨o, e⟩ | ⟨o, e⟩
  · obtain rfl : k = nv := by omega
    have eb : ((u : Int) == (v : Int)) = false := by simp; omega
    rw [decide_eq_false (by omega : ¬ u = v)] at Q
    have ge : decide (v ≤ u) = true := decide_eq_true (by omega)
    have le : decide (nu ≤ k) = false := decide_eq_false (by omega)
    have kc1 : (k : Int) ≤ (c1 : Int) := by omega
    have kc2 : (k : Int) ≤ (c2 : Int) := by omega
    clear HM HS HU HCU HCV S1 S2 hmin
    go_wp2_with (go_at_call 13; refine (num_ok _ _).mono ?_; rintro e w2 ⟨rfl, hw⟩; replace hw := hw.symm; subst hw)
    refine wp_region_quiet_lit (by kernel_rfl) (by kernel_rfl) ?_
    repeat (go_big_quiet_step ((go_at_call 12; with_reducible exact Calls.quiet_of (Q.out _))))
    refine wpQuiet_nil ?_
    intro W hw'
    obtain ⟨nq, hw''⟩ := hw'
    subst hw''
    go_wp2
    go_ret
    exact ⟨rfl, B3.out.drewN _⟩
  · obtain rfl : k = nu := by omega
    subst e
    have eb : ((u : Int) == (u : Int)) = true := by simp
    have ge : decide (u ≤ u) = true := decide_eq_true (by omega)
    have le : decide (k ≤ nv) = true := decide_eq_true (by omega)
    rw [decide_eq_true rfl] at Q
    have kc1 : (k : Int) ≤ (c1 : Int) := by omega
    have kc2 : (k : Int) ≤ (c2 : Int) := by omega
    clear HM HS HU HCU HCV S1 S2 hmin
    go_wp2_with (go_at_call 13; refine (num_ok _ _).mono ?_; rintro e w2 ⟨rfl, hw⟩; replace hw := hw.symm; subst hw)
    refine wp_region_quiet_lit (by kernel_rfl) (by kernel_rfl) ?_
    repeat (go_big_quiet_step ((go_at_call 12; with_reducible exact Calls.quiet_of (Q.out _))))
    refine wpQuiet_nil ?_
    intro W hw'
    obtain ⟨nq, hw''⟩ := hw'
    subst hw''
    go_wp2
    go_ret
    exact ⟨rfl, B3.out.drewN _⟩
  · obtain rfl : k = nu := by omega
    have eb : ((u : Int) == (v : Int)) = false := by simp; omega
    rw [decide_eq_false (by omega : ¬ u = v)] at Q
    have ge : decide (v ≤ u) = false := decide_eq_false (by omega)
    have le : decide (k ≤ nv) = true := decide_eq_true (by omega)
    have kc1 : (k : Int) ≤ (c1 : Int) := by omega
    have kc2 : (k : Int) ≤ (c2 : Int) := by omega
    clear HM HS HU HCU HCV S1 S2 hmin
    go_wp2_with (go_at_call 13; refine (num_ok _ _).mono ?_; rintro e w2 ⟨rfl, hw⟩; replace hw := hw.symm; subst hw)
    refine wp_region_quiet_lit (by kernel_rfl) (by kernel_rfl) ?_
    repeat (go_big_quiet_step ((go_at_call 12; with_reducible exact Calls.quiet_of (Q.out _))))
    refine wpQuiet_nil ?_
    intro W hw'
    obtain ⟨nq, hw''⟩ := hw'
    subst hw''
    go_wp2
    go_ret
    exact ⟨rfl, B3.out.drewN _⟩
  · obtain rfl : k = nu := by omega
    have eb : ((u : Int) == (v : Int)) = false := by simp; omega
    rw [decide_eq_false (by omega : ¬ u = v)] at Q
    have ge : decide (v ≤ u) = true := decide_eq_true (by omega)
    have le : decide (k ≤ nv) = true := decide_eq_true (by omega)
    have kc1 : (k : Int) ≤ (c1 : Int) := by omega
    have kc2 : (k : Int) ≤ (c2 : Int) := by omega
    clear HM HS HU HCU HCV S1 S2 hmin
    go_wp2_with (go_at_call 13; refine (num_ok _ _).mono ?_; rintro e w2 ⟨rfl, hw⟩; replace hw := hw.symm; subst hw)
    refine wp_region_quiet_lit (by kernel_rfl) (by kernel_rfl) ?_
    repeat (go_big_quiet_step ((go_at_call 12; with_reducible exact Calls.quiet_of (Q.out _))))
    refine wpQuiet_nil ?_
    intro W hw'
    obtain ⟨nq, hw''⟩ := hw'
    subst hw''
    go_wp2
    go_ret
    exact ⟨rfl, B3.out.drewN _⟩

theorem prefix_walk (x y : Int) (w : World) : Calls Try.prog 6 #[.int .i64 x, .int .i64 y] w fun e w' => e = .returned (.bool true) ∧ Bel w w' :=
  prefix_go x y (x % 65536).toNat (y % 65536).toNat _ _ _ (by rw [and_16]; omega) (by rw [and_16]; omega) (by omega) (by omega) rfl rfl rfl w

end Go.Proofs.Ytmpbljkbpkbnbaa.Gam
