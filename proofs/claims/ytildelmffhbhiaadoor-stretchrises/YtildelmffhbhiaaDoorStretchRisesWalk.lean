/-
  The walk of StretchRises: it answers true for any two ints. Condition: the package's table is laid as its text lays it.
-/
import Derived.Test.YtildelmffhbhiaaDoorSAwake
import Derived.Test.YtildelmffhbhiaaDoorNum
namespace Go.Proofs.YtildelmffhbhiaaDoor.Str
open Go.RowKit Go.Proofs.YtildelmffhbhiaaDoor.Num
set_option linter.unusedVariables false

set_option maxHeartbeats 1000000 in
theorem rises_least (x p c y s : Int) (hc : bits .and .i64 p 4095 = c) (c0 : 0 ≤ c) (c1 : c ≤ 4095) (y0 : -2047 ≤ y) (y1 : y ≤ 2047) (hy : st c = y) (hs : sq y = s) (h1 : c ≤ s) (h2 : (y == -2047) = true) (w : World) (T : Tab w) :
    Calls Tryd.prog 4 #[.int .i64 x, .int .i64 p] w fun e w' => e = .returned (.bool true) ∧ Onto w w' := by
  have TT : Hid (Tab w) := T
  clear T
  obtain ⟨k, hk⟩ : ∃ k, x % 4096 = k := ⟨_, rfl⟩
  have k0 : 0 ≤ k := by omega
  have k1 : k < 4096 := by omega
  have hv : bits .and .i64 x 4095 = k := (and_mask 12 4095 (by decide) (by decide) x).trans hk
  clear hk
  have u1 := sq_step (k - 2048) (by omega) (by omega)
  obtain ⟨a, ha⟩ : ∃ a, sq (k - 2048) = a := ⟨_, rfl⟩
  obtain ⟨b, hb⟩ : ∃ b, sq (k - 2048 + 1) = b := ⟨_, rfl⟩
  rw [ha, hb] at u1
  have A : Hid (sq (k - 2048) = a) := ha
  have B : Hid (sq (k - 2048 + 1) = b) := hb
  have n1 : ¬ b < a := by omega
  have Y : Hid (st c = y) := hy
  have S : Hid (sq y = s) := hs
  have n2 : ¬ y < -2047 := by omega
  have n3 : ¬ 2047 < y := by omega
  clear ha hb hy hs u1
  go_enter Tryd.func4, Tryd.ntmps4
  go_wp2_with fail
  refine (awake_true _ TT.out).mono ?_
  rintro e w1 ⟨rfl, o⟩
  have O1 : Hid (Onto w w1) := o
  clear o
  go_wp2_with fail
  refine (stretch_is c y (by omega) (by omega) Y.out _ (TT.out.onto O1.out)).mono ?_
  rintro e w2 ⟨rfl, o⟩
  have O2 : Hid (Onto w w2) := O1.out.trans o
  clear o O1
  go_wp2_with (go_at_call 11; go_in)
  refine (squash_onto (k - 2048) a A.out _ (TT.out.onto O2.out)).mono ?_
  rintro e w3 ⟨rfl, o⟩
  have O3 : Hid (Onto w w3) := O2.out.trans o
  clear o O2
  go_wp2_with fail
  refine (squash_onto (k - 2048 + 1) b B.out _ (TT.out.onto O3.out)).mono ?_
  rintro e w4 ⟨rfl, o⟩
  have O4 : Hid (Onto w w4) := O3.out.trans o
  clear o O3
  go_wp2_with fail
  refine (squash_onto y s S.out _ (TT.out.onto O4.out)).mono ?_
  rintro e w5 ⟨rfl, o⟩
  have O5 : Hid (Onto w w5) := O4.out.trans o
  clear o O4
  go_wp2
  go_ret
  exact ⟨rfl, O5.out⟩

set_option maxHeartbeats 1000000 in
theorem rises_within (x p c y s : Int) (hc : bits .and .i64 p 4095 = c) (c0 : 0 ≤ c) (c1 : c ≤ 4095) (y0 : -2047 ≤ y) (y1 : y ≤ 2047) (hy : st c = y) (hs : sq y = s) (h1 : c ≤ s) (h2 : (y == -2047) = false) (s' : Int) (hs' : sq (y - 1) = s') (h3 : s' < c) (w : World) (T : Tab w) :
    Calls Tryd.prog 4 #[.int .i64 x, .int .i64 p] w fun e w' => e = .returned (.bool true) ∧ Onto w w' := by
  have TT : Hid (Tab w) := T
  clear T
  obtain ⟨k, hk⟩ : ∃ k, x % 4096 = k := ⟨_, rfl⟩
  have k0 : 0 ≤ k := by omega
  have k1 : k < 4096 := by omega
  have hv : bits .and .i64 x 4095 = k := (and_mask 12 4095 (by decide) (by decide) x).trans hk
  clear hk
  have u1 := sq_step (k - 2048) (by omega) (by omega)
  obtain ⟨a, ha⟩ : ∃ a, sq (k - 2048) = a := ⟨_, rfl⟩
  obtain ⟨b, hb⟩ : ∃ b, sq (k - 2048 + 1) = b := ⟨_, rfl⟩
  rw [ha, hb] at u1
  have A : Hid (sq (k - 2048) = a) := ha
  have B : Hid (sq (k - 2048 + 1) = b) := hb
  have n1 : ¬ b < a := by omega
  have Y : Hid (st c = y) := hy
  have S : Hid (sq y = s) := hs
  have n2 : ¬ y < -2047 := by omega
  have n3 : ¬ 2047 < y := by omega
  clear ha hb hy hs u1
  have S' : Hid (sq (y - 1) = s') := hs'
  clear hs'
  go_enter Tryd.func4, Tryd.ntmps4
  go_wp2_with fail
  refine (awake_true _ TT.out).mono ?_
  rintro e w1 ⟨rfl, o⟩
  have O1 : Hid (Onto w w1) := o
  clear o
  go_wp2_with fail
  refine (stretch_is c y (by omega) (by omega) Y.out _ (TT.out.onto O1.out)).mono ?_
  rintro e w2 ⟨rfl, o⟩
  have O2 : Hid (Onto w w2) := O1.out.trans o
  clear o O1
  go_wp2_with (go_at_call 11; go_in)
  refine (squash_onto (k - 2048) a A.out _ (TT.out.onto O2.out)).mono ?_
  rintro e w3 ⟨rfl, o⟩
  have O3 : Hid (Onto w w3) := O2.out.trans o
  clear o O2
  go_wp2_with fail
  refine (squash_onto (k - 2048 + 1) b B.out _ (TT.out.onto O3.out)).mono ?_
  rintro e w4 ⟨rfl, o⟩
  have O4 : Hid (Onto w w4) := O3.out.trans o
  clear o O3
  go_wp2_with fail
  refine (squash_onto y s S.out _ (TT.out.onto O4.out)).mono ?_
  rintro e w5 ⟨rfl, o⟩
  have O5 : Hid (Onto w w5) := O4.out.trans o
  clear o O4
  go_wp2_with fail
  refine (squash_onto (y - 1) s' S'.out _ (TT.out.onto O5.out)).mono ?_
  rintro e w6 ⟨rfl, o⟩
  have O6 : Hid (Onto w w6) := O5.out.trans o
  clear o O5
  go_wp2
  go_ret
  exact ⟨rfl, O6.out⟩

set_option maxHeartbeats 1000000 in
theorem rises_most (x p c y s : Int) (hc : bits .and .i64 p 4095 = c) (c0 : 0 ≤ c) (c1 : c ≤ 4095) (y0 : -2047 ≤ y) (y1 : y ≤ 2047) (hy : st c = y) (hs : sq y = s) (h1 : decide (c ≤ s) = false) (h4 : (y == 2047) = true) (h2 : (y == -2047) = false) (s' : Int) (hs' : sq (y - 1) = s') (h3 : s' < c) (w : World) (T : Tab w) :
    Calls Tryd.prog 4 #[.int .i64 x, .int .i64 p] w fun e w' => e = .returned (.bool true) ∧ Onto w w' := by
  have TT : Hid (Tab w) := T
  clear T
  obtain ⟨k, hk⟩ : ∃ k, x % 4096 = k := ⟨_, rfl⟩
  have k0 : 0 ≤ k := by omega
  have k1 : k < 4096 := by omega
  have hv : bits .and .i64 x 4095 = k := (and_mask 12 4095 (by decide) (by decide) x).trans hk
  clear hk
  have u1 := sq_step (k - 2048) (by omega) (by omega)
  obtain ⟨a, ha⟩ : ∃ a, sq (k - 2048) = a := ⟨_, rfl⟩
  obtain ⟨b, hb⟩ : ∃ b, sq (k - 2048 + 1) = b := ⟨_, rfl⟩
  rw [ha, hb] at u1
  have A : Hid (sq (k - 2048) = a) := ha
  have B : Hid (sq (k - 2048 + 1) = b) := hb
  have n1 : ¬ b < a := by omega
  have Y : Hid (st c = y) := hy
  have S : Hid (sq y = s) := hs
  have n2 : ¬ y < -2047 := by omega
  have n3 : ¬ 2047 < y := by omega
  clear ha hb hy hs u1
  have S' : Hid (sq (y - 1) = s') := hs'
  clear hs'
  go_enter Tryd.func4, Tryd.ntmps4
  go_wp2_with fail
  refine (awake_true _ TT.out).mono ?_
  rintro e w1 ⟨rfl, o⟩
  have O1 : Hid (Onto w w1) := o
  clear o
  go_wp2_with fail
  refine (stretch_is c y (by omega) (by omega) Y.out _ (TT.out.onto O1.out)).mono ?_
  rintro e w2 ⟨rfl, o⟩
  have O2 : Hid (Onto w w2) := O1.out.trans o
  clear o O1
  go_wp2_with (go_at_call 11; go_in)
  refine (squash_onto (k - 2048) a A.out _ (TT.out.onto O2.out)).mono ?_
  rintro e w3 ⟨rfl, o⟩
  have O3 : Hid (Onto w w3) := O2.out.trans o
  clear o O2
  go_wp2_with fail
  refine (squash_onto (k - 2048 + 1) b B.out _ (TT.out.onto O3.out)).mono ?_
  rintro e w4 ⟨rfl, o⟩
  have O4 : Hid (Onto w w4) := O3.out.trans o
  clear o O3
  go_wp2_with fail
  refine (squash_onto y s S.out _ (TT.out.onto O4.out)).mono ?_
  rintro e w5 ⟨rfl, o⟩
  have O5 : Hid (Onto w w5) := O4.out.trans o
  clear o O4
  go_wp2_with fail
  refine (squash_onto (y - 1) s' S'.out _ (TT.out.onto O5.out)).mono ?_
  rintro e w6 ⟨rfl, o⟩
  have O6 : Hid (Onto w w6) := O5.out.trans o
  clear o O5
  go_wp2
  go_ret
  exact ⟨rfl, O6.out⟩

theorem rises_walk (x p : Int) (w : World) (T : Tab w) :
    Calls Tryd.prog 4 #[.int .i64 x, .int .i64 p] w fun e w' => e = .returned (.bool true) ∧ Onto w w' := by
  have hc : bits .and .i64 p 4095 = p % 4096 := and_mask 12 4095 (by decide) (by decide) p
  obtain ⟨h1, h2, h3, h4⟩ := st_ahead (p % 4096)
  by_cases a : p % 4096 ≤ sq (st (p % 4096))
  · by_cases b : st (p % 4096) = -2047
    · exact rises_least x p _ _ _ hc (by omega) (by omega) h1 h2 rfl rfl a (by simp [b]) w T
    · exact rises_within x p _ _ _ hc (by omega) (by omega) h1 h2 rfl rfl a (by simp [b]) _ rfl (by omega) w T
  · have b : st (p % 4096) = 2047 := by omega
    exact rises_most x p _ _ _ hc (by omega) (by omega) h1 h2 rfl rfl (by simp; omega) (by simp [b]) (by simp [b]) _ rfl (by omega) w T

end Go.Proofs.YtildelmffhbhiaaDoor.Str
