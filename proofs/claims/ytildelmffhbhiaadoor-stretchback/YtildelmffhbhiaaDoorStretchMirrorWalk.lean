/-
  The walk of StretchMirror: it answers true for any int. Condition: the package's table is laid as its text lays it.
-/
import Derived.Test.YtildelmffhbhiaaDoorSAwake
import Derived.Test.YtildelmffhbhiaaDoorNum
namespace Go.Proofs.YtildelmffhbhiaaDoor.Str
open Go.RowKit Go.Proofs.YtildelmffhbhiaaDoor.Num
set_option linter.unusedVariables false

theorem mval (x : Int) (n : Int) (k : Int) (hn : 0 < n) (hn1 : n ≤ 4096) (h : x % 18446744073709551616 % n = k) : wrap64 ((IntKind.u64.wrap x).tmod n) = k := by
  have e : IntKind.u64.wrap x = x % 18446744073709551616 := by simp [IntKind.wrap, IntKind.bits, IntKind.signed]
  have h0 := Int.emod_nonneg (x % 18446744073709551616) (Int.ne_of_gt hn)
  have h1 := Int.emod_lt_of_pos (x % 18446744073709551616) hn
  rw [e, Int.tmod_eq_emod_of_nonneg (by omega), h, wrap64]
  omega

set_option maxHeartbeats 1000000 in
theorem mirror_walk (x : Int) (w : World) (T : Tab w) :
    Calls Tryd.prog 8 #[.int .i64 x] w fun e w' => e = .returned (.bool true) ∧ Onto w w' := by
  have TT : Hid (Tab w) := T
  clear T
  obtain ⟨k, hk⟩ : ∃ k, x % 18446744073709551616 % 2048 = k := ⟨_, rfl⟩
  have k0 : 0 ≤ k := by omega
  have k1 : k < 2048 := by omega
  have hv := mval x 2048 k (by decide) (by decide) hk
  obtain ⟨m1, m2, m3⟩ := mirror k k0 k1
  have r1 := sq_chance k
  have r2 := sq_chance (-k)
  obtain ⟨a, ha⟩ : ∃ a, sq k = a := ⟨_, rfl⟩
  obtain ⟨b, hb⟩ : ∃ b, sq (-k) = b := ⟨_, rfl⟩
  rw [ha] at m1 m2 m3 r1
  rw [hb] at m1 m2 m3 r2
  have A : Hid (sq k = a) := ha
  have B : Hid (sq (-k) = b) := hb
  obtain ⟨a0, a1⟩ := r1
  obtain ⟨b0, b1⟩ := r2
  clear ha hb hk
  go_enter Tryd.func8, Tryd.ntmps8
  go_wp2_with fail
  refine (awake_true _ TT.out).mono ?_
  rintro e w1 ⟨rfl, o⟩
  have O1 : Hid (Onto w w1) := o
  clear o
  go_wp2_with fail
  refine (squash_onto k a A.out _ (TT.out.onto O1.out)).mono ?_
  rintro e w2 ⟨rfl, o⟩
  have O2 : Hid (Onto w w2) := O1.out.trans o
  clear o O1
  go_wp2_with fail
  refine (squash_onto (-k) b B.out _ (TT.out.onto O2.out)).mono ?_
  rintro e w3 ⟨rfl, o⟩
  have O3 : Hid (Onto w w3) := O2.out.trans o
  clear o O2
  go_wp2_with (go_at_call 11; go_in)
  go_wp2
  go_ret
  exact ⟨rfl, O3.out⟩

end Go.Proofs.YtildelmffhbhiaaDoor.Str
