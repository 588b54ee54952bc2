/-
  The contracts of the reference's GetVarint, one theorem for each way through. No condition but those that name the way.
-/
import Derived.Test.YtggccjbedoojmaaVPut
namespace Go.Proofs.Ytggccjbedoojmaa.Varint
open Go.RowKit Go.Proofs.Ytggccjbedoojmaa.Num
set_option linter.unusedVariables false

theorem and127u (b : Int) (h0 : 0 ≤ b) (h1 : b < 256) : bits .and .u8 b 127 = b % 128 := by
  rw [u8_and b 127 h0 h1 (by decide) (by decide)]
  have e : (b.toNat &&& (127 : Int).toNat) = b.toNat % 2 ^ 7 := Nat.and_two_pow_sub_one_eq_mod b.toNat 7
  rw [e]; omega

set_option maxHeartbeats 1000000 in
theorem rget_ok1 (s : ByteArray) (a : Int) (b0 : Int) (hs : s.size ≤ maxLen) (h0 : 0 ≤ a) (h1 : a < s.size) (l0 : 0 ≤ b0) (u0 : b0 < 128)
    (i0 : ∀ w, (Instr.index 9 (.string s) (.int .i64 a)).run Try.prog w = .ok (.int .u8 (b0)) w)
    (q : ((strOfNums (tell 4 (b0 % 128))).toList == (s.extract a.toNat (a + 1).toNat).toList) = true)
    (w : World) :
    Calls Try.prog 10 #[.string s, .int .i64 a] w fun e w' => e = .returned (.tuple #[.int .i64 (b0), .int .i64 (a + 1), .int .i64 0]) ∧ Onto w w' := by
  unfold maxLen at hs
  have hv : b0 % 128 = b0 := by omega
  rw [← hv]
  clear hv
  have m0 := and127u b0 (by omega) (by omega)
  have o0 : bits .or .i64 0 (b0 % 128) = b0 % 128 := or0 _ (by omega) (by omega)
  go_enter Try.func10, Try.ntmps10
  go_wp2
  refine wp_loop_rounds 1 ?_
  rw [rounds_succ]
  go_wp2_with fail
  refine (ref_ok (b0 % 128) (by omega) (by omega) _).mono ?_
  rintro e w1 ⟨rfl, g1⟩
  go_wp2
  go_ret3
  exact ⟨rfl, g1⟩

set_option maxHeartbeats 1000000 in
theorem rget_ok2 (s : ByteArray) (a : Int) (b0 b1 : Int) (hs : s.size ≤ maxLen) (h0 : 0 ≤ a) (h1 : a + 1 < s.size) (l0 : 128 ≤ b0) (u0 : b0 < 256) (l1 : 0 < b1) (u1 : b1 < 128)
    (i0 : ∀ w, (Instr.index 9 (.string s) (.int .i64 a)).run Try.prog w = .ok (.int .u8 (b0)) w)
    (i1 : ∀ w, (Instr.index 9 (.string s) (.int .i64 (a + 1))).run Try.prog w = .ok (.int .u8 (b1)) w)
    (q : ((strOfNums (tell 4 (b0 % 128 + b1 % 128 * 128))).toList == (s.extract a.toNat (a + 1 + 1).toNat).toList) = true)
    (w : World) :
    Calls Try.prog 10 #[.string s, .int .i64 a] w fun e w' => e = .returned (.tuple #[.int .i64 (b0 - 128 + 128 * (b1)), .int .i64 (a + 1 + 1), .int .i64 0]) ∧ Onto w w' := by
  unfold maxLen at hs
  have hv : b0 % 128 + b1 % 128 * 128 = b0 - 128 + 128 * (b1) := by omega
  rw [← hv]
  clear hv
  have m0 := and127u b0 (by omega) (by omega)
  have m1 := and127u b1 (by omega) (by omega)
  have o0 : bits .or .i64 0 (b0 % 128) = b0 % 128 := or0 _ (by omega) (by omega)
  have o1 : bits .or .i64 (b0 % 128) (b1 % 128 * 128) = b0 % 128 + b1 % 128 * 128 := orAt 1 _ _ (by decide) (by omega) (by omega) (by omega) (by omega)
  go_enter Try.func10, Try.ntmps10
  go_wp2
  refine wp_loop_rounds 2 ?_
  rw [rounds_succ]
  go_wp2
  rw [rounds_succ]
  go_wp2_with fail
  refine (ref_ok (b0 % 128 + b1 % 128 * 128) (by omega) (by omega) _).mono ?_
  rintro e w1 ⟨rfl, g1⟩
  go_wp2
  go_ret3
  exact ⟨rfl, g1⟩

set_option maxHeartbeats 1000000 in
theorem rget_ok3 (s : ByteArray) (a : Int) (b0 b1 b2 : Int) (hs : s.size ≤ maxLen) (h0 : 0 ≤ a) (h1 : a + 2 < s.size) (l0 : 128 ≤ b0) (u0 : b0 < 256) (l1 : 128 ≤ b1) (u1 : b1 < 256) (l2 : 0 < b2) (u2 : b2 < 128)
    (i0 : ∀ w, (Instr.index 9 (.string s) (.int .i64 a)).run Try.prog w = .ok (.int .u8 (b0)) w)
    (i1 : ∀ w, (Instr.index 9 (.string s) (.int .i64 (a + 1))).run Try.prog w = .ok (.int .u8 (b1)) w)
    (i2 : ∀ w, (Instr.index 9 (.string s) (.int .i64 (a + 2))).run Try.prog w = .ok (.int .u8 (b2)) w)
    (q : ((strOfNums (tell 4 (b0 % 128 + b1 % 128 * 128 + b2 % 128 * 16384))).toList == (s.extract a.toNat (a + 2 + 1).toNat).toList) = true)
    (w : World) :
    Calls Try.prog 10 #[.string s, .int .i64 a] w fun e w' => e = .returned (.tuple #[.int .i64 (b0 - 128 + 128 * (b1 - 128 + 128 * (b2))), .int .i64 (a + 2 + 1), .int .i64 0]) ∧ Onto w w' := by
  unfold maxLen at hs
  have hv : b0 % 128 + b1 % 128 * 128 + b2 % 128 * 16384 = b0 - 128 + 128 * (b1 - 128 + 128 * (b2)) := by omega
  rw [← hv]
  clear hv
  have m0 := and127u b0 (by omega) (by omega)
  have m1 := and127u b1 (by omega) (by omega)
  have m2 := and127u b2 (by omega) (by omega)
  have o0 : bits .or .i64 0 (b0 % 128) = b0 % 128 := or0 _ (by omega) (by omega)
  have o1 : bits .or .i64 (b0 % 128) (b1 % 128 * 128) = b0 % 128 + b1 % 128 * 128 := orAt 1 _ _ (by decide) (by omega) (by omega) (by omega) (by omega)
  have o2 : bits .or .i64 (b0 % 128 + b1 % 128 * 128) (b2 % 128 * 16384) = b0 % 128 + b1 % 128 * 128 + b2 % 128 * 16384 := orAt 2 _ _ (by decide) (by omega) (by omega) (by omega) (by omega)
  go_enter Try.func10, Try.ntmps10
  go_wp2
  refine wp_loop_rounds 3 ?_
  rw [rounds_succ]
  go_wp2
  rw [rounds_succ]
  go_wp2
  rw [rounds_succ]
  go_wp2_with fail
  refine (ref_ok (b0 % 128 + b1 % 128 * 128 + b2 % 128 * 16384) (by omega) (by omega) _).mono ?_
  rintro e w1 ⟨rfl, g1⟩
  go_wp2
  go_ret3
  exact ⟨rfl, g1⟩

set_option maxHeartbeats 1000000 in
theorem rget_ok4 (s : ByteArray) (a : Int) (b0 b1 b2 b3 : Int) (hs : s.size ≤ maxLen) (h0 : 0 ≤ a) (h1 : a + 3 < s.size) (l0 : 128 ≤ b0) (u0 : b0 < 256) (l1 : 128 ≤ b1) (u1 : b1 < 256) (l2 : 128 ≤ b2) (u2 : b2 < 256) (l3 : 0 < b3) (u3 : b3 < 128)
    (i0 : ∀ w, (Instr.index 9 (.string s) (.int .i64 a)).run Try.prog w = .ok (.int .u8 (b0)) w)
    (i1 : ∀ w, (Instr.index 9 (.string s) (.int .i64 (a + 1))).run Try.prog w = .ok (.int .u8 (b1)) w)
    (i2 : ∀ w, (Instr.index 9 (.string s) (.int .i64 (a + 2))).run Try.prog w = .ok (.int .u8 (b2)) w)
    (i3 : ∀ w, (Instr.index 9 (.string s) (.int .i64 (a + 3))).run Try.prog w = .ok (.int .u8 (b3)) w)
    (q : ((strOfNums (tell 4 (b0 % 128 + b1 % 128 * 128 + b2 % 128 * 16384 + b3 % 128 * 2097152))).toList == (s.extract a.toNat (a + 3 + 1).toNat).toList) = true)
    (w : World) :
    Calls Try.prog 10 #[.string s, .int .i64 a] w fun e w' => e = .returned (.tuple #[.int .i64 (b0 - 128 + 128 * (b1 - 128 + 128 * (b2 - 128 + 128 * (b3)))), .int .i64 (a + 3 + 1), .int .i64 0]) ∧ Onto w w' := by
  unfold maxLen at hs
  have hv : b0 % 128 + b1 % 128 * 128 + b2 % 128 * 16384 + b3 % 128 * 2097152 = b0 - 128 + 128 * (b1 - 128 + 128 * (b2 - 128 + 128 * (b3))) := by omega
  rw [← hv]
  clear hv
  have m0 := and127u b0 (by omega) (by omega)
  have m1 := and127u b1 (by omega) (by omega)
  have m2 := and127u b2 (by omega) (by omega)
  have m3 := and127u b3 (by omega) (by omega)
  have o0 : bits .or .i64 0 (b0 % 128) = b0 % 128 := or0 _ (by omega) (by omega)
  have o1 : bits .or .i64 (b0 % 128) (b1 % 128 * 128) = b0 % 128 + b1 % 128 * 128 := orAt 1 _ _ (by decide) (by omega) (by omega) (by omega) (by omega)
  have o2 : bits .or .i64 (b0 % 128 + b1 % 128 * 128) (b2 % 128 * 16384) = b0 % 128 + b1 % 128 * 128 + b2 % 128 * 16384 := orAt 2 _ _ (by decide) (by omega) (by omega) (by omega) (by omega)
  have o3 : bits .or .i64 (b0 % 128 + b1 % 128 * 128 + b2 % 128 * 16384) (b3 % 128 * 2097152) = b0 % 128 + b1 % 128 * 128 + b2 % 128 * 16384 + b3 % 128 * 2097152 := orAt 3 _ _ (by decide) (by omega) (by omega) (by omega) (by omega)
  go_enter Try.func10, Try.ntmps10
  go_wp2
  refine wp_loop_rounds 4 ?_
  rw [rounds_succ]
  go_wp2
  rw [rounds_succ]
  go_wp2
  rw [rounds_succ]
  go_wp2
  rw [rounds_succ]
  go_wp2_with fail
  refine (ref_ok (b0 % 128 + b1 % 128 * 128 + b2 % 128 * 16384 + b3 % 128 * 2097152) (by omega) (by omega) _).mono ?_
  rintro e w1 ⟨rfl, g1⟩
  go_wp2
  go_ret3
  exact ⟨rfl, g1⟩

set_option maxHeartbeats 1000000 in
theorem rget_ok5 (s : ByteArray) (a : Int) (b0 b1 b2 b3 b4 : Int) (hs : s.size ≤ maxLen) (h0 : 0 ≤ a) (h1 : a + 4 < s.size) (l0 : 128 ≤ b0) (u0 : b0 < 256) (l1 : 128 ≤ b1) (u1 : b1 < 256) (l2 : 128 ≤ b2) (u2 : b2 < 256) (l3 : 128 ≤ b3) (u3 : b3 < 256) (l4 : 0 < b4) (u4 : b4 < 16)
    (i0 : ∀ w, (Instr.index 9 (.string s) (.int .i64 a)).run Try.prog w = .ok (.int .u8 (b0)) w)
    (i1 : ∀ w, (Instr.index 9 (.string s) (.int .i64 (a + 1))).run Try.prog w = .ok (.int .u8 (b1)) w)
    (i2 : ∀ w, (Instr.index 9 (.string s) (.int .i64 (a + 2))).run Try.prog w = .ok (.int .u8 (b2)) w)
    (i3 : ∀ w, (Instr.index 9 (.string s) (.int .i64 (a + 3))).run Try.prog w = .ok (.int .u8 (b3)) w)
    (i4 : ∀ w, (Instr.index 9 (.string s) (.int .i64 (a + 4))).run Try.prog w = .ok (.int .u8 (b4)) w)
    (q : ((strOfNums (tell 4 (b0 % 128 + b1 % 128 * 128 + b2 % 128 * 16384 + b3 % 128 * 2097152 + b4 % 128 * 268435456))).toList == (s.extract a.toNat (a + 4 + 1).toNat).toList) = true)
    (w : World) :
    Calls Try.prog 10 #[.string s, .int .i64 a] w fun e w' => e = .returned (.tuple #[.int .i64 (b0 - 128 + 128 * (b1 - 128 + 128 * (b2 - 128 + 128 * (b3 - 128 + 128 * (b4))))), .int .i64 (a + 4 + 1), .int .i64 0]) ∧ Onto w w' := by
  unfold maxLen at hs
  have hv : b0 % 128 + b1 % 128 * 128 + b2 % 128 * 16384 + b3 % 128 * 2097152 + b4 % 128 * 268435456 = b0 - 128 + 128 * (b1 - 128 + 128 * (b2 - 128 + 128 * (b3 - 128 + 128 * (b4)))) := by omega
  rw [← hv]
  clear hv
  have m0 := and127u b0 (by omega) (by omega)
  have m1 := and127u b1 (by omega) (by omega)
  have m2 := and127u b2 (by omega) (by omega)
  have m3 := and127u b3 (by omega) (by omega)
  have m4 := and127u b4 (by omega) (by omega)
  have o0 : bits .or .i64 0 (b0 % 128) = b0 % 128 := or0 _ (by omega) (by omega)
  have o1 : bits .or .i64 (b0 % 128) (b1 % 128 * 128) = b0 % 128 + b1 % 128 * 128 := orAt 1 _ _ (by decide) (by omega) (by omega) (by omega) (by omega)
  have o2 : bits .or .i64 (b0 % 128 + b1 % 128 * 128) (b2 % 128 * 16384) = b0 % 128 + b1 % 128 * 128 + b2 % 128 * 16384 := orAt 2 _ _ (by decide) (by omega) (by omega) (by omega) (by omega)
  have o3 : bits .or .i64 (b0 % 128 + b1 % 128 * 128 + b2 % 128 * 16384) (b3 % 128 * 2097152) = b0 % 128 + b1 % 128 * 128 + b2 % 128 * 16384 + b3 % 128 * 2097152 := orAt 3 _ _ (by decide) (by omega) (by omega) (by omega) (by omega)
  have o4 : bits .or .i64 (b0 % 128 + b1 % 128 * 128 + b2 % 128 * 16384 + b3 % 128 * 2097152) (b4 % 128 * 268435456) = b0 % 128 + b1 % 128 * 128 + b2 % 128 * 16384 + b3 % 128 * 2097152 + b4 % 128 * 268435456 := orAt 4 _ _ (by decide) (by omega) (by omega) (by omega) (by omega)
  go_enter Try.func10, Try.ntmps10
  go_wp2
  refine wp_loop_rounds 5 ?_
  rw [rounds_succ]
  go_wp2
  rw [rounds_succ]
  go_wp2
  rw [rounds_succ]
  go_wp2
  rw [rounds_succ]
  go_wp2
  rw [rounds_succ]
  go_wp2_with fail
  refine (ref_ok (b0 % 128 + b1 % 128 * 128 + b2 % 128 * 16384 + b3 % 128 * 2097152 + b4 % 128 * 268435456) (by omega) (by omega) _).mono ?_
  rintro e w1 ⟨rfl, g1⟩
  go_wp2
  go_ret3
  exact ⟨rfl, g1⟩

set_option maxHeartbeats 1000000 in
theorem rget_zero2 (s : ByteArray) (a : Int) (b0 : Int) (hs : s.size ≤ maxLen) (h0 : 0 ≤ a) (h1 : a + 1 < s.size) (l0 : 128 ≤ b0) (u0 : b0 < 256)
    (i0 : ∀ w, (Instr.index 9 (.string s) (.int .i64 a)).run Try.prog w = .ok (.int .u8 (b0)) w)
    (i1 : ∀ w, (Instr.index 9 (.string s) (.int .i64 (a + 1))).run Try.prog w = .ok (.int .u8 (0)) w)
    (q : ((strOfNums (tell 4 (b0 % 128))).toList == (s.extract a.toNat (a + 1 + 1).toNat).toList) = false)
    (w : World) :
    Calls Try.prog 10 #[.string s, .int .i64 a] w fun e w' => e = .returned (.tuple #[.int .i64 0, .int .i64 0, .int .i64 200]) ∧ Onto w w' := by
  unfold maxLen at hs
  have m0 := and127u b0 (by omega) (by omega)
  have mz : bits .and .u8 0 127 = 0 := by decide
  have o0 : bits .or .i64 0 (b0 % 128) = b0 % 128 := or0 _ (by omega) (by omega)
  have oz : bits .or .i64 (b0 % 128) 0 = b0 % 128 := orz _ (by omega) (by omega)
  go_enter Try.func10, Try.ntmps10
  go_wp2
  refine wp_loop_rounds 2 ?_
  rw [rounds_succ]
  go_wp2
  rw [rounds_succ]
  go_wp2_with fail
  refine (ref_ok (b0 % 128) (by omega) (by omega) _).mono ?_
  rintro e w1 ⟨rfl, g1⟩
  go_wp2
  go_ret3
  exact ⟨rfl, g1⟩

set_option maxHeartbeats 1000000 in
theorem rget_zero3 (s : ByteArray) (a : Int) (b0 b1 : Int) (hs : s.size ≤ maxLen) (h0 : 0 ≤ a) (h1 : a + 2 < s.size) (l0 : 128 ≤ b0) (u0 : b0 < 256) (l1 : 128 ≤ b1) (u1 : b1 < 256)
    (i0 : ∀ w, (Instr.index 9 (.string s) (.int .i64 a)).run Try.prog w = .ok (.int .u8 (b0)) w)
    (i1 : ∀ w, (Instr.index 9 (.string s) (.int .i64 (a + 1))).run Try.prog w = .ok (.int .u8 (b1)) w)
    (i2 : ∀ w, (Instr.index 9 (.string s) (.int .i64 (a + 2))).run Try.prog w = .ok (.int .u8 (0)) w)
    (q : ((strOfNums (tell 4 (b0 % 128 + b1 % 128 * 128))).toList == (s.extract a.toNat (a + 2 + 1).toNat).toList) = false)
    (w : World) :
    Calls Try.prog 10 #[.string s, .int .i64 a] w fun e w' => e = .returned (.tuple #[.int .i64 0, .int .i64 0, .int .i64 200]) ∧ Onto w w' := by
  unfold maxLen at hs
  have m0 := and127u b0 (by omega) (by omega)
  have m1 := and127u b1 (by omega) (by omega)
  have mz : bits .and .u8 0 127 = 0 := by decide
  have o0 : bits .or .i64 0 (b0 % 128) = b0 % 128 := or0 _ (by omega) (by omega)
  have o1 : bits .or .i64 (b0 % 128) (b1 % 128 * 128) = b0 % 128 + b1 % 128 * 128 := orAt 1 _ _ (by decide) (by omega) (by omega) (by omega) (by omega)
  have oz : bits .or .i64 (b0 % 128 + b1 % 128 * 128) 0 = b0 % 128 + b1 % 128 * 128 := orz _ (by omega) (by omega)
  go_enter Try.func10, Try.ntmps10
  go_wp2
  refine wp_loop_rounds 3 ?_
  rw [rounds_succ]
  go_wp2
  rw [rounds_succ]
  go_wp2
  rw [rounds_succ]
  go_wp2_with fail
  refine (ref_ok (b0 % 128 + b1 % 128 * 128) (by omega) (by omega) _).mono ?_
  rintro e w1 ⟨rfl, g1⟩
  go_wp2
  go_ret3
  exact ⟨rfl, g1⟩

set_option maxHeartbeats 1000000 in
theorem rget_zero4 (s : ByteArray) (a : Int) (b0 b1 b2 : Int) (hs : s.size ≤ maxLen) (h0 : 0 ≤ a) (h1 : a + 3 < s.size) (l0 : 128 ≤ b0) (u0 : b0 < 256) (l1 : 128 ≤ b1) (u1 : b1 < 256) (l2 : 128 ≤ b2) (u2 : b2 < 256)
    (i0 : ∀ w, (Instr.index 9 (.string s) (.int .i64 a)).run Try.prog w = .ok (.int .u8 (b0)) w)
    (i1 : ∀ w, (Instr.index 9 (.string s) (.int .i64 (a + 1))).run Try.prog w = .ok (.int .u8 (b1)) w)
    (i2 : ∀ w, (Instr.index 9 (.string s) (.int .i64 (a + 2))).run Try.prog w = .ok (.int .u8 (b2)) w)
    (i3 : ∀ w, (Instr.index 9 (.string s) (.int .i64 (a + 3))).run Try.prog w = .ok (.int .u8 (0)) w)
    (q : ((strOfNums (tell 4 (b0 % 128 + b1 % 128 * 128 + b2 % 128 * 16384))).toList == (s.extract a.toNat (a + 3 + 1).toNat).toList) = false)
    (w : World) :
    Calls Try.prog 10 #[.string s, .int .i64 a] w fun e w' => e = .returned (.tuple #[.int .i64 0, .int .i64 0, .int .i64 200]) ∧ Onto w w' := by
  unfold maxLen at hs
  have m0 := and127u b0 (by omega) (by omega)
  have m1 := and127u b1 (by omega) (by omega)
  have m2 := and127u b2 (by omega) (by omega)
  have mz : bits .and .u8 0 127 = 0 := by decide
  have o0 : bits .or .i64 0 (b0 % 128) = b0 % 128 := or0 _ (by omega) (by omega)
  have o1 : bits .or .i64 (b0 % 128) (b1 % 128 * 128) = b0 % 128 + b1 % 128 * 128 := orAt 1 _ _ (by decide) (by omega) (by omega) (by omega) (by omega)
  have o2 : bits .or .i64 (b0 % 128 + b1 % 128 * 128) (b2 % 128 * 16384) = b0 % 128 + b1 % 128 * 128 + b2 % 128 * 16384 := orAt 2 _ _ (by decide) (by omega) (by omega) (by omega) (by omega)
  have oz : bits .or .i64 (b0 % 128 + b1 % 128 * 128 + b2 % 128 * 16384) 0 = b0 % 128 + b1 % 128 * 128 + b2 % 128 * 16384 := orz _ (by omega) (by omega)
  go_enter Try.func10, Try.ntmps10
  go_wp2
  refine wp_loop_rounds 4 ?_
  rw [rounds_succ]
  go_wp2
  rw [rounds_succ]
  go_wp2
  rw [rounds_succ]
  go_wp2
  rw [rounds_succ]
  go_wp2_with fail
  refine (ref_ok (b0 % 128 + b1 % 128 * 128 + b2 % 128 * 16384) (by omega) (by omega) _).mono ?_
  rintro e w1 ⟨rfl, g1⟩
  go_wp2
  go_ret3
  exact ⟨rfl, g1⟩

set_option maxHeartbeats 1000000 in
theorem rget_zero5 (s : ByteArray) (a : Int) (b0 b1 b2 b3 : Int) (hs : s.size ≤ maxLen) (h0 : 0 ≤ a) (h1 : a + 4 < s.size) (l0 : 128 ≤ b0) (u0 : b0 < 256) (l1 : 128 ≤ b1) (u1 : b1 < 256) (l2 : 128 ≤ b2) (u2 : b2 < 256) (l3 : 128 ≤ b3) (u3 : b3 < 256)
    (i0 : ∀ w, (Instr.index 9 (.string s) (.int .i64 a)).run Try.prog w = .ok (.int .u8 (b0)) w)
    (i1 : ∀ w, (Instr.index 9 (.string s) (.int .i64 (a + 1))).run Try.prog w = .ok (.int .u8 (b1)) w)
    (i2 : ∀ w, (Instr.index 9 (.string s) (.int .i64 (a + 2))).run Try.prog w = .ok (.int .u8 (b2)) w)
    (i3 : ∀ w, (Instr.index 9 (.string s) (.int .i64 (a + 3))).run Try.prog w = .ok (.int .u8 (b3)) w)
    (i4 : ∀ w, (Instr.index 9 (.string s) (.int .i64 (a + 4))).run Try.prog w = .ok (.int .u8 (0)) w)
    (q : ((strOfNums (tell 4 (b0 % 128 + b1 % 128 * 128 + b2 % 128 * 16384 + b3 % 128 * 2097152))).toList == (s.extract a.toNat (a + 4 + 1).toNat).toList) = false)
    (w : World) :
    Calls Try.prog 10 #[.string s, .int .i64 a] w fun e w' => e = .returned (.tuple #[.int .i64 0, .int .i64 0, .int .i64 200]) ∧ Onto w w' := by
  unfold maxLen at hs
  have m0 := and127u b0 (by omega) (by omega)
  have m1 := and127u b1 (by omega) (by omega)
  have m2 := and127u b2 (by omega) (by omega)
  have m3 := and127u b3 (by omega) (by omega)
  have mz : bits .and .u8 0 127 = 0 := by decide
  have o0 : bits .or .i64 0 (b0 % 128) = b0 % 128 := or0 _ (by omega) (by omega)
  have o1 : bits .or .i64 (b0 % 128) (b1 % 128 * 128) = b0 % 128 + b1 % 128 * 128 := orAt 1 _ _ (by decide) (by omega) (by omega) (by omega) (by omega)
  have o2 : bits .or .i64 (b0 % 128 + b1 % 128 * 128) (b2 % 128 * 16384) = b0 % 128 + b1 % 128 * 128 + b2 % 128 * 16384 := orAt 2 _ _ (by decide) (by omega) (by omega) (by omega) (by omega)
  have o3 : bits .or .i64 (b0 % 128 + b1 % 128 * 128 + b2 % 128 * 16384) (b3 % 128 * 2097152) = b0 % 128 + b1 % 128 * 128 + b2 % 128 * 16384 + b3 % 128 * 2097152 := orAt 3 _ _ (by decide) (by omega) (by omega) (by omega) (by omega)
  have oz : bits .or .i64 (b0 % 128 + b1 % 128 * 128 + b2 % 128 * 16384 + b3 % 128 * 2097152) 0 = b0 % 128 + b1 % 128 * 128 + b2 % 128 * 16384 + b3 % 128 * 2097152 := orz _ (by omega) (by omega)
  go_enter Try.func10, Try.ntmps10
  go_wp2
  refine wp_loop_rounds 5 ?_
  rw [rounds_succ]
  go_wp2
  rw [rounds_succ]
  go_wp2
  rw [rounds_succ]
  go_wp2
  rw [rounds_succ]
  go_wp2
  rw [rounds_succ]
  go_wp2_with fail
  refine (ref_ok (b0 % 128 + b1 % 128 * 128 + b2 % 128 * 16384 + b3 % 128 * 2097152) (by omega) (by omega) _).mono ?_
  rintro e w1 ⟨rfl, g1⟩
  go_wp2
  go_ret3
  exact ⟨rfl, g1⟩

set_option maxHeartbeats 1000000 in
theorem rget_big (s : ByteArray) (a : Int) (b0 b1 b2 b3 b4 : Int) (hs : s.size ≤ maxLen) (h0 : 0 ≤ a) (h1 : a + 4 < s.size) (l0 : 128 ≤ b0) (u0 : b0 < 256) (l1 : 128 ≤ b1) (u1 : b1 < 256) (l2 : 128 ≤ b2) (u2 : b2 < 256) (l3 : 128 ≤ b3) (u3 : b3 < 256) (l4 : 16 ≤ b4) (u4 : b4 < 128)
    (i0 : ∀ w, (Instr.index 9 (.string s) (.int .i64 a)).run Try.prog w = .ok (.int .u8 (b0)) w)
    (i1 : ∀ w, (Instr.index 9 (.string s) (.int .i64 (a + 1))).run Try.prog w = .ok (.int .u8 (b1)) w)
    (i2 : ∀ w, (Instr.index 9 (.string s) (.int .i64 (a + 2))).run Try.prog w = .ok (.int .u8 (b2)) w)
    (i3 : ∀ w, (Instr.index 9 (.string s) (.int .i64 (a + 3))).run Try.prog w = .ok (.int .u8 (b3)) w)
    (i4 : ∀ w, (Instr.index 9 (.string s) (.int .i64 (a + 4))).run Try.prog w = .ok (.int .u8 (b4)) w)
    (w : World) :
    Calls Try.prog 10 #[.string s, .int .i64 a] w fun e w' => e = .returned (.tuple #[.int .i64 0, .int .i64 0, .int .i64 200]) ∧ Onto w w' := by
  unfold maxLen at hs
  have m0 := and127u b0 (by omega) (by omega)
  have m1 := and127u b1 (by omega) (by omega)
  have m2 := and127u b2 (by omega) (by omega)
  have m3 := and127u b3 (by omega) (by omega)
  have m4 := and127u b4 (by omega) (by omega)
  have o0 : bits .or .i64 0 (b0 % 128) = b0 % 128 := or0 _ (by omega) (by omega)
  have o1 : bits .or .i64 (b0 % 128) (b1 % 128 * 128) = b0 % 128 + b1 % 128 * 128 := orAt 1 _ _ (by decide) (by omega) (by omega) (by omega) (by omega)
  have o2 : bits .or .i64 (b0 % 128 + b1 % 128 * 128) (b2 % 128 * 16384) = b0 % 128 + b1 % 128 * 128 + b2 % 128 * 16384 := orAt 2 _ _ (by decide) (by omega) (by omega) (by omega) (by omega)
  have o3 : bits .or .i64 (b0 % 128 + b1 % 128 * 128 + b2 % 128 * 16384) (b3 % 128 * 2097152) = b0 % 128 + b1 % 128 * 128 + b2 % 128 * 16384 + b3 % 128 * 2097152 := orAt 3 _ _ (by decide) (by omega) (by omega) (by omega) (by omega)
  have o4 : bits .or .i64 (b0 % 128 + b1 % 128 * 128 + b2 % 128 * 16384 + b3 % 128 * 2097152) (b4 % 128 * 268435456) = b0 % 128 + b1 % 128 * 128 + b2 % 128 * 16384 + b3 % 128 * 2097152 + b4 % 128 * 268435456 := orAt 4 _ _ (by decide) (by omega) (by omega) (by omega) (by omega)
  go_enter Try.func10, Try.ntmps10
  go_wp2
  refine wp_loop_rounds 5 ?_
  rw [rounds_succ]
  go_wp2
  rw [rounds_succ]
  go_wp2
  rw [rounds_succ]
  go_wp2
  rw [rounds_succ]
  go_wp2
  rw [rounds_succ]
  go_wp2_with fail
  refine (ref_no (b0 % 128 + b1 % 128 * 128 + b2 % 128 * 16384 + b3 % 128 * 2097152 + b4 % 128 * 268435456) (.inr (by omega)) _).mono ?_
  rintro e w1 ⟨rfl, g1⟩
  go_wp2
  go_ret3
  exact ⟨rfl, g1⟩

set_option maxHeartbeats 1000000 in
theorem rget_out0 (s : ByteArray) (a : Int) (hs : s.size ≤ maxLen) (h0 : 0 ≤ a) (h1 : (s.size : Int) = a)
    (w : World) :
    Calls Try.prog 10 #[.string s, .int .i64 a] w fun e w' => e = .returned (.tuple #[.int .i64 0, .int .i64 0, .int .i64 200]) ∧ Onto w w' := by
  unfold maxLen at hs
  go_enter Try.func10, Try.ntmps10
  go_wp2
  refine wp_loop_rounds 1 ?_
  rw [rounds_succ]
  go_wp2
  go_ret3
  exact ⟨rfl, Onto.refl _⟩

set_option maxHeartbeats 1000000 in
theorem rget_out1 (s : ByteArray) (a : Int) (b0 : Int) (hs : s.size ≤ maxLen) (h0 : 0 ≤ a) (h1 : (s.size : Int) = a + 1) (l0 : 128 ≤ b0) (u0 : b0 < 256)
    (i0 : ∀ w, (Instr.index 9 (.string s) (.int .i64 a)).run Try.prog w = .ok (.int .u8 (b0)) w)
    (w : World) :
    Calls Try.prog 10 #[.string s, .int .i64 a] w fun e w' => e = .returned (.tuple #[.int .i64 0, .int .i64 0, .int .i64 200]) ∧ Onto w w' := by
  unfold maxLen at hs
  have m0 := and127u b0 (by omega) (by omega)
  have o0 : bits .or .i64 0 (b0 % 128) = b0 % 128 := or0 _ (by omega) (by omega)
  go_enter Try.func10, Try.ntmps10
  go_wp2
  refine wp_loop_rounds 2 ?_
  rw [rounds_succ]
  go_wp2
  rw [rounds_succ]
  go_wp2
  go_ret3
  exact ⟨rfl, Onto.refl _⟩

set_option maxHeartbeats 1000000 in
theorem rget_out2 (s : ByteArray) (a : Int) (b0 b1 : Int) (hs : s.size ≤ maxLen) (h0 : 0 ≤ a) (h1 : (s.size : Int) = a + 2) (l0 : 128 ≤ b0) (u0 : b0 < 256) (l1 : 128 ≤ b1) (u1 : b1 < 256)
    (i0 : ∀ w, (Instr.index 9 (.string s) (.int .i64 a)).run Try.prog w = .ok (.int .u8 (b0)) w)
    (i1 : ∀ w, (Instr.index 9 (.string s) (.int .i64 (a + 1))).run Try.prog w = .ok (.int .u8 (b1)) w)
    (w : World) :
    Calls Try.prog 10 #[.string s, .int .i64 a] w fun e w' => e = .returned (.tuple #[.int .i64 0, .int .i64 0, .int .i64 200]) ∧ Onto w w' := by
  unfold maxLen at hs
  have m0 := and127u b0 (by omega) (by omega)
  have m1 := and127u b1 (by omega) (by omega)
  have o0 : bits .or .i64 0 (b0 % 128) = b0 % 128 := or0 _ (by omega) (by omega)
  have o1 : bits .or .i64 (b0 % 128) (b1 % 128 * 128) = b0 % 128 + b1 % 128 * 128 := orAt 1 _ _ (by decide) (by omega) (by omega) (by omega) (by omega)
  go_enter Try.func10, Try.ntmps10
  go_wp2
  refine wp_loop_rounds 3 ?_
  rw [rounds_succ]
  go_wp2
  rw [rounds_succ]
  go_wp2
  rw [rounds_succ]
  go_wp2
  go_ret3
  exact ⟨rfl, Onto.refl _⟩

set_option maxHeartbeats 1000000 in
theorem rget_out3 (s : ByteArray) (a : Int) (b0 b1 b2 : Int) (hs : s.size ≤ maxLen) (h0 : 0 ≤ a) (h1 : (s.size : Int) = a + 3) (l0 : 128 ≤ b0) (u0 : b0 < 256) (l1 : 128 ≤ b1) (u1 : b1 < 256) (l2 : 128 ≤ b2) (u2 : b2 < 256)
    (i0 : ∀ w, (Instr.index 9 (.string s) (.int .i64 a)).run Try.prog w = .ok (.int .u8 (b0)) w)
    (i1 : ∀ w, (Instr.index 9 (.string s) (.int .i64 (a + 1))).run Try.prog w = .ok (.int .u8 (b1)) w)
    (i2 : ∀ w, (Instr.index 9 (.string s) (.int .i64 (a + 2))).run Try.prog w = .ok (.int .u8 (b2)) w)
    (w : World) :
    Calls Try.prog 10 #[.string s, .int .i64 a] w fun e w' => e = .returned (.tuple #[.int .i64 0, .int .i64 0, .int .i64 200]) ∧ Onto w w' := by
  unfold maxLen at hs
  have m0 := and127u b0 (by omega) (by omega)
  have m1 := and127u b1 (by omega) (by omega)
  have m2 := and127u b2 (by omega) (by omega)
  have o0 : bits .or .i64 0 (b0 % 128) = b0 % 128 := or0 _ (by omega) (by omega)
  have o1 : bits .or .i64 (b0 % 128) (b1 % 128 * 128) = b0 % 128 + b1 % 128 * 128 := orAt 1 _ _ (by decide) (by omega) (by omega) (by omega) (by omega)
  have o2 : bits .or .i64 (b0 % 128 + b1 % 128 * 128) (b2 % 128 * 16384) = b0 % 128 + b1 % 128 * 128 + b2 % 128 * 16384 := orAt 2 _ _ (by decide) (by omega) (by omega) (by omega) (by omega)
  go_enter Try.func10, Try.ntmps10
  go_wp2
  refine wp_loop_rounds 4 ?_
  rw [rounds_succ]
  go_wp2
  rw [rounds_succ]
  go_wp2
  rw [rounds_succ]
  go_wp2
  rw [rounds_succ]
  go_wp2
  go_ret3
  exact ⟨rfl, Onto.refl _⟩

set_option maxHeartbeats 1000000 in
theorem rget_out4 (s : ByteArray) (a : Int) (b0 b1 b2 b3 : Int) (hs : s.size ≤ maxLen) (h0 : 0 ≤ a) (h1 : (s.size : Int) = a + 4) (l0 : 128 ≤ b0) (u0 : b0 < 256) (l1 : 128 ≤ b1) (u1 : b1 < 256) (l2 : 128 ≤ b2) (u2 : b2 < 256) (l3 : 128 ≤ b3) (u3 : b3 < 256)
    (i0 : ∀ w, (Instr.index 9 (.string s) (.int .i64 a)).run Try.prog w = .ok (.int .u8 (b0)) w)
    (i1 : ∀ w, (Instr.index 9 (.string s) (.int .i64 (a + 1))).run Try.prog w = .ok (.int .u8 (b1)) w)
    (i2 : ∀ w, (Instr.index 9 (.string s) (.int .i64 (a + 2))).run Try.prog w = .ok (.int .u8 (b2)) w)
    (i3 : ∀ w, (Instr.index 9 (.string s) (.int .i64 (a + 3))).run Try.prog w = .ok (.int .u8 (b3)) w)
    (w : World) :
    Calls Try.prog 10 #[.string s, .int .i64 a] w fun e w' => e = .returned (.tuple #[.int .i64 0, .int .i64 0, .int .i64 200]) ∧ Onto w w' := by
  unfold maxLen at hs
  have m0 := and127u b0 (by omega) (by omega)
  have m1 := and127u b1 (by omega) (by omega)
  have m2 := and127u b2 (by omega) (by omega)
  have m3 := and127u b3 (by omega) (by omega)
  have o0 : bits .or .i64 0 (b0 % 128) = b0 % 128 := or0 _ (by omega) (by omega)
  have o1 : bits .or .i64 (b0 % 128) (b1 % 128 * 128) = b0 % 128 + b1 % 128 * 128 := orAt 1 _ _ (by decide) (by omega) (by omega) (by omega) (by omega)
  have o2 : bits .or .i64 (b0 % 128 + b1 % 128 * 128) (b2 % 128 * 16384) = b0 % 128 + b1 % 128 * 128 + b2 % 128 * 16384 := orAt 2 _ _ (by decide) (by omega) (by omega) (by omega) (by omega)
  have o3 : bits .or .i64 (b0 % 128 + b1 % 128 * 128 + b2 % 128 * 16384) (b3 % 128 * 2097152) = b0 % 128 + b1 % 128 * 128 + b2 % 128 * 16384 + b3 % 128 * 2097152 := orAt 3 _ _ (by decide) (by omega) (by omega) (by omega) (by omega)
  go_enter Try.func10, Try.ntmps10
  go_wp2
  refine wp_loop_rounds 5 ?_
  rw [rounds_succ]
  go_wp2
  rw [rounds_succ]
  go_wp2
  rw [rounds_succ]
  go_wp2
  rw [rounds_succ]
  go_wp2
  rw [rounds_succ]
  go_wp2
  go_ret3
  exact ⟨rfl, Onto.refl _⟩

set_option maxHeartbeats 1000000 in
theorem rget_five (s : ByteArray) (a : Int) (b0 b1 b2 b3 b4 : Int) (hs : s.size ≤ maxLen) (h0 : 0 ≤ a) (h1 : a + 4 < s.size) (l0 : 128 ≤ b0) (u0 : b0 < 256) (l1 : 128 ≤ b1) (u1 : b1 < 256) (l2 : 128 ≤ b2) (u2 : b2 < 256) (l3 : 128 ≤ b3) (u3 : b3 < 256) (l4 : 128 ≤ b4) (u4 : b4 < 256)
    (i0 : ∀ w, (Instr.index 9 (.string s) (.int .i64 a)).run Try.prog w = .ok (.int .u8 (b0)) w)
    (i1 : ∀ w, (Instr.index 9 (.string s) (.int .i64 (a + 1))).run Try.prog w = .ok (.int .u8 (b1)) w)
    (i2 : ∀ w, (Instr.index 9 (.string s) (.int .i64 (a + 2))).run Try.prog w = .ok (.int .u8 (b2)) w)
    (i3 : ∀ w, (Instr.index 9 (.string s) (.int .i64 (a + 3))).run Try.prog w = .ok (.int .u8 (b3)) w)
    (i4 : ∀ w, (Instr.index 9 (.string s) (.int .i64 (a + 4))).run Try.prog w = .ok (.int .u8 (b4)) w)
    (w : World) :
    Calls Try.prog 10 #[.string s, .int .i64 a] w fun e w' => e = .returned (.tuple #[.int .i64 0, .int .i64 0, .int .i64 200]) ∧ Onto w w' := by
  unfold maxLen at hs
  have m0 := and127u b0 (by omega) (by omega)
  have m1 := and127u b1 (by omega) (by omega)
  have m2 := and127u b2 (by omega) (by omega)
  have m3 := and127u b3 (by omega) (by omega)
  have m4 := and127u b4 (by omega) (by omega)
  have o0 : bits .or .i64 0 (b0 % 128) = b0 % 128 := or0 _ (by omega) (by omega)
  have o1 : bits .or .i64 (b0 % 128) (b1 % 128 * 128) = b0 % 128 + b1 % 128 * 128 := orAt 1 _ _ (by decide) (by omega) (by omega) (by omega) (by omega)
  have o2 : bits .or .i64 (b0 % 128 + b1 % 128 * 128) (b2 % 128 * 16384) = b0 % 128 + b1 % 128 * 128 + b2 % 128 * 16384 := orAt 2 _ _ (by decide) (by omega) (by omega) (by omega) (by omega)
  have o3 : bits .or .i64 (b0 % 128 + b1 % 128 * 128 + b2 % 128 * 16384) (b3 % 128 * 2097152) = b0 % 128 + b1 % 128 * 128 + b2 % 128 * 16384 + b3 % 128 * 2097152 := orAt 3 _ _ (by decide) (by omega) (by omega) (by omega) (by omega)
  have o4 : bits .or .i64 (b0 % 128 + b1 % 128 * 128 + b2 % 128 * 16384 + b3 % 128 * 2097152) (b4 % 128 * 268435456) = b0 % 128 + b1 % 128 * 128 + b2 % 128 * 16384 + b3 % 128 * 2097152 + b4 % 128 * 268435456 := orAt 4 _ _ (by decide) (by omega) (by omega) (by omega) (by omega)
  go_enter Try.func10, Try.ntmps10
  go_wp2
  refine wp_loop_rounds 6 ?_
  rw [rounds_succ]
  go_wp2
  rw [rounds_succ]
  go_wp2
  rw [rounds_succ]
  go_wp2
  rw [rounds_succ]
  go_wp2
  rw [rounds_succ]
  go_wp2
  rw [rounds_succ]
  go_wp2
  go_ret3
  exact ⟨rfl, Onto.refl _⟩

end Go.Proofs.Ytggccjbedoojmaa.Varint
