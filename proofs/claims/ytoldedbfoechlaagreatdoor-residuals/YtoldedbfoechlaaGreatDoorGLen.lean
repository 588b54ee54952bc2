/-
  The contracts of math/bits.Len64, Len and of gamma.behindHighest, of numbers above 0 and below 2 to the 32. No other condition.
-/
import Derived.Test.YtoldedbfoechlaaGreatDoorGNum
import Derived.Test.YtoldedbfoechlaaGreatDoorNum
import Derived.Test.YtoldedbfoechlaaGreatDoorRows
import Derived.ProofKit
namespace Go.Proofs.YtoldedbfoechlaaGreatDoor.Gam
open Go.RowKit Go.Proofs.YtoldedbfoechlaaGreatDoor.Mod
set_option linter.unusedVariables false

theorem two_wraps (k n : Nat) (hk : k ≤ 64) (hn : n ≤ 64) : wrap64 ((k : Int) + wrap64 (n : Int)) = ((k + n : Nat) : Int) := by
  unfold wrap64; omega
theorem one_wraps (n : Nat) (hn : n ≤ 64) : wrap64 (wrap64 (n : Int)) = (n : Int) := by
  unfold wrap64; omega

set_option maxRecDepth 100000 in
set_option maxHeartbeats 1000000 in
theorem len64_a (v : Int) (h0 : 1 ≤ v) (h1 : v < 256) (w : World) :
    Calls Tryz.prog 102 #[.int .u64 v] w fun e w' => e = .returned (.int .i64 ((bitLen v.toNat : Nat) : Int)) ∧ w' = w := by
  go_enter Tryz.func102, Tryz.ntmps102
  go_wp2
  go_ret
  refine ⟨congrArg (fun z => Ending.returned (.int .i64 z)) ?_, rfl⟩
  have t := len8tab_get v.toNat (show v.toNat < 256 by omega)
  exact (one_wraps _ (Nat.le_trans (Nat.le_of_eq t) (Nat.le_trans (bitLen_le8 _ (by omega)) (by decide)))).trans (congrArg (fun n : Nat => (n : Int)) t)

set_option maxRecDepth 100000 in
set_option maxHeartbeats 1000000 in
theorem len64_b (v : Int) (h0 : 256 ≤ v) (h1 : v < 65536) (w : World) :
    Calls Tryz.prog 102 #[.int .u64 v] w fun e w' => e = .returned (.int .i64 ((bitLen v.toNat : Nat) : Int)) ∧ w' = w := by
  go_enter Tryz.func102, Tryz.ntmps102
  go_wp2
  go_ret
  refine ⟨congrArg (fun z => Ending.returned (.int .i64 z)) ?_, rfl⟩
  have q : (v / 256).toNat = v.toNat / 2 ^ 8 := by omega
  have t := len8tab_get (v / 256).toNat (show (v / 256).toNat < 256 by omega)
  have s : bitLen v.toNat = 8 + bitLen (v / 256).toNat := by rw [q]; exact bitLen_shift _ 8 (by omega)
  rw [s]
  exact (two_wraps 8 _ (by decide) (Nat.le_trans (Nat.le_of_eq t) (Nat.le_trans (bitLen_le8 _ (by omega)) (by decide)))).trans (congrArg (fun n : Nat => ((8 + n : Nat) : Int)) t)

set_option maxRecDepth 100000 in
set_option maxHeartbeats 1000000 in
theorem len64_c (v : Int) (h0 : 65536 ≤ v) (h1 : v < 16777216) (w : World) :
    Calls Tryz.prog 102 #[.int .u64 v] w fun e w' => e = .returned (.int .i64 ((bitLen v.toNat : Nat) : Int)) ∧ w' = w := by
  go_enter Tryz.func102, Tryz.ntmps102
  go_wp2
  go_ret
  refine ⟨congrArg (fun z => Ending.returned (.int .i64 z)) ?_, rfl⟩
  have q : (v / 65536).toNat = v.toNat / 2 ^ 16 := by omega
  have t := len8tab_get (v / 65536).toNat (show (v / 65536).toNat < 256 by omega)
  have s : bitLen v.toNat = 16 + bitLen (v / 65536).toNat := by rw [q]; exact bitLen_shift _ 16 (by omega)
  rw [s]
  exact (two_wraps 16 _ (by decide) (Nat.le_trans (Nat.le_of_eq t) (Nat.le_trans (bitLen_le8 _ (by omega)) (by decide)))).trans (congrArg (fun n : Nat => ((16 + n : Nat) : Int)) t)

set_option maxRecDepth 100000 in
set_option maxHeartbeats 1000000 in
theorem len64_d (v : Int) (h0 : 16777216 ≤ v) (h1 : v < 4294967296) (w : World) :
    Calls Tryz.prog 102 #[.int .u64 v] w fun e w' => e = .returned (.int .i64 ((bitLen v.toNat : Nat) : Int)) ∧ w' = w := by
  go_enter Tryz.func102, Tryz.ntmps102
  go_wp2
  go_ret
  refine ⟨congrArg (fun z => Ending.returned (.int .i64 z)) ?_, rfl⟩
  have q : (v / 65536 / 256).toNat = v.toNat / 2 ^ 24 := by omega
  have t := len8tab_get (v / 65536 / 256).toNat (show (v / 65536 / 256).toNat < 256 by omega)
  have s : bitLen v.toNat = 24 + bitLen (v / 65536 / 256).toNat := by rw [q]; exact bitLen_shift _ 24 (by omega)
  rw [s]
  exact (two_wraps 24 _ (by decide) (Nat.le_trans (Nat.le_of_eq t) (Nat.le_trans (bitLen_le8 _ (by omega)) (by decide)))).trans (congrArg (fun n : Nat => ((24 + n : Nat) : Int)) t)

theorem len64_ok (v : Int) (h0 : 0 < v) (h1 : v < 4294967296) (w : World) :
    Calls Tryz.prog 102 #[.int .u64 v] w fun e w' => e = .returned (.int .i64 ((bitLen v.toNat : Nat) : Int)) ∧ w' = w := by
  rcases (by omega : v < 256 ∨ (256 ≤ v ∧ v < 65536) ∨ (65536 ≤ v ∧ v < 16777216) ∨ 16777216 ≤ v) with h | ⟨a, h⟩ | ⟨a, h⟩ | h
  · exact len64_a v (by omega) h w
  · exact len64_b v a h w
  · exact len64_c v a h w
  · exact len64_d v h h1 w

theorem bitLen_le32 (n : Nat) (h : n < 4294967296) : bitLen n ≤ 32 := by
  unfold bitLen
  split
  · omega
  · rename_i h0
    have := (Nat.log2_lt h0).2 (show n < 2 ^ 32 from h)
    omega

set_option maxHeartbeats 400000 in
theorem len_ok (v : Int) (h0 : 0 < v) (h1 : v < 4294967296) (w : World) :
    Calls Tryz.prog 70 #[.int .u64 v] w fun e w' => e = .returned (.int .i64 ((bitLen v.toNat : Nat) : Int)) ∧ w' = w := by
  have C := len64_ok v h0 h1 w
  generalize ((bitLen v.toNat : Nat) : Int) = b at *
  go_enter Tryz.func70, Tryz.ntmps70
  go_wp2_with fail
  refine C.mono ?_
  rintro e w1 ⟨rfl, rfl⟩
  go_wp2
  go_ret
  exact ⟨rfl, rfl⟩

set_option maxHeartbeats 400000 in
theorem behind_ok (v : Int) (n : Nat) (h0 : 0 < v) (h1 : v < 4294967296) (hn : n = v.toNat.log2) (w : World) :
    Calls Tryz.prog 44 #[.int .i64 v] w fun e w' => e = .returned (.int .i64 (n : Int)) ∧ w' = w := by
  have C := len_ok v h0 h1 w
  have hb : bitLen v.toNat = n + 1 := by unfold bitLen; rw [if_neg (by omega), hn]
  have hb2 := bitLen_le32 v.toNat (by omega)
  rw [hb] at C hb2
  have e : ((n + 1 : Nat) : Int) = (n : Int) + 1 := by omega
  rw [e] at C
  clear hb hn e
  go_enter Tryz.func44, Tryz.ntmps44
  go_wp2_with fail
  refine C.mono ?_
  rintro e w1 ⟨rfl, rfl⟩
  go_wp2
  go_ret
  exact ⟨rfl, rfl⟩

end Go.Proofs.YtoldedbfoechlaaGreatDoor.Gam
