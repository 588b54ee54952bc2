/-
  The contracts of math/bits.Len64, Len and of gamma.behindHighest, of numbers above 0 and below 2 to the 32. No other condition.
  The contract of gamma.Bits, of any int, as P11.1 has it. No condition.
  The contract of Put. Condition: the package's table is laid as its text lays it.
  The contracts of gamma.isHead and gamma.Number, of any row of ints, as P11.1 has them. Condition: the row is there.
  The contract of gamma.Number, of any row of ints, as P11.1 has it. Condition: the row is there.
-/
import Derived.Test.YtocnlefpbcnlmaaDoorPk8
import Derived.Test.YtocnlefpbcnlmaaDoorPk1
import Derived.Test.YtocnlefpbcnlmaaDoorRows
import Derived.ProofKit
import Derived.Test.YtocnlefpbcnlmaaDoorPk11
import Derived.Test.YtocnlefpbcnlmaaDoorPk14

namespace Go.Proofs.YtocnlefpbcnlmaaDoor.Gam
open Go.RowKit Go.Proofs.YtocnlefpbcnlmaaDoor.Mod
set_option linter.unusedVariables false

theorem two_wraps (k n : Nat) (hk : k ≤ 64) (hn : n ≤ 64) : wrap64 ((k : Int) + wrap64 (n : Int)) = ((k + n : Nat) : Int) := by
  unfold wrap64; omega
theorem one_wraps (n : Nat) (hn : n ≤ 64) : wrap64 (wrap64 (n : Int)) = (n : Int) := by
  unfold wrap64; omega

set_option maxRecDepth 100000 in
set_option maxHeartbeats 1000000 in
theorem len64_a (v : Int) (h0 : 1 ≤ v) (h1 : v < 256) (w : World) :
    Calls Tryd.prog 68 #[.int .u64 v] w fun e w' => e = .returned (.int .i64 ((bitLen v.toNat : Nat) : Int)) ∧ w' = w := by
  go_enter Tryd.func68, Tryd.ntmps68
  go_wp2
  go_ret
  refine ⟨congrArg (fun z => Ending.returned (.int .i64 z)) ?_, rfl⟩
  have t := len8tab_get v.toNat (show v.toNat < 256 by omega)
  exact (one_wraps _ (Nat.le_trans (Nat.le_of_eq t) (Nat.le_trans (bitLen_le8 _ (by omega)) (by decide)))).trans (congrArg (fun n : Nat => (n : Int)) t)

set_option maxRecDepth 100000 in
set_option maxHeartbeats 1000000 in
theorem len64_b (v : Int) (h0 : 256 ≤ v) (h1 : v < 65536) (w : World) :
    Calls Tryd.prog 68 #[.int .u64 v] w fun e w' => e = .returned (.int .i64 ((bitLen v.toNat : Nat) : Int)) ∧ w' = w := by
  go_enter Tryd.func68, Tryd.ntmps68
  go_wp2
  go_ret
  refine ⟨congrArg (fun z => Ending.returned (.int .i64 z)) ?_, rfl⟩
  have q : (v / 256).toNat = v.toNat / 2 ^ 8 := by omega
  have t := len8tab_get (v / 256).toNat (show (v / 256).toNat < 256 by omega)
  have s : bitLen v.toNat = 8 + bitLen (v / 256).toNat := by rw [q]; exact bitLen_shift _ 8 (by omega)
  rw [s]
  exact (two_wraps 8 _ (by decide) (Nat.le_trans (Nat.le_of_eq t) (Nat.le_trans (bitLen_le8 _ (by omega)) (by decide)))).trans (congrArg (fun n : Nat => ((8 + n : Nat) : Int)) t)

set_option maxRecDepth 100000 in
set_option maxHeartbeats 1000000 in
theorem len64_c (v : Int) (h0 : 65536 ≤ v) (h1 : v < 16777216) (w : World) :
    Calls Tryd.prog 68 #[.int .u64 v] w fun e w' => e = .returned (.int .i64 ((bitLen v.toNat : Nat) : Int)) ∧ w' = w := by
  go_enter Tryd.func68, Tryd.ntmps68
  go_wp2
  go_ret
  refine ⟨congrArg (fun z => Ending.returned (.int .i64 z)) ?_, rfl⟩
  have q : (v / 65536).toNat = v.toNat / 2 ^ 16 := by omega
  have t := len8tab_get (v / 65536).toNat (show (v / 65536).toNat < 256 by omega)
  have s : bitLen v.toNat = 16 + bitLen (v / 65536).toNat := by rw [q]; exact bitLen_shift _ 16 (by omega)
  rw [s]
  exact (two_wraps 16 _ (by decide) (Nat.le_trans (Nat.le_of_eq t) (Nat.le_trans (bitLen_le8 _ (by omega)) (by decide)))).trans (congrArg (fun n : Nat => ((16 + n : Nat) : Int)) t)

set_option maxRecDepth 100000 in
set_option maxHeartbeats 1000000 in
theorem len64_d (v : Int) (h0 : 16777216 ≤ v) (h1 : v < 4294967296) (w : World) :
    Calls Tryd.prog 68 #[.int .u64 v] w fun e w' => e = .returned (.int .i64 ((bitLen v.toNat : Nat) : Int)) ∧ w' = w := by
  go_enter Tryd.func68, Tryd.ntmps68
  go_wp2
  go_ret
  refine ⟨congrArg (fun z => Ending.returned (.int .i64 z)) ?_, rfl⟩
  have q : (v / 65536 / 256).toNat = v.toNat / 2 ^ 24 := by omega
  have t := len8tab_get (v / 65536 / 256).toNat (show (v / 65536 / 256).toNat < 256 by omega)
  have s : bitLen v.toNat = 24 + bitLen (v / 65536 / 256).toNat := by rw [q]; exact bitLen_shift _ 24 (by omega)
  rw [s]
  exact (two_wraps 24 _ (by decide) (Nat.le_trans (Nat.le_of_eq t) (Nat.le_trans (bitLen_le8 _ (by omega)) (by decide)))).trans (congrArg (fun n : Nat => ((24 + n : Nat) : Int)) t)

theorem len64_ok (v : Int) (h0 : 0 < v) (h1 : v < 4294967296) (w : World) :
    Calls Tryd.prog 68 #[.int .u64 v] w fun e w' => e = .returned (.int .i64 ((bitLen v.toNat : Nat) : Int)) ∧ w' = w := by
  rcases (by omega : v < 256 ∨ (256 ≤ v ∧ v < 65536) ∨ (65536 ≤ v ∧ v < 16777216) ∨ 16777216 ≤ v) with h | ⟨a, h⟩ | ⟨a, h⟩ | h
  · exact len64_a v (by omega) h w
  · exact len64_b v a h w
  · exact len64_c v a h w
  · exact len64_d v h h1 w

theorem bitLen_le32 (n : Nat) (h : n < 4294967296) : bitLen n ≤ 32 := by
  unfold bitLen
  split
  · omega
  · rename_i h0
    have := (Nat.log2_lt h0).2 (show n < 2 ^ 32 from h)
    omega

set_option maxHeartbeats 400000 in
theorem len_ok (v : Int) (h0 : 0 < v) (h1 : v < 4294967296) (w : World) :
    Calls Tryd.prog 42 #[.int .u64 v] w fun e w' => e = .returned (.int .i64 ((bitLen v.toNat : Nat) : Int)) ∧ w' = w := by
  have C := len64_ok v h0 h1 w
  generalize ((bitLen v.toNat : Nat) : Int) = b at *
  go_enter Tryd.func42, Tryd.ntmps42
  go_wp2_with fail
  refine C.mono ?_
  rintro e w1 ⟨rfl, rfl⟩
  go_wp2
  go_ret
  exact ⟨rfl, rfl⟩

set_option maxHeartbeats 400000 in
theorem behind_ok (v : Int) (n : Nat) (h0 : 0 < v) (h1 : v < 4294967296) (hn : n = v.toNat.log2) (w : World) :
    Calls Tryd.prog 29 #[.int .i64 v] w fun e w' => e = .returned (.int .i64 (n : Int)) ∧ w' = w := by
  have C := len_ok v h0 h1 w
  have hb : bitLen v.toNat = n + 1 := by unfold bitLen; rw [if_neg (by omega), hn]
  have hb2 := bitLen_le32 v.toNat (by omega)
  rw [hb] at C hb2
  have e : ((n + 1 : Nat) : Int) = (n : Int) + 1 := by omega
  rw [e] at C
  clear hb hn e
  go_enter Tryd.func29, Tryd.ntmps29
  go_wp2_with fail
  refine C.mono ?_
  rintro e w1 ⟨rfl, rfl⟩
  go_wp2
  go_ret
  exact ⟨rfl, rfl⟩

end Go.Proofs.YtocnlefpbcnlmaaDoor.Gam

namespace Go.Proofs.YtocnlefpbcnlmaaDoor.Gam
open Go.RowKit Go.Proofs.YtocnlefpbcnlmaaDoor.Mod Go.Proofs.YtocnlefpbcnlmaaDoor.Ints Go.Proofs.YtocnlefpbcnlmaaDoor.Num
set_option linter.unusedVariables false

theorem num_ok (n : Int) (w : World) :
    Calls Tryd.prog 9 #[.int .i64 n] w fun e w' => e = .returned (.int .i64 n) ∧ w' = w := by
  go_enter Tryd.func9, Tryd.ntmps9
  go_wp2
  go_ret
  exact ⟨rfl, rfl⟩

set_option maxHeartbeats 400000 in
/-- Bits of a number that is none. -/
theorem bits_no (u : Int) (h : u < 0 ∨ 33554432 < u) (w : World) :
    Calls Tryd.prog 19 #[.int .i64 u] w fun e w' => e = .returned (.tuple #[.slice none 0 0, .int .i64 1100]) ∧ w' = w := by
  rcases h with h | h
  · go_enter Tryd.func19, Tryd.ntmps19
    go_wp2
    go_ret2
    exact ⟨rfl, rfl⟩
  · go_enter Tryd.func19, Tryd.ntmps19
    go_wp2
    go_ret2
    exact ⟨rfl, rfl⟩

theorem one_cell (w : World) (x : Int) : ∀ j u, (vals [x])[j]? = some u → (w.alloc (.cells #[.int .i64 x] 3)).cell? ((⟨w.heap.size, 0, none⟩ : Addr).add j) = some u := fun j u hu => by
  have hj : j < [x].length := by have := (List.getElem?_eq_some_iff.1 hu).1; rwa [vals_length] at this
  rw [vals_get _ j hj] at hu
  rw [Addr.add_lit, Nat.zero_add, ← hu]
  exact (holds_new w [x] 3).cell j hj

theorem and_one (n : Int) : bits .and .i64 n 1 = n % 2 := and_mask 1 1 (by decide) (by decide) n
theorem bit_is (u n j : Nat) : bits .and .i64 (((u : Int) + 1) / 2 ^ (n - 1 - j)) 1 = bitAt u n j := by
  rw [and_one]
  unfold bitAt
  simp

/-- What is made by appending one. -/
theorem owns_more {w wr w1 : World} {v v' : Value} {k : Nat} {L : List Int} {x : Int} (ho : wr.ownsRow w.heap.size 3 1 v k (vals L)) (hb : Bel w wr)
    (h1 : w1.ownsRow w.heap.size 3 1 v' (k + 1) (vals L ++ vals [x])) (hg : (wr.alloc (.cells #[.int .i64 x] 3)).grownBy w1 v.ownBlock) :
    w1.ownsRow w.heap.size 3 1 v' (k + 1) (vals (L ++ [x])) ∧ Bel w w1 :=
  ⟨by rw [vals_append]; exact h1, Below.grown (hb.alloc _) hg (by have := hb.size; simp; omega) (fun k hk => (ho.lt k hk).1)⟩

theorem rep_snoc (j : Nat) : List.replicate j (1 : Int) ++ [1] = List.replicate (j + 1) 1 := by
  rw [List.replicate_succ']

theorem size_ok {w wr : World} (hb : Bel w wr) (o : Obj) : w.heap.size ≤ (wr.alloc o).heap.size := by have := hb.size; simp; omega

/-- The bits that are told when i of the last ones are. -/
def front (u n i : Nat) : List Int := List.replicate n 1 ++ 0 :: tail u n i
theorem front_zero (u n : Nat) : List.replicate n (1 : Int) ++ [0] = front u n 0 := by simp [front, tail]
theorem front_succ (u n i : Nat) : front u n (i + 1) = front u n i ++ [bitAt u n i] := by simp [front, tail_succ]
theorem front_all (u n : Nat) (h : n = many u) : front u n n = bitsOf u := by subst h; rfl

set_option maxRecDepth 20000 in
set_option maxHeartbeats 2000000 in
theorem bits_own (u n : Nat) (hu : u ≤ 33554432) (hn : n = many u) (w : World) :
    Calls Tryd.prog 19 #[.int .i64 (u : Int)] w fun e w' => ∃ v, e = .returned (.tuple #[v, .int .i64 0]) ∧ w'.ownsRow w.heap.size 3 1 v (2 * n + 1) (vals (bitsOf u)) ∧ Bel w w' := by
  obtain ⟨i0, hi, hz0, hz1, hz2⟩ := info_parts info_int
  have n25 : n ≤ 25 := hn ▸ many_25 u hu
  have C := behind_ok ((u : Int) + 1) n (by omega) (by omega) (by rw [hn]; unfold many; congr 1) w
  have HN : Hid (n = many u) := hn
  clear hn
  have hcap : 2 * (n : Int) + 1 = ((2 * n + 1 : Nat) : Int) := by omega
  have HC : Hid (2 * (n : Int) + 1 = ((2 * n + 1 : Nat) : Int)) := hcap
  clear hcap
  have m1 : Hid (i0.bytes * (2 * n + 1) ≤ 281474976710656) := (by rw [hz2]; omega : i0.bytes * (2 * n + 1) ≤ 281474976710656)
  have m2 : Hid (2 * n + 1 ≤ maxLen) := (by unfold maxLen; omega : 2 * n + 1 ≤ maxLen)
  go_enter Tryd.func19, Tryd.ntmps19
  go_wp2_with fail
  refine C.mono ?_
  rintro e w0 ⟨rfl, rfl⟩
  clear C
  go_wp2_with (at_make; refine wpList_make_own _ rfl _ _ 22 rfl w0.heap.size 3 i0 (.int .i64 0) 1 Tryd.underlying22 hi hz0 hz1 .i64 .i64 _ (2 * n + 1) rfl rfl HC.out m1.out m2.out (Nat.le_refl _) ?_)
  intro w1 ho hg
  have b1 : Bel w0 w1 := Below.grown (Bel.refl w0) hg (Nat.le_refl _) (fun k hk => by cases hk)
  have HO : Hid (w1.ownsRow w0.heap.size 3 1 (.slice (some ⟨w0.heap.size, 0, none⟩) 0 (2 * n + 1)) 0 (vals []) ∧ Bel w0 w1) := ⟨ho, b1⟩
  clear ho hg b1 m1 m2
  go_wp2_with fail
  go_loopw [6, 23] (fun v i wr => ∃ (j : Nat) (x : Value), j ≤ n ∧ i = .int .i64 j ∧ x = v ∧ Hid (wr.ownsRow w0.heap.size 3 1 x j (vals (List.replicate j 1)) ∧ Bel w0 wr)) (fun _ i _ => n - (intOf i).toNat)
  case atStart => exact ⟨0, _, Nat.zero_le _, rfl, rfl, HO.out⟩
  case round =>
    obtain ⟨j, x, hj, rfl, rfl, H1⟩ := hrel
    clear HO
    by_cases hlt : j < n
    · have c3 : Hid (j + 1 ≤ maxLen) := (by unfold maxLen; omega : j + 1 ≤ maxLen)
      have c4 : Hid ((j + 1) * 8 ≤ 140737488355328) := (by omega : (j + 1) * 8 ≤ 140737488355328)
      go_wp2_with (at_builtin; refine wpList_append_own _ rfl (.tmp 25) (.tmp 26) 22 rfl w0.heap.size 3 i0 (.int .i64 0) 1 8 Tryd.underlying22 hi hz0 hz1 hz2 rfl (by decide) _ j _ rfl (H1.out.1.alloc _) ⟨wr.heap.size, 0, none⟩ 1 1 (vals [1]) rfl rfl (one_cell _ _) (ints_oneCell _ _) c3.out c4.out (size_ok H1.out.2 _) ?_)
      intro v' w2 ho hg _
      have R := owns_more H1.out.1 H1.out.2 ho hg
      rw [rep_snoc] at R
      have R2 : Hid (w2.ownsRow w0.heap.size 3 1 v' (j + 1) (vals (List.replicate (j + 1) 1)) ∧ Bel w0 w2) := R
      clear ho hg H1 c3 c4 R
      go_wp2
      go_roundw
      case rel => exact ⟨j + 1, _, by omega, by go_num, rfl, R2⟩
      case measure => simp [intOf]; omega
    · obtain rfl : j = n := by omega
      have c3 : Hid (j + 1 ≤ maxLen) := (by unfold maxLen; omega : j + 1 ≤ maxLen)
      have c4 : Hid ((j + 1) * 8 ≤ 140737488355328) := (by omega : (j + 1) * 8 ≤ 140737488355328)
      go_wp2_with (at_builtin; refine wpList_append_own _ rfl (.tmp 29) (.tmp 30) 22 rfl w0.heap.size 3 i0 (.int .i64 0) 1 8 Tryd.underlying22 hi hz0 hz1 hz2 rfl (by decide) _ j _ rfl (H1.out.1.alloc _) ⟨wr.heap.size, 0, none⟩ 1 1 (vals [0]) rfl rfl (one_cell _ _) (ints_oneCell _ _) c3.out c4.out (size_ok H1.out.2 _) ?_)
      intro v' w2 ho hg _
      have R : Hid (w2.ownsRow w0.heap.size 3 1 v' (j + 1 + 0) (vals (front u j 0)) ∧ Bel w0 w2) := front_zero u j ▸ owns_more H1.out.1 H1.out.2 ho hg
      clear ho hg H1 c3 c4
      go_wp2_with fail
      go_loopw [6, 33] (fun v i wr => ∃ (t : Nat) (x : Value), t ≤ j ∧ i = .int .i64 t ∧ x = v ∧ Hid (wr.ownsRow w0.heap.size 3 1 x (j + 1 + t) (vals (front u j t)) ∧ Bel w0 wr)) (fun _ i _ => j - (intOf i).toNat)
      case atStart => exact ⟨0, _, Nat.zero_le _, rfl, rfl, R⟩
      case round =>
        obtain ⟨t, x, ht, rfl, rfl, H1⟩ := hrel
        clear R
        by_cases hlt : t < j
        · have c3 : Hid (j + 1 + t + 1 ≤ maxLen) := (by unfold maxLen; omega : j + 1 + t + 1 ≤ maxLen)
          have c4 : Hid ((j + 1 + t + 1) * 8 ≤ 140737488355328) := (by omega : (j + 1 + t + 1) * 8 ≤ 140737488355328)
          have hand := bit_is u j t
          have HF : Hid (front u j (t + 1) = front u j t ++ [bitAt u j t]) := front_succ u j t
          generalize bitAt u j t = y at *
          go_wp2_with (at_builtin; refine wpList_append_own _ rfl (.tmp 36) (.tmp 44) 22 rfl w0.heap.size 3 i0 (.int .i64 0) 1 8 Tryd.underlying22 hi hz0 hz1 hz2 rfl (by decide) _ (j + 1 + t) _ rfl (H1.out.1.alloc _) ⟨wr.heap.size, 0, none⟩ 1 1 (vals [y]) rfl rfl (one_cell _ _) (ints_oneCell _ _) c3.out c4.out (size_ok H1.out.2 _) ?_)
          intro v' w2 ho hg _
          have R := owns_more H1.out.1 H1.out.2 ho hg
          rw [← HF.out] at R
          have R2 : Hid (w2.ownsRow w0.heap.size 3 1 v' (j + 1 + (t + 1)) (vals (front u j (t + 1))) ∧ Bel w0 w2) := R
          clear ho hg H1 c3 c4 R
          go_wp2
          go_roundw
          case rel => exact ⟨t + 1, _, by omega, by go_num, rfl, R2⟩
          case measure => simp [intOf]; omega
        · obtain rfl : t = j := by omega
          have HE : Hid (w0 = w0 ∧ wr.ownsRow w0.heap.size 3 1 x (2 * t + 1) (vals (bitsOf u))) := ⟨rfl, by
            have := H1.out.1
            rw [front_all u t HN.out] at this
            have e : t + 1 + t = 2 * t + 1 := by omega
            rwa [e] at this⟩
          go_wp2
          go_ret2
          exact ⟨_, rfl, HE.out.2, H1.out.2⟩

/-- Bits of a number. -/
theorem bits_ok (u n : Nat) (hu : u ≤ 33554432) (hn : n = 2 * many u + 1) (w : World) :
    Calls Tryd.prog 19 #[.int .i64 (u : Int)] w fun e w' => ∃ g c, e = .returned (.tuple #[.slice (some ⟨g, 0, none⟩) n c, .int .i64 0]) ∧ w.heap.size ≤ g ∧ g < w'.heap.size ∧ n ≤ c ∧ c ≤ maxLen ∧ Holds w' g (bitsOf u) ∧ Bel w w' := by
  subst hn
  refine (bits_own u _ hu rfl w).mono ?_
  rintro e w1 ⟨v, rfl, ho, b⟩
  obtain ⟨g, c, rfl, q1, q2, q3, q4, _, hh⟩ := owns_shape ho (by omega)
  exact ⟨g, c, rfl, q1, q2, q3, q4, hh, b⟩

end Go.Proofs.YtocnlefpbcnlmaaDoor.Gam

namespace Go.Proofs.YtocnlefpbcnlmaaDoor.Res
open Go.RowKit Go.Sort Go.Proofs.YtocnlefpbcnlmaaDoor.Mod Go.Proofs.YtocnlefpbcnlmaaDoor.Ints
set_option linter.unusedVariables false
set_option linter.unusedSimpArgs false

/-- One number's bits are coded. -/
theorem number_coded (N Lb P : Nat) (s : Sta) (k : Nat) (hk : k ≤ 256) (ho : Ok s k) (u : Nat) (hu : u ≤ 33554432) (w : World) (hN : N = w.heap.size) (hLb : Lb < N) (hP : P < N) (hLP : Lb ≠ P) (h0 : 0 < Lb) (h1 : 0 < P) (T : Str.Tab w)
    (H : Holds w Lb (s.1 ++ [s.2.2])) (hS : PutSt N Lb P w (s.2.1, Gam.bitsOf u)) :
    Calls Tryd.prog 20 #[.pointer (some ⟨Lb, 0, none⟩), .func (.func 21) #[.pointer (some ⟨P, 0, none⟩)] #[]] w fun e w' =>
      (∃ v, e = .returned v) ∧ Holds w' Lb ((codeBits s.1 s.2.1 s.2.2 [] (Gam.bitsOf u)).1 ++ [((Gam.many u : Nat) : Int)]) ∧ PutSt N Lb P w' ((codeBits s.1 s.2.1 s.2.2 [] (Gam.bitsOf u)).2, []) ∧ Exc (fun k => k = Lb ∨ k = P) w w' := by
  have h25 := Gam.many_25 u hu
  have hl := Gam.bitsOf_length u
  have oo := ho.out
  have parts : ∀ (s1 : Cod × List Int) (bs : List Int), whole bs = false → bs ++ s1.2 = Gam.bitsOf u → ∃ x r, s1.2 = x :: r ∧ (x = 0 ∨ x = 1) ∧ bs.length < 51 := fun s1 bs hw e => by
    rw [whole_pre e] at hw
    have hne := of_decide_eq_false hw
    obtain ⟨x, r, er⟩ := List.exists_cons_of_ne_nil hne
    have le := congrArg List.length e
    rw [List.length_append, er, List.length_cons] at le
    refine ⟨x, r, er, ?_, by omega⟩
    have g := bitsOf_01 u bs.length (by omega)
    rw [← e, er, List.getD_eq_getElem?_getD, List.getElem?_append_right (Nat.le_refl _)] at g
    simpa using g
  refine (number_put N Lb P (PutSt N Lb P) (fun s1 bs => bs ++ s1.2 = Gam.bitsOf u ∧ Coder.Between s1.1.l s1.1.h ∧ s1.1.o.length ≤ 204 * k + 4 * bs.length) nxtP
    (fun w w' s1 h hB => h.keep hP (fun e => hLP e.symm) hB) ?_ ?_ s.1 ho.len ho.may s.2.2 ho.b0 ho.b1 (s.2.1, Gam.bitsOf u) ⟨rfl, ho.bet, by simpa using oo⟩ _ (run_put hu (Gam.bitsOf u) [] s.1 s.2.1 s.2.2 64 rfl (by simp)) w hN hLb hP hLP h0 h1 T H hS).mono ?_
  · rintro w1 ⟨c, rest⟩ bs p hw h63 hp ⟨e1, e2, e3⟩ hs
    obtain ⟨x, r, er, hx, hl2⟩ := parts _ bs hw e1
    simp only at er e2 e3
    subst er
    exact put_ok N Lb P c x r p e2 (by omega) hx hp w1 hs
  · rintro ⟨c, rest⟩ bs p hw h63 hp ⟨e1, e2, e3⟩
    obtain ⟨x, r, er, hx, hl2⟩ := parts _ bs hw e1
    simp only at er e1 e2 e3
    subst er
    have q := codS_ok e2 x hp
    refine ⟨⟨?_, q.1, ?_⟩, hx⟩
    · show (bs ++ [x]) ++ r = _
      rw [← e1]; simp
    · show (codS c x p).o.length ≤ _
      rw [List.length_append]
      simp only [List.length_cons, List.length_nil]
      have := q.2
      omega
  · rintro e w' ⟨⟨⟨ao, cap, re, _⟩, hh, st, _⟩, xx⟩
    rw [Gam.bitsOf_half] at hh
    exact ⟨⟨_, re⟩, hh, st, xx⟩

/-- A learner is stored; what else there was stays. -/
theorem wpl_store48x {ops : Array Oper} {rest : List Oper} {dst : Option Tmp} {a : Act} {w : World} {Q : Exit → Act → World → Prop} {ty : TypeId} {pos : String} {after : Array Edge} {x y : Operand} {B : Nat} {L M : List Int}
    (h : Holds w B L) (hL : L.length = 196) (hM : M.length = 196) (hx : a.eval x = .pointer (some ⟨B, 0, none⟩)) (hy : a.eval y = mdl M) (k : ∀ W, Holds W B M → Exc (fun k => k = B) w W → wpList Tryd.prog ops Q rest (a.put dst undef) W) :
    wpList Tryd.prog ops Q ({ dst := dst, op := .store 48 x y, type := ty, pos := pos, after := after, guard := none } :: rest) a w :=
  wpl_store48 h hL hM hx hy (k _ (holds_all h M (hL.trans hM.symm)) (Exc.setCells (S := fun k => k = B) (fun _ => rfl) _ 0 (Exc.refl _ w)))

theorem fresh4 (w : World) (o : Obj) (v0 v1 v2 v3 : Value) (ty : TypeId) : ∀ W, W = (w.alloc o).alloc (.cells #[v0, v1, v2, v3] ty) →
    (W.cell? ⟨w.heap.size + 1, 0, none⟩ = some v0 ∧ W.cell? ⟨w.heap.size + 1, 1, none⟩ = some v1 ∧ W.cell? ⟨w.heap.size + 1, 2, none⟩ = some v2 ∧ W.cell? ⟨w.heap.size + 1, 3, none⟩ = some v3) ∧
    (W.frozen? ⟨w.heap.size + 1, 0, none⟩ = false ∧ W.frozen? ⟨w.heap.size + 1, 1, none⟩ = false ∧ W.frozen? ⟨w.heap.size + 1, 2, none⟩ = false ∧ W.frozen? ⟨w.heap.size + 1, 3, none⟩ = false) := by
  rintro W rfl
  refine ⟨⟨?_, ?_, ?_, ?_⟩, ?_, ?_, ?_, ?_⟩ <;> simp

/-- Four cells are written. -/
theorem put4 {w : World} {P : Nat} {x0 x1 x2 x3 u0 u1 u2 u3 : Value} (c : (w.cell? ⟨P, 0, none⟩ = some u0 ∧ w.cell? ⟨P, 1, none⟩ = some u1 ∧ w.cell? ⟨P, 2, none⟩ = some u2 ∧ w.cell? ⟨P, 3, none⟩ = some u3) ∧ (w.frozen? ⟨P, 0, none⟩ = false ∧ w.frozen? ⟨P, 1, none⟩ = false ∧ w.frozen? ⟨P, 2, none⟩ = false ∧ w.frozen? ⟨P, 3, none⟩ = false)) :
    ∀ W, W = (((w.setCell ⟨P, 0, none⟩ x0).setCell ⟨P, 1, none⟩ x1).setCell ⟨P, 2, none⟩ x2).setCell ⟨P, 3, none⟩ x3 →
    ((W.cell? ⟨P, 0, none⟩ = some x0 ∧ W.cell? ⟨P, 1, none⟩ = some x1 ∧ W.cell? ⟨P, 2, none⟩ = some x2 ∧ W.cell? ⟨P, 3, none⟩ = some x3) ∧ (W.frozen? ⟨P, 0, none⟩ = false ∧ W.frozen? ⟨P, 1, none⟩ = false ∧ W.frozen? ⟨P, 2, none⟩ = false ∧ W.frozen? ⟨P, 3, none⟩ = false)) ∧ Exc (fun k => k = P) w W := by
  rintro W rfl
  obtain ⟨⟨c0, c1, c2, c3⟩, f0, f1, f2, f3⟩ := c
  have fz : ∀ i, w.frozen? ⟨P, i, none⟩ = false → ((((w.setCell ⟨P, 0, none⟩ x0).setCell ⟨P, 1, none⟩ x1).setCell ⟨P, 2, none⟩ x2).setCell ⟨P, 3, none⟩ x3).frozen? ⟨P, i, none⟩ = false := fun i hf => by
    rw [World.frozen?_setCell, World.frozen?_setCell, World.frozen?_setCell, World.frozen?_setCell]; exact hf
  exact ⟨⟨⟨other_cell (by decide : 3 ≠ 0) (other_cell (by decide : 2 ≠ 0) (other_cell (by decide : 1 ≠ 0) (same_cell c0))), other_cell (by decide : 3 ≠ 1) (other_cell (by decide : 2 ≠ 1) (same_cell (other_cell (by decide : 0 ≠ 1) c1))),
    other_cell (by decide : 3 ≠ 2) (same_cell (other_cell (by decide : 1 ≠ 2) (other_cell (by decide : 0 ≠ 2) c2))), same_cell (other_cell (by decide : 2 ≠ 3) (other_cell (by decide : 1 ≠ 3) (other_cell (by decide : 0 ≠ 3) c3)))⟩, fz 0 f0, fz 1 f1, fz 2 f2, fz 3 f3⟩,
    ((((Exc.refl (fun k => k = P) w).setCell (a := ⟨P, 0, none⟩) (fun _ => rfl) _).setCell (a := ⟨P, 1, none⟩) (fun _ => rfl) _).setCell (a := ⟨P, 2, none⟩) (fun _ => rfl) _).setCell (a := ⟨P, 3, none⟩) (fun _ => rfl) _⟩

theorem Exc.four {S : Nat → Prop} {w W : World} {P : Nat} {u0 u1 u2 u3 : Value} (x : Exc S w W) (hS : ¬ S P) (c : (w.cell? ⟨P, 0, none⟩ = some u0 ∧ w.cell? ⟨P, 1, none⟩ = some u1 ∧ w.cell? ⟨P, 2, none⟩ = some u2 ∧ w.cell? ⟨P, 3, none⟩ = some u3) ∧ (w.frozen? ⟨P, 0, none⟩ = false ∧ w.frozen? ⟨P, 1, none⟩ = false ∧ w.frozen? ⟨P, 2, none⟩ = false ∧ w.frozen? ⟨P, 3, none⟩ = false)) :
    (W.cell? ⟨P, 0, none⟩ = some u0 ∧ W.cell? ⟨P, 1, none⟩ = some u1 ∧ W.cell? ⟨P, 2, none⟩ = some u2 ∧ W.cell? ⟨P, 3, none⟩ = some u3) ∧ (W.frozen? ⟨P, 0, none⟩ = false ∧ W.frozen? ⟨P, 1, none⟩ = false ∧ W.frozen? ⟨P, 2, none⟩ = false ∧ W.frozen? ⟨P, 3, none⟩ = false) := by
  obtain ⟨⟨c0, c1, c2, c3⟩, f0, f1, f2, f3⟩ := c
  exact ⟨⟨x.keep c0 hS, x.keep c1 hS, x.keep c2 hS, x.keep c3 hS⟩, x.free c0 hS f0, x.free c1 hS f1, x.free c2 hS f2, x.free c3 hS f3⟩

/-- What holds in Put when k numbers are told. -/
structure PutInv (Lb P : Nat) (rs : List Int) (k : Nat) (w wr : World) : Prop where
  mem : Holds wr Lb ((puts s0 (rs.take k)).1 ++ [(puts s0 (rs.take k)).2.2])
  c0 : wr.cell? ⟨P, 0, none⟩ = some (.int .i64 (puts s0 (rs.take k)).2.1.l)
  c1 : wr.cell? ⟨P, 1, none⟩ = some (.int .i64 (puts s0 (rs.take k)).2.1.h)
  c2 : wr.cell? ⟨P, 2, none⟩ = some (.string ⟨(puts s0 (rs.take k)).2.1.o.toArray⟩)
  c3 : ∃ v, wr.cell? ⟨P, 3, none⟩ = some v
  f0 : wr.frozen? ⟨P, 0, none⟩ = false
  f1 : wr.frozen? ⟨P, 1, none⟩ = false
  f2 : wr.frozen? ⟨P, 2, none⟩ = false
  f3 : wr.frozen? ⟨P, 3, none⟩ = false
  bel : Bel w wr

theorem take_fits {rs : List Int} (h : AllFit rs) (k : Nat) : ∀ x ∈ rs.take k, Fits x := fun x hx => by
  obtain ⟨i, hi, e⟩ := List.getElem_of_mem (List.mem_of_mem_take hx)
  have := h i hi
  rwa [List.getD_eq_getElem?_getD, List.getElem?_eq_getElem hi, Option.getD_some, e] at this

theorem puts_snoc (rs : List Int) (k : Nat) (hk : k < rs.length) : puts s0 (rs.take (k + 1)) = numS (puts s0 (rs.take k)) (rs.getD k 0) := by
  rw [List.take_succ_eq_append_getElem hk]
  unfold puts
  rw [List.foldl_append, List.getD_eq_getElem?_getD, List.getElem?_eq_getElem hk]
  rfl

theorem puts_at {rs : List Int} (h : AllFit rs) (k : Nat) (hk : k ≤ rs.length) : Ok (puts s0 (rs.take k)) k := by
  have := (puts_ok (rs.take k) s0 0 s0_ok (take_fits h k)).1
  rwa [List.length_take, Nat.min_eq_left hk, Nat.zero_add] at this

/-- A number's bits are laid beside the coder. -/
theorem put_ready {Lb k u g m c : Nat} {rs : List Int} {w0 w3 w4 : World} (K : PutInv Lb (Lb + 1) rs k w0 w3) (b4 : Bel w3 w4) (h0 : 0 < w0.heap.size) (hL : w0.heap.size ≤ Lb) (T : Str.Tab w0)
    (hg1 : w3.heap.size ≤ g) (hg2 : g < w4.heap.size) (hm : m = (Gam.bitsOf u).length) (hc1 : m ≤ c) (hc2 : c ≤ maxLen) (hg3 : Holds w4 g (Gam.bitsOf u)) :
    ∀ W, W = w4.setCell ⟨Lb + 1, 3, none⟩ (.slice (some ⟨g, 0, none⟩) m c) → Str.Tab W ∧ Holds W Lb ((puts s0 (rs.take k)).1 ++ [(puts s0 (rs.take k)).2.2]) ∧ PutSt W.heap.size Lb (Lb + 1) W ((puts s0 (rs.take k)).2.1, Gam.bitsOf u) ∧ Lb + 1 < W.heap.size ∧ Bel w0 W := by
  rintro W rfl
  have x : Exc (fun i => i = Lb + 1) w4 (w4.setCell ⟨Lb + 1, 3, none⟩ (.slice (some ⟨g, 0, none⟩) m c)) := (Exc.refl (fun i => i = Lb + 1) w4).setCell (a := ⟨Lb + 1, 3, none⟩) (fun _ => rfl) _
  obtain ⟨v3, k3⟩ := K.c3
  have p3 := block_lt_of_cell K.c0
  simp only at p3
  have e0 := other_cell (i := 3) (u := .slice (some ⟨g, 0, none⟩) m c) (by decide) (b4.keep K.c0)
  have p4 := block_lt_of_cell e0
  simp only at p4
  have sz : (w4.setCell ⟨Lb + 1, 3, none⟩ (.slice (some ⟨g, 0, none⟩) m c)).heap.size = w4.heap.size := by simp [World.setCell]
  refine ⟨x.tab (tab_bel (tab_bel T K.bel) b4) (by omega), x.holds (K.mem.bel b4) (by omega), ⟨e0, other_cell (by decide) (b4.keep K.c1), other_cell (by decide) (b4.keep K.c2), by rw [World.frozen?_setCell]; exact b4.free K.c0 K.f0, by rw [World.frozen?_setCell]; exact b4.free K.c1 K.f1, by rw [World.frozen?_setCell]; exact b4.free K.c2 K.f2, by rw [World.frozen?_setCell]; exact b4.free k3 K.f3,
    some ⟨g, 0, none⟩, m, c, same_cell (b4.keep k3), hm, hc1, hc2, slc_put1 hg3.slc (fun y hy => by obtain rfl := Option.some.inj hy; show g ≠ Lb + 1; omega), fun y hy => by obtain rfl := Option.some.inj hy; rw [sz]; refine ⟨?_, ?_, hg2⟩ <;> simp only <;> omega⟩, p4, (K.bel.trans b4).setCell (by show w0.heap.size ≤ Lb + 1; omega) _⟩

set_option maxRecDepth 20000 in
set_option maxHeartbeats 4000000 in
theorem put_yes (ao : Option Addr) (rs : List Int) (n cap : Nat) (hn : n = rs.length) (h256 : n ≤ 256) (hf : AllFit rs) (w : World) (T : Str.Tab w) (hA : Slc w ao rs) :
    Calls Tryd.prog 8 #[.slice ao n cap] w fun e w' => e = .returned (.tuple #[.string (told rs), .int .i64 0]) ∧ Bel w w' := by
  have CT : Hid (∀ w', Bel w w' → Calls Tryd.prog 14 #[.slice ao n cap, .func (.func 15) #[] #[]] w' fun e w'' => e = .returned (.bool false) ∧ w'' = w') := fun w' b => contains_ok ao rs n cap hn h256 false ⟨fun h => absurd h (by decide), fun h => absurd hf h⟩ w' (hA.bel b)
  have NQ : Hid (∀ w, Calls Tryd.prog 16 #[] w fun e w' => e = .returned (mdl (newM ++ [0])) ∧ Bel w w') := newLearner_ok
  have CN : Hid (∀ w, Calls Tryd.prog 17 #[] w fun e w' => e = .returned (.agg #[.int .i64 0, .int .i64 4294967295, .string ⟨#[]⟩]) ∧ Bel w w') := fun w => (Coder.new_ok w).mono fun _ _ h => ⟨h.1, h.2⟩
  have z := zero48
  have ml : (newM ++ [0]).length = 196 := by rw [List.length_append, newM_len]; rfl
  have ML : Hid ((newM ++ [0]).length = 196) := ml
  clear ml
  have Z6 : Hid (zeros6.length = 196) := zeros6_len
  have HA : Hid (Slc w ao rs) := hA
  have HN : Hid (n = rs.length ∧ AllFit rs) := ⟨hn, hf⟩
  have TT : Hid (Str.Tab w) := T
  clear hA hn hf T
  have hd : decide ((256 : Int) < (n : Int)) = false := decide_eq_false (by omega)
  go_enter Tryd.func8, Tryd.ntmps8
  go_wp2_with (first | (go_at_call 14; (with_reducible refine (CT.out _ (Bel.refl _)).mono ?_); rintro e w0 ⟨rfl, rfl⟩))
  refine (NQ.out _).mono ?_
  rintro e w1 ⟨rfl, b1⟩
  go_wp2_with fail
  refine (CN.out _).mono ?_
  rintro e w2 ⟨rfl, b2⟩
  have B2 : Hid (Bel w0 w2) := b1.trans b2
  clear b1 b2 NQ CN CT
  obtain ⟨M0, hM0⟩ : ∃ M0, newM ++ [0] = M0 := ⟨_, rfl⟩
  rw [hM0] at ML
  simp only [hM0]
  have M1 : Hid (newM ++ [0] = M0) := hM0
  clear hM0
  generalize zeros6 = Z at *
  have H0 : Hid (Holds ((w2.alloc (.cells (vals Z).toArray 48)).alloc (.cells #[.int .i64 0, .int .i64 0, .string ⟨#[]⟩, .slice none 0 0] 51)) w2.heap.size Z) := (holds_new w2 Z 48).bel ((Bel.refl _).alloc _)
  have P0 := fresh4 w2 (.cells (vals Z).toArray 48) (.int .i64 0) (.int .i64 0) (.string ⟨#[]⟩) (.slice none 0 0) 51 _ rfl
  have P1 : Hid _ := P0
  have B3 : Hid (Bel w0 ((w2.alloc (.cells (vals Z).toArray 48)).alloc (.cells #[.int .i64 0, .int .i64 0, .string ⟨#[]⟩, .slice none 0 0] 51))) := (B2.out.alloc _).alloc _
  have S2 : Hid (w0.heap.size ≤ w2.heap.size) := B2.out.size
  clear P0
  go_wp2_with (first | ((with_reducible refine wpl_store48x (B := w2.heap.size) (L := Z) H0.out Z6.out ML.out rfl rfl ?_); intro W hW hX; have Q4 : Hid _ := Exc.four hX (by omega) P1.out; obtain ⟨⟨q0, q1, q2, q3⟩, g0, g1, g2, g3⟩ := Q4.out; have HW : Hid (Holds W w2.heap.size M0) := hW; have BX : Hid (Bel w0 W) := Exc.from hX B3.out (fun i hi => by have := S2.out; omega); clear hX hW H0 P1 B3))
  have F4 := put4 (x0 := .int .i64 0) (x1 := .int .i64 4294967295) (x2 := .string ⟨#[]⟩) (x3 := .slice none 0 0) Q4.out _ rfl
  have F5 : Hid _ := F4
  clear F4 Q4 q0 q1 q2 q3 g0 g1 g2 g3
  have PI : Hid (PutInv w2.heap.size (w2.heap.size + 1) rs 0 w0 ((((W.setCell ⟨w2.heap.size + 1, 0, none⟩ (.int .i64 0)).setCell ⟨w2.heap.size + 1, 1, none⟩ (.int .i64 4294967295)).setCell ⟨w2.heap.size + 1, 2, none⟩ (.string ⟨#[]⟩)).setCell ⟨w2.heap.size + 1, 3, none⟩ (.slice none 0 0))) :=
    ⟨F5.out.2.holds (M1.out ▸ HW.out) (by omega), F5.out.1.1.1, F5.out.1.1.2.1, F5.out.1.1.2.2.1, ⟨_, F5.out.1.1.2.2.2⟩, F5.out.1.2.1, F5.out.1.2.2.1, F5.out.1.2.2.2.1, F5.out.1.2.2.2.2, Exc.from F5.out.2 BX.out (fun i hi => by have := S2.out; omega)⟩
  have PS : Hid (0 < w0.heap.size ∧ w0.heap.size ≤ w2.heap.size) := ⟨tab_pos TT.out, S2.out⟩
  clear F5 HW BX S2 B2 M1 ML Z6
  generalize w2.heap.size = Lb at *
  go_loopw [22] (fun i wr => ∃ k : Nat, k ≤ n ∧ i = .int .i64 (k : Int) ∧ Hid (PutInv Lb (Lb + 1) rs k w0 wr)) (fun i _ => n - (intOf i).toNat)
  case atStart => exact ⟨0, by omega, rfl, PI⟩
  case round =>
    obtain ⟨k, hk, rfl, K⟩ := hrel
    clear PI
    by_cases hlt : k < n
    · have hd2 : decide ((k : Int) < (n : Int)) = true := decide_eq_true (by omega)
      obtain ⟨a, rfl, hc⟩ := HA.out k (HN.out.1 ▸ hlt)
      have hc := K.out.bel.keep hc
      have fx := HN.out.2 k (HN.out.1 ▸ hlt)
      have hu := folded_le fx
      have PQ : Hid (∀ w, Calls Tryd.prog 18 #[.int .i64 (rs.getD k 0)] w fun e w' => e = .returned (.tuple #[.int .i64 ((folded (rs.getD k 0) : Nat) : Int), .int .i64 0]) ∧ w' = w) := put_fits _ fx
      have KS : Hid (puts s0 (rs.take (k + 1)) = numS (puts s0 (rs.take k)) (rs.getD k 0)) := puts_snoc rs k (HN.out.1 ▸ hlt)
      have OK : Hid (Ok (puts s0 (rs.take k)) k) := puts_at HN.out.2 k (by have := HN.out.1; omega)
      obtain ⟨u, eu⟩ : ∃ u, folded (rs.getD k 0) = u := ⟨_, rfl⟩
      unfold numS at KS
      rw [eu] at KS PQ hu
      have BQ : Hid (∀ w, Calls Tryd.prog 19 #[.int .i64 (u : Int)] w fun e w' => ∃ g c, e = .returned (.tuple #[.slice (some ⟨g, 0, none⟩) (2 * Gam.many u + 1) c, .int .i64 0]) ∧ w.heap.size ≤ g ∧ g < w'.heap.size ∧ 2 * Gam.many u + 1 ≤ c ∧ c ≤ maxLen ∧ Holds w' g (Gam.bitsOf u) ∧ Bel w w') := fun w => Gam.bits_ok u _ hu rfl w
      have HU : Hid (u ≤ 33554432) := hu
      obtain ⟨v3, k3⟩ := K.out.c3
      have g3 := K.out.f3
      clear eu hu fx
      generalize rs.getD k 0 = x at *
      go_wp2_with fail
      refine (PQ.out _).mono ?_
      rintro e w3 ⟨rfl, rfl⟩
      clear PQ
      go_wp2_with fail
      refine (BQ.out _).mono ?_
      rintro e w4 ⟨g, c, rfl, hg1, hg2, hc1, hc2, hg3, b4⟩
      clear BQ hc
      have k3 := b4.keep k3
      have f3 := b4.free (by assumption) g3
      have F : Hid (∀ W, W = w4.setCell ⟨Lb + 1, 3, none⟩ (.slice (some ⟨g, 0, none⟩) (2 * Gam.many u + 1) c) → Str.Tab W ∧ Holds W Lb ((puts s0 (rs.take k)).1 ++ [(puts s0 (rs.take k)).2.2]) ∧ PutSt W.heap.size Lb (Lb + 1) W ((puts s0 (rs.take k)).2.1, Gam.bitsOf u) ∧ Lb + 1 < W.heap.size ∧ Bel w0 W) :=
        put_ready K.out b4 PS.out.1 PS.out.2 TT.out hg1 hg2 (Gam.bitsOf_length u).symm hc1 hc2 hg3
      clear K b4 hg1 hg2 hc1 hc2 hg3
      go_wp2_with fail
      obtain ⟨W, hW⟩ : ∃ W, W = w4.setCell ⟨Lb + 1, 3, none⟩ (.slice (some ⟨g, 0, none⟩) (2 * Gam.many u + 1) c) := ⟨_, rfl⟩
      have G : Hid _ := F.out W hW
      rw [← hW]
      clear hW F k3 f3
      refine (number_coded W.heap.size Lb (Lb + 1) (puts s0 (rs.take k)) k (by omega) OK.out u HU.out W rfl (by have := G.out.2.2.2.1; omega) G.out.2.2.2.1 (by omega) (by have := PS.out; omega) (by omega) G.out.1 G.out.2.1 G.out.2.2.1).mono ?_
      rintro e w6 ⟨⟨v, rfl⟩, hh, st, xx⟩
      have K2 : Hid (PutInv Lb (Lb + 1) rs (k + 1) w0 w6) := by
        obtain ⟨ao, n1, cap1, s3, _⟩ := st.bits
        refine ⟨by rw [KS.out]; exact hh, by rw [KS.out]; exact st.c0, by rw [KS.out]; exact st.c1, by rw [KS.out]; exact st.c2, ⟨_, s3⟩, st.f0, st.f1, st.f2, st.f3, Exc.from xx G.out.2.2.2.2 (fun i hi => by have := PS.out; omega)⟩
      clear hh st xx G KS OK HU
      go_wp2
      go_roundw
      case rel => exact ⟨k + 1, by omega, by go_num, K2⟩
      case measure => simp [intOf]; omega
    · obtain rfl : k = n := by omega
      have hd2 : decide ((k : Int) < (k : Int)) = false := decide_eq_false (by omega)
      have OK := puts_at HN.out.2 k (by have := HN.out.1; omega)
      have tk : rs.take k = rs := List.take_of_length_le (by have := HN.out.1; omega)
      obtain ⟨k0, k1, k2⟩ : _ ∧ _ ∧ _ := ⟨K.out.c0, K.out.c1, K.out.c2⟩
      have BW : Hid (Bel w0 wr) := K.out.bel
      rw [tk] at k0 k1 k2 OK
      have TD : Hid (told rs = ⟨(puts s0 rs).2.1.o.toArray⟩ ++ Coder.four (puts s0 rs).2.1.l) := rfl
      have EQ : Hid (∀ w, Calls Tryd.prog 22 #[.agg #[.int .i64 (puts s0 rs).2.1.l, .int .i64 (puts s0 rs).2.1.h, .string ⟨(puts s0 rs).2.1.o.toArray⟩]] w fun e w' => e = .returned (.tuple #[.string (⟨(puts s0 rs).2.1.o.toArray⟩ ++ Coder.four (puts s0 rs).2.1.l), .int .i64 0]) ∧ Bel w w') := fun w => Coder.end_may _ _ _ OK.bet (by rw [Deco.mk_size]; have := OK.out; omega) w
      rw [← TD.out] at EQ
      obtain ⟨s, hs⟩ : ∃ s, told rs = s := ⟨_, rfl⟩
      rw [hs] at EQ
      have SS : Hid (told rs = s) := hs
      clear hs
      generalize (puts s0 rs).2.1.l = l at *
      generalize (puts s0 rs).2.1.h = h at *
      generalize (puts s0 rs).2.1.o = o at *
      clear K TD OK tk
      go_wp2_with fail
      refine (EQ.out _).mono ?_
      rintro e w5 ⟨rfl, b5⟩
      clear EQ k0 k1 k2
      go_wp2
      go_ret2
      refine ⟨?_, BW.out.trans b5⟩
      rw [SS.out]
      rfl

set_option maxHeartbeats 1000000 in
theorem put_no (ao : Option Addr) (rs : List Int) (n cap : Nat) (hn : n = rs.length) (hx : n ≤ maxLen) (hno : ¬ (n ≤ 256 ∧ AllFit rs)) (w : World) (hA : Slc w ao rs) :
    Calls Tryd.prog 8 #[.slice ao n cap] w fun e w' => e = .returned (.tuple #[.string ⟨#[]⟩, .int .i64 1300]) ∧ w' = w := by
  unfold maxLen at hx
  by_cases h256 : n ≤ 256
  · have CT : Hid (Calls Tryd.prog 14 #[.slice ao n cap, .func (.func 15) #[] #[]] w fun e w'' => e = .returned (.bool true) ∧ w'' = w) := contains_ok ao rs n cap hn h256 true ⟨fun _ h => hno ⟨h256, h⟩, fun _ => rfl⟩ w hA
    have hd : decide ((256 : Int) < (n : Int)) = false := decide_eq_false (by omega)
    clear hA hn hno
    go_enter Tryd.func8, Tryd.ntmps8
    go_wp2_with (first | (go_at_call 14; (with_reducible refine CT.out.mono ?_); rintro e w0 ⟨rfl, rfl⟩))
    go_ret2
    exact ⟨rfl, rfl⟩
  · have hd : decide ((256 : Int) < (n : Int)) = true := decide_eq_true (by omega)
    clear hA hn hno
    go_enter Tryd.func8, Tryd.ntmps8
    go_wp2
    go_ret2
    exact ⟨rfl, rfl⟩

end Go.Proofs.YtocnlefpbcnlmaaDoor.Res

namespace Go.Proofs.YtocnlefpbcnlmaaDoor.Gam
open Go.RowKit Go.Proofs.YtocnlefpbcnlmaaDoor.Mod Go.Proofs.YtocnlefpbcnlmaaDoor.Ints Go.Proofs.YtocnlefpbcnlmaaDoor.Num
set_option linter.unusedVariables false

theorem head_of (L : List Int) (k : Nat) (hl : L.length = k + 1) : (L = List.replicate k 1 ++ [0]) ↔ ((∀ i, i < k → L.getD i 0 = 1) ∧ L.getD k 0 = 0) := by
  constructor
  · rintro rfl
    refine ⟨fun i hi => ?_, ?_⟩
    · rw [List.getD_eq_getElem?_getD, List.getElem?_append_left (by simpa using hi)]
      simp [hi]
    · rw [List.getD_eq_getElem?_getD, List.getElem?_append_right (by simp)]
      simp
  · rintro ⟨h1, h2⟩
    refine eq_of_getD (by simp [hl]) fun i hi => ?_
    by_cases q : i < k
    · rw [h1 i q, List.getD_eq_getElem?_getD, List.getElem?_append_left (by simpa using q)]
      simp [q]
    · obtain rfl : i = k := by omega
      rw [h2, List.getD_eq_getElem?_getD, List.getElem?_append_right (by simp)]
      simp

set_option maxHeartbeats 1000000 in
theorem isHead_ok (x : Addr) (L : List Int) (k cap : Nat) (hl : L.length = k + 1) (hk : k ≤ 1000) (hc : k + 1 ≤ cap) (w : World) (hA : Slc w (some x) L) :
    Calls Tryd.prog 65 #[.slice (some x) (k + 1) cap] w fun e w' => e = .returned (.bool (decide (L = List.replicate k 1 ++ [0]))) ∧ w' = w := by
  obtain ⟨r, hr⟩ : ∃ r, decide (L = List.replicate k 1 ++ [0]) = r := ⟨_, rfl⟩
  rw [hr]
  have HR : Hid (decide (L = List.replicate k 1 ++ [0]) = r) := hr
  have HL : Hid (L.length = k + 1) := hl
  have HA : Hid (∀ j, j < k + 1 → w.cell? (x.add j) = some (.int .i64 (L.getD j 0))) := fun j hj => by
    obtain ⟨y, hy, h⟩ := hA j (by omega)
    cases hy
    exact h
  clear hA hl hr
  go_enter Tryd.func65, Tryd.ntmps65
  go_wp2
  go_loopw [13] (fun i wr => ∃ j : Nat, j ≤ k ∧ i = .int .i64 j ∧ wr = w ∧ Hid (∀ t, t < j → L.getD t 0 = 1)) (fun i _ => k - (intOf i).toNat)
  case atStart => exact ⟨0, Nat.zero_le _, rfl, rfl, fun t ht => by omega⟩
  case round =>
    obtain ⟨j, hj, rfl, rfl, hh⟩ := hrel
    have hc1 := HA.out j (by omega)
    by_cases hlt : j < k
    · by_cases he : L.getD j 0 = 1
      · have h2 : Hid (∀ t, t < j + 1 → L.getD t 0 = 1) := fun t ht => by
          rcases Nat.lt_or_ge t j with h | h
          · exact hh.out t h
          · obtain rfl : t = j := by omega
            exact he
        rw [he] at hc1
        clear he hh
        go_wp2
        go_roundw
        case rel => exact ⟨j + 1, by omega, by go_num, by trivial, h2⟩
        case measure => simp [intOf]; omega
      · obtain rfl : r = false := HR.out.symm.trans (decide_eq_false fun e => he (((head_of L k HL.out).1 e).1 j hlt))
        generalize L.getD j 0 = p at *
        have hb : (p != 1) = true := by simpa using he
        go_wp2
        go_ret
        exact ⟨rfl, rfl⟩
    · obtain rfl : j = k := by omega
      by_cases he : L.getD j 0 = 0
      · obtain rfl : r = true := HR.out.symm.trans (decide_eq_true ((head_of L j HL.out).2 ⟨hh.out, he⟩))
        rw [he] at hc1
        clear he
        go_wp2
        go_ret
        exact ⟨rfl, rfl⟩
      · obtain rfl : r = false := HR.out.symm.trans (decide_eq_false fun e => he ((head_of L j HL.out).1 e).2)
        generalize L.getD j 0 = p at *
        have hb : (p == 0) = false := by simpa using he
        go_wp2
        go_ret
        exact ⟨rfl, rfl⟩

abbrev numV (L : List Int) : Value := .tuple #[.int .i64 (numP L).1, .int .i64 (numP L).2]

set_option maxHeartbeats 1000000 in
/-- Number of a row of a wrong length. -/
theorem number_len (ao : Option Addr) (L : List Int) (n cap : Nat) (hn : n = L.length) (hx : n ≤ maxLen) (h : ¬(n = 2 * (n / 2) + 1 ∧ n / 2 ≤ 25)) (w : World) :
    Calls Tryd.prog 38 #[.slice ao n cap] w fun e w' => e = .returned (numV L) ∧ w' = w := by
  have e : numP L = (0, 1100) := numP_no (by rw [← hn]; intro q; exact h ⟨q.1, q.2.1⟩)
  unfold numV
  rw [e]
  unfold maxLen at hx
  clear e hn
  have d : ((n : Int)).tdiv 2 = ((n / 2 : Nat) : Int) := by rw [Int.tdiv_eq_ediv_of_nonneg (by omega)]; omega
  have HD : Hid (n / 2 * 2 ≤ n ∧ n < n / 2 * 2 + 2) := (by omega : n / 2 * 2 ≤ n ∧ n < n / 2 * 2 + 2)
  generalize n / 2 = k at *
  have C := behind_ok 33554433 25 (by decide) (by decide) (by decide) w
  by_cases q : n = 2 * k + 1
  · have k25 : 25 < k := by omega
    have hb : ((n : Int) != 2 * (k : Int) + 1) = false := by simp; omega
    have k2 := HD.out
    clear q h
    go_enter Tryd.func38, Tryd.ntmps38
    go_wp2_with (go_at_call 29; refine C.mono ?_; rintro e w1 ⟨rfl, rfl⟩)
    go_ret2
    exact ⟨rfl, rfl⟩
  · have hb : ((n : Int) != 2 * (k : Int) + 1) = true := by simp; omega
    have k2 := HD.out
    clear q h
    go_enter Tryd.func38, Tryd.ntmps38
    go_wp2
    go_ret2
    exact ⟨rfl, rfl⟩

end Go.Proofs.YtocnlefpbcnlmaaDoor.Gam

namespace Go.Proofs.YtocnlefpbcnlmaaDoor.Gam
open Go.RowKit Go.Proofs.YtocnlefpbcnlmaaDoor.Mod Go.Proofs.YtocnlefpbcnlmaaDoor.Ints Go.Proofs.YtocnlefpbcnlmaaDoor.Num
set_option linter.unusedVariables false

theorem rest_snoc (L : List Int) (k j : Nat) (h : k + 1 + j < L.length) : (L.drop (k + 1)).take (j + 1) = (L.drop (k + 1)).take j ++ [L.getD (k + 1 + j) 0] := by
  have hj : j < (L.drop (k + 1)).length := by simp; omega
  rw [List.take_succ_eq_append_getElem hj]
  simp [List.getD_eq_getElem?_getD, h]
theorem rest_split (L : List Int) (k j : Nat) (h : k + 1 + j < L.length) : L.drop (k + 1) = (L.drop (k + 1)).take j ++ L.getD (k + 1 + j) 0 :: (L.drop (k + 1)).drop (j + 1) := by
  have e := rest_snoc L k j h
  have := List.take_append_drop (j + 1) (L.drop (k + 1))
  rw [e] at this
  simpa using this.symm

/-- An address behind another one's. -/
theorem add_past (x : Addr) (a j : Nat) (h : 0 < a) : x.add (a + j) = ⟨x.block, x.off + a + j, none⟩ := by
  unfold Addr.add
  rw [if_neg (by omega), Nat.add_assoc]

theorem half (k : Nat) : (2 * k + 1) / 2 = k := by omega

set_option maxRecDepth 20000 in
set_option maxHeartbeats 2000000 in
theorem number_some (x : Addr) (L : List Int) (k cap : Nat) (hl : L.length = 2 * k + 1) (hk : k ≤ 25) (hc : 2 * k + 1 ≤ cap) (hm : cap ≤ maxLen) (w : World) (hA : Slc w (some x) L) :
    Calls Tryd.prog 38 #[.slice (some x) (2 * k + 1) cap] w fun e w' => e = .returned (numV L) ∧ w' = w := by
  have hh : L.length / 2 = k := by omega
  unfold maxLen at hm
  obtain ⟨p, hp⟩ : ∃ p, numP L = p := ⟨_, rfl⟩
  unfold numV
  rw [hp]
  obtain ⟨p1, p2⟩ := p
  have HP : Hid (numP L = (p1, p2)) := hp
  have HL : Hid (L.length = 2 * k + 1) := hl
  have HA : Hid (∀ j, j < 2 * k + 1 → w.cell? (x.add j) = some (.int .i64 (L.getD j 0))) := fun j hj => by
    obtain ⟨y, hy, h⟩ := hA j (by omega)
    cases hy
    exact h
  have D := isHead_ok x (L.take (k + 1)) k cap (by simp; omega) (by omega) (by omega) w (hA.take _)
  have C := behind_ok 33554433 25 (by decide) (by decide) (by decide) w
  have HH : Hid (headOk L ↔ L.take (k + 1) = List.replicate k 1 ++ [0]) := (by unfold headOk; rw [hh] : headOk L ↔ L.take (k + 1) = List.replicate k 1 ++ [0])
  have d : (2 * (k : Int) + 1).tdiv 2 = (k : Int) := by rw [Int.tdiv_eq_ediv_of_nonneg (by omega)]; omega
  clear hA hl hh hp
  by_cases hhd : L.take (k + 1) = List.replicate k 1 ++ [0]
  · rw [decide_eq_true hhd] at D
    have HD : Hid (headOk L) := HH.out.2 hhd
    clear hhd HH
    by_cases hcap : cap = k + 1
    · obtain rfl : k = 0 := by omega
      subst hcap
      obtain ⟨rfl, rfl⟩ : p1 = 0 ∧ p2 = 0 := by
        have e : L.drop (L.length / 2 + 1) = [] := List.drop_of_length_le (by have := HL.out; omega)
        have := numP_some (L := L) (v := 1) (by have := HL.out; omega) (by have := HL.out; omega) HD.out (by rw [e]; rfl) (by decide)
        rw [HP.out] at this
        simpa using this
      go_enter Tryd.func38, Tryd.ntmps38
      go_wp2_with (first | (go_at_call 29; refine C.mono ?_; rintro e w1 ⟨rfl, h2⟩; replace h2 := h2.symm; subst h2) | (go_at_call 65; refine D.mono ?_; rintro e w1 ⟨rfl, h2⟩; replace h2 := h2.symm; subst h2))
      refine wp_loop_rounds 1 ?_
      rw [rounds_succ]
      go_wp2
      go_ret2
      exact ⟨rfl, rfl⟩
    · go_enter Tryd.func38, Tryd.ntmps38
      go_wp2_with (first | (go_at_call 29; refine C.mono ?_; rintro e w1 ⟨rfl, h2⟩; replace h2 := h2.symm; subst h2) | (go_at_call 65; refine D.mono ?_; rintro e w1 ⟨rfl, h2⟩; replace h2 := h2.symm; subst h2))
      go_loopw [5, 35] (fun v i wr => ∃ (j : Nat) (y : Int), j ≤ k ∧ i = .int .i64 j ∧ v = .int .i64 y ∧ wr = w ∧ Hid (take01 1 ((L.drop (k + 1)).take j) = some y)) (fun _ i _ => k - (intOf i).toNat)
      case atStart => exact ⟨0, 1, Nat.zero_le _, rfl, rfl, rfl, rfl⟩
      case round =>
        obtain ⟨j, y, hj, rfl, rfl, hw, HT⟩ := hrel
        replace hw := hw.symm
        subst hw
        have hy := take01_small HT.out (by simp; omega)
        by_cases hlt : j < k
        · have hc1 := HA.out (k + 1 + j) (by omega)
          rw [add_past x (k + 1) j (by omega)] at hc1
          have HS : Hid ((L.drop (k + 1)).take (j + 1) = (L.drop (k + 1)).take j ++ [L.getD (k + 1 + j) 0]) := rest_snoc L k j (by have := HL.out; omega)
          have HR : Hid (L.drop (k + 1) = (L.drop (k + 1)).take j ++ L.getD (k + 1 + j) 0 :: (L.drop (k + 1)).drop (j + 1)) := rest_split L k j (by have := HL.out; omega)
          generalize L.getD (k + 1 + j) 0 = b at *
          by_cases hb : b = 0 ∨ b = 1
          · have HN : Hid (take01 1 ((L.drop (k + 1)).take (j + 1)) = some (2 * y + b)) := (by rw [HS.out]; exact take01_snoc HT.out hb : take01 1 ((L.drop (k + 1)).take (j + 1)) = some (2 * y + b))
            clear HS HR HT
            rcases hb with rfl | rfl
            · go_wp2
              go_roundw
              case rel => exact ⟨j + 1, _, by omega, by go_num, rfl, by first | rfl | trivial, by simpa using HN⟩
              case measure => simp [intOf]; omega
            · go_wp2
              go_roundw
              case rel => exact ⟨j + 1, _, by omega, by go_num, rfl, by first | rfl | trivial, HN⟩
              case measure => simp [intOf]; omega
          · obtain ⟨rfl, rfl⟩ : p1 = 0 ∧ p2 = 1100 := by
              have hh : L.length / 2 = k := by have := HL.out; omega
              have := numP_none (L := L) (by rw [hh, HR.out]; exact take01_bad HT.out hb)
              rw [HP.out] at this
              simpa using this
            have b0 : (b != 0) = true := by simp; omega
            have b1 : (b != 1) = true := by simp; omega
            clear HS HR HT hb
            go_wp2
            go_ret2
            exact ⟨rfl, rfl⟩
        · obtain rfl : j = k := by omega
          have hh : L.length / 2 = j := by have := HL.out; omega
          have e : (L.drop (j + 1)).take j = L.drop (L.length / 2 + 1) := by rw [hh]; exact List.take_of_length_le (by simp; have := HL.out; omega)
          have HT2 : Hid (take01 1 (L.drop (L.length / 2 + 1)) = some y) := e ▸ HT.out
          clear e hh HT
          by_cases hg : y ≤ 33554433
          · obtain ⟨rfl, rfl⟩ : p1 = y - 1 ∧ p2 = 0 := by
              have := numP_some (L := L) (by have := HL.out; omega) (by have := HL.out; omega) HD.out HT2.out hg
              rw [HP.out] at this
              simpa using this
            go_wp2
            go_ret2
            exact ⟨rfl, rfl⟩
          · obtain ⟨rfl, rfl⟩ : p1 = 0 ∧ p2 = 1100 := by
              have := numP_great (L := L) HT2.out (by omega)
              rw [HP.out] at this
              simpa using this
            go_wp2
            go_ret2
            exact ⟨rfl, rfl⟩
  · rw [decide_eq_false hhd] at D
    obtain ⟨rfl, rfl⟩ : p1 = 0 ∧ p2 = 1100 := by
      have := numP_no (L := L) (fun q => hhd (HH.out.1 q.2.2))
      rw [HP.out] at this
      simpa using this
    clear hhd HH
    go_enter Tryd.func38, Tryd.ntmps38
    go_wp2_with (first | (go_at_call 29; refine C.mono ?_; rintro e w1 ⟨rfl, h2⟩; replace h2 := h2.symm; subst h2) | (go_at_call 65; refine D.mono ?_; rintro e w1 ⟨rfl, h2⟩; replace h2 := h2.symm; subst h2))
    go_ret2
    exact ⟨rfl, rfl⟩

/-- Number of any row. -/
theorem number_ok (ao : Option Addr) (L : List Int) (n cap : Nat) (hn : n = L.length) (hc : n ≤ cap) (hm : cap ≤ maxLen) (w : World) (hA : Slc w ao L) :
    Calls Tryd.prog 38 #[.slice ao n cap] w fun e w' => e = .returned (numV L) ∧ w' = w := by
  by_cases h : n = 2 * (n / 2) + 1 ∧ n / 2 ≤ 25
  · obtain ⟨x, rfl, _⟩ := hA 0 (by omega)
    have := number_some x L (n / 2) cap (by omega) h.2 (by omega) hm w hA
    rwa [← h.1] at this
  · exact number_len ao L n cap hn (by omega) h w

end Go.Proofs.YtocnlefpbcnlmaaDoor.Gam
