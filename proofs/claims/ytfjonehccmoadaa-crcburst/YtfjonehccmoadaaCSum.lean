/-
  The contracts of crc's takeByte, of its Sum and of the reference's Crc: one byte's step; the sum of all bytes. Conditions: the number is one of 32 bits, the byte one of 8, the text no longer than an int can tell.
-/
import Derived.Test.YtfjonehccmoadaaCNum
import Derived.Test.YtfjonehccmoadaaOnto
import Derived.Test.YtfjonehccmoadaaRows
namespace Go.Proofs.Ytfjonehccmoadaa.Crc
open Go.RowKit
set_option linter.unusedVariables false

theorem and_one (z : Nat) (hz : z < 4294967296) : bits .and .u32 (z : Int) 1 = ((z % 2 : Nat) : Int) := by
  have h := u32_and_nat z 1 hz (by decide)
  rw [Nat.and_one_is_mod] at h
  exact h

theorem xor32 (a b : Nat) (ha : a < 4294967296) (hb : b < 4294967296) : bits .xor .u32 (a : Int) (b : Int) = ((a ^^^ b : Nat) : Int) := u32_xor_nat a b ha hb

set_option maxHeartbeats 400000 in
theorem take_byte (x b : Nat) (hx : x < 4294967296) (hb : b < 256) (w : World) :
    Calls Try.prog 12 #[.int .u32 (x : Int), .int .u8 (b : Int)] w fun e w' => e = .returned (.int .u32 ((byte x b : Nat) : Int)) ∧ w' = w := by
  have h0 := xor32 x b hx (by omega)
  have hl0 := xor_lt x b hx (by omega)
  go_enter Try.func12, Try.ntmps12
  go_wp2
  go_loop [0, 10] (fun r i => ∃ k : Nat, k ≤ 8 ∧ i = .int .i64 k ∧ r = .int .u32 ((steps k (x ^^^ b) : Nat) : Int)) (fun _ i => 8 - (intOf i).toNat)
  case atStart => exact ⟨0, Nat.zero_le _, rfl, rfl⟩
  case round =>
    obtain ⟨k, hk, rfl, rfl⟩ := hrel
    have hz := steps_lt k (x ^^^ b) hl0
    have HS : Hid (steps (k + 1) (x ^^^ b) = step (steps k (x ^^^ b))) := rfl
    by_cases hlt : k < 8
    · generalize hg : steps k (x ^^^ b) = z at *
      have ha := and_one z hz
      rcases Nat.mod_two_eq_zero_or_one z with e | e
      · have HE : Hid (step z = z / 2) := step_even z e
        rw [e] at ha
        clear hg
        go_wp2
        go_round
        case rel => exact ⟨k + 1, by omega, by go_num, by rw [HS.out, HE.out]; go_num⟩
        case measure => simp [intOf]; omega
      · have HE : Hid (step z = z / 2 ^^^ 3988292384) := step_odd z e
        have hxx : bits .xor .u32 ((z : Int) / 2) 3988292384 = ((z / 2 ^^^ 3988292384 : Nat) : Int) := xor32 (z / 2) 3988292384 (by omega) (by decide)
        rw [e] at ha
        clear hg
        go_wp2
        go_round
        case rel => exact ⟨k + 1, by omega, by go_num, by rw [HS.out, HE.out]⟩
        case measure => simp [intOf]; omega
    · obtain rfl : k = 8 := by omega
      go_wp2
      go_ret
      exact ⟨rfl, rfl⟩

theorem run_take (l : List UInt8) (x k : Nat) (h : k < l.length) : run x (l.take (k + 1)) = byte (run x (l.take k)) l[k].toNat := by
  rw [List.take_succ_eq_append_getElem h, run_append]; rfl

theorem idx (s : ByteArray) (k : Nat) (h : k < s.data.toList.length) (w : World) :
    (Instr.index 9 (.string s) (.int .i64 (k : Int))).run Try.prog w = .ok (.int .u8 ((s.data.toList[k].toNat : Nat) : Int)) w := by
  have hz : s.data.toList.length = s.size := rfl
  rw [run_index_string (P := Try.prog) w 9 s .i64 (k : Int) Try.underlying9]
  have hb : 0 ≤ (k : Int) ∧ (k : Int) < s.size := by omega
  rw [dif_pos hb]
  rfl

theorem flip32 (x : Nat) (hx : x < 4294967296) : bits .xor .u32 (x : Int) 4294967295 = ((x ^^^ 4294967295 : Nat) : Int) := xor32 x 4294967295 hx (by decide)

set_option maxHeartbeats 400000 in
theorem sum_ok (s : ByteArray) (hs : s.size ≤ maxLen) (w : World) :
    Calls Try.prog 9 #[.string s] w fun e w' => e = .returned (.int .i64 ((crc s.data.toList : Nat) : Int)) ∧ w' = w := by
  unfold maxLen at hs
  have hzz : s.data.toList.length = s.size := rfl
  go_enter Try.func9, Try.ntmps9
  go_wp2
  go_loop [3, 7] (fun r i => ∃ k : Nat, k ≤ s.size ∧ i = .int .i64 k ∧ r = .int .u32 ((run 4294967295 (s.data.toList.take k) : Nat) : Int)) (fun _ i => s.size - (intOf i).toNat)
  case atStart => exact ⟨0, Nat.zero_le _, rfl, rfl⟩
  case round =>
    obtain ⟨k, hk, rfl, rfl⟩ := hrel
    have hz := run_lt (s.data.toList.take k) 4294967295 (by decide)
    by_cases hlt : k < s.size
    · have HS : Hid (run 4294967295 (s.data.toList.take (k + 1)) = byte (run 4294967295 (s.data.toList.take k)) (s.data.toList[k]'hlt).toNat) := run_take _ _ k hlt
      have hi := idx s k hlt
      have hb := (s.data.toList[k]'hlt).toNat_lt
      generalize run 4294967295 (s.data.toList.take k) = z at *
      generalize (s.data.toList[k]'hlt).toNat = b at *
      go_wp2_with fail
      refine (take_byte z b hz hb _).mono ?_
      rintro e w1 ⟨rfl, rfl⟩
      go_wp2
      go_round
      case rel => exact ⟨k + 1, by omega, by go_num, by rw [HS.out]⟩
      case measure => simp [intOf]; omega
    · obtain rfl : k = s.size := by omega
      have HC : Hid (crc s.data.toList = run 4294967295 (s.data.toList.take s.size) ^^^ 4294967295) := by
        show crc s.data.toList = _
        rw [crc, ← hzz, List.take_length]
      have hx := flip32 _ hz
      have hl := xor_lt _ 4294967295 hz (by decide)
      generalize run 4294967295 (s.data.toList.take s.size) = z at *
      go_wp2
      go_ret
      exact ⟨by rw [HC.out]; rfl, rfl⟩

theorem flipMax (x : Nat) (hx : x < 4294967296) : bits .xor .u32 IntKind.u32.max (x : Int) = ((x ^^^ 4294967295 : Nat) : Int) := by
  rw [Nat.xor_comm]
  exact xor32 4294967295 x (by decide) hx

set_option maxHeartbeats 1000000 in
theorem ref_sum (s : ByteArray) (hs : s.size ≤ maxLen) (w : World) :
    Calls Try.prog 10 #[.string s] w fun e w' => e = .returned (.int .i64 ((crc s.data.toList : Nat) : Int)) ∧ w' = w := by
  unfold maxLen at hs
  have hzz : s.data.toList.length = s.size := rfl
  go_enter Try.func10, Try.ntmps10
  go_wp2
  go_loop [3, 4] (fun r i => ∃ k : Nat, k ≤ s.size ∧ i = .int .i64 k ∧ r = .int .u32 ((run 4294967295 (s.data.toList.take k) : Nat) : Int)) (fun _ i => s.size - (intOf i).toNat)
  case atStart => exact ⟨0, Nat.zero_le _, rfl, rfl⟩
  case round =>
    obtain ⟨k, hk, rfl, rfl⟩ := hrel
    have hz := run_lt (s.data.toList.take k) 4294967295 (by decide)
    by_cases hlt : k < s.size
    · have HS : Hid (run 4294967295 (s.data.toList.take (k + 1)) = byte (run 4294967295 (s.data.toList.take k)) (s.data.toList[k]'hlt).toNat) := run_take _ _ k hlt
      have hi := idx s k hlt
      have hb := (s.data.toList[k]'hlt).toNat_lt
      generalize run 4294967295 (s.data.toList.take k) = x at *
      generalize (s.data.toList[k]'hlt).toNat = b at *
      have h0 := xor32 x b hz (by omega)
      have hl0 := xor_lt x b hz (by omega)
      go_wp2
      go_loop [3, 5] (fun r i => ∃ j : Nat, j ≤ 8 ∧ i = .int .i64 j ∧ r = .int .u32 ((steps j (x ^^^ b) : Nat) : Int)) (fun _ i => 8 - (intOf i).toNat)
      case atStart => exact ⟨0, Nat.zero_le _, rfl, rfl⟩
      case round =>
        obtain ⟨j, hj, rfl, rfl⟩ := hrel
        have hz := steps_lt j (x ^^^ b) hl0
        have HT : Hid (steps (j + 1) (x ^^^ b) = step (steps j (x ^^^ b))) := rfl
        by_cases hlt : j < 8
        · generalize hg : steps j (x ^^^ b) = z at *
          have ha := and_one z hz
          rcases Nat.mod_two_eq_zero_or_one z with e | e
          · have HE : Hid (step z = z / 2) := step_even z e
            rw [e] at ha
            clear hg
            go_wp2
            go_round
            case rel => exact ⟨j + 1, by omega, by go_num, by rw [HT.out, HE.out]; go_num⟩
            case measure => simp [intOf]; omega
          · have HE : Hid (step z = z / 2 ^^^ 3988292384) := step_odd z e
            have hxx : bits .xor .u32 ((z : Int) / 2) 3988292384 = ((z / 2 ^^^ 3988292384 : Nat) : Int) := xor32 (z / 2) 3988292384 (by omega) (by decide)
            rw [e] at ha
            clear hg
            go_wp2
            go_round
            case rel => exact ⟨j + 1, by omega, by go_num, by rw [HT.out, HE.out]⟩
            case measure => simp [intOf]; omega
        · obtain rfl : j = 8 := by omega
          go_wp2
          go_round
          case rel => exact ⟨k + 1, by omega, by go_num, by rw [HS.out]; rfl⟩
          case measure => simp [intOf]; omega
    · obtain rfl : k = s.size := by omega
      have HC : Hid (crc s.data.toList = run 4294967295 (s.data.toList.take s.size) ^^^ 4294967295) := by
        show crc s.data.toList = _
        rw [crc, ← hzz, List.take_length]
      have hx := flipMax _ hz
      have hl := xor_lt _ 4294967295 hz (by decide)
      have hw : wrap64 ((run 4294967295 (s.data.toList.take s.size) ^^^ 4294967295 : Nat) : Int) = ((run 4294967295 (s.data.toList.take s.size) ^^^ 4294967295 : Nat) : Int) := by unfold wrap64; omega
      generalize run 4294967295 (s.data.toList.take s.size) = z at *
      go_wp2
      go_ret
      exact ⟨by rw [HC.out]; rfl, rfl⟩

end Go.Proofs.Ytfjonehccmoadaa.Crc
