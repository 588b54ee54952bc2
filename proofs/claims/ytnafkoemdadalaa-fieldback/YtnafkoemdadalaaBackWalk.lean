/-
  The walk of FieldBack: it answers true for any two ints and any text. No condition.
-/
import Derived.Test.YtnafkoemdadalaaAwake
namespace Go.Proofs.Ytnafkoemdadalaa.Field
open Go.RowKit Go.Proofs.Ytnafkoemdadalaa.Num
set_option linter.unusedVariables false

theorem str_len (k : Nat) (x : Int) : (strOfNums (low k x)).size = k := by rw [strOfNums_size, low_length]

theorem get_back (k : Nat) (x : Int) (h1 : 1 ≤ k) (h2 : k ≤ 4) (h3 : 0 ≤ x) (h4 : x < 256 ^ k) (w : World) :
    Calls Try.prog 9 #[.string (strOfNums (low k x))] w fun e w' => e = .returned (.tuple #[.int .i64 x, .int .i64 0]) ∧ Grown w w' := by
  have h := get_ok (strOfNums (low k x)) (by rw [str_len]; exact h1) (by rw [str_len]; exact h2) w
  rw [num_str_low k x h3 h4] at h
  exact h

theorem put_back (s : ByteArray) (h1 : 1 ≤ s.size) (h2 : s.size ≤ 4) (w : World) :
    Calls Try.prog 7 #[.int .i64 (num s.data.toList), .int .i64 (s.size : Int)] w fun e w' => e = .returned (.tuple #[.string s, .int .i64 0]) ∧ Grown w w' := by
  have h := put_ok (num s.data.toList) (s.size : Int) (by omega) (by omega) (num_nonneg _) (by rw [Int.toNat_natCast]; have := num_lt s.data.toList; simpa using this) w
  rw [Int.toNat_natCast, str_low_num] at h
  exact h

theorem long_ne (s : ByteArray) (h : 4 < s.size) : s.toList.isEmpty = false := by
  rw [ByteArray.toList_eq]
  cases hq : s.data.toList with
  | nil =>
    have e : s.data.toList.length = s.size := by simp
    rw [hq] at e
    simp at e
    omega
  | cons => rfl

theorem pow1 : (256 : Int) ^ 1 = 256 := by decide
theorem pow2 : (256 : Int) ^ 2 = 65536 := by decide
theorem pow3 : (256 : Int) ^ 3 = 16777216 := by decide
theorem pow4 : (256 : Int) ^ 4 = 4294967296 := by decide

set_option maxHeartbeats 1000000 in
theorem back_empty1 (a0 a1 : Int) (w : World) (hk : a1 % 4 = 0) :
    Calls Try.prog 5 #[.int .i64 a0, .int .i64 a1, .string ⟨#[]⟩] w fun e w' => e = .returned (.bool true) ∧ Grown w w' := by
  have m3 := and3
  have mk := and255
  have hl := str_len 1 (a0 % 256)
  go_enter Try.func5, Try.ntmps5
  go_wp2_with fail
  refine (awake_true _).mono ?_
  rintro e w1 ⟨rfl, g1⟩
  go_wp2_with fail
  refine (put_ok (a0 % 256) 1 (by omega) (by omega) (by omega) (by show _ < (256 : Int) ^ 1; rw [pow1]; omega) _).mono ?_
  rintro e w2 ⟨rfl, g2⟩
  go_wp2_with fail
  refine (get_back 1 (a0 % 256) (by omega) (by omega) (by omega) (by rw [pow1]; omega) _).mono ?_
  rintro e w3 ⟨rfl, g3⟩
  go_wp2_with (go_at_call 11; go_in)
  refine (get_no ⟨#[]⟩ (by decide) (.inl (by decide)) _).mono ?_
  rintro e w4 ⟨rfl, g4⟩
  have G : Hid (Grown w w4) := grown_trans g1 (grown_trans g2 (grown_trans g3 g4))
  clear g1 g2 g3 g4
  go_wp2
  go_ret
  exact ⟨rfl, G.out⟩

set_option maxHeartbeats 1000000 in
theorem back_long1 (a0 a1 : Int) (s : ByteArray) (w : World) (hk : a1 % 4 = 0) (hs : s.size ≤ maxLen) (h : 4 < s.size) :
    Calls Try.prog 5 #[.int .i64 a0, .int .i64 a1, .string s] w fun e w' => e = .returned (.bool true) ∧ Grown w w' := by
  have he := long_ne s h
  have hd : decide (4 < (s.size : Int)) = true := by simp; omega
  have m3 := and3
  have mk := and255
  have hl := str_len 1 (a0 % 256)
  go_enter Try.func5, Try.ntmps5
  go_wp2_with fail
  refine (awake_true _).mono ?_
  rintro e w1 ⟨rfl, g1⟩
  go_wp2_with fail
  refine (put_ok (a0 % 256) 1 (by omega) (by omega) (by omega) (by show _ < (256 : Int) ^ 1; rw [pow1]; omega) _).mono ?_
  rintro e w2 ⟨rfl, g2⟩
  go_wp2_with fail
  refine (get_back 1 (a0 % 256) (by omega) (by omega) (by omega) (by rw [pow1]; omega) _).mono ?_
  rintro e w3 ⟨rfl, g3⟩
  go_wp2_with (go_at_call 11; go_in)
  refine (get_no s hs (.inr h) _).mono ?_
  rintro e w4 ⟨rfl, g4⟩
  have G : Hid (Grown w w4) := grown_trans g1 (grown_trans g2 (grown_trans g3 g4))
  clear g1 g2 g3 g4
  go_wp2
  go_ret
  exact ⟨rfl, G.out⟩

set_option maxHeartbeats 1000000 in
theorem back_right1 (a0 a1 : Int) (s : ByteArray) (w : World) (hk : a1 % 4 = 0) (h1 : 1 ≤ s.size) (h2 : s.size ≤ 4) :
    Calls Try.prog 5 #[.int .i64 a0, .int .i64 a1, .string s] w fun e w' => e = .returned (.bool true) ∧ Grown w w' := by
  have m3 := and3
  have mk := and255
  have hl := str_len 1 (a0 % 256)
  go_enter Try.func5, Try.ntmps5
  go_wp2_with fail
  refine (awake_true _).mono ?_
  rintro e w1 ⟨rfl, g1⟩
  go_wp2_with fail
  refine (put_ok (a0 % 256) 1 (by omega) (by omega) (by omega) (by show _ < (256 : Int) ^ 1; rw [pow1]; omega) _).mono ?_
  rintro e w2 ⟨rfl, g2⟩
  go_wp2_with fail
  refine (get_back 1 (a0 % 256) (by omega) (by omega) (by omega) (by rw [pow1]; omega) _).mono ?_
  rintro e w3 ⟨rfl, g3⟩
  go_wp2_with (go_at_call 11; go_in)
  refine (get_ok s h1 h2 _).mono ?_
  rintro e w4 ⟨rfl, g4⟩
  go_wp2_with (go_at_call 11; go_in)
  refine (put_back s h1 h2 _).mono ?_
  rintro e w5 ⟨rfl, g5⟩
  have G : Hid (Grown w w5) := grown_trans g1 (grown_trans g2 (grown_trans g3 (grown_trans g4 g5)))
  clear g1 g2 g3 g4 g5
  go_wp2
  go_ret
  exact ⟨rfl, G.out⟩

set_option maxHeartbeats 1000000 in
theorem back_empty2 (a0 a1 : Int) (w : World) (hk : a1 % 4 = 1) :
    Calls Try.prog 5 #[.int .i64 a0, .int .i64 a1, .string ⟨#[]⟩] w fun e w' => e = .returned (.bool true) ∧ Grown w w' := by
  have m3 := and3
  have mk := and16
  have hl := str_len 2 (a0 % 65536)
  go_enter Try.func5, Try.ntmps5
  go_wp2_with fail
  refine (awake_true _).mono ?_
  rintro e w1 ⟨rfl, g1⟩
  go_wp2_with fail
  refine (put_ok (a0 % 65536) 2 (by omega) (by omega) (by omega) (by show _ < (256 : Int) ^ 2; rw [pow2]; omega) _).mono ?_
  rintro e w2 ⟨rfl, g2⟩
  go_wp2_with fail
  refine (get_back 2 (a0 % 65536) (by omega) (by omega) (by omega) (by rw [pow2]; omega) _).mono ?_
  rintro e w3 ⟨rfl, g3⟩
  go_wp2_with (go_at_call 11; go_in)
  refine (get_no ⟨#[]⟩ (by decide) (.inl (by decide)) _).mono ?_
  rintro e w4 ⟨rfl, g4⟩
  have G : Hid (Grown w w4) := grown_trans g1 (grown_trans g2 (grown_trans g3 g4))
  clear g1 g2 g3 g4
  go_wp2
  go_ret
  exact ⟨rfl, G.out⟩

set_option maxHeartbeats 1000000 in
theorem back_long2 (a0 a1 : Int) (s : ByteArray) (w : World) (hk : a1 % 4 = 1) (hs : s.size ≤ maxLen) (h : 4 < s.size) :
    Calls Try.prog 5 #[.int .i64 a0, .int .i64 a1, .string s] w fun e w' => e = .returned (.bool true) ∧ Grown w w' := by
  have he := long_ne s h
  have hd : decide (4 < (s.size : Int)) = true := by simp; omega
  have m3 := and3
  have mk := and16
  have hl := str_len 2 (a0 % 65536)
  go_enter Try.func5, Try.ntmps5
  go_wp2_with fail
  refine (awake_true _).mono ?_
  rintro e w1 ⟨rfl, g1⟩
  go_wp2_with fail
  refine (put_ok (a0 % 65536) 2 (by omega) (by omega) (by omega) (by show _ < (256 : Int) ^ 2; rw [pow2]; omega) _).mono ?_
  rintro e w2 ⟨rfl, g2⟩
  go_wp2_with fail
  refine (get_back 2 (a0 % 65536) (by omega) (by omega) (by omega) (by rw [pow2]; omega) _).mono ?_
  rintro e w3 ⟨rfl, g3⟩
  go_wp2_with (go_at_call 11; go_in)
  refine (get_no s hs (.inr h) _).mono ?_
  rintro e w4 ⟨rfl, g4⟩
  have G : Hid (Grown w w4) := grown_trans g1 (grown_trans g2 (grown_trans g3 g4))
  clear g1 g2 g3 g4
  go_wp2
  go_ret
  exact ⟨rfl, G.out⟩

set_option maxHeartbeats 1000000 in
theorem back_right2 (a0 a1 : Int) (s : ByteArray) (w : World) (hk : a1 % 4 = 1) (h1 : 1 ≤ s.size) (h2 : s.size ≤ 4) :
    Calls Try.prog 5 #[.int .i64 a0, .int .i64 a1, .string s] w fun e w' => e = .returned (.bool true) ∧ Grown w w' := by
  have m3 := and3
  have mk := and16
  have hl := str_len 2 (a0 % 65536)
  go_enter Try.func5, Try.ntmps5
  go_wp2_with fail
  refine (awake_true _).mono ?_
  rintro e w1 ⟨rfl, g1⟩
  go_wp2_with fail
  refine (put_ok (a0 % 65536) 2 (by omega) (by omega) (by omega) (by show _ < (256 : Int) ^ 2; rw [pow2]; omega) _).mono ?_
  rintro e w2 ⟨rfl, g2⟩
  go_wp2_with fail
  refine (get_back 2 (a0 % 65536) (by omega) (by omega) (by omega) (by rw [pow2]; omega) _).mono ?_
  rintro e w3 ⟨rfl, g3⟩
  go_wp2_with (go_at_call 11; go_in)
  refine (get_ok s h1 h2 _).mono ?_
  rintro e w4 ⟨rfl, g4⟩
  go_wp2_with (go_at_call 11; go_in)
  refine (put_back s h1 h2 _).mono ?_
  rintro e w5 ⟨rfl, g5⟩
  have G : Hid (Grown w w5) := grown_trans g1 (grown_trans g2 (grown_trans g3 (grown_trans g4 g5)))
  clear g1 g2 g3 g4 g5
  go_wp2
  go_ret
  exact ⟨rfl, G.out⟩

set_option maxHeartbeats 1000000 in
theorem back_empty3 (a0 a1 : Int) (w : World) (hk : a1 % 4 = 2) :
    Calls Try.prog 5 #[.int .i64 a0, .int .i64 a1, .string ⟨#[]⟩] w fun e w' => e = .returned (.bool true) ∧ Grown w w' := by
  have m3 := and3
  have mk := and24
  have hl := str_len 3 (a0 % 16777216)
  go_enter Try.func5, Try.ntmps5
  go_wp2_with fail
  refine (awake_true _).mono ?_
  rintro e w1 ⟨rfl, g1⟩
  go_wp2_with fail
  refine (put_ok (a0 % 16777216) 3 (by omega) (by omega) (by omega) (by show _ < (256 : Int) ^ 3; rw [pow3]; omega) _).mono ?_
  rintro e w2 ⟨rfl, g2⟩
  go_wp2_with fail
  refine (get_back 3 (a0 % 16777216) (by omega) (by omega) (by omega) (by rw [pow3]; omega) _).mono ?_
  rintro e w3 ⟨rfl, g3⟩
  go_wp2_with (go_at_call 11; go_in)
  refine (get_no ⟨#[]⟩ (by decide) (.inl (by decide)) _).mono ?_
  rintro e w4 ⟨rfl, g4⟩
  have G : Hid (Grown w w4) := grown_trans g1 (grown_trans g2 (grown_trans g3 g4))
  clear g1 g2 g3 g4
  go_wp2
  go_ret
  exact ⟨rfl, G.out⟩

set_option maxHeartbeats 1000000 in
theorem back_long3 (a0 a1 : Int) (s : ByteArray) (w : World) (hk : a1 % 4 = 2) (hs : s.size ≤ maxLen) (h : 4 < s.size) :
    Calls Try.prog 5 #[.int .i64 a0, .int .i64 a1, .string s] w fun e w' => e = .returned (.bool true) ∧ Grown w w' := by
  have he := long_ne s h
  have hd : decide (4 < (s.size : Int)) = true := by simp; omega
  have m3 := and3
  have mk := and24
  have hl := str_len 3 (a0 % 16777216)
  go_enter Try.func5, Try.ntmps5
  go_wp2_with fail
  refine (awake_true _).mono ?_
  rintro e w1 ⟨rfl, g1⟩
  go_wp2_with fail
  refine (put_ok (a0 % 16777216) 3 (by omega) (by omega) (by omega) (by show _ < (256 : Int) ^ 3; rw [pow3]; omega) _).mono ?_
  rintro e w2 ⟨rfl, g2⟩
  go_wp2_with fail
  refine (get_back 3 (a0 % 16777216) (by omega) (by omega) (by omega) (by rw [pow3]; omega) _).mono ?_
  rintro e w3 ⟨rfl, g3⟩
  go_wp2_with (go_at_call 11; go_in)
  refine (get_no s hs (.inr h) _).mono ?_
  rintro e w4 ⟨rfl, g4⟩
  have G : Hid (Grown w w4) := grown_trans g1 (grown_trans g2 (grown_trans g3 g4))
  clear g1 g2 g3 g4
  go_wp2
  go_ret
  exact ⟨rfl, G.out⟩

set_option maxHeartbeats 1000000 in
theorem back_right3 (a0 a1 : Int) (s : ByteArray) (w : World) (hk : a1 % 4 = 2) (h1 : 1 ≤ s.size) (h2 : s.size ≤ 4) :
    Calls Try.prog 5 #[.int .i64 a0, .int .i64 a1, .string s] w fun e w' => e = .returned (.bool true) ∧ Grown w w' := by
  have m3 := and3
  have mk := and24
  have hl := str_len 3 (a0 % 16777216)
  go_enter Try.func5, Try.ntmps5
  go_wp2_with fail
  refine (awake_true _).mono ?_
  rintro e w1 ⟨rfl, g1⟩
  go_wp2_with fail
  refine (put_ok (a0 % 16777216) 3 (by omega) (by omega) (by omega) (by show _ < (256 : Int) ^ 3; rw [pow3]; omega) _).mono ?_
  rintro e w2 ⟨rfl, g2⟩
  go_wp2_with fail
  refine (get_back 3 (a0 % 16777216) (by omega) (by omega) (by omega) (by rw [pow3]; omega) _).mono ?_
  rintro e w3 ⟨rfl, g3⟩
  go_wp2_with (go_at_call 11; go_in)
  refine (get_ok s h1 h2 _).mono ?_
  rintro e w4 ⟨rfl, g4⟩
  go_wp2_with (go_at_call 11; go_in)
  refine (put_back s h1 h2 _).mono ?_
  rintro e w5 ⟨rfl, g5⟩
  have G : Hid (Grown w w5) := grown_trans g1 (grown_trans g2 (grown_trans g3 (grown_trans g4 g5)))
  clear g1 g2 g3 g4 g5
  go_wp2
  go_ret
  exact ⟨rfl, G.out⟩

set_option maxHeartbeats 1000000 in
theorem back_empty4 (a0 a1 : Int) (w : World) (hk : a1 % 4 = 3) :
    Calls Try.prog 5 #[.int .i64 a0, .int .i64 a1, .string ⟨#[]⟩] w fun e w' => e = .returned (.bool true) ∧ Grown w w' := by
  have m3 := and3
  have mk := and32
  have hl := str_len 4 (a0 % 4294967296)
  go_enter Try.func5, Try.ntmps5
  go_wp2_with fail
  refine (awake_true _).mono ?_
  rintro e w1 ⟨rfl, g1⟩
  go_wp2_with fail
  refine (put_ok (a0 % 4294967296) 4 (by omega) (by omega) (by omega) (by show _ < (256 : Int) ^ 4; rw [pow4]; omega) _).mono ?_
  rintro e w2 ⟨rfl, g2⟩
  go_wp2_with fail
  refine (get_back 4 (a0 % 4294967296) (by omega) (by omega) (by omega) (by rw [pow4]; omega) _).mono ?_
  rintro e w3 ⟨rfl, g3⟩
  go_wp2_with (go_at_call 11; go_in)
  refine (get_no ⟨#[]⟩ (by decide) (.inl (by decide)) _).mono ?_
  rintro e w4 ⟨rfl, g4⟩
  have G : Hid (Grown w w4) := grown_trans g1 (grown_trans g2 (grown_trans g3 g4))
  clear g1 g2 g3 g4
  go_wp2
  go_ret
  exact ⟨rfl, G.out⟩

set_option maxHeartbeats 1000000 in
theorem back_long4 (a0 a1 : Int) (s : ByteArray) (w : World) (hk : a1 % 4 = 3) (hs : s.size ≤ maxLen) (h : 4 < s.size) :
    Calls Try.prog 5 #[.int .i64 a0, .int .i64 a1, .string s] w fun e w' => e = .returned (.bool true) ∧ Grown w w' := by
  have he := long_ne s h
  have hd : decide (4 < (s.size : Int)) = true := by simp; omega
  have m3 := and3
  have mk := and32
  have hl := str_len 4 (a0 % 4294967296)
  go_enter Try.func5, Try.ntmps5
  go_wp2_with fail
  refine (awake_true _).mono ?_
  rintro e w1 ⟨rfl, g1⟩
  go_wp2_with fail
  refine (put_ok (a0 % 4294967296) 4 (by omega) (by omega) (by omega) (by show _ < (256 : Int) ^ 4; rw [pow4]; omega) _).mono ?_
  rintro e w2 ⟨rfl, g2⟩
  go_wp2_with fail
  refine (get_back 4 (a0 % 4294967296) (by omega) (by omega) (by omega) (by rw [pow4]; omega) _).mono ?_
  rintro e w3 ⟨rfl, g3⟩
  go_wp2_with (go_at_call 11; go_in)
  refine (get_no s hs (.inr h) _).mono ?_
  rintro e w4 ⟨rfl, g4⟩
  have G : Hid (Grown w w4) := grown_trans g1 (grown_trans g2 (grown_trans g3 g4))
  clear g1 g2 g3 g4
  go_wp2
  go_ret
  exact ⟨rfl, G.out⟩

set_option maxHeartbeats 1000000 in
theorem back_right4 (a0 a1 : Int) (s : ByteArray) (w : World) (hk : a1 % 4 = 3) (h1 : 1 ≤ s.size) (h2 : s.size ≤ 4) :
    Calls Try.prog 5 #[.int .i64 a0, .int .i64 a1, .string s] w fun e w' => e = .returned (.bool true) ∧ Grown w w' := by
  have m3 := and3
  have mk := and32
  have hl := str_len 4 (a0 % 4294967296)
  go_enter Try.func5, Try.ntmps5
  go_wp2_with fail
  refine (awake_true _).mono ?_
  rintro e w1 ⟨rfl, g1⟩
  go_wp2_with fail
  refine (put_ok (a0 % 4294967296) 4 (by omega) (by omega) (by omega) (by show _ < (256 : Int) ^ 4; rw [pow4]; omega) _).mono ?_
  rintro e w2 ⟨rfl, g2⟩
  go_wp2_with fail
  refine (get_back 4 (a0 % 4294967296) (by omega) (by omega) (by omega) (by rw [pow4]; omega) _).mono ?_
  rintro e w3 ⟨rfl, g3⟩
  go_wp2_with (go_at_call 11; go_in)
  refine (get_ok s h1 h2 _).mono ?_
  rintro e w4 ⟨rfl, g4⟩
  go_wp2_with (go_at_call 11; go_in)
  refine (put_back s h1 h2 _).mono ?_
  rintro e w5 ⟨rfl, g5⟩
  have G : Hid (Grown w w5) := grown_trans g1 (grown_trans g2 (grown_trans g3 (grown_trans g4 g5)))
  clear g1 g2 g3 g4 g5
  go_wp2
  go_ret
  exact ⟨rfl, G.out⟩

theorem back_walk (a0 a1 : Int) (s : ByteArray) (hs : s.size ≤ maxLen) (w : World) :
    Calls Try.prog 5 #[.int .i64 a0, .int .i64 a1, .string s] w fun e w' => e = .returned (.bool true) ∧ Grown w w' := by
  have hk : a1 % 4 = 0 ∨ a1 % 4 = 1 ∨ a1 % 4 = 2 ∨ a1 % 4 = 3 := by omega
  by_cases h0 : s.size = 0
  · obtain rfl : s = ⟨#[]⟩ := by
      obtain ⟨⟨l⟩⟩ := s
      have hl : l.length = 0 := h0
      match l, hl with
      | [], _ => rfl
    rcases hk with hk | hk | hk | hk
    · exact back_empty1 a0 a1 w hk
    · exact back_empty2 a0 a1 w hk
    · exact back_empty3 a0 a1 w hk
    · exact back_empty4 a0 a1 w hk
  · by_cases h4 : 4 < s.size
    · rcases hk with hk | hk | hk | hk
      · exact back_long1 a0 a1 s w hk hs h4
      · exact back_long2 a0 a1 s w hk hs h4
      · exact back_long3 a0 a1 s w hk hs h4
      · exact back_long4 a0 a1 s w hk hs h4
    · rcases hk with hk | hk | hk | hk
      · exact back_right1 a0 a1 s w hk (by omega) (by omega)
      · exact back_right2 a0 a1 s w hk (by omega) (by omega)
      · exact back_right3 a0 a1 s w hk (by omega) (by omega)
      · exact back_right4 a0 a1 s w hk (by omega) (by omega)

end Go.Proofs.Ytnafkoemdadalaa.Field
