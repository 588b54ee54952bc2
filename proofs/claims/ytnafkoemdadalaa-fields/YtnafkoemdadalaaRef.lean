/-
  The contracts of the document's own answers for layer 1, PutField and GetField: what each call answers, for every number, count of bytes and text. No condition but that a number is an int.
-/
import Derived.Test.YtnafkoemdadalaaField
namespace Go.Proofs.Ytnafkoemdadalaa.Ref
open Go.RowKit Go.Proofs.Ytnafkoemdadalaa.Num Go.Proofs.Ytnafkoemdadalaa.Field
set_option linter.unusedVariables false

set_option maxHeartbeats 400000 in
theorem put_many (x k : Int) (h : k < 1 ∨ 4 < k) (w : World) :
    Calls Try.prog 8 #[.int .i64 x, .int .i64 k] w fun e w' => e = .returned (.tuple #[.string ByteArray.empty, .int .i64 100]) ∧ Grown w w' := by
  rcases h with h | h
  · go_enter Try.func8, Try.ntmps8
    go_wp2
    go_ret2
    exact ⟨rfl, Grown.refl _⟩
  · have h1 : 1 ≤ k := by omega
    have h2 : decide (k ≤ 4) = false := by simp; omega
    go_enter Try.func8, Try.ntmps8
    go_wp2
    go_ret2
    exact ⟨rfl, Grown.refl _⟩

set_option maxHeartbeats 400000 in
theorem low1 (x : Int) (h : 0 ≤ x) (h' : x < 256) (w : World) :
    Calls Try.prog 16 #[.int .i64 x, .int .i64 1] w fun e w' => e = .returned (.string (strOfNums [x])) ∧ Grown w w' := by
  have hmk := mk1
  have hcv := cv1 w (x)
  go_enter Try.func16, Try.ntmps16
  go_wp2
  refine wp_loop_rounds 2 ?_
  rw [rounds_succ]
  go_wp2
  rw [rounds_succ]
  go_wp2
  go_ret
  exact ⟨rfl, (Grown.refl _).alloc _ _⟩

set_option maxHeartbeats 400000 in
theorem put_low1 (x : Int) (h : x < 0) (w : World) :
    Calls Try.prog 8 #[.int .i64 x, .int .i64 1] w fun e w' => e = .returned (.tuple #[.string ByteArray.empty, .int .i64 100]) ∧ Grown w w' := by
  go_enter Try.func8, Try.ntmps8
  go_wp2
  go_ret2
  exact ⟨rfl, Grown.refl _⟩

set_option maxHeartbeats 400000 in
theorem put_high1 (x : Int) (h : 256 ≤ x) (h' : x ≤ 9223372036854775807) (w : World) :
    Calls Try.prog 8 #[.int .i64 x, .int .i64 1] w fun e w' => e = .returned (.tuple #[.string ByteArray.empty, .int .i64 100]) ∧ Grown w w' := by
  have h0 : 0 ≤ x := by omega
  have hx : decide (x ≤ 255) = false := by simp; omega
  go_enter Try.func8, Try.ntmps8
  go_wp2
  go_ret2
  exact ⟨rfl, Grown.refl _⟩

set_option maxHeartbeats 400000 in
theorem put_at1 (x : Int) (h : 0 ≤ x) (h' : x < 256) (w : World) :
    Calls Try.prog 8 #[.int .i64 x, .int .i64 1] w fun e w' => e = .returned (.tuple #[.string (strOfNums [x]), .int .i64 0]) ∧ Grown w w' := by
  have hx : decide (x ≤ 255) = true := by simp; omega
  go_enter Try.func8, Try.ntmps8
  go_wp2_with (go_at_call 15; go_in)
  refine (low1 x h h' _).mono ?_
  rintro e w1 ⟨rfl, g1⟩
  have G : Hid (Grown w w1) := g1
  clear g1
  go_wp2
  go_ret2
  exact ⟨rfl, G.out⟩

set_option maxHeartbeats 400000 in
theorem low2 (x : Int) (h : 0 ≤ x) (h' : x < 65536) (w : World) :
    Calls Try.prog 16 #[.int .i64 x, .int .i64 2] w fun e w' => e = .returned (.string (strOfNums [x % 256, x / 256])) ∧ Grown w w' := by
  have hmk := mk2
  have hcv := cv2 w (x % 256) (x / 256)
  go_enter Try.func16, Try.ntmps16
  go_wp2
  refine wp_loop_rounds 3 ?_
  rw [rounds_succ]
  go_wp2
  rw [rounds_succ]
  go_wp2
  rw [rounds_succ]
  go_wp2
  go_ret
  exact ⟨rfl, (Grown.refl _).alloc _ _⟩

set_option maxHeartbeats 400000 in
theorem put_low2 (x : Int) (h : x < 0) (w : World) :
    Calls Try.prog 8 #[.int .i64 x, .int .i64 2] w fun e w' => e = .returned (.tuple #[.string ByteArray.empty, .int .i64 100]) ∧ Grown w w' := by
  go_enter Try.func8, Try.ntmps8
  go_wp2
  go_ret2
  exact ⟨rfl, Grown.refl _⟩

set_option maxHeartbeats 400000 in
theorem put_high2 (x : Int) (h : 65536 ≤ x) (h' : x ≤ 9223372036854775807) (w : World) :
    Calls Try.prog 8 #[.int .i64 x, .int .i64 2] w fun e w' => e = .returned (.tuple #[.string ByteArray.empty, .int .i64 100]) ∧ Grown w w' := by
  have h0 : 0 ≤ x := by omega
  have hx : decide (x ≤ 65535) = false := by simp; omega
  go_enter Try.func8, Try.ntmps8
  go_wp2
  go_ret2
  exact ⟨rfl, Grown.refl _⟩

set_option maxHeartbeats 400000 in
theorem put_at2 (x : Int) (h : 0 ≤ x) (h' : x < 65536) (w : World) :
    Calls Try.prog 8 #[.int .i64 x, .int .i64 2] w fun e w' => e = .returned (.tuple #[.string (strOfNums [x % 256, x / 256]), .int .i64 0]) ∧ Grown w w' := by
  have hx : decide (x ≤ 65535) = true := by simp; omega
  go_enter Try.func8, Try.ntmps8
  go_wp2_with (go_at_call 15; go_in)
  refine (low2 x h h' _).mono ?_
  rintro e w1 ⟨rfl, g1⟩
  have G : Hid (Grown w w1) := g1
  clear g1
  go_wp2
  go_ret2
  exact ⟨rfl, G.out⟩

set_option maxHeartbeats 400000 in
theorem low3 (x : Int) (h : 0 ≤ x) (h' : x < 16777216) (w : World) :
    Calls Try.prog 16 #[.int .i64 x, .int .i64 3] w fun e w' => e = .returned (.string (strOfNums [x % 256, x / 256 % 256, x / 65536])) ∧ Grown w w' := by
  have hmk := mk3
  have hcv := cv3 w (x % 256) (x / 256 % 256) (x / 65536)
  go_enter Try.func16, Try.ntmps16
  go_wp2
  refine wp_loop_rounds 4 ?_
  rw [rounds_succ]
  go_wp2
  rw [rounds_succ]
  go_wp2
  rw [rounds_succ]
  go_wp2
  rw [rounds_succ]
  go_wp2
  go_ret
  exact ⟨rfl, (Grown.refl _).alloc _ _⟩

set_option maxHeartbeats 400000 in
theorem put_low3 (x : Int) (h : x < 0) (w : World) :
    Calls Try.prog 8 #[.int .i64 x, .int .i64 3] w fun e w' => e = .returned (.tuple #[.string ByteArray.empty, .int .i64 100]) ∧ Grown w w' := by
  go_enter Try.func8, Try.ntmps8
  go_wp2
  go_ret2
  exact ⟨rfl, Grown.refl _⟩

set_option maxHeartbeats 400000 in
theorem put_high3 (x : Int) (h : 16777216 ≤ x) (h' : x ≤ 9223372036854775807) (w : World) :
    Calls Try.prog 8 #[.int .i64 x, .int .i64 3] w fun e w' => e = .returned (.tuple #[.string ByteArray.empty, .int .i64 100]) ∧ Grown w w' := by
  have h0 : 0 ≤ x := by omega
  have hx : decide (x ≤ 16777215) = false := by simp; omega
  go_enter Try.func8, Try.ntmps8
  go_wp2
  go_ret2
  exact ⟨rfl, Grown.refl _⟩

set_option maxHeartbeats 400000 in
theorem put_at3 (x : Int) (h : 0 ≤ x) (h' : x < 16777216) (w : World) :
    Calls Try.prog 8 #[.int .i64 x, .int .i64 3] w fun e w' => e = .returned (.tuple #[.string (strOfNums [x % 256, x / 256 % 256, x / 65536]), .int .i64 0]) ∧ Grown w w' := by
  have hx : decide (x ≤ 16777215) = true := by simp; omega
  go_enter Try.func8, Try.ntmps8
  go_wp2_with (go_at_call 15; go_in)
  refine (low3 x h h' _).mono ?_
  rintro e w1 ⟨rfl, g1⟩
  have G : Hid (Grown w w1) := g1
  clear g1
  go_wp2
  go_ret2
  exact ⟨rfl, G.out⟩

set_option maxHeartbeats 400000 in
theorem low4 (x : Int) (h : 0 ≤ x) (h' : x < 4294967296) (w : World) :
    Calls Try.prog 16 #[.int .i64 x, .int .i64 4] w fun e w' => e = .returned (.string (strOfNums [x % 256, x / 256 % 256, x / 65536 % 256, x / 16777216])) ∧ Grown w w' := by
  have hmk := mk4
  have hcv := cv4 w (x % 256) (x / 256 % 256) (x / 65536 % 256) (x / 16777216)
  go_enter Try.func16, Try.ntmps16
  go_wp2
  refine wp_loop_rounds 5 ?_
  rw [rounds_succ]
  go_wp2
  rw [rounds_succ]
  go_wp2
  rw [rounds_succ]
  go_wp2
  rw [rounds_succ]
  go_wp2
  rw [rounds_succ]
  go_wp2
  go_ret
  exact ⟨rfl, (Grown.refl _).alloc _ _⟩

set_option maxHeartbeats 400000 in
theorem put_low4 (x : Int) (h : x < 0) (w : World) :
    Calls Try.prog 8 #[.int .i64 x, .int .i64 4] w fun e w' => e = .returned (.tuple #[.string ByteArray.empty, .int .i64 100]) ∧ Grown w w' := by
  go_enter Try.func8, Try.ntmps8
  go_wp2
  go_ret2
  exact ⟨rfl, Grown.refl _⟩

set_option maxHeartbeats 400000 in
theorem put_high4 (x : Int) (h : 4294967296 ≤ x) (h' : x ≤ 9223372036854775807) (w : World) :
    Calls Try.prog 8 #[.int .i64 x, .int .i64 4] w fun e w' => e = .returned (.tuple #[.string ByteArray.empty, .int .i64 100]) ∧ Grown w w' := by
  have h0 : 0 ≤ x := by omega
  have hx : decide (x ≤ 4294967295) = false := by simp; omega
  go_enter Try.func8, Try.ntmps8
  go_wp2
  go_ret2
  exact ⟨rfl, Grown.refl _⟩

set_option maxHeartbeats 400000 in
theorem put_at4 (x : Int) (h : 0 ≤ x) (h' : x < 4294967296) (w : World) :
    Calls Try.prog 8 #[.int .i64 x, .int .i64 4] w fun e w' => e = .returned (.tuple #[.string (strOfNums [x % 256, x / 256 % 256, x / 65536 % 256, x / 16777216]), .int .i64 0]) ∧ Grown w w' := by
  have hx : decide (x ≤ 4294967295) = true := by simp; omega
  go_enter Try.func8, Try.ntmps8
  go_wp2_with (go_at_call 15; go_in)
  refine (low4 x h h' _).mono ?_
  rintro e w1 ⟨rfl, g1⟩
  have G : Hid (Grown w w1) := g1
  clear g1
  go_wp2
  go_ret2
  exact ⟨rfl, G.out⟩

/-- PutField at a count of bytes and a number that may be. -/
theorem put_ok (x k : Int) (h1 : 1 ≤ k) (h2 : k ≤ 4) (h3 : 0 ≤ x) (h4 : x < 256 ^ k.toNat) (w : World) :
    Calls Try.prog 8 #[.int .i64 x, .int .i64 k] w fun e w' => e = .returned (.tuple #[.string (strOfNums (low k.toNat x)), .int .i64 0]) ∧ Grown w w' := by
  rcases four h1 h2 with rfl | rfl | rfl | rfl
  · have h5 : x < 256 := by simpa using h4
    rw [show ((1 : Int).toNat) = 1 from rfl, ← low_at1 x h3 h5]
    exact put_at1 x h3 h5 w
  · have h5 : x < 65536 := by simpa using h4
    rw [show ((2 : Int).toNat) = 2 from rfl, ← low_at2 x h3 h5]
    exact put_at2 x h3 h5 w
  · have h5 : x < 16777216 := by simpa using h4
    rw [show ((3 : Int).toNat) = 3 from rfl, ← low_at3 x h3 h5]
    exact put_at3 x h3 h5 w
  · have h5 : x < 4294967296 := by simpa using h4
    rw [show ((4 : Int).toNat) = 4 from rfl, ← low_at4 x h3 h5]
    exact put_at4 x h3 h5 w

/-- PutField at a count of bytes or a number that may not be. -/
theorem put_no (x k : Int) (hx : x ≤ 9223372036854775807) (h : k < 1 ∨ 4 < k ∨ x < 0 ∨ (1 ≤ k ∧ k ≤ 4 ∧ 256 ^ k.toNat ≤ x)) (w : World) :
    Calls Try.prog 8 #[.int .i64 x, .int .i64 k] w fun e w' => e = .returned (.tuple #[.string ByteArray.empty, .int .i64 100]) ∧ Grown w w' := by
  by_cases hk : k < 1 ∨ 4 < k
  · exact put_many x k hk w
  · rcases four (k := k) (by omega) (by omega) with rfl | rfl | rfl | rfl
    · by_cases hl : x < 0
      · exact put_low1 x hl w
      · refine put_high1 x ?_ hx w
        rcases h with h | h | h | ⟨_, _, h⟩
        · omega
        · omega
        · omega
        · simpa using h
    · by_cases hl : x < 0
      · exact put_low2 x hl w
      · refine put_high2 x ?_ hx w
        rcases h with h | h | h | ⟨_, _, h⟩
        · omega
        · omega
        · omega
        · simpa using h
    · by_cases hl : x < 0
      · exact put_low3 x hl w
      · refine put_high3 x ?_ hx w
        rcases h with h | h | h | ⟨_, _, h⟩
        · omega
        · omega
        · omega
        · simpa using h
    · by_cases hl : x < 0
      · exact put_low4 x hl w
      · refine put_high4 x ?_ hx w
        rcases h with h | h | h | ⟨_, _, h⟩
        · omega
        · omega
        · omega
        · simpa using h

theorem or_at1 (a : UInt8) : bits .or .i64 (0) (wrap64 (a.toNat : Int)) = num [a] := by
  have ha := a.toNat_lt
  simp only [num]
  rw [IntWalk.wrap64_in (a.toNat : Int) ⟨by omega, by omega⟩, or0 (a.toNat : Int) (by omega) (by omega)]
  omega

set_option maxHeartbeats 400000 in
theorem get_at1 (a : UInt8) (w : World) :
    Calls Try.prog 10 #[.string ⟨#[a]⟩] w fun e w' => e = .returned (.tuple #[.int .i64 (num [a]), .int .i64 0]) ∧ Grown w w' := by
  rw [← or_at1 a]
  go_enter Try.func10, Try.ntmps10
  go_wp2
  refine wp_loop_rounds 2 ?_
  rw [rounds_succ]
  go_wp2
  rw [rounds_succ]
  go_wp2
  go_ret2
  exact ⟨rfl, Grown.refl _⟩

theorem or_at2 (a b : UInt8) : bits .or .i64 (wrap64 ((bits .or .i64 (0) (wrap64 (b.toNat : Int))) * 256)) (wrap64 (a.toNat : Int)) = num [a, b] := by
  have ha := a.toNat_lt
  have hb := b.toNat_lt
  simp only [num]
  rw [IntWalk.wrap64_in (a.toNat : Int) ⟨by omega, by omega⟩, IntWalk.wrap64_in (b.toNat : Int) ⟨by omega, by omega⟩, or0 (b.toNat : Int) (by omega) (by omega), IntWalk.wrap64_in ((b.toNat : Int) * 256) ⟨by omega, by omega⟩, or8 ((b.toNat : Int) * 256) (a.toNat : Int) (by omega) (by omega) (by omega) (by omega) (by omega)]
  omega

set_option maxHeartbeats 400000 in
theorem get_at2 (a b : UInt8) (w : World) :
    Calls Try.prog 10 #[.string ⟨#[a, b]⟩] w fun e w' => e = .returned (.tuple #[.int .i64 (num [a, b]), .int .i64 0]) ∧ Grown w w' := by
  rw [← or_at2 a b]
  go_enter Try.func10, Try.ntmps10
  go_wp2
  refine wp_loop_rounds 3 ?_
  rw [rounds_succ]
  go_wp2
  rw [rounds_succ]
  go_wp2
  rw [rounds_succ]
  go_wp2
  go_ret2
  exact ⟨rfl, Grown.refl _⟩

theorem or_at3 (a b c : UInt8) : bits .or .i64 (wrap64 ((bits .or .i64 (wrap64 ((bits .or .i64 (0) (wrap64 (c.toNat : Int))) * 256)) (wrap64 (b.toNat : Int))) * 256)) (wrap64 (a.toNat : Int)) = num [a, b, c] := by
  have ha := a.toNat_lt
  have hb := b.toNat_lt
  have hc := c.toNat_lt
  simp only [num]
  rw [IntWalk.wrap64_in (a.toNat : Int) ⟨by omega, by omega⟩, IntWalk.wrap64_in (b.toNat : Int) ⟨by omega, by omega⟩, IntWalk.wrap64_in (c.toNat : Int) ⟨by omega, by omega⟩, or0 (c.toNat : Int) (by omega) (by omega), IntWalk.wrap64_in ((c.toNat : Int) * 256) ⟨by omega, by omega⟩, or8 ((c.toNat : Int) * 256) (b.toNat : Int) (by omega) (by omega) (by omega) (by omega) (by omega), IntWalk.wrap64_in (((c.toNat : Int) * 256 + (b.toNat : Int)) * 256) ⟨by omega, by omega⟩, or8 (((c.toNat : Int) * 256 + (b.toNat : Int)) * 256) (a.toNat : Int) (by omega) (by omega) (by omega) (by omega) (by omega)]
  omega

set_option maxHeartbeats 400000 in
theorem get_at3 (a b c : UInt8) (w : World) :
    Calls Try.prog 10 #[.string ⟨#[a, b, c]⟩] w fun e w' => e = .returned (.tuple #[.int .i64 (num [a, b, c]), .int .i64 0]) ∧ Grown w w' := by
  rw [← or_at3 a b c]
  go_enter Try.func10, Try.ntmps10
  go_wp2
  refine wp_loop_rounds 4 ?_
  rw [rounds_succ]
  go_wp2
  rw [rounds_succ]
  go_wp2
  rw [rounds_succ]
  go_wp2
  rw [rounds_succ]
  go_wp2
  go_ret2
  exact ⟨rfl, Grown.refl _⟩

theorem or_at4 (a b c d : UInt8) : bits .or .i64 (wrap64 ((bits .or .i64 (wrap64 ((bits .or .i64 (wrap64 ((bits .or .i64 (0) (wrap64 (d.toNat : Int))) * 256)) (wrap64 (c.toNat : Int))) * 256)) (wrap64 (b.toNat : Int))) * 256)) (wrap64 (a.toNat : Int)) = num [a, b, c, d] := by
  have ha := a.toNat_lt
  have hb := b.toNat_lt
  have hc := c.toNat_lt
  have hd := d.toNat_lt
  simp only [num]
  rw [IntWalk.wrap64_in (a.toNat : Int) ⟨by omega, by omega⟩, IntWalk.wrap64_in (b.toNat : Int) ⟨by omega, by omega⟩, IntWalk.wrap64_in (c.toNat : Int) ⟨by omega, by omega⟩, IntWalk.wrap64_in (d.toNat : Int) ⟨by omega, by omega⟩, or0 (d.toNat : Int) (by omega) (by omega), IntWalk.wrap64_in ((d.toNat : Int) * 256) ⟨by omega, by omega⟩, or8 ((d.toNat : Int) * 256) (c.toNat : Int) (by omega) (by omega) (by omega) (by omega) (by omega), IntWalk.wrap64_in (((d.toNat : Int) * 256 + (c.toNat : Int)) * 256) ⟨by omega, by omega⟩, or8 (((d.toNat : Int) * 256 + (c.toNat : Int)) * 256) (b.toNat : Int) (by omega) (by omega) (by omega) (by omega) (by omega), IntWalk.wrap64_in ((((d.toNat : Int) * 256 + (c.toNat : Int)) * 256 + (b.toNat : Int)) * 256) ⟨by omega, by omega⟩, or8 ((((d.toNat : Int) * 256 + (c.toNat : Int)) * 256 + (b.toNat : Int)) * 256) (a.toNat : Int) (by omega) (by omega) (by omega) (by omega) (by omega)]
  omega

set_option maxHeartbeats 400000 in
theorem get_at4 (a b c d : UInt8) (w : World) :
    Calls Try.prog 10 #[.string ⟨#[a, b, c, d]⟩] w fun e w' => e = .returned (.tuple #[.int .i64 (num [a, b, c, d]), .int .i64 0]) ∧ Grown w w' := by
  rw [← or_at4 a b c d]
  go_enter Try.func10, Try.ntmps10
  go_wp2
  refine wp_loop_rounds 5 ?_
  rw [rounds_succ]
  go_wp2
  rw [rounds_succ]
  go_wp2
  rw [rounds_succ]
  go_wp2
  rw [rounds_succ]
  go_wp2
  rw [rounds_succ]
  go_wp2
  go_ret2
  exact ⟨rfl, Grown.refl _⟩

/-- GetField at a text of 1 to 4 bytes. -/
theorem get_ok (s : ByteArray) (h1 : 1 ≤ s.size) (h2 : s.size ≤ 4) (w : World) :
    Calls Try.prog 10 #[.string s] w fun e w' => e = .returned (.tuple #[.int .i64 (num s.data.toList), .int .i64 0]) ∧ Grown w w' := by
  obtain ⟨⟨l⟩⟩ := s
  have hl : (ByteArray.mk ⟨l⟩).size = l.length := rfl
  rw [hl] at h1 h2
  match l, h1, h2 with
  | [a], _, _ => exact get_at1 a w
  | [a, b], _, _ => exact get_at2 a b w
  | [a, b, c], _, _ => exact get_at3 a b c w
  | [a, b, c, d], _, _ => exact get_at4 a b c d w

set_option maxHeartbeats 400000 in
/-- GetField at a text of no byte, or of more than 4. -/
theorem get_no (s : ByteArray) (hs : s.size ≤ maxLen) (h : s.size < 1 ∨ 4 < s.size) (w : World) :
    Calls Try.prog 10 #[.string s] w fun e w' => e = .returned (.tuple #[.int .i64 0, .int .i64 100]) ∧ Grown w w' := by
  unfold maxLen at hs
  rcases h with h | h
  · have h0 : (s.size : Int) < 1 := by omega
    go_enter Try.func10, Try.ntmps10
    go_wp2
    go_ret2
    exact ⟨rfl, Grown.refl _⟩
  · have h0 : 1 ≤ (s.size : Int) := by omega
    have h1 : decide ((s.size : Int) ≤ 4) = false := by simp; omega
    go_enter Try.func10, Try.ntmps10
    go_wp2
    go_ret2
    exact ⟨rfl, Grown.refl _⟩

end Go.Proofs.Ytnafkoemdadalaa.Ref
