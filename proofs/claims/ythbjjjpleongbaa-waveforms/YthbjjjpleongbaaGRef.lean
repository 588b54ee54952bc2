/-
  The contracts of the document's own answers for layer 1, PutField and GetField: what each call answers, for every number, count of bytes and text. No condition but that a number is an int.
-/
import Derived.Test.YthbjjjpleongbaaGField
namespace Go.Proofs.Ythbjjjpleongbaa.Ref
open Go.RowKit Go.Proofs.Ythbjjjpleongbaa.Num Go.Proofs.Ythbjjjpleongbaa.Mod Go.Proofs.Ythbjjjpleongbaa.Field
set_option linter.unusedVariables false

set_option maxHeartbeats 400000 in
theorem low1 (x : Int) (h : 0 ≤ x) (h' : x < 256) (w : World) :
    Calls Try.prog 16 #[.int .i64 x, .int .i64 1] w fun e w' => e = .returned (.string (strOfNums [x])) ∧ Bel w w' := by
  have hmk := mk1
  have hcv := cv1 w (x)
  go_enter Try.func16, Try.ntmps16
  go_wp2
  refine wp_loop_rounds 2 ?_
  rw [rounds_succ]
  go_wp2
  rw [rounds_succ]
  go_wp2
  go_ret
  exact ⟨rfl, (Bel.refl _).alloc _⟩

set_option maxHeartbeats 400000 in
theorem low2 (x : Int) (h : 0 ≤ x) (h' : x < 65536) (w : World) :
    Calls Try.prog 16 #[.int .i64 x, .int .i64 2] w fun e w' => e = .returned (.string (strOfNums [x % 256, x / 256])) ∧ Bel w w' := by
  have hmk := mk2
  have hcv := cv2 w (x % 256) (x / 256)
  go_enter Try.func16, Try.ntmps16
  go_wp2
  refine wp_loop_rounds 3 ?_
  rw [rounds_succ]
  go_wp2
  rw [rounds_succ]
  go_wp2
  rw [rounds_succ]
  go_wp2
  go_ret
  exact ⟨rfl, (Bel.refl _).alloc _⟩

set_option maxHeartbeats 400000 in
theorem low3 (x : Int) (h : 0 ≤ x) (h' : x < 16777216) (w : World) :
    Calls Try.prog 16 #[.int .i64 x, .int .i64 3] w fun e w' => e = .returned (.string (strOfNums [x % 256, x / 256 % 256, x / 65536])) ∧ Bel w w' := by
  have hmk := mk3
  have hcv := cv3 w (x % 256) (x / 256 % 256) (x / 65536)
  go_enter Try.func16, Try.ntmps16
  go_wp2
  refine wp_loop_rounds 4 ?_
  rw [rounds_succ]
  go_wp2
  rw [rounds_succ]
  go_wp2
  rw [rounds_succ]
  go_wp2
  rw [rounds_succ]
  go_wp2
  go_ret
  exact ⟨rfl, (Bel.refl _).alloc _⟩

set_option maxHeartbeats 400000 in
theorem low4 (x : Int) (h : 0 ≤ x) (h' : x < 4294967296) (w : World) :
    Calls Try.prog 16 #[.int .i64 x, .int .i64 4] w fun e w' => e = .returned (.string (strOfNums [x % 256, x / 256 % 256, x / 65536 % 256, x / 16777216])) ∧ Bel w w' := by
  have hmk := mk4
  have hcv := cv4 w (x % 256) (x / 256 % 256) (x / 65536 % 256) (x / 16777216)
  go_enter Try.func16, Try.ntmps16
  go_wp2
  refine wp_loop_rounds 5 ?_
  rw [rounds_succ]
  go_wp2
  rw [rounds_succ]
  go_wp2
  rw [rounds_succ]
  go_wp2
  rw [rounds_succ]
  go_wp2
  rw [rounds_succ]
  go_wp2
  go_ret
  exact ⟨rfl, (Bel.refl _).alloc _⟩

theorem or_at1 (a : UInt8) : bits .or .i64 (0) (wrap64 (a.toNat : Int)) = num [a] := by
  have ha := a.toNat_lt
  simp only [num]
  rw [IntWalk.wrap64_in (a.toNat : Int) ⟨by omega, by omega⟩, or0 (a.toNat : Int) (by omega) (by omega)]
  omega

set_option maxHeartbeats 400000 in
theorem get_at1 (a : UInt8) (w : World) :
    Calls Try.prog 25 #[.string ⟨#[a]⟩] w fun e w' => e = .returned (.tuple #[.int .i64 (num [a]), .int .i64 0]) ∧ w' = w := by
  rw [← or_at1 a]
  go_enter Try.func25, Try.ntmps25
  go_wp2
  refine wp_loop_rounds 2 ?_
  rw [rounds_succ]
  go_wp2
  rw [rounds_succ]
  go_wp2
  go_ret2
  exact ⟨rfl, rfl⟩

theorem or_at2 (a b : UInt8) : bits .or .i64 (wrap64 ((bits .or .i64 (0) (wrap64 (b.toNat : Int))) * 256)) (wrap64 (a.toNat : Int)) = num [a, b] := by
  have ha := a.toNat_lt
  have hb := b.toNat_lt
  simp only [num]
  rw [IntWalk.wrap64_in (a.toNat : Int) ⟨by omega, by omega⟩, IntWalk.wrap64_in (b.toNat : Int) ⟨by omega, by omega⟩, or0 (b.toNat : Int) (by omega) (by omega), IntWalk.wrap64_in ((b.toNat : Int) * 256) ⟨by omega, by omega⟩, or8 ((b.toNat : Int) * 256) (a.toNat : Int) (by omega) (by omega) (by omega) (by omega) (by omega)]
  omega

set_option maxHeartbeats 400000 in
theorem get_at2 (a b : UInt8) (w : World) :
    Calls Try.prog 25 #[.string ⟨#[a, b]⟩] w fun e w' => e = .returned (.tuple #[.int .i64 (num [a, b]), .int .i64 0]) ∧ w' = w := by
  rw [← or_at2 a b]
  go_enter Try.func25, Try.ntmps25
  go_wp2
  refine wp_loop_rounds 3 ?_
  rw [rounds_succ]
  go_wp2
  rw [rounds_succ]
  go_wp2
  rw [rounds_succ]
  go_wp2
  go_ret2
  exact ⟨rfl, rfl⟩

theorem or_at3 (a b c : UInt8) : bits .or .i64 (wrap64 ((bits .or .i64 (wrap64 ((bits .or .i64 (0) (wrap64 (c.toNat : Int))) * 256)) (wrap64 (b.toNat : Int))) * 256)) (wrap64 (a.toNat : Int)) = num [a, b, c] := by
  have ha := a.toNat_lt
  have hb := b.toNat_lt
  have hc := c.toNat_lt
  simp only [num]
  rw [IntWalk.wrap64_in (a.toNat : Int) ⟨by omega, by omega⟩, IntWalk.wrap64_in (b.toNat : Int) ⟨by omega, by omega⟩, IntWalk.wrap64_in (c.toNat : Int) ⟨by omega, by omega⟩, or0 (c.toNat : Int) (by omega) (by omega), IntWalk.wrap64_in ((c.toNat : Int) * 256) ⟨by omega, by omega⟩, or8 ((c.toNat : Int) * 256) (b.toNat : Int) (by omega) (by omega) (by omega) (by omega) (by omega), IntWalk.wrap64_in (((c.toNat : Int) * 256 + (b.toNat : Int)) * 256) ⟨by omega, by omega⟩, or8 (((c.toNat : Int) * 256 + (b.toNat : Int)) * 256) (a.toNat : Int) (by omega) (by omega) (by omega) (by omega) (by omega)]
  omega

set_option maxHeartbeats 400000 in
theorem get_at3 (a b c : UInt8) (w : World) :
    Calls Try.prog 25 #[.string ⟨#[a, b, c]⟩] w fun e w' => e = .returned (.tuple #[.int .i64 (num [a, b, c]), .int .i64 0]) ∧ w' = w := by
  rw [← or_at3 a b c]
  go_enter Try.func25, Try.ntmps25
  go_wp2
  refine wp_loop_rounds 4 ?_
  rw [rounds_succ]
  go_wp2
  rw [rounds_succ]
  go_wp2
  rw [rounds_succ]
  go_wp2
  rw [rounds_succ]
  go_wp2
  go_ret2
  exact ⟨rfl, rfl⟩

theorem or_at4 (a b c d : UInt8) : bits .or .i64 (wrap64 ((bits .or .i64 (wrap64 ((bits .or .i64 (wrap64 ((bits .or .i64 (0) (wrap64 (d.toNat : Int))) * 256)) (wrap64 (c.toNat : Int))) * 256)) (wrap64 (b.toNat : Int))) * 256)) (wrap64 (a.toNat : Int)) = num [a, b, c, d] := by
  have ha := a.toNat_lt
  have hb := b.toNat_lt
  have hc := c.toNat_lt
  have hd := d.toNat_lt
  simp only [num]
  rw [IntWalk.wrap64_in (a.toNat : Int) ⟨by omega, by omega⟩, IntWalk.wrap64_in (b.toNat : Int) ⟨by omega, by omega⟩, IntWalk.wrap64_in (c.toNat : Int) ⟨by omega, by omega⟩, IntWalk.wrap64_in (d.toNat : Int) ⟨by omega, by omega⟩, or0 (d.toNat : Int) (by omega) (by omega), IntWalk.wrap64_in ((d.toNat : Int) * 256) ⟨by omega, by omega⟩, or8 ((d.toNat : Int) * 256) (c.toNat : Int) (by omega) (by omega) (by omega) (by omega) (by omega), IntWalk.wrap64_in (((d.toNat : Int) * 256 + (c.toNat : Int)) * 256) ⟨by omega, by omega⟩, or8 (((d.toNat : Int) * 256 + (c.toNat : Int)) * 256) (b.toNat : Int) (by omega) (by omega) (by omega) (by omega) (by omega), IntWalk.wrap64_in ((((d.toNat : Int) * 256 + (c.toNat : Int)) * 256 + (b.toNat : Int)) * 256) ⟨by omega, by omega⟩, or8 ((((d.toNat : Int) * 256 + (c.toNat : Int)) * 256 + (b.toNat : Int)) * 256) (a.toNat : Int) (by omega) (by omega) (by omega) (by omega) (by omega)]
  omega

set_option maxHeartbeats 400000 in
theorem get_at4 (a b c d : UInt8) (w : World) :
    Calls Try.prog 25 #[.string ⟨#[a, b, c, d]⟩] w fun e w' => e = .returned (.tuple #[.int .i64 (num [a, b, c, d]), .int .i64 0]) ∧ w' = w := by
  rw [← or_at4 a b c d]
  go_enter Try.func25, Try.ntmps25
  go_wp2
  refine wp_loop_rounds 5 ?_
  rw [rounds_succ]
  go_wp2
  rw [rounds_succ]
  go_wp2
  rw [rounds_succ]
  go_wp2
  rw [rounds_succ]
  go_wp2
  rw [rounds_succ]
  go_wp2
  go_ret2
  exact ⟨rfl, rfl⟩

/-- GetField at a text of 1 to 4 bytes. -/
theorem get_ok (s : ByteArray) (h1 : 1 ≤ s.size) (h2 : s.size ≤ 4) (w : World) :
    Calls Try.prog 25 #[.string s] w fun e w' => e = .returned (.tuple #[.int .i64 (num s.data.toList), .int .i64 0]) ∧ w' = w := by
  obtain ⟨⟨l⟩⟩ := s
  have hl : (ByteArray.mk ⟨l⟩).size = l.length := rfl
  rw [hl] at h1 h2
  match l, h1, h2 with
  | [a], _, _ => exact get_at1 a w
  | [a, b], _, _ => exact get_at2 a b w
  | [a, b, c], _, _ => exact get_at3 a b c w
  | [a, b, c, d], _, _ => exact get_at4 a b c d w

set_option maxHeartbeats 400000 in
/-- GetField at a text of no byte, or of more than 4. -/
theorem get_no (s : ByteArray) (hs : s.size ≤ maxLen) (h : s.size < 1 ∨ 4 < s.size) (w : World) :
    Calls Try.prog 25 #[.string s] w fun e w' => e = .returned (.tuple #[.int .i64 0, .int .i64 100]) ∧ w' = w := by
  unfold maxLen at hs
  rcases h with h | h
  · have h0 : (s.size : Int) < 1 := by omega
    go_enter Try.func25, Try.ntmps25
    go_wp2
    go_ret2
    exact ⟨rfl, rfl⟩
  · have h0 : 1 ≤ (s.size : Int) := by omega
    have h1 : decide ((s.size : Int) ≤ 4) = false := by simp; omega
    go_enter Try.func25, Try.ntmps25
    go_wp2
    go_ret2
    exact ⟨rfl, rfl⟩

end Go.Proofs.Ythbjjjpleongbaa.Ref
