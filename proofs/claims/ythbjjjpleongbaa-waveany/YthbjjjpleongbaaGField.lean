/-
  The contracts of package field's Put and Get: what each call answers, for every number, count of bytes and text; what was there stays. No condition but that a number is an int.
-/
import Derived.Test.YthbjjjpleongbaaRows
import Derived.Test.YthbjjjpleongbaaNum
import Derived.Test.YthbjjjpleongbaaGRow
import Derived.WalkKit
import Derived.ProofKit
import Derived.WalkLawsBesides
import Derived.WalkSpells
namespace Go.Proofs.Ythbjjjpleongbaa.Field
open Go.RowKit Go.Proofs.Ythbjjjpleongbaa.Num Go.Proofs.Ythbjjjpleongbaa.Mod
set_option linter.unusedVariables false

theorem mk1 (w : World) : (Instr.makeSlice 39 (.int .i64 1) (.int .i64 1)).run Try.prog w = .ok (.slice (some ⟨w.heap.size, 0, none⟩) 1 1) (w.alloc (.cells #[.int .u8 0] 5)) := by kernel_rfl
theorem cv1 (w : World) (a : Int) : (convert 39 9 (.slice (some ⟨w.heap.size, 0, none⟩) 1 1)).run Try.prog (w.alloc (.cells #[.int .u8 a] 5)) = .ok (.string (strOfNums [a])) (w.alloc (.cells #[.int .u8 a] 5)) := by
  refine run_convert_bytes_arg (P := Try.prog) _ 39 5 Try.underlying39 Try.underlying5 w.heap.size 0 1 1 [a] rfl ?_ 9 Try.underlying9
  intro i hi
  match i, hi with
  | 0, _ => simp

theorem mk2 (w : World) : (Instr.makeSlice 39 (.int .i64 2) (.int .i64 2)).run Try.prog w = .ok (.slice (some ⟨w.heap.size, 0, none⟩) 2 2) (w.alloc (.cells #[.int .u8 0, .int .u8 0] 5)) := by kernel_rfl
theorem cv2 (w : World) (a b : Int) : (convert 39 9 (.slice (some ⟨w.heap.size, 0, none⟩) 2 2)).run Try.prog (w.alloc (.cells #[.int .u8 a, .int .u8 b] 5)) = .ok (.string (strOfNums [a, b])) (w.alloc (.cells #[.int .u8 a, .int .u8 b] 5)) := by
  refine run_convert_bytes_arg (P := Try.prog) _ 39 5 Try.underlying39 Try.underlying5 w.heap.size 0 2 2 [a, b] rfl ?_ 9 Try.underlying9
  intro i hi
  match i, hi with
  | 0, _ => simp
  | 1, _ => simp

theorem mk3 (w : World) : (Instr.makeSlice 39 (.int .i64 3) (.int .i64 3)).run Try.prog w = .ok (.slice (some ⟨w.heap.size, 0, none⟩) 3 3) (w.alloc (.cells #[.int .u8 0, .int .u8 0, .int .u8 0] 5)) := by kernel_rfl
theorem cv3 (w : World) (a b c : Int) : (convert 39 9 (.slice (some ⟨w.heap.size, 0, none⟩) 3 3)).run Try.prog (w.alloc (.cells #[.int .u8 a, .int .u8 b, .int .u8 c] 5)) = .ok (.string (strOfNums [a, b, c])) (w.alloc (.cells #[.int .u8 a, .int .u8 b, .int .u8 c] 5)) := by
  refine run_convert_bytes_arg (P := Try.prog) _ 39 5 Try.underlying39 Try.underlying5 w.heap.size 0 3 3 [a, b, c] rfl ?_ 9 Try.underlying9
  intro i hi
  match i, hi with
  | 0, _ => simp
  | 1, _ => simp
  | 2, _ => simp

theorem mk4 (w : World) : (Instr.makeSlice 39 (.int .i64 4) (.int .i64 4)).run Try.prog w = .ok (.slice (some ⟨w.heap.size, 0, none⟩) 4 4) (w.alloc (.cells #[.int .u8 0, .int .u8 0, .int .u8 0, .int .u8 0] 5)) := by kernel_rfl
theorem cv4 (w : World) (a b c d : Int) : (convert 39 9 (.slice (some ⟨w.heap.size, 0, none⟩) 4 4)).run Try.prog (w.alloc (.cells #[.int .u8 a, .int .u8 b, .int .u8 c, .int .u8 d] 5)) = .ok (.string (strOfNums [a, b, c, d])) (w.alloc (.cells #[.int .u8 a, .int .u8 b, .int .u8 c, .int .u8 d] 5)) := by
  refine run_convert_bytes_arg (P := Try.prog) _ 39 5 Try.underlying39 Try.underlying5 w.heap.size 0 4 4 [a, b, c, d] rfl ?_ 9 Try.underlying9
  intro i hi
  match i, hi with
  | 0, _ => simp
  | 1, _ => simp
  | 2, _ => simp
  | 3, _ => simp

theorem low_at1 (x : Int) (h : 0 ≤ x) (h' : x < 256) : [x] = low 1 x := by
  simp only [low, List.cons.injEq, and_true]
  omega

theorem low_at2 (x : Int) (h : 0 ≤ x) (h' : x < 65536) : [x % 256, x / 256] = low 2 x := by
  simp only [low, List.cons.injEq, and_true, true_and]
  omega

theorem low_at3 (x : Int) (h : 0 ≤ x) (h' : x < 16777216) : [x % 256, x / 256 % 256, x / 65536] = low 3 x := by
  simp only [low, List.cons.injEq, and_true, true_and]
  omega

theorem low_at4 (x : Int) (h : 0 ≤ x) (h' : x < 4294967296) : [x % 256, x / 256 % 256, x / 65536 % 256, x / 16777216] = low 4 x := by
  simp only [low, List.cons.injEq, and_true, true_and]
  omega

theorem four {k : Int} (h1 : 1 ≤ k) (h2 : k ≤ 4) : k = 1 ∨ k = 2 ∨ k = 3 ∨ k = 4 := by omega

theorem or_at1 (a : UInt8) : bits .or .i64 0 (wrap64 (wrap64 (a.toNat : Int))) = num [a] := by
  have ha := a.toNat_lt
  simp only [num]
  rw [IntWalk.wrap64_in (a.toNat : Int) ⟨by omega, by omega⟩, IntWalk.wrap64_in (a.toNat : Int) ⟨by omega, by omega⟩, or0 _ (by omega) (by omega)]
  omega

set_option maxHeartbeats 400000 in
theorem get_at1 (a : UInt8) (w : World) :
    Calls Try.prog 41 #[.string ⟨#[a]⟩] w fun e w' => e = .returned (.tuple #[.int .i64 (num [a]), .int .i64 0]) ∧ w' = w := by
  rw [← or_at1 a]
  go_enter Try.func41, Try.ntmps41
  go_wp2
  refine wp_loop_rounds 2 ?_
  rw [rounds_succ]
  go_wp2
  rw [rounds_succ]
  go_wp2
  go_ret2
  exact ⟨rfl, rfl⟩

theorem or_at2 (a b : UInt8) : bits .or .i64 (bits .or .i64 0 (wrap64 (wrap64 (a.toNat : Int)))) (wrap64 (wrap64 (b.toNat : Int) * 256)) = num [a, b] := by
  have ha := a.toNat_lt
  have hb := b.toNat_lt
  simp only [num]
  rw [IntWalk.wrap64_in (a.toNat : Int) ⟨by omega, by omega⟩, IntWalk.wrap64_in (b.toNat : Int) ⟨by omega, by omega⟩, IntWalk.wrap64_in (a.toNat : Int) ⟨by omega, by omega⟩, or0 _ (by omega) (by omega), IntWalk.wrap64_in ((b.toNat : Int) * 256) ⟨by omega, by omega⟩, or8' ((b.toNat : Int) * 256) ((a.toNat : Int)) (by omega) (by omega) (by omega) (by omega) (by omega)]
  omega

set_option maxHeartbeats 400000 in
theorem get_at2 (a b : UInt8) (w : World) :
    Calls Try.prog 41 #[.string ⟨#[a, b]⟩] w fun e w' => e = .returned (.tuple #[.int .i64 (num [a, b]), .int .i64 0]) ∧ w' = w := by
  rw [← or_at2 a b]
  go_enter Try.func41, Try.ntmps41
  go_wp2
  refine wp_loop_rounds 3 ?_
  rw [rounds_succ]
  go_wp2
  rw [rounds_succ]
  go_wp2
  rw [rounds_succ]
  go_wp2
  go_ret2
  exact ⟨rfl, rfl⟩

theorem or_at3 (a b c : UInt8) : bits .or .i64 (bits .or .i64 (bits .or .i64 0 (wrap64 (wrap64 (a.toNat : Int)))) (wrap64 (wrap64 (b.toNat : Int) * 256))) (wrap64 (wrap64 (c.toNat : Int) * 65536)) = num [a, b, c] := by
  have ha := a.toNat_lt
  have hb := b.toNat_lt
  have hc := c.toNat_lt
  simp only [num]
  rw [IntWalk.wrap64_in (a.toNat : Int) ⟨by omega, by omega⟩, IntWalk.wrap64_in (b.toNat : Int) ⟨by omega, by omega⟩, IntWalk.wrap64_in (c.toNat : Int) ⟨by omega, by omega⟩, IntWalk.wrap64_in (a.toNat : Int) ⟨by omega, by omega⟩, or0 _ (by omega) (by omega), IntWalk.wrap64_in ((b.toNat : Int) * 256) ⟨by omega, by omega⟩, IntWalk.wrap64_in ((c.toNat : Int) * 65536) ⟨by omega, by omega⟩, or8' ((b.toNat : Int) * 256) ((a.toNat : Int)) (by omega) (by omega) (by omega) (by omega) (by omega), or16' ((c.toNat : Int) * 65536) ((a.toNat : Int) + (b.toNat : Int) * 256) (by omega) (by omega) (by omega) (by omega) (by omega)]
  omega

set_option maxHeartbeats 400000 in
theorem get_at3 (a b c : UInt8) (w : World) :
    Calls Try.prog 41 #[.string ⟨#[a, b, c]⟩] w fun e w' => e = .returned (.tuple #[.int .i64 (num [a, b, c]), .int .i64 0]) ∧ w' = w := by
  rw [← or_at3 a b c]
  go_enter Try.func41, Try.ntmps41
  go_wp2
  refine wp_loop_rounds 4 ?_
  rw [rounds_succ]
  go_wp2
  rw [rounds_succ]
  go_wp2
  rw [rounds_succ]
  go_wp2
  rw [rounds_succ]
  go_wp2
  go_ret2
  exact ⟨rfl, rfl⟩

theorem or_at4 (a b c d : UInt8) : bits .or .i64 (bits .or .i64 (bits .or .i64 (bits .or .i64 0 (wrap64 (wrap64 (a.toNat : Int)))) (wrap64 (wrap64 (b.toNat : Int) * 256))) (wrap64 (wrap64 (c.toNat : Int) * 65536))) (wrap64 (wrap64 (d.toNat : Int) * 16777216)) = num [a, b, c, d] := by
  have ha := a.toNat_lt
  have hb := b.toNat_lt
  have hc := c.toNat_lt
  have hd := d.toNat_lt
  simp only [num]
  rw [IntWalk.wrap64_in (a.toNat : Int) ⟨by omega, by omega⟩, IntWalk.wrap64_in (b.toNat : Int) ⟨by omega, by omega⟩, IntWalk.wrap64_in (c.toNat : Int) ⟨by omega, by omega⟩, IntWalk.wrap64_in (d.toNat : Int) ⟨by omega, by omega⟩, IntWalk.wrap64_in (a.toNat : Int) ⟨by omega, by omega⟩, or0 _ (by omega) (by omega), IntWalk.wrap64_in ((b.toNat : Int) * 256) ⟨by omega, by omega⟩, IntWalk.wrap64_in ((c.toNat : Int) * 65536) ⟨by omega, by omega⟩, IntWalk.wrap64_in ((d.toNat : Int) * 16777216) ⟨by omega, by omega⟩, or8' ((b.toNat : Int) * 256) ((a.toNat : Int)) (by omega) (by omega) (by omega) (by omega) (by omega), or16' ((c.toNat : Int) * 65536) ((a.toNat : Int) + (b.toNat : Int) * 256) (by omega) (by omega) (by omega) (by omega) (by omega), or24' ((d.toNat : Int) * 16777216) ((a.toNat : Int) + (b.toNat : Int) * 256 + (c.toNat : Int) * 65536) (by omega) (by omega) (by omega) (by omega) (by omega)]
  omega

set_option maxHeartbeats 400000 in
theorem get_at4 (a b c d : UInt8) (w : World) :
    Calls Try.prog 41 #[.string ⟨#[a, b, c, d]⟩] w fun e w' => e = .returned (.tuple #[.int .i64 (num [a, b, c, d]), .int .i64 0]) ∧ w' = w := by
  rw [← or_at4 a b c d]
  go_enter Try.func41, Try.ntmps41
  go_wp2
  refine wp_loop_rounds 5 ?_
  rw [rounds_succ]
  go_wp2
  rw [rounds_succ]
  go_wp2
  rw [rounds_succ]
  go_wp2
  rw [rounds_succ]
  go_wp2
  rw [rounds_succ]
  go_wp2
  go_ret2
  exact ⟨rfl, rfl⟩

/-- Get at a text of 1 to 4 bytes. -/
theorem get_ok (s : ByteArray) (h1 : 1 ≤ s.size) (h2 : s.size ≤ 4) (w : World) :
    Calls Try.prog 41 #[.string s] w fun e w' => e = .returned (.tuple #[.int .i64 (num s.data.toList), .int .i64 0]) ∧ w' = w := by
  obtain ⟨⟨l⟩⟩ := s
  have hl : (ByteArray.mk ⟨l⟩).size = l.length := rfl
  rw [hl] at h1 h2
  match l, h1, h2 with
  | [a], _, _ => exact get_at1 a w
  | [a, b], _, _ => exact get_at2 a b w
  | [a, b, c], _, _ => exact get_at3 a b c w
  | [a, b, c, d], _, _ => exact get_at4 a b c d w

set_option maxHeartbeats 400000 in
/-- Get at a text of no byte, or of more than 4. -/
theorem get_no (s : ByteArray) (hs : s.size ≤ maxLen) (h : s.size < 1 ∨ 4 < s.size) (w : World) :
    Calls Try.prog 41 #[.string s] w fun e w' => e = .returned (.tuple #[.int .i64 0, .int .i64 100]) ∧ w' = w := by
  unfold maxLen at hs
  rcases h with h | h
  · have h0 : (s.size : Int) < 1 := by omega
    go_enter Try.func41, Try.ntmps41
    go_wp2
    go_ret2
    exact ⟨rfl, rfl⟩
  · have h0 : 1 ≤ (s.size : Int) := by omega
    have h1 : decide ((s.size : Int) ≤ 4) = false := by simp; omega
    go_enter Try.func41, Try.ntmps41
    go_wp2
    go_ret2
    exact ⟨rfl, rfl⟩

end Go.Proofs.Ythbjjjpleongbaa.Field
