/-
  The contracts of package field's Put and Get: what each call answers, for every number, count of bytes and text; what was there stays. No condition but that a number is an int.
-/
import Derived.Test.YtpakcajdbibbbaaRows
import Derived.Test.YtpakcajdbibbbaaNum
import Derived.Test.YtpakcajdbibbbaaGRow
import Derived.WalkKit
import Derived.ProofKit
import Derived.WalkLawsBesides
import Derived.WalkSpells
namespace Go.Proofs.Ytpakcajdbibbbaa.Field
open Go.RowKit Go.Proofs.Ytpakcajdbibbbaa.Num Go.Proofs.Ytpakcajdbibbbaa.Mod
set_option linter.unusedVariables false

theorem mk1 (w : World) : (Instr.makeSlice 43 (.int .i64 1) (.int .i64 1)).run Try.prog w = .ok (.slice (some ⟨w.heap.size, 0, none⟩) 1 1) (w.alloc (.cells #[.int .u8 0] 5)) := by kernel_rfl
theorem cv1 (w : World) (a : Int) : (convert 43 9 (.slice (some ⟨w.heap.size, 0, none⟩) 1 1)).run Try.prog (w.alloc (.cells #[.int .u8 a] 5)) = .ok (.string (strOfNums [a])) (w.alloc (.cells #[.int .u8 a] 5)) := by
  refine run_convert_bytes_arg (P := Try.prog) _ 43 5 Try.underlying43 Try.underlying5 w.heap.size 0 1 1 [a] rfl ?_ 9 Try.underlying9
  intro i hi
  match i, hi with
  | 0, _ => simp

theorem mk2 (w : World) : (Instr.makeSlice 43 (.int .i64 2) (.int .i64 2)).run Try.prog w = .ok (.slice (some ⟨w.heap.size, 0, none⟩) 2 2) (w.alloc (.cells #[.int .u8 0, .int .u8 0] 5)) := by kernel_rfl
theorem cv2 (w : World) (a b : Int) : (convert 43 9 (.slice (some ⟨w.heap.size, 0, none⟩) 2 2)).run Try.prog (w.alloc (.cells #[.int .u8 a, .int .u8 b] 5)) = .ok (.string (strOfNums [a, b])) (w.alloc (.cells #[.int .u8 a, .int .u8 b] 5)) := by
  refine run_convert_bytes_arg (P := Try.prog) _ 43 5 Try.underlying43 Try.underlying5 w.heap.size 0 2 2 [a, b] rfl ?_ 9 Try.underlying9
  intro i hi
  match i, hi with
  | 0, _ => simp
  | 1, _ => simp

theorem mk3 (w : World) : (Instr.makeSlice 43 (.int .i64 3) (.int .i64 3)).run Try.prog w = .ok (.slice (some ⟨w.heap.size, 0, none⟩) 3 3) (w.alloc (.cells #[.int .u8 0, .int .u8 0, .int .u8 0] 5)) := by kernel_rfl
theorem cv3 (w : World) (a b c : Int) : (convert 43 9 (.slice (some ⟨w.heap.size, 0, none⟩) 3 3)).run Try.prog (w.alloc (.cells #[.int .u8 a, .int .u8 b, .int .u8 c] 5)) = .ok (.string (strOfNums [a, b, c])) (w.alloc (.cells #[.int .u8 a, .int .u8 b, .int .u8 c] 5)) := by
  refine run_convert_bytes_arg (P := Try.prog) _ 43 5 Try.underlying43 Try.underlying5 w.heap.size 0 3 3 [a, b, c] rfl ?_ 9 Try.underlying9
  intro i hi
  match i, hi with
  | 0, _ => simp
  | 1, _ => simp
  | 2, _ => simp

theorem mk4 (w : World) : (Instr.makeSlice 43 (.int .i64 4) (.int .i64 4)).run Try.prog w = .ok (.slice (some ⟨w.heap.size, 0, none⟩) 4 4) (w.alloc (.cells #[.int .u8 0, .int .u8 0, .int .u8 0, .int .u8 0] 5)) := by kernel_rfl
theorem cv4 (w : World) (a b c d : Int) : (convert 43 9 (.slice (some ⟨w.heap.size, 0, none⟩) 4 4)).run Try.prog (w.alloc (.cells #[.int .u8 a, .int .u8 b, .int .u8 c, .int .u8 d] 5)) = .ok (.string (strOfNums [a, b, c, d])) (w.alloc (.cells #[.int .u8 a, .int .u8 b, .int .u8 c, .int .u8 d] 5)) := by
  refine run_convert_bytes_arg (P := Try.prog) _ 43 5 Try.underlying43 Try.underlying5 w.heap.size 0 4 4 [a, b, c, d] rfl ?_ 9 Try.underlying9
  intro i hi
  match i, hi with
  | 0, _ => simp
  | 1, _ => simp
  | 2, _ => simp
  | 3, _ => simp

set_option maxHeartbeats 400000 in
theorem put_many (x k : Int) (h : k < 1 ∨ 4 < k) (w : World) :
    Calls Try.prog 25 #[.int .i64 x, .int .i64 k] w fun e w' => e = .returned (.tuple #[.string ByteArray.empty, .int .i64 100]) ∧ Bel w w' := by
  rcases h with h | h
  · go_enter Try.func25, Try.ntmps25
    go_wp2
    go_ret2
    exact ⟨rfl, Bel.refl _⟩
  · have h1 : 1 ≤ k := by omega
    go_enter Try.func25, Try.ntmps25
    go_wp2
    go_ret2
    exact ⟨rfl, Bel.refl _⟩

set_option maxHeartbeats 400000 in
theorem put_low1 (x : Int) (h : x < 0) (w : World) :
    Calls Try.prog 25 #[.int .i64 x, .int .i64 1] w fun e w' => e = .returned (.tuple #[.string ByteArray.empty, .int .i64 100]) ∧ Bel w w' := by
  go_enter Try.func25, Try.ntmps25
  go_wp2
  go_ret2
  exact ⟨rfl, Bel.refl _⟩

set_option maxHeartbeats 400000 in
theorem put_high1 (x : Int) (h : 256 ≤ x) (h' : x ≤ 9223372036854775807) (w : World) :
    Calls Try.prog 25 #[.int .i64 x, .int .i64 1] w fun e w' => e = .returned (.tuple #[.string ByteArray.empty, .int .i64 100]) ∧ Bel w w' := by
  have hx : (x / 256 == 0) = false := by simp; omega
  go_enter Try.func25, Try.ntmps25
  go_wp2
  go_ret2
  exact ⟨rfl, Bel.refl _⟩

set_option maxHeartbeats 400000 in
theorem put_at1 (x : Int) (h : 0 ≤ x) (h' : x < 256) (w : World) :
    Calls Try.prog 25 #[.int .i64 x, .int .i64 1] w fun e w' => e = .returned (.tuple #[.string (strOfNums [x]), .int .i64 0]) ∧ Bel w w' := by
  have hx : (x / 256 == 0) = true := by simp; omega
  have hmk := mk1
  have hcv := cv1 w (x)
  go_enter Try.func25, Try.ntmps25
  go_wp2
  refine wp_loop_rounds 2 ?_
  rw [rounds_succ]
  go_wp2
  rw [rounds_succ]
  go_wp2
  go_ret2
  exact ⟨rfl, (Bel.refl _).alloc _⟩

theorem low_at1 (x : Int) (h : 0 ≤ x) (h' : x < 256) : [x] = low 1 x := by
  simp only [low, List.cons.injEq, and_true]
  omega

set_option maxHeartbeats 400000 in
theorem put_low2 (x : Int) (h : x < 0) (w : World) :
    Calls Try.prog 25 #[.int .i64 x, .int .i64 2] w fun e w' => e = .returned (.tuple #[.string ByteArray.empty, .int .i64 100]) ∧ Bel w w' := by
  go_enter Try.func25, Try.ntmps25
  go_wp2
  go_ret2
  exact ⟨rfl, Bel.refl _⟩

set_option maxHeartbeats 400000 in
theorem put_high2 (x : Int) (h : 65536 ≤ x) (h' : x ≤ 9223372036854775807) (w : World) :
    Calls Try.prog 25 #[.int .i64 x, .int .i64 2] w fun e w' => e = .returned (.tuple #[.string ByteArray.empty, .int .i64 100]) ∧ Bel w w' := by
  have hx : (x / 65536 == 0) = false := by simp; omega
  go_enter Try.func25, Try.ntmps25
  go_wp2
  go_ret2
  exact ⟨rfl, Bel.refl _⟩

set_option maxHeartbeats 400000 in
theorem put_at2 (x : Int) (h : 0 ≤ x) (h' : x < 65536) (w : World) :
    Calls Try.prog 25 #[.int .i64 x, .int .i64 2] w fun e w' => e = .returned (.tuple #[.string (strOfNums [x % 256, x / 256]), .int .i64 0]) ∧ Bel w w' := by
  have hx : (x / 65536 == 0) = true := by simp; omega
  have hmk := mk2
  have hcv := cv2 w (x % 256) (x / 256)
  go_enter Try.func25, Try.ntmps25
  go_wp2
  refine wp_loop_rounds 3 ?_
  rw [rounds_succ]
  go_wp2
  rw [rounds_succ]
  go_wp2
  rw [rounds_succ]
  go_wp2
  go_ret2
  exact ⟨rfl, (Bel.refl _).alloc _⟩

theorem low_at2 (x : Int) (h : 0 ≤ x) (h' : x < 65536) : [x % 256, x / 256] = low 2 x := by
  simp only [low, List.cons.injEq, and_true, true_and]
  omega

set_option maxHeartbeats 400000 in
theorem put_low3 (x : Int) (h : x < 0) (w : World) :
    Calls Try.prog 25 #[.int .i64 x, .int .i64 3] w fun e w' => e = .returned (.tuple #[.string ByteArray.empty, .int .i64 100]) ∧ Bel w w' := by
  go_enter Try.func25, Try.ntmps25
  go_wp2
  go_ret2
  exact ⟨rfl, Bel.refl _⟩

set_option maxHeartbeats 400000 in
theorem put_high3 (x : Int) (h : 16777216 ≤ x) (h' : x ≤ 9223372036854775807) (w : World) :
    Calls Try.prog 25 #[.int .i64 x, .int .i64 3] w fun e w' => e = .returned (.tuple #[.string ByteArray.empty, .int .i64 100]) ∧ Bel w w' := by
  have hx : (x / 16777216 == 0) = false := by simp; omega
  go_enter Try.func25, Try.ntmps25
  go_wp2
  go_ret2
  exact ⟨rfl, Bel.refl _⟩

set_option maxHeartbeats 400000 in
theorem put_at3 (x : Int) (h : 0 ≤ x) (h' : x < 16777216) (w : World) :
    Calls Try.prog 25 #[.int .i64 x, .int .i64 3] w fun e w' => e = .returned (.tuple #[.string (strOfNums [x % 256, x / 256 % 256, x / 65536]), .int .i64 0]) ∧ Bel w w' := by
  have hx : (x / 16777216 == 0) = true := by simp; omega
  have hmk := mk3
  have hcv := cv3 w (x % 256) (x / 256 % 256) (x / 65536)
  go_enter Try.func25, Try.ntmps25
  go_wp2
  refine wp_loop_rounds 4 ?_
  rw [rounds_succ]
  go_wp2
  rw [rounds_succ]
  go_wp2
  rw [rounds_succ]
  go_wp2
  rw [rounds_succ]
  go_wp2
  go_ret2
  exact ⟨rfl, (Bel.refl _).alloc _⟩

theorem low_at3 (x : Int) (h : 0 ≤ x) (h' : x < 16777216) : [x % 256, x / 256 % 256, x / 65536] = low 3 x := by
  simp only [low, List.cons.injEq, and_true, true_and]
  omega

set_option maxHeartbeats 400000 in
theorem put_low4 (x : Int) (h : x < 0) (w : World) :
    Calls Try.prog 25 #[.int .i64 x, .int .i64 4] w fun e w' => e = .returned (.tuple #[.string ByteArray.empty, .int .i64 100]) ∧ Bel w w' := by
  go_enter Try.func25, Try.ntmps25
  go_wp2
  go_ret2
  exact ⟨rfl, Bel.refl _⟩

set_option maxHeartbeats 400000 in
theorem put_high4 (x : Int) (h : 4294967296 ≤ x) (h' : x ≤ 9223372036854775807) (w : World) :
    Calls Try.prog 25 #[.int .i64 x, .int .i64 4] w fun e w' => e = .returned (.tuple #[.string ByteArray.empty, .int .i64 100]) ∧ Bel w w' := by
  have hx : (x / 4294967296 == 0) = false := by simp; omega
  go_enter Try.func25, Try.ntmps25
  go_wp2
  go_ret2
  exact ⟨rfl, Bel.refl _⟩

set_option maxHeartbeats 400000 in
theorem put_at4 (x : Int) (h : 0 ≤ x) (h' : x < 4294967296) (w : World) :
    Calls Try.prog 25 #[.int .i64 x, .int .i64 4] w fun e w' => e = .returned (.tuple #[.string (strOfNums [x % 256, x / 256 % 256, x / 65536 % 256, x / 16777216]), .int .i64 0]) ∧ Bel w w' := by
  have hx : (x / 4294967296 == 0) = true := by simp; omega
  have hmk := mk4
  have hcv := cv4 w (x % 256) (x / 256 % 256) (x / 65536 % 256) (x / 16777216)
  go_enter Try.func25, Try.ntmps25
  go_wp2
  refine wp_loop_rounds 5 ?_
  rw [rounds_succ]
  go_wp2
  rw [rounds_succ]
  go_wp2
  rw [rounds_succ]
  go_wp2
  rw [rounds_succ]
  go_wp2
  rw [rounds_succ]
  go_wp2
  go_ret2
  exact ⟨rfl, (Bel.refl _).alloc _⟩

theorem low_at4 (x : Int) (h : 0 ≤ x) (h' : x < 4294967296) : [x % 256, x / 256 % 256, x / 65536 % 256, x / 16777216] = low 4 x := by
  simp only [low, List.cons.injEq, and_true, true_and]
  omega

theorem four {k : Int} (h1 : 1 ≤ k) (h2 : k ≤ 4) : k = 1 ∨ k = 2 ∨ k = 3 ∨ k = 4 := by omega

/-- Put at a count of bytes and a number that may be. -/
theorem put_ok (x k : Int) (h1 : 1 ≤ k) (h2 : k ≤ 4) (h3 : 0 ≤ x) (h4 : x < 256 ^ k.toNat) (w : World) :
    Calls Try.prog 25 #[.int .i64 x, .int .i64 k] w fun e w' => e = .returned (.tuple #[.string (strOfNums (low k.toNat x)), .int .i64 0]) ∧ Bel w w' := by
  rcases four h1 h2 with rfl | rfl | rfl | rfl
  · have h5 : x < 256 := by simpa using h4
    rw [show ((1 : Int).toNat) = 1 from rfl, ← low_at1 x h3 h5]
    exact put_at1 x h3 h5 w
  · have h5 : x < 65536 := by simpa using h4
    rw [show ((2 : Int).toNat) = 2 from rfl, ← low_at2 x h3 h5]
    exact put_at2 x h3 h5 w
  · have h5 : x < 16777216 := by simpa using h4
    rw [show ((3 : Int).toNat) = 3 from rfl, ← low_at3 x h3 h5]
    exact put_at3 x h3 h5 w
  · have h5 : x < 4294967296 := by simpa using h4
    rw [show ((4 : Int).toNat) = 4 from rfl, ← low_at4 x h3 h5]
    exact put_at4 x h3 h5 w

/-- Put at a count of bytes or a number that may not be. -/
theorem put_no (x k : Int) (hx : x ≤ 9223372036854775807) (h : k < 1 ∨ 4 < k ∨ x < 0 ∨ (1 ≤ k ∧ k ≤ 4 ∧ 256 ^ k.toNat ≤ x)) (w : World) :
    Calls Try.prog 25 #[.int .i64 x, .int .i64 k] w fun e w' => e = .returned (.tuple #[.string ByteArray.empty, .int .i64 100]) ∧ Bel w w' := by
  by_cases hk : k < 1 ∨ 4 < k
  · exact put_many x k hk w
  · rcases four (k := k) (by omega) (by omega) with rfl | rfl | rfl | rfl
    · by_cases hl : x < 0
      · exact put_low1 x hl w
      · refine put_high1 x ?_ hx w
        rcases h with h | h | h | ⟨_, _, h⟩
        · omega
        · omega
        · omega
        · simpa using h
    · by_cases hl : x < 0
      · exact put_low2 x hl w
      · refine put_high2 x ?_ hx w
        rcases h with h | h | h | ⟨_, _, h⟩
        · omega
        · omega
        · omega
        · simpa using h
    · by_cases hl : x < 0
      · exact put_low3 x hl w
      · refine put_high3 x ?_ hx w
        rcases h with h | h | h | ⟨_, _, h⟩
        · omega
        · omega
        · omega
        · simpa using h
    · by_cases hl : x < 0
      · exact put_low4 x hl w
      · refine put_high4 x ?_ hx w
        rcases h with h | h | h | ⟨_, _, h⟩
        · omega
        · omega
        · omega
        · simpa using h

theorem or_at1 (a : UInt8) : bits .or .i64 0 (wrap64 (wrap64 (a.toNat : Int))) = num [a] := by
  have ha := a.toNat_lt
  simp only [num]
  rw [IntWalk.wrap64_in (a.toNat : Int) ⟨by omega, by omega⟩, IntWalk.wrap64_in (a.toNat : Int) ⟨by omega, by omega⟩, or0 _ (by omega) (by omega)]
  omega

set_option maxHeartbeats 400000 in
theorem get_at1 (a : UInt8) (w : World) :
    Calls Try.prog 20 #[.string ⟨#[a]⟩] w fun e w' => e = .returned (.tuple #[.int .i64 (num [a]), .int .i64 0]) ∧ w' = w := by
  rw [← or_at1 a]
  go_enter Try.func20, Try.ntmps20
  go_wp2
  refine wp_loop_rounds 2 ?_
  rw [rounds_succ]
  go_wp2
  rw [rounds_succ]
  go_wp2
  go_ret2
  exact ⟨rfl, rfl⟩

theorem or_at2 (a b : UInt8) : bits .or .i64 (bits .or .i64 0 (wrap64 (wrap64 (a.toNat : Int)))) (wrap64 (wrap64 (b.toNat : Int) * 256)) = num [a, b] := by
  have ha := a.toNat_lt
  have hb := b.toNat_lt
  simp only [num]
  rw [IntWalk.wrap64_in (a.toNat : Int) ⟨by omega, by omega⟩, IntWalk.wrap64_in (b.toNat : Int) ⟨by omega, by omega⟩, IntWalk.wrap64_in (a.toNat : Int) ⟨by omega, by omega⟩, or0 _ (by omega) (by omega), IntWalk.wrap64_in ((b.toNat : Int) * 256) ⟨by omega, by omega⟩, or8' ((b.toNat : Int) * 256) ((a.toNat : Int)) (by omega) (by omega) (by omega) (by omega) (by omega)]
  omega

set_option maxHeartbeats 400000 in
theorem get_at2 (a b : UInt8) (w : World) :
    Calls Try.prog 20 #[.string ⟨#[a, b]⟩] w fun e w' => e = .returned (.tuple #[.int .i64 (num [a, b]), .int .i64 0]) ∧ w' = w := by
  rw [← or_at2 a b]
  go_enter Try.func20, Try.ntmps20
  go_wp2
  refine wp_loop_rounds 3 ?_
  rw [rounds_succ]
  go_wp2
  rw [rounds_succ]
  go_wp2
  rw [rounds_succ]
  go_wp2
  go_ret2
  exact ⟨rfl, rfl⟩

theorem or_at3 (a b c : UInt8) : bits .or .i64 (bits .or .i64 (bits .or .i64 0 (wrap64 (wrap64 (a.toNat : Int)))) (wrap64 (wrap64 (b.toNat : Int) * 256))) (wrap64 (wrap64 (c.toNat : Int) * 65536)) = num [a, b, c] := by
  have ha := a.toNat_lt
  have hb := b.toNat_lt
  have hc := c.toNat_lt
  simp only [num]
  rw [IntWalk.wrap64_in (a.toNat : Int) ⟨by omega, by omega⟩, IntWalk.wrap64_in (b.toNat : Int) ⟨by omega, by omega⟩, IntWalk.wrap64_in (c.toNat : Int) ⟨by omega, by omega⟩, IntWalk.wrap64_in (a.toNat : Int) ⟨by omega, by omega⟩, or0 _ (by omega) (by omega), IntWalk.wrap64_in ((b.toNat : Int) * 256) ⟨by omega, by omega⟩, IntWalk.wrap64_in ((c.toNat : Int) * 65536) ⟨by omega, by omega⟩, or8' ((b.toNat : Int) * 256) ((a.toNat : Int)) (by omega) (by omega) (by omega) (by omega) (by omega), or16' ((c.toNat : Int) * 65536) ((a.toNat : Int) + (b.toNat : Int) * 256) (by omega) (by omega) (by omega) (by omega) (by omega)]
  omega

set_option maxHeartbeats 400000 in
theorem get_at3 (a b c : UInt8) (w : World) :
    Calls Try.prog 20 #[.string ⟨#[a, b, c]⟩] w fun e w' => e = .returned (.tuple #[.int .i64 (num [a, b, c]), .int .i64 0]) ∧ w' = w := by
  rw [← or_at3 a b c]
  go_enter Try.func20, Try.ntmps20
  go_wp2
  refine wp_loop_rounds 4 ?_
  rw [rounds_succ]
  go_wp2
  rw [rounds_succ]
  go_wp2
  rw [rounds_succ]
  go_wp2
  rw [rounds_succ]
  go_wp2
  go_ret2
  exact ⟨rfl, rfl⟩

theorem or_at4 (a b c d : UInt8) : bits .or .i64 (bits .or .i64 (bits .or .i64 (bits .or .i64 0 (wrap64 (wrap64 (a.toNat : Int)))) (wrap64 (wrap64 (b.toNat : Int) * 256))) (wrap64 (wrap64 (c.toNat : Int) * 65536))) (wrap64 (wrap64 (d.toNat : Int) * 16777216)) = num [a, b, c, d] := by
  have ha := a.toNat_lt
  have hb := b.toNat_lt
  have hc := c.toNat_lt
  have hd := d.toNat_lt
  simp only [num]
  rw [IntWalk.wrap64_in (a.toNat : Int) ⟨by omega, by omega⟩, IntWalk.wrap64_in (b.toNat : Int) ⟨by omega, by omega⟩, IntWalk.wrap64_in (c.toNat : Int) ⟨by omega, by omega⟩, IntWalk.wrap64_in (d.toNat : Int) ⟨by omega, by omega⟩, IntWalk.wrap64_in (a.toNat : Int) ⟨by omega, by omega⟩, or0 _ (by omega) (by omega), IntWalk.wrap64_in ((b.toNat : Int) * 256) ⟨by omega, by omega⟩, IntWalk.wrap64_in ((c.toNat : Int) * 65536) ⟨by omega, by omega⟩, IntWalk.wrap64_in ((d.toNat : Int) * 16777216) ⟨by omega, by omega⟩, or8' ((b.toNat : Int) * 256) ((a.toNat : Int)) (by omega) (by omega) (by omega) (by omega) (by omega), or16' ((c.toNat : Int) * 65536) ((a.toNat : Int) + (b.toNat : Int) * 256) (by omega) (by omega) (by omega) (by omega) (by omega), or24' ((d.toNat : Int) * 16777216) ((a.toNat : Int) + (b.toNat : Int) * 256 + (c.toNat : Int) * 65536) (by omega) (by omega) (by omega) (by omega) (by omega)]
  omega

set_option maxHeartbeats 400000 in
theorem get_at4 (a b c d : UInt8) (w : World) :
    Calls Try.prog 20 #[.string ⟨#[a, b, c, d]⟩] w fun e w' => e = .returned (.tuple #[.int .i64 (num [a, b, c, d]), .int .i64 0]) ∧ w' = w := by
  rw [← or_at4 a b c d]
  go_enter Try.func20, Try.ntmps20
  go_wp2
  refine wp_loop_rounds 5 ?_
  rw [rounds_succ]
  go_wp2
  rw [rounds_succ]
  go_wp2
  rw [rounds_succ]
  go_wp2
  rw [rounds_succ]
  go_wp2
  rw [rounds_succ]
  go_wp2
  go_ret2
  exact ⟨rfl, rfl⟩

/-- Get at a text of 1 to 4 bytes. -/
theorem get_ok (s : ByteArray) (h1 : 1 ≤ s.size) (h2 : s.size ≤ 4) (w : World) :
    Calls Try.prog 20 #[.string s] w fun e w' => e = .returned (.tuple #[.int .i64 (num s.data.toList), .int .i64 0]) ∧ w' = w := by
  obtain ⟨⟨l⟩⟩ := s
  have hl : (ByteArray.mk ⟨l⟩).size = l.length := rfl
  rw [hl] at h1 h2
  match l, h1, h2 with
  | [a], _, _ => exact get_at1 a w
  | [a, b], _, _ => exact get_at2 a b w
  | [a, b, c], _, _ => exact get_at3 a b c w
  | [a, b, c, d], _, _ => exact get_at4 a b c d w

set_option maxHeartbeats 400000 in
/-- Get at a text of no byte, or of more than 4. -/
theorem get_no (s : ByteArray) (hs : s.size ≤ maxLen) (h : s.size < 1 ∨ 4 < s.size) (w : World) :
    Calls Try.prog 20 #[.string s] w fun e w' => e = .returned (.tuple #[.int .i64 0, .int .i64 100]) ∧ w' = w := by
  unfold maxLen at hs
  rcases h with h | h
  · have h0 : (s.size : Int) < 1 := by omega
    go_enter Try.func20, Try.ntmps20
    go_wp2
    go_ret2
    exact ⟨rfl, rfl⟩
  · have h0 : 1 ≤ (s.size : Int) := by omega
    have h1 : decide ((s.size : Int) ≤ 4) = false := by simp; omega
    go_enter Try.func20, Try.ntmps20
    go_wp2
    go_ret2
    exact ⟨rfl, rfl⟩

end Go.Proofs.Ytpakcajdbibbbaa.Field
