/-
  The contracts of varint's Put and of the reference's PutVarint: what each answers, for every int. No condition but that the number is an int.
-/
import Derived.Test.YtggccjbedoojmaaRows
import Derived.Test.YtggccjbedoojmaaNum
import Derived.Test.YtggccjbedoojmaaVNum
import Derived.Test.YtggccjbedoojmaaOnto
import Derived.WalkKit
import Derived.ProofKit
import Derived.WalkLawsBesides
import Derived.WalkSpells
namespace Go.Proofs.Ytggccjbedoojmaa.Varint
open Go.RowKit Go.Proofs.Ytggccjbedoojmaa.Num
set_option linter.unusedVariables false

theorem mk5 (w : World) : (Instr.makeSlice 39 (.int .i64 0) (.int .i64 5)).run Try.prog w = .ok (.slice (some ⟨w.heap.size, 0, none⟩) 0 5) (w.alloc (.cells #[.int .u8 0, .int .u8 0, .int .u8 0, .int .u8 0, .int .u8 0] 5)) := by kernel_rfl

/-- One byte as a text. -/
theorem cvOne (w : World) (n : Nat) (hn : n = w.heap.size) (a : Int) : (convert 39 9 (.slice (some ⟨n, 0, none⟩) 1 1)).run Try.prog (w.alloc (.cells #[.int .u8 a] 5)) = .ok (.string (strOfNums [a])) (w.alloc (.cells #[.int .u8 a] 5)) := by
  subst hn
  refine run_convert_bytes_arg (P := Try.prog) _ 39 5 Try.underlying39 Try.underlying5 w.heap.size 0 1 1 [a] rfl ?_ 9 Try.underlying9
  intro i hi
  match i, hi with
  | 0, _ => simp

set_option maxHeartbeats 400000 in
theorem put_no (x : Int) (hm : -9223372036854775808 ≤ x) (hM : x ≤ 9223372036854775807) (h : x < 0 ∨ 4294967296 ≤ x) (w : World) :
    Calls Try.prog 7 #[.int .i64 x] w fun e w' => e = .returned (.tuple #[.string ByteArray.empty, .int .i64 200]) ∧ Onto w w' := by
  have hx : (x / 4294967296 == 0) = false := by simp; omega
  clear h
  go_enter Try.func7, Try.ntmps7
  go_wp2
  go_ret2
  exact ⟨rfl, Onto.refl _⟩

set_option maxHeartbeats 400000 in
theorem ref_no (x : Int) (h : x < 0 ∨ 4294967296 ≤ x) (w : World) :
    Calls Try.prog 8 #[.int .i64 x] w fun e w' => e = .returned (.tuple #[.string ByteArray.empty, .int .i64 200]) ∧ Onto w w' := by
  rcases h with h | h
  · go_enter Try.func8, Try.ntmps8
    go_wp2
    go_ret2
    exact ⟨rfl, Onto.refl _⟩
  · have h0 : 0 ≤ x := by omega
    have h1 : decide (x ≤ 4294967295) = false := by simp; omega
    clear h
    go_enter Try.func8, Try.ntmps8
    go_wp2
    go_ret2
    exact ⟨rfl, Onto.refl _⟩


theorem cvp1 (x : Int) (w : World) : (convert 39 9 (.slice (some ⟨w.heap.size, 0, none⟩) 1 5)).run Try.prog ((w.alloc (.cells #[.int .u8 x, .int .u8 0, .int .u8 0, .int .u8 0, .int .u8 0] 5)).alloc (.cells #[.int .u8 (x)] 5)) = .ok (.string (strOfNums [x])) ((w.alloc (.cells #[.int .u8 x, .int .u8 0, .int .u8 0, .int .u8 0, .int .u8 0] 5)).alloc (.cells #[.int .u8 (x)] 5)) := by
  refine run_convert_bytes_arg (P := Try.prog) _ 39 5 Try.underlying39 Try.underlying5 w.heap.size 0 1 5 [x] rfl ?_ 9 Try.underlying9
  intro i hi
  match i, hi with
  | 0, _ => simp [World.cell?_alloc_past, World.cell?_alloc_at, Nat.lt_succ_of_lt]

set_option maxHeartbeats 400000 in
theorem put_at1 (x : Int) (h : 0 ≤ x) (h' : x < 128) (w : World) :
    Calls Try.prog 7 #[.int .i64 x] w fun e w' => e = .returned (.tuple #[.string (strOfNums [x]), .int .i64 0]) ∧ Onto w w' := by
  have hx : (x / 4294967296 == 0) = true := by simp; omega
  have hmk := mk5
  have hcv := cvp1 x w
  go_enter Try.func7, Try.ntmps7
  go_wp2
  refine wp_loop_rounds 1 ?_
  rw [rounds_succ]
  go_wp2
  go_ret2
  exact ⟨rfl, (((Onto.refl _).alloc _ _).alloc _ _)⟩

set_option maxHeartbeats 400000 in
theorem ref_at1 (x : Int) (h : 0 ≤ x) (h' : x < 128) (w : World) :
    Calls Try.prog 8 #[.int .i64 x] w fun e w' => e = .returned (.tuple #[.string (strOfNums [x]), .int .i64 0]) ∧ Onto w w' := by
  have h1 : decide (x ≤ 4294967295) = true := by simp; omega
  have hv0 := cvOne (w) (w.heap.size) (by simp) (x)
  have m127 := and127
  go_enter Try.func8, Try.ntmps8
  go_wp2
  refine wp_loop_rounds 1 ?_
  rw [rounds_succ]
  go_wp2
  go_ret2
  exact ⟨rfl, ((Onto.refl _).alloc _ _)⟩

theorem cvp2 (x : Int) (w : World) : (convert 39 9 (.slice (some ⟨w.heap.size, 0, none⟩) 2 5)).run Try.prog (((w.alloc (.cells #[.int .u8 (x % 128 + 128), .int .u8 (x / 128), .int .u8 0, .int .u8 0, .int .u8 0] 5)).alloc (.cells #[.int .u8 (x % 128 + 128)] 5)).alloc (.cells #[.int .u8 (x / 128)] 5)) = .ok (.string (strOfNums [x % 128 + 128, x / 128])) (((w.alloc (.cells #[.int .u8 (x % 128 + 128), .int .u8 (x / 128), .int .u8 0, .int .u8 0, .int .u8 0] 5)).alloc (.cells #[.int .u8 (x % 128 + 128)] 5)).alloc (.cells #[.int .u8 (x / 128)] 5)) := by
  refine run_convert_bytes_arg (P := Try.prog) _ 39 5 Try.underlying39 Try.underlying5 w.heap.size 0 2 5 [x % 128 + 128, x / 128] rfl ?_ 9 Try.underlying9
  intro i hi
  match i, hi with
  | 0, _ => simp [World.cell?_alloc_past, World.cell?_alloc_at, Nat.lt_succ_of_lt]
  | 1, _ => simp [World.cell?_alloc_past, World.cell?_alloc_at, Nat.lt_succ_of_lt]

set_option maxHeartbeats 400000 in
theorem put_at2 (x : Int) (h : 128 ≤ x) (h' : x < 16384) (w : World) :
    Calls Try.prog 7 #[.int .i64 x] w fun e w' => e = .returned (.tuple #[.string (strOfNums [x % 128 + 128, x / 128]), .int .i64 0]) ∧ Onto w w' := by
  have hx : (x / 4294967296 == 0) = true := by simp; omega
  have hmk := mk5
  have hcv := cvp2 x w
  go_enter Try.func7, Try.ntmps7
  go_wp2
  refine wp_loop_rounds 2 ?_
  rw [rounds_succ]
  go_wp2
  rw [rounds_succ]
  go_wp2
  go_ret2
  exact ⟨rfl, ((((Onto.refl _).alloc _ _).alloc _ _).alloc _ _)⟩

set_option maxHeartbeats 400000 in
theorem ref_at2 (x : Int) (h : 128 ≤ x) (h' : x < 16384) (w : World) :
    Calls Try.prog 8 #[.int .i64 x] w fun e w' => e = .returned (.tuple #[.string (strOfNums [x % 128 + 128, x / 128]), .int .i64 0]) ∧ Onto w w' := by
  have h1 : decide (x ≤ 4294967295) = true := by simp; omega
  have ho0 : bits .or .i64 (x % 128) 128 = x % 128 + 128 := or_top _
  have hv0 := cvOne (w) (w.heap.size) (by simp) (x % 128 + 128)
  have hv1 := cvOne ((w).alloc (.cells #[.int .u8 (x % 128 + 128)] 5)) (w.heap.size + 1) (by simp) (x / 128)
  have m127 := and127
  go_enter Try.func8, Try.ntmps8
  go_wp2
  refine wp_loop_rounds 2 ?_
  rw [rounds_succ]
  go_wp2
  rw [rounds_succ]
  go_wp2
  go_ret2
  exact ⟨rfl, (((Onto.refl _).alloc _ _).alloc _ _)⟩

theorem cvp3 (x : Int) (w : World) : (convert 39 9 (.slice (some ⟨w.heap.size, 0, none⟩) 3 5)).run Try.prog ((((w.alloc (.cells #[.int .u8 (x % 128 + 128), .int .u8 (x / 128 % 128 + 128), .int .u8 (x / 128 / 128), .int .u8 0, .int .u8 0] 5)).alloc (.cells #[.int .u8 (x % 128 + 128)] 5)).alloc (.cells #[.int .u8 (x / 128 % 128 + 128)] 5)).alloc (.cells #[.int .u8 (x / 128 / 128)] 5)) = .ok (.string (strOfNums [x % 128 + 128, x / 128 % 128 + 128, x / 128 / 128])) ((((w.alloc (.cells #[.int .u8 (x % 128 + 128), .int .u8 (x / 128 % 128 + 128), .int .u8 (x / 128 / 128), .int .u8 0, .int .u8 0] 5)).alloc (.cells #[.int .u8 (x % 128 + 128)] 5)).alloc (.cells #[.int .u8 (x / 128 % 128 + 128)] 5)).alloc (.cells #[.int .u8 (x / 128 / 128)] 5)) := by
  refine run_convert_bytes_arg (P := Try.prog) _ 39 5 Try.underlying39 Try.underlying5 w.heap.size 0 3 5 [x % 128 + 128, x / 128 % 128 + 128, x / 128 / 128] rfl ?_ 9 Try.underlying9
  intro i hi
  match i, hi with
  | 0, _ => simp [World.cell?_alloc_past, World.cell?_alloc_at, Nat.lt_succ_of_lt]
  | 1, _ => simp [World.cell?_alloc_past, World.cell?_alloc_at, Nat.lt_succ_of_lt]
  | 2, _ => simp [World.cell?_alloc_past, World.cell?_alloc_at, Nat.lt_succ_of_lt]

set_option maxHeartbeats 400000 in
theorem put_at3 (x : Int) (h : 16384 ≤ x) (h' : x < 2097152) (w : World) :
    Calls Try.prog 7 #[.int .i64 x] w fun e w' => e = .returned (.tuple #[.string (strOfNums [x % 128 + 128, x / 128 % 128 + 128, x / 128 / 128]), .int .i64 0]) ∧ Onto w w' := by
  have hx : (x / 4294967296 == 0) = true := by simp; omega
  have hmk := mk5
  have hcv := cvp3 x w
  go_enter Try.func7, Try.ntmps7
  go_wp2
  refine wp_loop_rounds 3 ?_
  rw [rounds_succ]
  go_wp2
  rw [rounds_succ]
  go_wp2
  rw [rounds_succ]
  go_wp2
  go_ret2
  exact ⟨rfl, (((((Onto.refl _).alloc _ _).alloc _ _).alloc _ _).alloc _ _)⟩

set_option maxHeartbeats 400000 in
theorem ref_at3 (x : Int) (h : 16384 ≤ x) (h' : x < 2097152) (w : World) :
    Calls Try.prog 8 #[.int .i64 x] w fun e w' => e = .returned (.tuple #[.string (strOfNums [x % 128 + 128, x / 128 % 128 + 128, x / 128 / 128]), .int .i64 0]) ∧ Onto w w' := by
  have h1 : decide (x ≤ 4294967295) = true := by simp; omega
  have ho0 : bits .or .i64 (x % 128) 128 = x % 128 + 128 := or_top _
  have ho1 : bits .or .i64 (x / 128 % 128) 128 = x / 128 % 128 + 128 := or_top _
  have hv0 := cvOne (w) (w.heap.size) (by simp) (x % 128 + 128)
  have hv1 := cvOne ((w).alloc (.cells #[.int .u8 (x % 128 + 128)] 5)) (w.heap.size + 1) (by simp) (x / 128 % 128 + 128)
  have hv2 := cvOne (((w).alloc (.cells #[.int .u8 (x % 128 + 128)] 5)).alloc (.cells #[.int .u8 (x / 128 % 128 + 128)] 5)) (w.heap.size + 1 + 1) (by simp) (x / 128 / 128)
  have m127 := and127
  go_enter Try.func8, Try.ntmps8
  go_wp2
  refine wp_loop_rounds 3 ?_
  rw [rounds_succ]
  go_wp2
  rw [rounds_succ]
  go_wp2
  rw [rounds_succ]
  go_wp2
  go_ret2
  exact ⟨rfl, ((((Onto.refl _).alloc _ _).alloc _ _).alloc _ _)⟩

theorem cvp4 (x : Int) (w : World) : (convert 39 9 (.slice (some ⟨w.heap.size, 0, none⟩) 4 5)).run Try.prog (((((w.alloc (.cells #[.int .u8 (x % 128 + 128), .int .u8 (x / 128 % 128 + 128), .int .u8 (x / 128 / 128 % 128 + 128), .int .u8 (x / 128 / 128 / 128), .int .u8 0] 5)).alloc (.cells #[.int .u8 (x % 128 + 128)] 5)).alloc (.cells #[.int .u8 (x / 128 % 128 + 128)] 5)).alloc (.cells #[.int .u8 (x / 128 / 128 % 128 + 128)] 5)).alloc (.cells #[.int .u8 (x / 128 / 128 / 128)] 5)) = .ok (.string (strOfNums [x % 128 + 128, x / 128 % 128 + 128, x / 128 / 128 % 128 + 128, x / 128 / 128 / 128])) (((((w.alloc (.cells #[.int .u8 (x % 128 + 128), .int .u8 (x / 128 % 128 + 128), .int .u8 (x / 128 / 128 % 128 + 128), .int .u8 (x / 128 / 128 / 128), .int .u8 0] 5)).alloc (.cells #[.int .u8 (x % 128 + 128)] 5)).alloc (.cells #[.int .u8 (x / 128 % 128 + 128)] 5)).alloc (.cells #[.int .u8 (x / 128 / 128 % 128 + 128)] 5)).alloc (.cells #[.int .u8 (x / 128 / 128 / 128)] 5)) := by
  refine run_convert_bytes_arg (P := Try.prog) _ 39 5 Try.underlying39 Try.underlying5 w.heap.size 0 4 5 [x % 128 + 128, x / 128 % 128 + 128, x / 128 / 128 % 128 + 128, x / 128 / 128 / 128] rfl ?_ 9 Try.underlying9
  intro i hi
  match i, hi with
  | 0, _ => simp [World.cell?_alloc_past, World.cell?_alloc_at, Nat.lt_succ_of_lt]
  | 1, _ => simp [World.cell?_alloc_past, World.cell?_alloc_at, Nat.lt_succ_of_lt]
  | 2, _ => simp [World.cell?_alloc_past, World.cell?_alloc_at, Nat.lt_succ_of_lt]
  | 3, _ => simp [World.cell?_alloc_past, World.cell?_alloc_at, Nat.lt_succ_of_lt]

set_option maxHeartbeats 400000 in
theorem put_at4 (x : Int) (h : 2097152 ≤ x) (h' : x < 268435456) (w : World) :
    Calls Try.prog 7 #[.int .i64 x] w fun e w' => e = .returned (.tuple #[.string (strOfNums [x % 128 + 128, x / 128 % 128 + 128, x / 128 / 128 % 128 + 128, x / 128 / 128 / 128]), .int .i64 0]) ∧ Onto w w' := by
  have hx : (x / 4294967296 == 0) = true := by simp; omega
  have hmk := mk5
  have hcv := cvp4 x w
  go_enter Try.func7, Try.ntmps7
  go_wp2
  refine wp_loop_rounds 4 ?_
  rw [rounds_succ]
  go_wp2
  rw [rounds_succ]
  go_wp2
  rw [rounds_succ]
  go_wp2
  rw [rounds_succ]
  go_wp2
  go_ret2
  exact ⟨rfl, ((((((Onto.refl _).alloc _ _).alloc _ _).alloc _ _).alloc _ _).alloc _ _)⟩

set_option maxHeartbeats 400000 in
theorem ref_at4 (x : Int) (h : 2097152 ≤ x) (h' : x < 268435456) (w : World) :
    Calls Try.prog 8 #[.int .i64 x] w fun e w' => e = .returned (.tuple #[.string (strOfNums [x % 128 + 128, x / 128 % 128 + 128, x / 128 / 128 % 128 + 128, x / 128 / 128 / 128]), .int .i64 0]) ∧ Onto w w' := by
  have h1 : decide (x ≤ 4294967295) = true := by simp; omega
  have ho0 : bits .or .i64 (x % 128) 128 = x % 128 + 128 := or_top _
  have ho1 : bits .or .i64 (x / 128 % 128) 128 = x / 128 % 128 + 128 := or_top _
  have ho2 : bits .or .i64 (x / 128 / 128 % 128) 128 = x / 128 / 128 % 128 + 128 := or_top _
  have hv0 := cvOne (w) (w.heap.size) (by simp) (x % 128 + 128)
  have hv1 := cvOne ((w).alloc (.cells #[.int .u8 (x % 128 + 128)] 5)) (w.heap.size + 1) (by simp) (x / 128 % 128 + 128)
  have hv2 := cvOne (((w).alloc (.cells #[.int .u8 (x % 128 + 128)] 5)).alloc (.cells #[.int .u8 (x / 128 % 128 + 128)] 5)) (w.heap.size + 1 + 1) (by simp) (x / 128 / 128 % 128 + 128)
  have hv3 := cvOne ((((w).alloc (.cells #[.int .u8 (x % 128 + 128)] 5)).alloc (.cells #[.int .u8 (x / 128 % 128 + 128)] 5)).alloc (.cells #[.int .u8 (x / 128 / 128 % 128 + 128)] 5)) (w.heap.size + 1 + 1 + 1) (by simp) (x / 128 / 128 / 128)
  have m127 := and127
  go_enter Try.func8, Try.ntmps8
  go_wp2
  refine wp_loop_rounds 4 ?_
  rw [rounds_succ]
  go_wp2
  rw [rounds_succ]
  go_wp2
  rw [rounds_succ]
  go_wp2
  rw [rounds_succ]
  go_wp2
  go_ret2
  exact ⟨rfl, (((((Onto.refl _).alloc _ _).alloc _ _).alloc _ _).alloc _ _)⟩

theorem cvp5 (x : Int) (w : World) : (convert 39 9 (.slice (some ⟨w.heap.size, 0, none⟩) 5 5)).run Try.prog ((((((w.alloc (.cells #[.int .u8 (x % 128 + 128), .int .u8 (x / 128 % 128 + 128), .int .u8 (x / 128 / 128 % 128 + 128), .int .u8 (x / 128 / 128 / 128 % 128 + 128), .int .u8 (x / 128 / 128 / 128 / 128)] 5)).alloc (.cells #[.int .u8 (x % 128 + 128)] 5)).alloc (.cells #[.int .u8 (x / 128 % 128 + 128)] 5)).alloc (.cells #[.int .u8 (x / 128 / 128 % 128 + 128)] 5)).alloc (.cells #[.int .u8 (x / 128 / 128 / 128 % 128 + 128)] 5)).alloc (.cells #[.int .u8 (x / 128 / 128 / 128 / 128)] 5)) = .ok (.string (strOfNums [x % 128 + 128, x / 128 % 128 + 128, x / 128 / 128 % 128 + 128, x / 128 / 128 / 128 % 128 + 128, x / 128 / 128 / 128 / 128])) ((((((w.alloc (.cells #[.int .u8 (x % 128 + 128), .int .u8 (x / 128 % 128 + 128), .int .u8 (x / 128 / 128 % 128 + 128), .int .u8 (x / 128 / 128 / 128 % 128 + 128), .int .u8 (x / 128 / 128 / 128 / 128)] 5)).alloc (.cells #[.int .u8 (x % 128 + 128)] 5)).alloc (.cells #[.int .u8 (x / 128 % 128 + 128)] 5)).alloc (.cells #[.int .u8 (x / 128 / 128 % 128 + 128)] 5)).alloc (.cells #[.int .u8 (x / 128 / 128 / 128 % 128 + 128)] 5)).alloc (.cells #[.int .u8 (x / 128 / 128 / 128 / 128)] 5)) := by
  refine run_convert_bytes_arg (P := Try.prog) _ 39 5 Try.underlying39 Try.underlying5 w.heap.size 0 5 5 [x % 128 + 128, x / 128 % 128 + 128, x / 128 / 128 % 128 + 128, x / 128 / 128 / 128 % 128 + 128, x / 128 / 128 / 128 / 128] rfl ?_ 9 Try.underlying9
  intro i hi
  match i, hi with
  | 0, _ => simp [World.cell?_alloc_past, World.cell?_alloc_at, Nat.lt_succ_of_lt]
  | 1, _ => simp [World.cell?_alloc_past, World.cell?_alloc_at, Nat.lt_succ_of_lt]
  | 2, _ => simp [World.cell?_alloc_past, World.cell?_alloc_at, Nat.lt_succ_of_lt]
  | 3, _ => simp [World.cell?_alloc_past, World.cell?_alloc_at, Nat.lt_succ_of_lt]
  | 4, _ => simp [World.cell?_alloc_past, World.cell?_alloc_at, Nat.lt_succ_of_lt]

set_option maxHeartbeats 400000 in
theorem put_at5 (x : Int) (h : 268435456 ≤ x) (h' : x < 4294967296) (w : World) :
    Calls Try.prog 7 #[.int .i64 x] w fun e w' => e = .returned (.tuple #[.string (strOfNums [x % 128 + 128, x / 128 % 128 + 128, x / 128 / 128 % 128 + 128, x / 128 / 128 / 128 % 128 + 128, x / 128 / 128 / 128 / 128]), .int .i64 0]) ∧ Onto w w' := by
  have hx : (x / 4294967296 == 0) = true := by simp; omega
  have hmk := mk5
  have hcv := cvp5 x w
  go_enter Try.func7, Try.ntmps7
  go_wp2
  refine wp_loop_rounds 5 ?_
  rw [rounds_succ]
  go_wp2
  rw [rounds_succ]
  go_wp2
  rw [rounds_succ]
  go_wp2
  rw [rounds_succ]
  go_wp2
  rw [rounds_succ]
  go_wp2
  go_ret2
  exact ⟨rfl, (((((((Onto.refl _).alloc _ _).alloc _ _).alloc _ _).alloc _ _).alloc _ _).alloc _ _)⟩

set_option maxHeartbeats 400000 in
theorem ref_at5 (x : Int) (h : 268435456 ≤ x) (h' : x < 4294967296) (w : World) :
    Calls Try.prog 8 #[.int .i64 x] w fun e w' => e = .returned (.tuple #[.string (strOfNums [x % 128 + 128, x / 128 % 128 + 128, x / 128 / 128 % 128 + 128, x / 128 / 128 / 128 % 128 + 128, x / 128 / 128 / 128 / 128]), .int .i64 0]) ∧ Onto w w' := by
  have h1 : decide (x ≤ 4294967295) = true := by simp; omega
  have ho0 : bits .or .i64 (x % 128) 128 = x % 128 + 128 := or_top _
  have ho1 : bits .or .i64 (x / 128 % 128) 128 = x / 128 % 128 + 128 := or_top _
  have ho2 : bits .or .i64 (x / 128 / 128 % 128) 128 = x / 128 / 128 % 128 + 128 := or_top _
  have ho3 : bits .or .i64 (x / 128 / 128 / 128 % 128) 128 = x / 128 / 128 / 128 % 128 + 128 := or_top _
  have hv0 := cvOne (w) (w.heap.size) (by simp) (x % 128 + 128)
  have hv1 := cvOne ((w).alloc (.cells #[.int .u8 (x % 128 + 128)] 5)) (w.heap.size + 1) (by simp) (x / 128 % 128 + 128)
  have hv2 := cvOne (((w).alloc (.cells #[.int .u8 (x % 128 + 128)] 5)).alloc (.cells #[.int .u8 (x / 128 % 128 + 128)] 5)) (w.heap.size + 1 + 1) (by simp) (x / 128 / 128 % 128 + 128)
  have hv3 := cvOne ((((w).alloc (.cells #[.int .u8 (x % 128 + 128)] 5)).alloc (.cells #[.int .u8 (x / 128 % 128 + 128)] 5)).alloc (.cells #[.int .u8 (x / 128 / 128 % 128 + 128)] 5)) (w.heap.size + 1 + 1 + 1) (by simp) (x / 128 / 128 / 128 % 128 + 128)
  have hv4 := cvOne (((((w).alloc (.cells #[.int .u8 (x % 128 + 128)] 5)).alloc (.cells #[.int .u8 (x / 128 % 128 + 128)] 5)).alloc (.cells #[.int .u8 (x / 128 / 128 % 128 + 128)] 5)).alloc (.cells #[.int .u8 (x / 128 / 128 / 128 % 128 + 128)] 5)) (w.heap.size + 1 + 1 + 1 + 1) (by simp) (x / 128 / 128 / 128 / 128)
  have m127 := and127
  go_enter Try.func8, Try.ntmps8
  go_wp2
  refine wp_loop_rounds 5 ?_
  rw [rounds_succ]
  go_wp2
  rw [rounds_succ]
  go_wp2
  rw [rounds_succ]
  go_wp2
  rw [rounds_succ]
  go_wp2
  rw [rounds_succ]
  go_wp2
  go_ret2
  exact ⟨rfl, ((((((Onto.refl _).alloc _ _).alloc _ _).alloc _ _).alloc _ _).alloc _ _)⟩

/-- What is told of a number that may be. -/
theorem put_ok (x : Int) (h : 0 ≤ x) (h' : x < 4294967296) (w : World) :
    Calls Try.prog 7 #[.int .i64 x] w fun e w' => e = .returned (.tuple #[.string (strOfNums (tell 4 x)), .int .i64 0]) ∧ Onto w w' := by
  by_cases h1 : x < 128
  · rw [tell1 x h1]; exact put_at1 x h h1 w
  by_cases h2 : x < 16384
  · rw [tell2 x (by omega) h2]; exact put_at2 x (by omega) h2 w
  by_cases h3 : x < 2097152
  · rw [tell3 x (by omega) h3]; exact put_at3 x (by omega) h3 w
  by_cases h4 : x < 268435456
  · rw [tell4 x (by omega) h4]; exact put_at4 x (by omega) h4 w
  · rw [tell5 x (by omega)]; exact put_at5 x (by omega) h' w

/-- What is told of a number that may be. -/
theorem ref_ok (x : Int) (h : 0 ≤ x) (h' : x < 4294967296) (w : World) :
    Calls Try.prog 8 #[.int .i64 x] w fun e w' => e = .returned (.tuple #[.string (strOfNums (tell 4 x)), .int .i64 0]) ∧ Onto w w' := by
  by_cases h1 : x < 128
  · rw [tell1 x h1]; exact ref_at1 x h h1 w
  by_cases h2 : x < 16384
  · rw [tell2 x (by omega) h2]; exact ref_at2 x (by omega) h2 w
  by_cases h3 : x < 2097152
  · rw [tell3 x (by omega) h3]; exact ref_at3 x (by omega) h3 w
  by_cases h4 : x < 268435456
  · rw [tell4 x (by omega) h4]; exact ref_at4 x (by omega) h4 w
  · rw [tell5 x (by omega)]; exact ref_at5 x (by omega) h' w

end Go.Proofs.Ytggccjbedoojmaa.Varint
