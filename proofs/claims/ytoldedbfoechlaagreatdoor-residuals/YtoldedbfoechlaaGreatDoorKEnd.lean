/-
  The contract of coder.End: what it answers at every coder. Condition: the text is no longer than an int can tell.
-/
import Derived.Test.YtoldedbfoechlaaGreatDoorKBit
namespace Go.Proofs.YtoldedbfoechlaaGreatDoor.Coder
open Go.RowKit Go.Proofs.YtoldedbfoechlaaGreatDoor.Num
set_option linter.unusedVariables false

/-- Low in four bytes, the highest first. -/
def four (l : Int) : ByteArray := strOfNums [l / 16777216, l / 65536 % 256, l / 256 % 256, l % 256]

def endAns (l h : Int) (s : ByteArray) : Value := if mayB l h s = true then .tuple #[.string (s ++ four l), .int .i64 0] else .tuple #[.string ⟨#[]⟩, .int .i64 400]

theorem mk44 (w : World) : (Instr.makeSlice 99 (.int .i64 4) (.int .i64 4)).run Tryz.prog w = .ok (.slice (some ⟨w.heap.size, 0, none⟩) 4 4) (w.alloc (.cells #[.int .u8 0, .int .u8 0, .int .u8 0, .int .u8 0] 5)) := by kernel_rfl
theorem cv44 (w : World) (a b c d : Int) : (convert 99 9 (.slice (some ⟨w.heap.size, 0, none⟩) 4 4)).run Tryz.prog (w.alloc (.cells #[.int .u8 a, .int .u8 b, .int .u8 c, .int .u8 d] 5)) = .ok (.string (strOfNums [a, b, c, d])) (w.alloc (.cells #[.int .u8 a, .int .u8 b, .int .u8 c, .int .u8 d] 5)) := by
  refine run_convert_bytes_arg (P := Tryz.prog) _ 99 5 Tryz.underlying99 Tryz.underlying5 w.heap.size 0 4 4 [a, b, c, d] rfl ?_ 9 Tryz.underlying9
  intro i hi
  match i, hi with
  | 0, _ => simp
  | 1, _ => simp
  | 2, _ => simp
  | 3, _ => simp

set_option maxHeartbeats 1000000 in
theorem end_may (l h : Int) (s : ByteArray) (hb : Between l h) (hz : s.size ≤ 65536) (w : World) :
    Calls Tryz.prog 24 #[.agg #[.int .i64 l, .int .i64 h, .string s]] w fun e w' => e = .returned (.tuple #[.string (s ++ four l), .int .i64 0]) ∧ Bel w w' := by
  have q1 := may_ok l h s (by unfold maxLen; omega)
  rw [show mayB l h s = true from decide_eq_true ⟨hb, hz⟩] at q1
  have QM : Hid (∀ w, Calls Tryz.prog 50 #[.agg #[.int .i64 l, .int .i64 h, .string s]] w fun e w' => e = .returned (.bool true) ∧ Bel w w') := q1
  obtain ⟨b0, b1, b2⟩ := hb
  have l0 : 0 ≤ l := b0
  have l1 : l ≤ 4294967295 := by omega
  clear q1 b0 b1 b2
  have hmk := mk44
  go_enter Tryz.func24, Tryz.ntmps24
  go_wp2_with fail
  refine (QM.out _).mono ?_
  rintro e w1 ⟨rfl, b1⟩
  have a0 : w1.cell? ⟨w.heap.size, 0, none⟩ = some (.int .i64 l) := b1.keep (by simp)
  have a2 : w1.cell? ⟨w.heap.size, 2, none⟩ = some (.string s) := b1.keep (by simp)
  have HB : Hid (Bel w w1) := Bel.trans ((Bel.refl _).alloc _) b1
  have hlt : w.heap.size < w1.heap.size := block_lt_of_cell a0
  clear b1
  go_wp2
  refine wp_loop_rounds 5 ?_
  rw [rounds_succ]
  go_wp2
  rw [rounds_succ]
  go_wp2
  rw [rounds_succ]
  go_wp2
  rw [rounds_succ]
  go_wp2
  rw [rounds_succ]
  have hcv := cv44 w1 (l / 16777216) (l / 65536 % 256) (l / 256 % 256) (l % 256)
  have hsz : (strOfNums [l / 16777216, l / 65536 % 256, l / 256 % 256, l % 256]).size = 4 := strOfNums_size _
  have hn : ¬ 9223372036854775807 < s.size + 4 := by omega
  go_wp2
  go_ret2
  exact ⟨rfl, HB.out.alloc _⟩

set_option maxHeartbeats 1000000 in
theorem end_no (l h : Int) (s : ByteArray) (hs : s.size ≤ maxLen) (hm : mayB l h s = false) (w : World) :
    Calls Tryz.prog 24 #[.agg #[.int .i64 l, .int .i64 h, .string s]] w fun e w' => e = .returned (.tuple #[.string ⟨#[]⟩, .int .i64 400]) ∧ Bel w w' := by
  have q1 := may_ok l h s hs
  rw [hm] at q1
  have QM : Hid (∀ w, Calls Tryz.prog 50 #[.agg #[.int .i64 l, .int .i64 h, .string s]] w fun e w' => e = .returned (.bool false) ∧ Bel w w') := q1
  clear q1 hm
  go_enter Tryz.func24, Tryz.ntmps24
  go_wp2_with fail
  refine (QM.out _).mono ?_
  rintro e w1 ⟨rfl, b1⟩
  have HB : Hid (Bel w w1) := Bel.trans ((Bel.refl _).alloc _) b1
  clear b1
  go_wp2
  go_ret2
  exact ⟨rfl, HB.out⟩

theorem end_ok (l h : Int) (s : ByteArray) (hs : s.size ≤ maxLen) (w : World) :
    Calls Tryz.prog 24 #[.agg #[.int .i64 l, .int .i64 h, .string s]] w fun e w' => e = .returned (endAns l h s) ∧ Bel w w' := by
  cases hm : mayB l h s with
  | false => rw [endAns, if_neg (by rw [hm]; simp)]; exact end_no l h s hs hm w
  | true =>
    rw [endAns, if_pos hm]
    have m := of_decide_eq_true hm
    exact end_may l h s m.1 m.2 w

end Go.Proofs.YtoldedbfoechlaaGreatDoor.Coder
