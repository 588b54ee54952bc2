/-
  What CoderForms leans on: New to the block, rows of bytes 0 as texts, coders that may not be. No condition.
-/
import Derived.Test.YthipckllancohaaNarrowsWalk
import Derived.Deep.OwnRows
import Derived.Laws.Cover1
namespace Go.Proofs.Ythipckllancohaa.Coder
open Go.RowKit Go.Proofs.Ythipckllancohaa.Num
set_option linter.unusedVariables false

abbrev OC : Obj := .cells #[.int .i64 0, .int .i64 4294967295, .string ⟨#[]⟩] 23
abbrev OS : Obj := .cells #[.int .i64 0, .int .i64 4294967295] 48

set_option maxHeartbeats 400000 in
theorem new_exact (w : World) :
    Calls Try.prog 16 #[] w fun e w' => e = .returned (.agg #[.int .i64 0, .int .i64 4294967295, .string ⟨#[]⟩]) ∧ w' = ((w.alloc OC).alloc OS).alloc OS := by
  go_enter Try.func16, Try.ntmps16
  go_wp2_with fail
  go_in
  go_wp2
  refine bodyPost_ret (v := .agg #[.int .i64 0, .int .i64 4294967295]) (by simp [results, Try.results32, go_sem]) rfl ?_
  go_wp2
  exact bodyPost_ret (v := .agg #[.int .i64 0, .int .i64 4294967295, .string ⟨#[]⟩]) (by simp [results, Try.results16, go_sem]) rfl ⟨rfl, rfl⟩

theorem infoB : (Try.prog.info? 5).map (fun i => (i.zero, i.size, i.bytes)) = some (some (.int .u8 0), 1, 1) := by kernel_rfl

theorem mkN (m : Nat) (h1 : m ≤ 140737488351232) (w : World) :
    (Instr.makeSlice 38 (.int .i64 (m : Int)) (.int .i64 (m : Int))).run Try.prog w = .ok (.slice (some ⟨w.heap.size, 0, none⟩) m m) (w.alloc (.cells (madeCells #[.int .u8 0] m) 5)) :=
  run_make_row' (P := Try.prog) 38 5 (.int .u8 0) 1 Try.underlying38 infoB rfl .i64 .i64 m (by omega) (by omega) w

/-- A row of m bytes 0, as a text. -/
def zerosOf (m : Nat) : ByteArray := ⟨(List.replicate m 0).toArray⟩
theorem zerosOf_size (m : Nat) : (zerosOf m).size = m := by show (List.replicate m 0).toArray.size = m; simp

theorem cvN (m : Nat) (w : World) : (convert 38 9 (.slice (some ⟨w.heap.size, 0, none⟩) m m)).run Try.prog (w.alloc (.cells (madeCells #[.int .u8 0] m) 5)) = .ok (.string (zerosOf m)) (w.alloc (.cells (madeCells #[.int .u8 0] m) 5)) := by
  have := run_convert_bytes_back (P := Try.prog) (w.alloc (.cells (madeCells #[.int .u8 0] m) 5)) 38 9 5 ⟨w.heap.size, 0, none⟩ m (List.replicate m 0) Try.underlying38 Try.underlying5 Try.underlying9 (fun j hj => by
    have hj' : j < m := by simpa using hj
    have hplain : (⟨w.heap.size, 0, none⟩ : Addr).add j = ⟨w.heap.size, j, none⟩ := by unfold Addr.add; split <;> simp_all
    rw [hplain, World.cell?_alloc_at _ _ _ _ rfl, ← Array.getElem?_toList, toList_madeCells_one]
    simp [hj'])
  rw [List.length_replicate] at this
  exact this

theorem c6val (p : Int) (y : Nat) (hy : p % 18446744073709551616 % 6 = (y : Int)) : wrap64 ((IntKind.u64.wrap p).tmod 6) = (y : Int) := by
  have e : IntKind.u64.wrap p = p % 18446744073709551616 := by simp [IntKind.wrap, IntKind.bits, IntKind.signed]
  rw [e, Int.tmod_eq_emod_of_nonneg (by omega), hy, wrap64]
  omega

theorem full_no (z : ByteArray) (hz : z.size = 65536) : codeBit 0 16777216 1 1 z = errV := by
  have hs : settle 5 (narrow 0 16777216 1 1).1 (narrow 0 16777216 1 1).2 = ([0, 0], 0, 268500991) := by decide
  rw [codeBit]
  split
  · rw [hs, bitAns, if_neg (by rw [hz]; decide)]; rfl
  · rfl

/-- The coders that may not be, by their number. -/
def bad (c : Nat) (d : Int) (z : ByteArray) : Int × Int × ByteArray :=
  match c with
  | 0 => (0, 0, ⟨#[]⟩)
  | 1 => (-d, 4294967295, ⟨#[]⟩)
  | 2 => (0, 4294967295 + d, ⟨#[]⟩)
  | 3 => (16777216, 16777217 + d, ⟨#[]⟩)
  | 4 => (33554432, 16777216, ⟨#[]⟩)
  | _ => (0, 4294967295, z)

theorem bad_no (c : Nat) (hc : c < 6) (d : Int) (h1 : 1 ≤ d) (h2 : d ≤ 1024) (z : ByteArray) (hz : 65536 < z.size) (hz2 : z.size ≤ maxLen) :
    mayB (bad c d z).1 (bad c d z).2.1 (bad c d z).2.2 = false ∧ (bad c d z).2.2.size ≤ maxLen := by
  have e : (⟨#[]⟩ : ByteArray).size ≤ maxLen := by decide
  rcases (show c = 0 ∨ c = 1 ∨ c = 2 ∨ c = 3 ∨ c = 4 ∨ c = 5 from by omega) with rfl | rfl | rfl | rfl | rfl | rfl
  · exact ⟨decide_eq_false fun ⟨⟨a, b, c⟩, _⟩ => by simp only [bad] at a b c; omega, e⟩
  · exact ⟨decide_eq_false fun ⟨⟨a, b, c⟩, _⟩ => by simp only [bad] at a b c; omega, e⟩
  · exact ⟨decide_eq_false fun ⟨⟨a, b, c⟩, _⟩ => by simp only [bad] at a b c; omega, e⟩
  · exact ⟨decide_eq_false fun ⟨⟨a, b, c⟩, _⟩ => by simp only [bad] at a b c; omega, e⟩
  · exact ⟨decide_eq_false fun ⟨⟨a, b, c⟩, _⟩ => by simp only [bad] at a b c; omega, e⟩
  · exact ⟨decide_eq_false fun ⟨_, k⟩ => by simp only [bad] at k; omega, hz2⟩

theorem and1' (n : Int) : bits .and .i64 n 1 = n % 2 := and_mask 1 1 (by decide) (by decide) n

theorem bads_at (w : World) (O : Obj) (d : Int) (za : ByteArray) (c : Nat) (hc : c < 6) :
    ((w.alloc O).alloc (.cells #[.int .i64 0, .int .i64 0, .string ⟨#[]⟩, .int .i64 (-d), .int .i64 4294967295, .string ⟨#[]⟩, .int .i64 0, .int .i64 (4294967295 + d), .string ⟨#[]⟩, .int .i64 16777216, .int .i64 (16777217 + d), .string ⟨#[]⟩, .int .i64 33554432, .int .i64 16777216, .string ⟨#[]⟩, .int .i64 0, .int .i64 4294967295, .string za] 23)).cell? ⟨w.heap.size + 1, c * 3, none⟩ = some (.int .i64 (bad c d za).1) ∧
    ((w.alloc O).alloc (.cells #[.int .i64 0, .int .i64 0, .string ⟨#[]⟩, .int .i64 (-d), .int .i64 4294967295, .string ⟨#[]⟩, .int .i64 0, .int .i64 (4294967295 + d), .string ⟨#[]⟩, .int .i64 16777216, .int .i64 (16777217 + d), .string ⟨#[]⟩, .int .i64 33554432, .int .i64 16777216, .string ⟨#[]⟩, .int .i64 0, .int .i64 4294967295, .string za] 23)).cell? ⟨w.heap.size + 1, c * 3 + 1, none⟩ = some (.int .i64 (bad c d za).2.1) ∧
    ((w.alloc O).alloc (.cells #[.int .i64 0, .int .i64 0, .string ⟨#[]⟩, .int .i64 (-d), .int .i64 4294967295, .string ⟨#[]⟩, .int .i64 0, .int .i64 (4294967295 + d), .string ⟨#[]⟩, .int .i64 16777216, .int .i64 (16777217 + d), .string ⟨#[]⟩, .int .i64 33554432, .int .i64 16777216, .string ⟨#[]⟩, .int .i64 0, .int .i64 4294967295, .string za] 23)).cell? ⟨w.heap.size + 1, c * 3 + 2, none⟩ = some (.string (bad c d za).2.2) := by
  rcases (show c = 0 ∨ c = 1 ∨ c = 2 ∨ c = 3 ∨ c = 4 ∨ c = 5 from by omega) with rfl | rfl | rfl | rfl | rfl | rfl
  · exact ⟨by simp [bad], by simp [bad], by simp [bad]⟩
  · exact ⟨by simp [bad], by simp [bad], by simp [bad]⟩
  · exact ⟨by simp [bad], by simp [bad], by simp [bad]⟩
  · exact ⟨by simp [bad], by simp [bad], by simp [bad]⟩
  · exact ⟨by simp [bad], by simp [bad], by simp [bad]⟩
  · exact ⟨by simp [bad], by simp [bad], by simp [bad]⟩

theorem bit_refused (l h bit p : Int) (s : ByteArray) (hs : s.size ≤ maxLen) (hc : codeBit l h bit p s = errV) (w : World) :
    Calls Try.prog 9 #[.agg #[.int .i64 l, .int .i64 h, .string s], .int .i64 bit, .int .i64 p] w fun e w' => e = .returned (.tuple #[.agg #[.int .i64 0, .int .i64 0, .string ⟨#[]⟩], .int .i64 400]) ∧ Bel w w' := by
  have q := bit_ok l h bit p s hs w
  rw [hc] at q
  exact q

theorem no_bit (l h bit p : Int) (s : ByteArray) (hb : bitB bit = false) : codeBit l h bit p s = errV := by rw [codeBit, if_neg (by rw [hb]; simp)]
theorem no_chance (l h bit p : Int) (s : ByteArray) (hb : chanceB p = false) : codeBit l h bit p s = errV := by rw [codeBit, if_neg (by rw [hb]; simp)]
theorem no_may (l h bit p : Int) (s : ByteArray) (hb : mayB l h s = false) : codeBit l h bit p s = errV := by rw [codeBit, if_neg (by rw [hb]; simp)]

end Go.Proofs.Ythipckllancohaa.Coder
