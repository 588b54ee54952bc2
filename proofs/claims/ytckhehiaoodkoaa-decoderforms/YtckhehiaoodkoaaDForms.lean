/-
  What DecoderForms leans on: rows of bytes 0 as texts, the decoder of a short text. No condition.
-/
import Derived.Test.YtckhehiaoodkoaaDCell
import Derived.Deep.OwnRows
import Derived.Laws.Cover1
namespace Go.Proofs.Ytckhehiaoodkoaa.Coder
open Go.RowKit Go.Proofs.Ytckhehiaoodkoaa.Num
set_option linter.unusedVariables false

theorem infoB : (Try.prog.info? 5).map (fun i => (i.zero, i.size, i.bytes)) = some (some (.int .u8 0), 1, 1) := by kernel_rfl

theorem mkN (m : Nat) (h1 : m ≤ 140737488351232) (w : World) :
    (Instr.makeSlice 47 (.int .i64 (m : Int)) (.int .i64 (m : Int))).run Try.prog w = .ok (.slice (some ⟨w.heap.size, 0, none⟩) m m) (w.alloc (.cells (madeCells #[.int .u8 0] m) 5)) :=
  run_make_row' (P := Try.prog) 47 5 (.int .u8 0) 1 Try.underlying47 infoB rfl .i64 .i64 m (by omega) (by omega) w

/-- A row of m bytes 0, as a text. -/
def zerosOf (m : Nat) : ByteArray := ⟨(List.replicate m 0).toArray⟩
theorem zerosOf_size (m : Nat) : (zerosOf m).size = m := by show (List.replicate m 0).toArray.size = m; simp

theorem cvN (m : Nat) (w : World) : (convert 47 9 (.slice (some ⟨w.heap.size, 0, none⟩) m m)).run Try.prog (w.alloc (.cells (madeCells #[.int .u8 0] m) 5)) = .ok (.string (zerosOf m)) (w.alloc (.cells (madeCells #[.int .u8 0] m) 5)) := by
  have := run_convert_bytes_back (P := Try.prog) (w.alloc (.cells (madeCells #[.int .u8 0] m) 5)) 47 9 5 ⟨w.heap.size, 0, none⟩ m (List.replicate m 0) Try.underlying47 Try.underlying5 Try.underlying9 (fun j hj => by
    have hj' : j < m := by simpa using hj
    have hplain : (⟨w.heap.size, 0, none⟩ : Addr).add j = ⟨w.heap.size, j, none⟩ := by unfold Addr.add; split <;> simp_all
    rw [hplain, World.cell?_alloc_at _ _ _ _ rfl, ← Array.getElem?_toList, toList_madeCells_one]
    simp [hj'])
  rw [List.length_replicate] at this
  exact this

theorem c8val (p : Int) (y : Nat) (hy : p % 18446744073709551616 % 8 = (y : Int)) : (IntKind.u64.wrap p).tmod 8 = (y : Int) := by
  have e : IntKind.u64.wrap p = p % 18446744073709551616 := by simp [IntKind.wrap, IntKind.bits, IntKind.signed]
  rw [e, Int.tmod_eq_emod_of_nonneg (by omega), hy]

theorem newDecoder_t (w : World) : Calls Try.prog 11 #[.string ⟨#[97, 98, 99, 100, 101, 102]⟩] w fun e w' => e = .returned (.tuple #[.agg #[.int .i64 0, .int .i64 4294967295, .int .i64 1633837924, .string (⟨#[97, 98, 99, 100, 101, 102]⟩), .int .i64 4], .int .i64 0]) ∧ Bel w w' := by
  have e : newAns ⟨#[97, 98, 99, 100, 101, 102]⟩ = .tuple #[.agg #[.int .i64 0, .int .i64 4294967295, .int .i64 1633837924, .string (⟨#[97, 98, 99, 100, 101, 102]⟩), .int .i64 4], .int .i64 0] := by kernel_rfl
  rw [← e]
  exact newDecoder_ok _ (by decide) w

theorem may_g (w : World) : Calls Try.prog 13 #[.agg #[.int .i64 0, .int .i64 4294967295, .int .i64 1633837924, .string (⟨#[97, 98, 99, 100, 101, 102]⟩), .int .i64 4]] w fun e w' => e = .returned (.bool true) ∧ Bel w w' := by
  have e : dmayB 0 4294967295 1633837924 ⟨#[97, 98, 99, 100, 101, 102]⟩ 4 = true := by kernel_rfl
  rw [← e]
  exact may_ok _ _ _ _ _ (by decide) w

theorem bit_refused (l h x p : Int) (s : ByteArray) (a : Int) (hs : s.size ≤ maxLen) (hm : dmayB l h x s a = false) (w : World) :
    Calls Try.prog 8 #[.agg #[.int .i64 l, .int .i64 h, .int .i64 x, .string s, .int .i64 a], .int .i64 p] w fun e w' => e = .returned (.tuple #[.agg #[.int .i64 0, .int .i64 0, .int .i64 0, .string (⟨#[]⟩), .int .i64 0], .int .i64 0, .int .i64 500]) ∧ Bel w w' := bit_no_may l h x p s a hs hm w

theorem bit_unlike (p : Int) (hp : ¬ (1 ≤ p ∧ p ≤ 4095)) (w : World) :
    Calls Try.prog 8 #[.agg #[.int .i64 0, .int .i64 4294967295, .int .i64 1633837924, .string (⟨#[97, 98, 99, 100, 101, 102]⟩), .int .i64 4], .int .i64 p] w fun e w' => e = .returned (.tuple #[.agg #[.int .i64 0, .int .i64 0, .int .i64 0, .string (⟨#[]⟩), .int .i64 0], .int .i64 0, .int .i64 500]) ∧ Bel w w' := bit_no_chance _ _ _ _ _ _ (by decide) (by kernel_rfl) (decide_eq_false hp) w

theorem new_long (s : ByteArray) (hs : s.size ≤ maxLen) (h : 65536 < s.size) (w : World) :
    Calls Try.prog 10 #[.string s] w fun e w' => e = .returned (.tuple #[.agg #[.int .i64 0, .int .i64 0, .int .i64 0, .string (⟨#[]⟩), .int .i64 0], .int .i64 500]) ∧ Bel w w' := by
  have q := new_ok s hs w
  rw [newAns, if_neg (by omega)] at q
  exact q

end Go.Proofs.Ytckhehiaoodkoaa.Coder
