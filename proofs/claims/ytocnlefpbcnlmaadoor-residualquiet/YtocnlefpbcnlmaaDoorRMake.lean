/-
  Rows of zeros that are made: of ints, of bytes (as a text). No condition.
-/
import Derived.Test.YtocnlefpbcnlmaaDoorPk16
import Derived.Laws.Cover1
namespace Go.Proofs.YtocnlefpbcnlmaaDoor.Res
open Go.RowKit Go.Sort Go.Proofs.YtocnlefpbcnlmaaDoor.Mod Go.Proofs.YtocnlefpbcnlmaaDoor.Ints
set_option linter.unusedVariables false

theorem made_ints (m : Nat) : madeCells #[.int .i64 0] m = (vals (List.replicate m 0)).toArray := Array.toList_inj.1 (made_zeros m)
theorem mkI (m : Nat) (h1 : m ≤ 1000000) (w : World) :
    (Instr.makeSlice 22 (.int .i64 (m : Int)) (.int .i64 (m : Int))).run Tryd.prog w = .ok (.slice (some ⟨w.heap.size, 0, none⟩) m m) (w.alloc (.cells (vals (List.replicate m 0)).toArray 3)) := by
  rw [← made_ints]
  exact run_make_row' (P := Tryd.prog) 22 3 (.int .i64 0) 8 Tryd.underlying22 Ints.info_int rfl .i64 .i64 m (by omega) (by omega) w

theorem infoB : (Tryd.prog.info? 5).map (fun i => (i.zero, i.size, i.bytes)) = some (some (.int .u8 0), 1, 1) := by kernel_rfl
theorem mkB (m : Nat) (h1 : m ≤ 140737488351232) (w : World) :
    (Instr.makeSlice 33 (.int .i64 (m : Int)) (.int .i64 (m : Int))).run Tryd.prog w = .ok (.slice (some ⟨w.heap.size, 0, none⟩) m m) (w.alloc (.cells (madeCells #[.int .u8 0] m) 5)) :=
  run_make_row' (P := Tryd.prog) 33 5 (.int .u8 0) 1 Tryd.underlying33 infoB rfl .i64 .i64 m (by omega) (by omega) w

/-- A row of m bytes 0, as a text. -/
def zerosOf (m : Nat) : ByteArray := ⟨(List.replicate m 0).toArray⟩
theorem zerosOf_size (m : Nat) : (zerosOf m).size = m := by show (List.replicate m 0).toArray.size = m; simp
theorem cvB (m : Nat) (w : World) : (convert 33 9 (.slice (some ⟨w.heap.size, 0, none⟩) m m)).run Tryd.prog (w.alloc (.cells (madeCells #[.int .u8 0] m) 5)) = .ok (.string (zerosOf m)) (w.alloc (.cells (madeCells #[.int .u8 0] m) 5)) := by
  have := run_convert_bytes_back (P := Tryd.prog) (w.alloc (.cells (madeCells #[.int .u8 0] m) 5)) 33 9 5 ⟨w.heap.size, 0, none⟩ m (List.replicate m 0) Tryd.underlying33 Tryd.underlying5 Tryd.underlying9 (fun j hj => by
    have hj' : j < m := by simpa using hj
    have hplain : (⟨w.heap.size, 0, none⟩ : Addr).add j = ⟨w.heap.size, j, none⟩ := by unfold Addr.add; split <;> simp_all
    rw [hplain, World.cell?_alloc_at _ _ _ _ rfl, ← Array.getElem?_toList, toList_madeCells_one]
    simp [hj'])
  rw [List.length_replicate] at this
  exact this

end Go.Proofs.YtocnlefpbcnlmaaDoor.Res
