/-
  Rows of zeros that are made: of ints, of any length up to a million. No condition.
-/
import Derived.Test.YtamefddgpdhccaaGRow
import Derived.Test.YtamefddgpdhccaaRows
import Derived.ProofKit
import Derived.Deep.OwnRows

namespace Go.Proofs.Ytamefddgpdhccaa.Mod
open Go.RowKit
set_option linter.unusedVariables false

theorem infoI : (Try.prog.info? 3).map (fun i => (i.zero, i.size, i.bytes)) = some (some (.int .i64 0), 1, 8) := by kernel_rfl
theorem made_row (m : Nat) : madeCells #[.int .i64 0] m = (vals (List.replicate m 0)).toArray := by
  refine Array.toList_inj.1 (List.ext_getElem (by simp [madeCells, vals]) fun i a b => ?_)
  simp [madeCells, vals, Nat.mod_one]
theorem mk_ints (m : Nat) (h1 : m ≤ 1000000) (w : World) :
    (Instr.makeSlice 22 (.int .i64 (m : Int)) (.int .i64 (m : Int))).run Try.prog w = .ok (.slice (some ⟨w.heap.size, 0, none⟩) m m) (w.alloc (.cells (vals (List.replicate m 0)).toArray 3)) := by
  rw [← made_row]
  exact run_make_row' (P := Try.prog) 22 3 (.int .i64 0) 8 Try.underlying22 infoI rfl .i64 .i64 m (by omega) (by omega) w

end Go.Proofs.Ytamefddgpdhccaa.Mod
