/-
  From the row's condition (the package's table is laid as its text lays it) to what the walks ask; the witness. No condition of its own.
-/
import Derived.Test.YtoldedbfoechlaaGreatDoorSSquash
import Derived.Test.YtoldedbfoechlaaGreatDoorRows
import Derived.ProofKit
import Derived.LaidMore
import Derived.Lib.LaidTab
import Derived.OpenShut
import Derived.Stop.Joined
namespace Go.Proofs.YtoldedbfoechlaaGreatDoor.Str
open Go.RowKit

theorem own : ownKnob Tryz.prog.godebug = none := by kernel_rfl
/-- What the rows list: the table of package stretch. -/
def laid : List (String × DataW Unit) := Rows.residualsRow.laid
def name : String := Rows.residualsRow.named.headD ""

theorem gPlaces : Tryz.prog.globalNamed name = some 0 := by kernel_rfl
theorem tPlaces : (Tryz.prog.globals[0]?).map (·.type) = some 144 := by kernel_rfl
theorem cPlaces : Tryz.prog.cellsOf 144 = 33 := by kernel_rfl
theorem cInt : Tryz.prog.cellsOf 3 = 1 := by kernel_rfl

/-- The door's own heap meets the condition: three closed facts. -/
theorem door_met (os : Os) (args : Array Value) : laidMetH Tryz.prog laid ((World.doorLaid Tryz.prog 400 os).forCall (fun _ _ => 0) ⟨#[], args, []⟩).memory :=
  laidMetH_of_parts3 (fuel := 8) (laidMet_of_run' 8 (by kernel_rfl) (by kernel_rfl)) (by kernel_rfl) (by kernel_rfl)

/-- What the condition gives the walks: the table's cells. -/
theorem of_laid {W : World} (h : laidMetH Tryz.prog laid W) : Tab W := by
  rw [MakeChecks.laidMetH_plain _ _ _ (by kernel_rfl)] at h
  have h2 : laidMet Tryz.prog [(name, Lib.tabData .i64 places)] W := h
  have hT := Lib.tabIs_of_head gPlaces tPlaces Tryz.underlying144 Tryz.underlying3 cInt cPlaces h2
  exact fun d hd => hT.cell gPlaces d hd

end Go.Proofs.YtoldedbfoechlaaGreatDoor.Str
