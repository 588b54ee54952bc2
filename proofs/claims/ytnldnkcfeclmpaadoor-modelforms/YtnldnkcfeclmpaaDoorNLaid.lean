/-
  From the row's condition (the package's table is laid as its text lays it) to what the walks ask; the witness. No condition of its own.
-/
import Derived.Test.YtnldnkcfeclmpaaDoorSSquash
import Derived.Test.YtnldnkcfeclmpaaDoorRows
import Derived.ProofKit
import Derived.LaidMore
import Derived.Lib.LaidTab
import Derived.OpenShut
import Derived.Stop.Joined
namespace Go.Proofs.YtnldnkcfeclmpaaDoor.Str
open Go.RowKit

theorem own : ownKnob Tryd.prog.godebug = none := by kernel_rfl
/-- What the rows list: the table of package stretch. -/
def laid : List (String × DataW Unit) := Rows.modelsRow.laid
def name : String := Rows.modelsRow.named.headD ""

theorem gPlaces : Tryd.prog.globalNamed name = some 0 := by kernel_rfl
theorem tPlaces : (Tryd.prog.globals[0]?).map (·.type) = some 72 := by kernel_rfl
theorem cPlaces : Tryd.prog.cellsOf 72 = 33 := by kernel_rfl
theorem cInt : Tryd.prog.cellsOf 3 = 1 := by kernel_rfl

/-- The door's own heap meets the condition: three closed facts. -/
theorem door_met (os : Os) (args : Array Value) : laidMetH Tryd.prog laid ((World.doorLaid Tryd.prog 400 os).forCall (fun _ _ => 0) ⟨#[], args, []⟩).memory :=
  laidMetH_of_parts3 (fuel := 8) (laidMet_of_run' 8 (by kernel_rfl) (by kernel_rfl)) (by kernel_rfl) (by kernel_rfl)

/-- What the condition gives the walks: the table's cells. -/
theorem of_laid {W : World} (h : laidMetH Tryd.prog laid W) : Tab W := by
  rw [MakeChecks.laidMetH_plain _ _ _ (by kernel_rfl)] at h
  have h2 : laidMet Tryd.prog [(name, Lib.tabData .i64 places)] W := h
  have hT := Lib.tabIs_of_head gPlaces tPlaces Tryd.underlying72 Tryd.underlying3 cInt cPlaces h2
  exact fun d hd => hT.cell gPlaces d hd

end Go.Proofs.YtnldnkcfeclmpaaDoor.Str
