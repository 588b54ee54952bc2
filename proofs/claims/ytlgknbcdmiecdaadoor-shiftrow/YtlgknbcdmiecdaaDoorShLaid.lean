/-
  From the row's condition (the library's two tables are laid as its text lays them) to what the walks ask; the witness. No condition of its own.
-/
import Derived.Test.YtlgknbcdmiecdaaDoorShTz
import Derived.Test.YtlgknbcdmiecdaaDoorRows
import Derived.ProofKit
import Derived.LaidMore
import Derived.Lib.LaidTab
import Derived.OpenShut
import Derived.Stop.Joined
import Derived.Stop.LaidErr
namespace Go.Proofs.YtlgknbcdmiecdaaDoor.Shf
open Go.RowKit

theorem own : ownKnob Tryd.prog.godebug = none := by kernel_rfl
/-- What the rows list: the library's tables of 32 and of 64 bits. -/
def laid : List (String × DataW Unit) := Rows.shiftsRow.laid
def name32 : String := Rows.shiftsRow.named.headD ""
def name64 : String := Rows.shiftsRow.named.tail.headD ""
def nums (L : List Nat) : List Int := L.map fun n : Nat => (n : Int)

theorem gTab : Tryd.prog.globalNamed name64 = some 1 := by kernel_rfl
theorem tTab : (Tryd.prog.globals[1]?).map (·.type) = some 53 := by kernel_rfl
theorem cTab : Tryd.prog.cellsOf 53 = 64 := by kernel_rfl
theorem cByte : Tryd.prog.cellsOf 5 = 1 := by kernel_rfl

/-- The door's own heap meets the condition: three closed facts. -/
theorem door_met (os : Os) (args : Array Value) : laidMetH Tryd.prog laid ((World.doorLaid Tryd.prog 400 os).forCall (fun _ _ => 0) ⟨#[], args, []⟩).memory :=
  laidMetH_of_parts3 (fuel := 8) (laidMet_of_run' 8 (by kernel_rfl) (by kernel_rfl)) (by kernel_rfl) (by kernel_rfl)

/-- What the condition gives the walks: the table's cells. -/
theorem of_laid {W : World} (h : laidMetH Tryd.prog laid W) : Tab W := by
  rw [MakeChecks.laidMetH_plain _ _ _ (by kernel_rfl)] at h
  have h2 : laidMet Tryd.prog [(name32, Lib.tabData .u8 (nums Lib.deBruijn32tab)), (name64, Lib.tabData .u8 (nums Lib.deBruijn64tab))] W := h
  have hT := Lib.tabIs_of_head gTab tTab Tryd.underlying53 Tryd.underlying5 cByte cTab h2.tail
  intro d hd
  have c := hT.cell gTab d (show d < (nums Lib.deBruijn64tab).length from hd)
  rw [c]
  have hl : d < Lib.deBruijn64tab.length := hd
  simp [nums, List.getD_eq_getElem?_getD, List.getElem?_eq_getElem hl]

end Go.Proofs.YtlgknbcdmiecdaaDoor.Shf
