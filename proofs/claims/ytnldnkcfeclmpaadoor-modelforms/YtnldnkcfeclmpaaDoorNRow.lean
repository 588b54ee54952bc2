/-
  What stays behind a call: the package's table. No condition.
-/
import Derived.Test.YtnldnkcfeclmpaaDoorNBase
import Derived.Test.YtnldnkcfeclmpaaDoorGPut
namespace Go.Proofs.YtnldnkcfeclmpaaDoor.Mod
open Go.RowKit Go.Sort
set_option linter.unusedVariables false
set_option linter.unusedSimpArgs false

theorem bel_of {w w' : World} (h : Onto w w') : Bel w w' := h.b
theorem tab_bel {w w' : World} (T : Str.Tab w) (h : Bel w w') : Str.Tab w' := fun d hd => h.keep (T d hd)

end Go.Proofs.YtnldnkcfeclmpaaDoor.Mod
