/-
  The reference's Squash under a letter. No condition.
-/
import Derived.Test.YtnldnkcfeclmpaaDoorNBase
import Derived.Test.YtnldnkcfeclmpaaDoorSRef
namespace Go.Proofs.YtnldnkcfeclmpaaDoor.Mix
open Go.RowKit Go.Proofs.YtnldnkcfeclmpaaDoor.Num Go.Proofs.YtnldnkcfeclmpaaDoor.Str
set_option linter.unusedVariables false

theorem ref_squash_is (x y : Int) (h : sq x = y) (w : World) :
    Calls Tryd.prog 43 #[.int .i64 x] w fun e w' => e = .returned (.int .i64 y) ∧ Onto w w' := h ▸ ref_squash x w

end Go.Proofs.YtnldnkcfeclmpaaDoor.Mix
