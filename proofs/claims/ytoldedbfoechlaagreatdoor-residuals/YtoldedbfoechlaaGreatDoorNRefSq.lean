/-
  The reference's Squash under a letter. No condition.
-/
import Derived.Test.YtoldedbfoechlaaGreatDoorNBase
import Derived.Test.YtoldedbfoechlaaGreatDoorSRef
namespace Go.Proofs.YtoldedbfoechlaaGreatDoor.Mix
open Go.RowKit Go.Proofs.YtoldedbfoechlaaGreatDoor.Num Go.Proofs.YtoldedbfoechlaaGreatDoor.Str
set_option linter.unusedVariables false

theorem ref_squash_is (x y : Int) (h : sq x = y) (w : World) :
    Calls Tryz.prog 93 #[.int .i64 x] w fun e w' => e = .returned (.int .i64 y) ∧ Onto w w' := h ▸ ref_squash x w

end Go.Proofs.YtoldedbfoechlaaGreatDoor.Mix
