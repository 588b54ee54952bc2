/-
  The check that every statement of layer 14 makes ahead. No condition.
-/
import Derived.Test.YtamefddgpdhccaaLLearnY
import Derived.Test.YtamefddgpdhccaaLBuild
namespace Go.Proofs.Ytamefddgpdhccaa.Lin
open Go.RowKit Go.Sort Go.Proofs.Ytamefddgpdhccaa.Mod
set_option linter.unusedVariables false
set_option linter.unusedSimpArgs false

def X0 : List Int := [4096, 0, 0, 0, 0, 0, 0, 0, 7, -3, 0, 0, 0, 0, 0, 0]
def X1 : List Int := [4112, -16, 0, 0, 0, 0, 0, 0, 9, 7, -3, 0, 0, 0, 0, 0]
def X2 : List Int := [1048577, 0, 0, 0, 0, 0, 0, 0, 0, 0, 0, 0, 0, 0, 0, 0]

end Go.Proofs.Ytamefddgpdhccaa.Lin
