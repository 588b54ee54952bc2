/-
  The walk of MixForms: it answers true for any ints. Condition: the package's table is laid as its text lays it.
-/
import Derived.Test.YtnnmldhhofoliaaDoorMForms0
import Derived.Test.YtnnmldhhofoliaaDoorMForms1
import Derived.Test.YtnnmldhhofoliaaDoorMForms2
namespace Go.Proofs.YtnnmldhhofoliaaDoor.Mix
open Go.RowKit Go.Proofs.YtnnmldhhofoliaaDoor.Num Go.Proofs.YtnnmldhhofoliaaDoor.Str
set_option linter.unusedVariables false

theorem forms_walk (n m : Int) (w : World) (T : Tab w) :
    Calls Tryd.prog 4 #[.int .i64 n, .int .i64 m] w fun e w' => e = .returned (.bool true) ∧ Onto w w' := by
  rcases (show n % 18446744073709551616 % 3 = 0 ∨ n % 18446744073709551616 % 3 = 1 ∨ n % 18446744073709551616 % 3 = 2 from by omega) with h | h | h
  · exact forms_0 n m h w T
  · exact forms_1 n m h w T
  · exact forms_2 n m h w T

end Go.Proofs.YtnnmldhhofoliaaDoor.Mix
