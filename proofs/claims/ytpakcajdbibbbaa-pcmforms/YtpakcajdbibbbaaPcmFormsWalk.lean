/-
  PcmForms, walked: it answers true for every two ints. No condition.
-/
import Derived.Test.YtpakcajdbibbbaaPcForms0
import Derived.Test.YtpakcajdbibbbaaPcForms1
namespace Go.Proofs.Ytpakcajdbibbbaa.Pcm
open Go.RowKit Go.Sort Go.Proofs.Ytpakcajdbibbbaa.Mod Go.Proofs.Ytpakcajdbibbbaa.Ints Go.Proofs.Ytpakcajdbibbbaa.Num
set_option linter.unusedVariables false
set_option linter.unusedSimpArgs false

theorem forms_walk (a x : Int) (w : World) : Calls Try.prog 4 #[.int .i64 a, .int .i64 x] w fun e w' => e = .returned (.bool true) ∧ Bel w w' := by
  have h := and_one a
  rcases (by omega : a % 2 = 0 ∨ a % 2 = 1) with q | q
  · exact forms_0 a x (h.trans q) w
  · exact forms_1 a x (h.trans q) w

end Go.Proofs.Ytpakcajdbibbbaa.Pcm
