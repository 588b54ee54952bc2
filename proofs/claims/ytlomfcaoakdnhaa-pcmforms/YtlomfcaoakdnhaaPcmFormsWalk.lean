/-
  PcmForms, walked: it answers true for every two ints. No condition.
-/
import Derived.Test.YtlomfcaoakdnhaaPcForms0
import Derived.Test.YtlomfcaoakdnhaaPcForms1
namespace Go.Proofs.Ytlomfcaoakdnhaa.Pcm
open Go.RowKit Go.Sort Go.Proofs.Ytlomfcaoakdnhaa.Mod Go.Proofs.Ytlomfcaoakdnhaa.Ints Go.Proofs.Ytlomfcaoakdnhaa.Num
set_option linter.unusedVariables false
set_option linter.unusedSimpArgs false

theorem forms_walk (a x : Int) (w : World) : Calls Try.prog 4 #[.int .i64 a, .int .i64 x] w fun e w' => e = .returned (.bool true) ∧ Bel w w' := by
  have h := and_one a
  rcases (by omega : a % 2 = 0 ∨ a % 2 = 1) with q | q
  · exact forms_0 a x (h.trans q) w
  · exact forms_1 a x (h.trans q) w

end Go.Proofs.Ytlomfcaoakdnhaa.Pcm
