/-
  Pcms answers true: the walk, of arguments as the frame hands them. Conditions: within the reach.
-/
import Derived.Test.YtpakcajdbibbbaaPcmsWalk
import Derived.Test.YtpakcajdbibbbaaGLaw
namespace Go.Proofs.Ytpakcajdbibbbaa.Pcm
open Go.RowKit Go.Proofs.Ytpakcajdbibbbaa.Mod
set_option linter.unusedVariables false

theorem fmt_of (F : List Int) (h : F.length = 2) : mdl F = fmt (F.getD 0 0) (F.getD 1 0) := by
  match F, h with
  | [c, b], _ => rfl

theorem pcms_row (s : ByteArray) (hs : s.size ≤ 140737488351232) (ao : Option Addr) (Ls : List (List Int)) (n cap : Nat) (F : List Int) (hF : F.length = 2) (w : World) (hA : n = Ls.length ∧ n * 24 ≤ 140737488351232 ∧ Lls w ao Ls) :
    Calls Try.prog 3 #[.string s, .slice ao n cap, mdl F] w fun e w' => e = .returned (.bool true) ∧ Bel w w' := by
  rw [fmt_of F hF]
  exact pcms_walk s (by unfold maxLen; omega) ao Ls n cap hA.1 hA.2.1 _ _ w hA.2.2

end Go.Proofs.Ytpakcajdbibbbaa.Pcm
