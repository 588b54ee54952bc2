/-
  The walk of DecoderForms: it answers true for any two ints. No condition.
-/
import Derived.Test.YtckhehiaoodkoaaDFormsA
import Derived.Test.YtckhehiaoodkoaaDFormsB
import Derived.Test.YtckhehiaoodkoaaDFormsC
namespace Go.Proofs.Ytckhehiaoodkoaa.Coder
open Go.RowKit Go.Proofs.Ytckhehiaoodkoaa.Num
set_option linter.unusedVariables false

theorem forms_walk (n x : Int) (w : World) :
    Calls Try.prog 5 #[.int .i64 n, .int .i64 x] w fun e w' => e = .returned (.bool true) ∧ Bel w w' := by
  obtain ⟨d, hd⟩ : ∃ d : Nat, 1 + x % 1024 = (d : Int) := ⟨(1 + x % 1024).toNat, by omega⟩
  have h1 : 1 ≤ d := by omega
  have h2 : d ≤ 1024 := by omega
  rcases (show n % 18446744073709551616 % 8 = 0 ∨ n % 18446744073709551616 % 8 = 1 ∨ n % 18446744073709551616 % 8 = 2 ∨ n % 18446744073709551616 % 8 = 3 ∨ n % 18446744073709551616 % 8 = 4 ∨ n % 18446744073709551616 % 8 = 5 ∨ n % 18446744073709551616 % 8 = 6 ∨ n % 18446744073709551616 % 8 = 7 from by omega) with h | h | h | h | h | h | h | h
  · exact forms_0 n x h d hd h1 h2 w
  · exact forms_1 n x h d hd h1 h2 w
  · exact forms_2 n x h d hd h1 h2 w
  · exact forms_3 n x h d hd h1 h2 w
  · exact forms_4 n x h d hd h1 h2 w
  · exact forms_5 n x h d hd h1 h2 w
  · exact forms_6 n x h d hd h1 h2 w
  · exact forms_7 n x h d hd h1 h2 w

end Go.Proofs.Ytckhehiaoodkoaa.Coder
