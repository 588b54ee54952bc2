/-
  The walk of CoderForms: it answers true for every two ints. No condition.
-/
import Derived.Test.YthipckllancohaaFormsEven
import Derived.Test.YthipckllancohaaFormsOdd
namespace Go.Proofs.Ythipckllancohaa.Coder
open Go.RowKit

theorem forms_walk (n x : Int) (w : World) :
    Calls Try.prog 4 #[.int .i64 n, .int .i64 x] w fun e w' => e = .returned (.bool true) ∧ Bel w w' := by
  obtain ⟨c, hc⟩ : ∃ c : Nat, n % 18446744073709551616 % 6 = (c : Int) := ⟨(n % 18446744073709551616 % 6).toNat, by omega⟩
  obtain ⟨d, hd⟩ : ∃ d : Nat, 1 + x % 1024 = (d : Int) := ⟨(1 + x % 1024).toNat, by omega⟩
  rcases (show n % 2 = 0 ∨ n % 2 = 1 from by omega) with e | e
  · exact forms_0 n x c hc (by omega) d hd (by omega) (by omega) e w
  · exact forms_1 n x c hc (by omega) d hd (by omega) (by omega) e w

end Go.Proofs.Ythipckllancohaa.Coder
