/-
  The walk of ModelForms: it answers true for any ints. Condition: the package's table is laid as its text lays it.
-/
import Derived.Test.YtnldnkcfeclmpaaDoorNForms0
import Derived.Test.YtnldnkcfeclmpaaDoorNForms1
import Derived.Test.YtnldnkcfeclmpaaDoorNForms2
import Derived.Test.YtnldnkcfeclmpaaDoorNForms3
import Derived.Test.YtnldnkcfeclmpaaDoorNForms4
namespace Go.Proofs.YtnldnkcfeclmpaaDoor.Mod
open Go.RowKit Go.Sort
set_option linter.unusedVariables false

theorem forms_walk (which x : Int) (w : World) (T : Str.Tab w) :
    Calls Tryd.prog 4 #[.int .i64 which, .int .i64 x] w fun e w' => e = .returned (.bool true) ∧ Bel w w' := by
  obtain ⟨r, hr3, hr⟩ : ∃ r : Nat, r < 3 ∧ x % 18446744073709551616 % 3 = (r : Int) := ⟨(x % 18446744073709551616 % 3).toNat, by omega, by omega⟩
  obtain ⟨j, hj, hx⟩ : ∃ j : Nat, j < 64 ∧ x % 64 = (j : Int) := ⟨(x % 64).toNat, by omega, by omega⟩
  have hs : which / 4 % 2 = 0 ∨ which / 4 % 2 = 1 := by omega
  rcases (show which % 4 = 0 ∨ which % 4 = 1 ∨ which % 4 = 2 ∨ which % 4 = 3 from by omega) with hc | hc | hc | hc
  · rcases hs with hs | hs
    · exact forms_00 which x hc hs r j hr3 hj hr hx w T
    · exact forms_01 which x hc hs r j hr3 hj hr hx w T
  · exact forms_1 which x hc r hr3 hr w T
  · have : r = 0 ∨ r = 1 ∨ r = 2 := by omega
    rcases this with rfl | rfl | rfl
    · rcases hs with hs | hs
      · exact forms_200 which x hc hs hr w T
      · exact forms_201 which x hc hs hr w T
    · rcases hs with hs | hs
      · exact forms_210 which x hc hs hr w T
      · exact forms_211 which x hc hs hr w T
    · rcases hs with hs | hs
      · exact forms_220 which x hc hs hr w T
      · exact forms_221 which x hc hs hr w T
  · rcases hs with hs | hs
    · exact forms_30 which x hc hs w T
    · exact forms_31 which x hc hs w T

end Go.Proofs.YtnldnkcfeclmpaaDoor.Mod
