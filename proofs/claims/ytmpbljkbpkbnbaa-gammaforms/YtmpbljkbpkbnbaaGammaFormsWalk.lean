/-
  GammaForms, walked: it answers true for every two ints. No condition.
-/
import Derived.Test.YtmpbljkbpkbnbaaGForms0
import Derived.Test.YtmpbljkbpkbnbaaGForms1
namespace Go.Proofs.Ytmpbljkbpkbnbaa.Gam
open Go.RowKit Go.Proofs.Ytmpbljkbpkbnbaa.Mod Go.Proofs.Ytmpbljkbpkbnbaa.Ints Go.Proofs.Ytmpbljkbpkbnbaa.Num
set_option linter.unusedVariables false

theorem forms_walk (x y : Int) (w : World) : Calls Try.prog 4 #[.int .i64 x, .int .i64 y] w fun e w' => e = .returned (.bool true) ∧ Bel w w' := by
  have hd := and_10 y
  have d0 : 0 ≤ y % 1024 := by omega
  have d1 : y % 1024 ≤ 1023 := by omega
  have hk := and_one x
  obtain ⟨j, hj, e⟩ := which_11 x
  rcases (by omega : x % 2 = 0 ∨ x % 2 = 1) with q | q
  · rw [q] at hk
    match j, hj, e with
    | 0, _, e => exact forms_0_0 x y _ hk hd d0 d1 e w
    | 1, _, e => exact forms_0_1 x y _ hk hd d0 d1 e w
    | 2, _, e => exact forms_0_2 x y _ hk hd d0 d1 e w
    | 3, _, e => exact forms_0_3 x y _ hk hd d0 d1 e w
    | 4, _, e => exact forms_0_4 x y _ hk hd d0 d1 e w
    | 5, _, e => exact forms_0_5 x y _ hk hd d0 d1 e w
    | 6, _, e => exact forms_0_6 x y _ hk hd d0 d1 e w
    | 7, _, e => exact forms_0_7 x y _ hk hd d0 d1 e w
    | 8, _, e => exact forms_0_8 x y _ hk hd d0 d1 e w
    | 9, _, e => exact forms_0_9 x y _ hk hd d0 d1 e w
    | 10, _, e => exact forms_0_10 x y _ hk hd d0 d1 e w
    | j + 11, hj, _ => exact absurd hj (by omega)
  · rw [q] at hk
    match j, hj, e with
    | 0, _, e => exact forms_1_0 x y _ hk hd d0 d1 e w
    | 1, _, e => exact forms_1_1 x y _ hk hd d0 d1 e w
    | 2, _, e => exact forms_1_2 x y _ hk hd d0 d1 e w
    | 3, _, e => exact forms_1_3 x y _ hk hd d0 d1 e w
    | 4, _, e => exact forms_1_4 x y _ hk hd d0 d1 e w
    | 5, _, e => exact forms_1_5 x y _ hk hd d0 d1 e w
    | 6, _, e => exact forms_1_6 x y _ hk hd d0 d1 e w
    | 7, _, e => exact forms_1_7 x y _ hk hd d0 d1 e w
    | 8, _, e => exact forms_1_8 x y _ hk hd d0 d1 e w
    | 9, _, e => exact forms_1_9 x y _ hk hd d0 d1 e w
    | 10, _, e => exact forms_1_10 x y _ hk hd d0 d1 e w
    | j + 11, hj, _ => exact absurd hj (by omega)

end Go.Proofs.Ytmpbljkbpkbnbaa.Gam
