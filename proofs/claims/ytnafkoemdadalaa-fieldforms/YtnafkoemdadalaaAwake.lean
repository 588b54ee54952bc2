/-
  The contract of the check that every statement of layer 1 begins with: it answers true, whatever the world. No condition.
-/
import Derived.Test.YtnafkoemdadalaaField
namespace Go.Proofs.Ytnafkoemdadalaa.Field
open Go.RowKit Go.Proofs.Ytnafkoemdadalaa.Num
set_option linter.unusedVariables false

theorem grown_trans {a b c : World} (h : Grown a b) (k : Grown b c) : Grown a c := by
  obtain ⟨h1, h2, h3⟩ := h
  obtain ⟨k1, k2, k3⟩ := k
  exact ⟨World.keptBut_trans h1 k1, fun x => (k2 x).trans (h2 x), Nat.le_trans h3 k3⟩

theorem str258 : strOfNums (low (3 : Int).toNat 258) = ⟨#[2, 1, 0]⟩ := by decide +kernel
theorem num258 : num (ByteArray.mk #[2, 1, 0]).data.toList = 258 := by decide +kernel

set_option maxHeartbeats 1000000 in
theorem awake_true (w : World) :
    Calls Try.prog 12 #[] w fun e w' => e = .returned (.bool true) ∧ Grown w w' := by
  go_enter Try.func12, Try.ntmps12
  go_wp2_with fail
  refine (put_ok 258 3 (by omega) (by omega) (by omega) (by decide) _).mono ?_
  rintro e w1 ⟨rfl, g1⟩
  rw [str258]
  go_wp2_with fail
  refine (get_ok ⟨#[2, 1, 0]⟩ (by decide) (by decide) _).mono ?_
  rintro e w2 ⟨rfl, g2⟩
  rw [num258]
  go_wp2_with fail
  refine (put_no 256 1 (by omega) (.inr (.inr (.inr ⟨by omega, by omega, by decide⟩))) _).mono ?_
  rintro e w3 ⟨rfl, g3⟩
  go_wp2_with fail
  refine (get_no ⟨#[]⟩ (by decide) (.inl (by decide)) _).mono ?_
  rintro e w4 ⟨rfl, g4⟩
  have G : Hid (Grown w w4) := grown_trans g1 (grown_trans g2 (grown_trans g3 g4))
  clear g1 g2 g3 g4
  go_wp2
  go_ret
  exact ⟨rfl, G.out⟩

end Go.Proofs.Ytnafkoemdadalaa.Field
