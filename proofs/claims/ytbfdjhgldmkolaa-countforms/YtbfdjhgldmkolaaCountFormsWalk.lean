/-
  The walk of CountForms: it answers true for any two ints. No condition.
-/
import Derived.Test.YtbfdjhgldmkolaaUAwake
import Derived.Test.YtbfdjhgldmkolaaOnto
namespace Go.Proofs.Ytbfdjhgldmkolaa.Cnt
open Go.RowKit Go.Proofs.Ytbfdjhgldmkolaa.Num
set_option linter.unusedVariables false

theorem and1 (n : Int) : bits .and .i64 n 1 = n % 2 := and_mask 1 1 (by decide) (by decide) n

set_option maxHeartbeats 1000000 in
theorem forms_even (k x d : Int) (hk : k % 2 = 0) (hd : bits .and .i64 x 1048575 = d) (d0 : 0 ≤ d) (d1 : d < 1048576) (w : World) :
    Calls Try.prog 5 #[.int .i64 k, .int .i64 x] w fun e w' => e = .returned (.bool true) ∧ Onto w w' := by
  have hm : bits .and .i64 k 1 = 0 := (and1 k).trans hk
  clear hk
  go_enter Try.func5, Try.ntmps5
  go_wp2_with fail
  refine (awake_true _).mono ?_
  rintro e w1 ⟨rfl, rfl⟩
  go_wp2_with fail
  refine (next_no _ _ (.inl (.inl (by omega))) _).mono ?_
  rintro e w2 ⟨rfl, rfl⟩
  go_wp2_with fail
  refine (next_no _ _ (.inr (.inl (by omega))) _).mono ?_
  rintro e w3 ⟨rfl, rfl⟩
  go_wp2_with fail
  refine (p_no _ (.inl (by omega)) _).mono ?_
  rintro e w4 ⟨rfl, rfl⟩
  go_wp2_with (go_at_call 12; go_in)
  go_wp2
  go_ret
  exact ⟨rfl, ((Onto.refl _).alloc _ _).alloc _ _⟩

set_option maxHeartbeats 1000000 in
theorem forms_odd (k x d : Int) (hk : k % 2 = 1) (hd : bits .and .i64 x 1048575 = d) (d0 : 0 ≤ d) (d1 : d < 1048576) (w : World) :
    Calls Try.prog 5 #[.int .i64 k, .int .i64 x] w fun e w' => e = .returned (.bool true) ∧ Onto w w' := by
  have hm : bits .and .i64 k 1 = 1 := (and1 k).trans hk
  clear hk
  go_enter Try.func5, Try.ntmps5
  go_wp2_with fail
  refine (awake_true _).mono ?_
  rintro e w1 ⟨rfl, rfl⟩
  go_wp2_with fail
  refine (next_no _ _ (.inl (.inr (by omega))) _).mono ?_
  rintro e w2 ⟨rfl, rfl⟩
  go_wp2_with fail
  refine (next_no _ _ (.inr (.inr (by omega))) _).mono ?_
  rintro e w3 ⟨rfl, rfl⟩
  go_wp2_with fail
  refine (p_no _ (.inr (by omega)) _).mono ?_
  rintro e w4 ⟨rfl, rfl⟩
  go_wp2_with (go_at_call 12; go_in)
  go_wp2
  go_ret
  exact ⟨rfl, ((Onto.refl _).alloc _ _).alloc _ _⟩

theorem forms_walk (k x : Int) (w : World) :
    Calls Try.prog 5 #[.int .i64 k, .int .i64 x] w fun e w' => e = .returned (.bool true) ∧ Onto w w' := by
  have hd : bits .and .i64 x 1048575 = x % 1048576 := and_mask 20 1048575 (by decide) (by decide) x
  rcases (by omega : k % 2 = 0 ∨ k % 2 = 1) with h | h
  · exact forms_even k x _ h hd (by omega) (by omega) w
  · exact forms_odd k x _ h hd (by omega) (by omega) w

end Go.Proofs.Ytbfdjhgldmkolaa.Cnt
