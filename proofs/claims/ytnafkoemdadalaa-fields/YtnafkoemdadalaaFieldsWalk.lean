/-
  The walk of Fields: it answers true for any two ints and any text. No condition but that the first number is an int.
-/
import Derived.Test.YtnafkoemdadalaaAwake
import Derived.Test.YtnafkoemdadalaaRef
import Derived.OpenShut
namespace Go.Proofs.Ytnafkoemdadalaa.Field
open Go.RowKit Go.Proofs.Ytnafkoemdadalaa.Num
set_option linter.unusedVariables false

set_option maxHeartbeats 1000000 in
/-- The law, once Put and PutField answer the same, and Get and GetField. -/
theorem fields_of (x k : Int) (s a : ByteArray) (n c m : Int) (w : World)
    (p1 : ∀ w, Calls Try.prog 7 #[.int .i64 x, .int .i64 k] w fun e w' => e = .returned (.tuple #[.string a, .int .i64 n]) ∧ Grown w w')
    (p2 : ∀ w, Calls Try.prog 8 #[.int .i64 x, .int .i64 k] w fun e w' => e = .returned (.tuple #[.string a, .int .i64 n]) ∧ Grown w w')
    (p3 : ∀ w, Calls Try.prog 9 #[.string s] w fun e w' => e = .returned (.tuple #[.int .i64 c, .int .i64 m]) ∧ Grown w w')
    (p4 : ∀ w, Calls Try.prog 10 #[.string s] w fun e w' => e = .returned (.tuple #[.int .i64 c, .int .i64 m]) ∧ Grown w w') :
    Calls Try.prog 3 #[.int .i64 x, .int .i64 k, .string s] w fun e w' => e = .returned (.bool true) ∧ Grown w w' := by
  have P1 : Hid (∀ w, Calls Try.prog 7 #[.int .i64 x, .int .i64 k] w fun e w' => e = .returned (.tuple #[.string a, .int .i64 n]) ∧ Grown w w') := p1
  have P2 : Hid (∀ w, Calls Try.prog 8 #[.int .i64 x, .int .i64 k] w fun e w' => e = .returned (.tuple #[.string a, .int .i64 n]) ∧ Grown w w') := p2
  have P3 : Hid (∀ w, Calls Try.prog 9 #[.string s] w fun e w' => e = .returned (.tuple #[.int .i64 c, .int .i64 m]) ∧ Grown w w') := p3
  have P4 : Hid (∀ w, Calls Try.prog 10 #[.string s] w fun e w' => e = .returned (.tuple #[.int .i64 c, .int .i64 m]) ∧ Grown w w') := p4
  clear p1 p2 p3 p4
  go_enter Try.func3, Try.ntmps3
  go_wp2_with fail
  refine (P1.out _).mono ?_
  rintro e w1 ⟨rfl, g1⟩
  go_wp2_with fail
  refine (P2.out _).mono ?_
  rintro e w2 ⟨rfl, g2⟩
  go_wp2_with fail
  refine (P3.out _).mono ?_
  rintro e w3 ⟨rfl, g3⟩
  go_wp2_with fail
  refine (P4.out _).mono ?_
  rintro e w4 ⟨rfl, g4⟩
  go_wp2_with (go_at_call 11; go_in)
  refine (awake_true _).mono ?_
  rintro e w5 ⟨rfl, g5⟩
  have G : Hid (Grown w w5) := grown_trans g1 (grown_trans g2 (grown_trans g3 (grown_trans g4 g5)))
  clear g1 g2 g3 g4 g5
  go_wp2
  go_ret
  exact ⟨rfl, G.out⟩

theorem fields_walk (x k : Int) (s : ByteArray) (hx : x ≤ 9223372036854775807) (hs : s.size ≤ maxLen) (w : World) :
    Calls Try.prog 3 #[.int .i64 x, .int .i64 k, .string s] w fun e w' => e = .returned (.bool true) ∧ Grown w w' := by
  by_cases hp : 1 ≤ k ∧ k ≤ 4 ∧ 0 ≤ x ∧ x < 256 ^ k.toNat
  · obtain ⟨h1, h2, h3, h4⟩ := hp
    by_cases hg : 1 ≤ s.size ∧ s.size ≤ 4
    · exact fields_of x k s _ _ _ _ w (put_ok x k h1 h2 h3 h4) (Ref.put_ok x k h1 h2 h3 h4) (get_ok s hg.1 hg.2) (Ref.get_ok s hg.1 hg.2)
    · have hg' : s.size < 1 ∨ 4 < s.size := by omega
      exact fields_of x k s _ _ _ _ w (put_ok x k h1 h2 h3 h4) (Ref.put_ok x k h1 h2 h3 h4) (get_no s hs hg') (Ref.get_no s hs hg')
  · have hp' : k < 1 ∨ 4 < k ∨ x < 0 ∨ (1 ≤ k ∧ k ≤ 4 ∧ 256 ^ k.toNat ≤ x) := by omega
    by_cases hg : 1 ≤ s.size ∧ s.size ≤ 4
    · exact fields_of x k s _ _ _ _ w (put_no x k hx hp') (Ref.put_no x k hx hp') (get_ok s hg.1 hg.2) (Ref.get_ok s hg.1 hg.2)
    · have hg' : s.size < 1 ∨ 4 < s.size := by omega
      exact fields_of x k s _ _ _ _ w (put_no x k hx hp') (Ref.put_no x k hx hp') (get_no s hs hg') (Ref.get_no s hs hg')

theorem int_le {x : Int} (h : (Lit.int .i64 x).wf = true) : x ≤ 9223372036854775807 := (bounds_i64 h).2

end Go.Proofs.Ytnafkoemdadalaa.Field
