/-
  The walk of Varints: it answers true for any number, text and place. No condition but that the numbers are ints.
-/
import Derived.Test.YtggccjbedoojmaaVAwake
import Derived.OpenShut
namespace Go.Proofs.Ytggccjbedoojmaa.Varint
open Go.RowKit Go.Proofs.Ytggccjbedoojmaa.Num
set_option linter.unusedVariables false

set_option maxHeartbeats 1000000 in
/-- The law, once Put and PutVarint answer the same, and Get and GetVarint. -/
theorem varints_of (x k : Int) (s a : ByteArray) (n c d m : Int) (w : World)
    (p1 : ∀ w, Calls Try.prog 7 #[.int .i64 x] w fun e w' => e = .returned (.tuple #[.string a, .int .i64 n]) ∧ Onto w w')
    (p2 : ∀ w, Calls Try.prog 8 #[.int .i64 x] w fun e w' => e = .returned (.tuple #[.string a, .int .i64 n]) ∧ Onto w w')
    (p3 : ∀ w, Calls Try.prog 9 #[.string s, .int .i64 k] w fun e w' => e = .returned (.tuple #[.int .i64 c, .int .i64 d, .int .i64 m]) ∧ Onto w w')
    (p4 : ∀ w, Calls Try.prog 10 #[.string s, .int .i64 k] w fun e w' => e = .returned (.tuple #[.int .i64 c, .int .i64 d, .int .i64 m]) ∧ Onto w w') :
    Calls Try.prog 3 #[.int .i64 x, .string s, .int .i64 k] w fun e w' => e = .returned (.bool true) ∧ Onto w w' := by
  have P1 : Hid (∀ w, Calls Try.prog 7 #[.int .i64 x] w fun e w' => e = .returned (.tuple #[.string a, .int .i64 n]) ∧ Onto w w') := p1
  have P2 : Hid (∀ w, Calls Try.prog 8 #[.int .i64 x] w fun e w' => e = .returned (.tuple #[.string a, .int .i64 n]) ∧ Onto w w') := p2
  have P3 : Hid (∀ w, Calls Try.prog 9 #[.string s, .int .i64 k] w fun e w' => e = .returned (.tuple #[.int .i64 c, .int .i64 d, .int .i64 m]) ∧ Onto w w') := p3
  have P4 : Hid (∀ w, Calls Try.prog 10 #[.string s, .int .i64 k] w fun e w' => e = .returned (.tuple #[.int .i64 c, .int .i64 d, .int .i64 m]) ∧ Onto w w') := p4
  clear p1 p2 p3 p4
  go_enter Try.func3, Try.ntmps3
  go_wp2_with fail
  refine (P1.out _).mono ?_
  rintro e w1 ⟨rfl, g1⟩
  go_wp2_with fail
  refine (P2.out _).mono ?_
  rintro e w2 ⟨rfl, g2⟩
  go_wp2_with fail
  refine (P3.out _).mono ?_
  rintro e w3 ⟨rfl, g3⟩
  go_wp2_with fail
  refine (P4.out _).mono ?_
  rintro e w4 ⟨rfl, g4⟩
  go_wp2_with (go_at_call 11; go_in)
  refine (awake_true _).mono ?_
  rintro e w5 ⟨rfl, g5⟩
  have G : Hid (Onto w w5) := g1.trans (g2.trans (g3.trans (g4.trans g5)))
  clear g1 g2 g3 g4 g5
  go_wp2
  go_ret
  exact ⟨rfl, G.out⟩

theorem ans_is (a : Int) (o : Option (Int × Nat)) : ∃ c d m, ans a o = .tuple #[.int .i64 c, .int .i64 d, .int .i64 m] := by
  match o with
  | none => exact ⟨_, _, _, rfl⟩
  | some (x, n) => exact ⟨_, _, _, rfl⟩

theorem varints_walk (x k : Int) (s : ByteArray) (hm : -9223372036854775808 ≤ x) (hM : x ≤ 9223372036854775807) (hs : s.size ≤ maxLen) (w : World) :
    Calls Try.prog 3 #[.int .i64 x, .string s, .int .i64 k] w fun e w' => e = .returned (.bool true) ∧ Onto w w' := by
  have hput : ∃ a n, (∀ w, Calls Try.prog 7 #[.int .i64 x] w fun e w' => e = .returned (.tuple #[.string a, .int .i64 n]) ∧ Onto w w') ∧
      (∀ w, Calls Try.prog 8 #[.int .i64 x] w fun e w' => e = .returned (.tuple #[.string a, .int .i64 n]) ∧ Onto w w') := by
    by_cases hp : 0 ≤ x ∧ x < 4294967296
    · exact ⟨_, _, put_ok x hp.1 hp.2, ref_ok x hp.1 hp.2⟩
    · exact ⟨_, _, put_no x hm hM (by omega), ref_no x (by omega)⟩
  have hget : ∃ o, (∀ w, Calls Try.prog 9 #[.string s, .int .i64 k] w fun e w' => e = .returned (ans k o) ∧ Onto w w') ∧
      (∀ w, Calls Try.prog 10 #[.string s, .int .i64 k] w fun e w' => e = .returned (ans k o) ∧ Onto w w') := by
    by_cases hg : 0 ≤ k ∧ k ≤ s.size
    · exact ⟨_, get_any s k hs hg.1 hg.2, rget_any s k hs hg.1 hg.2⟩
    · exact ⟨none, get_off s k hs (by omega), rget_off s k hs (by omega)⟩
  obtain ⟨a, n, q1, q2⟩ := hput
  obtain ⟨o, q3, q4⟩ := hget
  obtain ⟨c, d, m, e⟩ := ans_is k o
  rw [e] at q3 q4
  exact varints_of x k s a n c d m w q1 q2 q3 q4

theorem int_in {x : Int} (h : (Lit.int .i64 x).wf = true) : -9223372036854775808 ≤ x ∧ x ≤ 9223372036854775807 := bounds_i64 h

end Go.Proofs.Ytggccjbedoojmaa.Varint
