/-
  The walk of CrcLonger: it answers true for any three texts. No condition but that two of them, one behind the other, are no longer than an int can tell.
-/
import Derived.Test.YtfjonehccmoadaaCAwake
namespace Go.Proofs.Ytfjonehccmoadaa.Crc
open Go.RowKit
set_option linter.unusedVariables false

theorem sum_cat (s t : ByteArray) (h : s.size + t.size ≤ 9223372036854775807) (w : World) :
    Calls Try.prog 9 #[.string (s ++ t)] w fun e w' => e = .returned (.int .i64 ((crc (s.data.toList ++ t.data.toList) : Nat) : Int)) ∧ w' = w := by
  have e : (s ++ t).data.toList = s.data.toList ++ t.data.toList := by rw [ByteArray.data_append, Array.toList_append]
  have h2 := sum_ok (s ++ t) (by rw [ByteArray.size_append]; unfold maxLen; omega) w
  rw [e] at h2
  exact h2

set_option maxHeartbeats 1000000 in
theorem longer_walk (s t m : ByteArray) (hs : s.size + m.size ≤ 9223372036854775807) (ht : t.size + m.size ≤ 9223372036854775807) (w : World) :
    Calls Try.prog 7 #[.string s, .string t, .string m] w fun e w' => e = .returned (.bool true) ∧ w' = w := by
  have q1 := sum_ok s (by unfold maxLen; omega)
  have q2 := sum_ok t (by unfold maxLen; omega)
  have q3 := sum_cat s m hs
  have q4 := sum_cat t m ht
  have hq := crc_more s.data.toList t.data.toList m.data.toList
  generalize crc s.data.toList = a at *
  generalize crc t.data.toList = b at *
  generalize crc (s.data.toList ++ m.data.toList) = c at *
  generalize crc (t.data.toList ++ m.data.toList) = d at *
  have Q1 : Hid (∀ w, Calls Try.prog 9 #[.string s] w fun e w' => e = .returned (.int .i64 (a : Int)) ∧ w' = w) := q1
  have Q2 : Hid (∀ w, Calls Try.prog 9 #[.string t] w fun e w' => e = .returned (.int .i64 (b : Int)) ∧ w' = w) := q2
  have Q3 : Hid (∀ w, Calls Try.prog 9 #[.string (s ++ m)] w fun e w' => e = .returned (.int .i64 (c : Int)) ∧ w' = w) := q3
  have Q4 : Hid (∀ w, Calls Try.prog 9 #[.string (t ++ m)] w fun e w' => e = .returned (.int .i64 (d : Int)) ∧ w' = w) := q4
  have HQ : Hid (a = b ↔ c = d) := hq
  clear q1 q2 q3 q4 hq
  have HD : Hid (((((a : Int) == (b : Int)) == ((c : Int) == (d : Int))) : Bool) = true) := by
    have h := HQ.out
    show ((((a : Int) == (b : Int)) == ((c : Int) == (d : Int))) : Bool) = true
    by_cases e : a = b
    · have e' := h.1 e
      subst e; subst e'; simp
    · have e' : ¬ c = d := fun k => e (h.2 k)
      have f : ((a : Int) == (b : Int)) = false := by simp; omega
      have f' : ((c : Int) == (d : Int)) = false := by simp; omega
      rw [f, f']; rfl
  clear HQ
  go_enter Try.func7, Try.ntmps7
  go_wp2_with fail
  refine (awake_true _).mono ?_
  rintro e w0 ⟨rfl, rfl⟩
  go_wp2_with (go_at_call 8; go_in)
  refine (Q1.out _).mono ?_
  rintro e w1 ⟨rfl, rfl⟩
  go_wp2_with fail
  refine (Q2.out _).mono ?_
  rintro e w2 ⟨rfl, rfl⟩
  go_wp2_with fail
  refine (Q3.out _).mono ?_
  rintro e w3 ⟨rfl, rfl⟩
  go_wp2_with fail
  refine (Q4.out _).mono ?_
  rintro e w4 ⟨rfl, rfl⟩
  go_wp2
  go_ret
  exact ⟨congrArg (fun v => Ending.returned (.bool v)) HD.out, rfl⟩

end Go.Proofs.Ytfjonehccmoadaa.Crc
