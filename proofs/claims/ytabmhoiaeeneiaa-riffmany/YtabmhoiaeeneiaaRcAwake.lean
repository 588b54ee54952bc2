/-
  The statements' own check awake answers true. No condition.
-/
import Derived.Test.YtabmhoiaeeneiaaRcWav
import Derived.Test.YtabmhoiaeeneiaaRcSame
namespace Go.Proofs.Ytabmhoiaeeneiaa.Chk
open Go.RowKit Go.Sort Go.Proofs.Ytabmhoiaeeneiaa.Mod Go.Proofs.Ytabmhoiaeeneiaa.Num
set_option linter.unusedVariables false
set_option linter.unusedSimpArgs false

theorem slk_new (w : World) (Cs : List Ch) (C : Array Value) (hC : C = (cvs Cs).toArray) : Slk (w.alloc (.cells C 34)) (some ⟨w.heap.size, 0, none⟩) Cs := by
  subst hC
  have h : ∀ j, (w.alloc (.cells (cvs Cs).toArray 34)).cell? ⟨w.heap.size, j, none⟩ = (cvs Cs)[j]? := fun j => by
    rw [cell_of_row (w.alloc (.cells (cvs Cs).toArray 34)) w.heap.size j _ 34 (0, 0) (heap_alloc_new w _)]
    simp
  refine fun k hk => ⟨_, rfl, ?_⟩
  obtain ⟨q0, q1, q2⟩ := cvs_get Cs k hk
  exact ⟨by rw [h]; exact q0, by rw [h]; exact q1, by rw [h]; exact q2⟩

theorem num_ok (n : Int) (w : World) : Calls Try.prog 11 #[.int .i64 n] w fun e w' => e = .returned (.int .i64 n) ∧ w' = w := by
  go_enter Try.func11, Try.ntmps11
  go_wp2
  go_ret
  exact ⟨rfl, rfl⟩
theorem num_bel (n : Int) (w : World) : Calls Try.prog 11 #[.int .i64 n] w fun e w' => e = .returned (.int .i64 n) ∧ Bel w w' := (num_ok n w).mono (by rintro e w1 ⟨rfl, rfl⟩; exact ⟨rfl, Bel.refl _⟩)

def three : List Ch := [([102, 109, 116, 32], 20, 16), ([100, 97, 116, 97], 44, 3), ([109, 111, 114, 101], 56, 3)]
def two : List Ch := [([102, 109, 116, 32], 20, 16), ([100, 97, 116, 97], 44, 0), ([109, 111, 114, 101], 52, 3)]
theorem chunks_abc : chunks abcB = some three := by kernel_rfl
theorem chunks_empty : chunks emptyB = some two := by kernel_rfl
theorem chunks_five : chunks [82, 73, 70, 70, 5, 0, 0, 0, 87, 65, 86, 69] = none := by kernel_rfl
theorem chunks_four : chunks [82, 73, 70, 70, 4, 0, 0, 0, 87, 65, 86, 69] = some [] := by kernel_rfl

/-- riff.Chunks of a file that is known. -/
theorem chunks_lit (l : List UInt8) (R : Option (List Ch)) (h : chunks l = R) (hl : l.length ≤ 9223372036854775807) (w : World) :
    Calls Try.prog 8 #[.string ⟨l.toArray⟩] w fun e w' => (∃ ao cap, e = .returned (.tuple #[.slice ao (ansR R).length cap, .int .i64 (errR R)]) ∧ Slk w' ao (ansR R)) ∧ Bel w w' := by
  subst h
  refine (chunks_ok ⟨l.toArray⟩ l rfl (by unfold maxLen; exact hl) w).mono ?_
  rintro e w' ⟨⟨v, rfl, ho⟩, b⟩
  obtain ⟨ao, cap, rfl, hs, _⟩ := own_c ho
  exact ⟨⟨ao, cap, rfl, hs⟩, b⟩

set_option maxHeartbeats 1000000 in
theorem awake_ok (w : World) : Calls Try.prog 13 #[] w fun e w' => e = .returned (.bool true) ∧ Bel w w' := by
  have W : Hid (∀ w, Calls Try.prog 14 #[.agg #[.int .i64 1, .int .i64 8], .string ⟨#[97, 98, 99]⟩] w fun e w' => e = .returned (.string ⟨abcB.toArray⟩) ∧ Bel w w') := abc_ok
  have C1 : Hid (∀ w, Calls Try.prog 8 #[.string ⟨abcB.toArray⟩] w fun e w' => (∃ ao cap, e = .returned (.tuple #[.slice ao 3 cap, .int .i64 0]) ∧ Slk w' ao three) ∧ Bel w w') := fun w => chunks_lit _ _ chunks_abc (by decide) w
  have C2 : Hid (∀ w, Calls Try.prog 8 #[.string ⟨#[82, 73, 70, 70, 5, 0, 0, 0, 87, 65, 86, 69]⟩] w fun e w' => (∃ ao cap, e = .returned (.tuple #[.slice ao 0 cap, .int .i64 2000]) ∧ Slk w' ao []) ∧ Bel w w') := fun w => chunks_lit _ _ chunks_five (by decide) w
  have C3 : Hid (∀ w, Calls Try.prog 8 #[.string ⟨#[82, 73, 70, 70, 4, 0, 0, 0, 87, 65, 86, 69]⟩] w fun e w' => (∃ ao cap, e = .returned (.tuple #[.slice ao 0 cap, .int .i64 0]) ∧ Slk w' ao []) ∧ Bel w w') := fun w => chunks_lit _ _ chunks_four (by decide) w
  generalize abcB.toArray = S at *
  go_enter Try.func13, Try.ntmps13
  go_wp2_with fail
  refine (W.out _).mono ?_
  rintro e w1 ⟨rfl, b1⟩
  go_wp2_with fail
  refine (C1.out _).mono ?_
  rintro e w2 ⟨⟨ao, cap, rfl, hs2⟩, b2⟩
  have B2 : Hid (Bel w w2) := b1.trans b2
  have S2 : Hid (Slk w2 ao three) := hs2
  clear b1 b2 hs2
  go_wp2_with fail
  refine (C2.out _).mono ?_
  rintro e w3 ⟨⟨ao3, cap3, rfl, _⟩, b3⟩
  have B3 : Hid (Bel w w3) := B2.out.trans b3
  have S3 : Hid (Slk w3 ao three) := S2.out.bel b3
  clear b3
  go_wp2_with fail
  refine (C3.out _).mono ?_
  rintro e w4 ⟨⟨ao4, cap4, rfl, _⟩, b4⟩
  have B4 : Hid (Bel w w4) := B3.out.trans b4
  have S4 : Hid (Slk w4 ao three) := S3.out.bel b4
  clear b4
  go_wp2_with fail
  refine (same_ok ao _ three three 3 3 cap 3 rfl rfl (by decide) (by decide) _ (S4.out.bel ((Bel.refl _).alloc _)) (slk_new w4 three _ rfl)).mono ?_
  rw [decide_eq_true (show three = three from rfl)]
  rintro e w5 ⟨rfl, nq, rfl⟩
  have B5 : Hid (Bel w ((w4.alloc (.cells (cvs three).toArray 34)).drewN nq)) := (B4.out.alloc _).drewN nq
  go_wp2
  go_ret
  exact ⟨rfl, B5.out⟩

end Go.Proofs.Ytabmhoiaeeneiaa.Chk
