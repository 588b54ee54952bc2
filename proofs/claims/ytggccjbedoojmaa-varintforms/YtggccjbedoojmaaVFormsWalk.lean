/-
  The walk of VarintForms: it answers true for any two ints. No condition.
-/
import Derived.Test.YtggccjbedoojmaaVAwake
namespace Go.Proofs.Ytggccjbedoojmaa.Varint
open Go.RowKit Go.Proofs.Ytggccjbedoojmaa.Num
set_option linter.unusedVariables false

theorem and1 (n : Int) : bits .and .i64 n 1 = n % 2 := and_mask 1 1 (by decide) (by decide) n
theorem and7 (n : Int) : bits .and .i64 n 7 = n % 8 := and_mask 3 7 (by decide) (by decide) n
theorem gotEnd : getv ((ByteArray.mk #[1]).data.toList.drop (1 : Int).toNat) = none := by decide +kernel
theorem gotMost : getv ((ByteArray.mk #[255, 255, 255, 255, 15]).data.toList.drop (0 : Int).toNat) = some (4294967295, 5) := by decide +kernel

theorem gotText0 : getv ((ByteArray.mk #[]).data.toList.drop (0 : Int).toNat) = none := by decide +kernel

set_option maxRecDepth 100000 in
set_option maxHeartbeats 1000000 in
theorem forms0 (a x : Int) (hk : a % 8 = 0) (w : World) :
    Calls Try.prog 4 #[.int .i64 a, .int .i64 x] w fun e w' => e = .returned (.bool true) ∧ Onto w w' := by
  have hp : a % 2 = 0 := by omega
  have m1 := and1
  have m7 := and7
  have m1023 := and1023
  have d0 : 0 ≤ x % 1024 := by omega
  have d1 : x % 1024 < 1024 := by omega
  go_enter Try.func4, Try.ntmps4
  go_wp2_with fail
  refine (awake_true _).mono ?_
  rintro e w1 ⟨rfl, g1⟩
  go_wp2_with fail
  refine (put_no (-(1 + x % 1024)) (by omega) (by omega) (.inl (by omega)) _).mono ?_
  rintro e w2 ⟨rfl, g2⟩
  go_wp2_with fail
  refine (get_any ⟨#[]⟩ 0 (by decide) (by omega) (by decide) _).mono ?_
  rintro e w3 ⟨rfl, g3⟩
  rw [gotText0]
  simp only [ans]
  go_wp2_with fail
  refine (get_any ⟨#[1]⟩ 1 (by decide) (by omega) (by decide) _).mono ?_
  rintro e w4 ⟨rfl, g4⟩
  rw [gotEnd]
  simp only [ans]
  go_wp2_with fail
  refine (get_off ⟨#[1]⟩ (-(1 + x % 1024)) (by decide) (.inl (by omega)) _).mono ?_
  rintro e w5 ⟨rfl, g5⟩
  simp only [ans]
  go_wp2_with fail
  refine (get_any ⟨#[255, 255, 255, 255, 15]⟩ 0 (by decide) (by omega) (by decide) _).mono ?_
  rintro e w6 ⟨rfl, g6⟩
  rw [gotMost]
  simp only [ans]
  have G : Hid (Onto w w6) := g1.trans (((Onto.refl _).alloc _ _).trans (g2.trans (((Onto.refl _).alloc _ _).trans (g3.trans (g4.trans (((Onto.refl _).alloc _ _).trans (g5.trans g6)))))))
  clear g1 g2 g3 g4 g5 g6 m1 m7 m1023
  go_wp2
  go_ret
  exact ⟨rfl, G.out⟩

theorem gotText1 : getv ((ByteArray.mk #[128]).data.toList.drop (0 : Int).toNat) = none := by decide +kernel

set_option maxRecDepth 100000 in
set_option maxHeartbeats 1000000 in
theorem forms1 (a x : Int) (hk : a % 8 = 1) (w : World) :
    Calls Try.prog 4 #[.int .i64 a, .int .i64 x] w fun e w' => e = .returned (.bool true) ∧ Onto w w' := by
  have hp : a % 2 = 1 := by omega
  have m1 := and1
  have m7 := and7
  have m1023 := and1023
  have d0 : 0 ≤ x % 1024 := by omega
  have d1 : x % 1024 < 1024 := by omega
  go_enter Try.func4, Try.ntmps4
  go_wp2_with fail
  refine (awake_true _).mono ?_
  rintro e w1 ⟨rfl, g1⟩
  go_wp2_with fail
  refine (put_no (4294967295 + (1 + x % 1024)) (by omega) (by omega) (.inr (by omega)) _).mono ?_
  rintro e w2 ⟨rfl, g2⟩
  go_wp2_with fail
  refine (get_any ⟨#[128]⟩ 0 (by decide) (by omega) (by decide) _).mono ?_
  rintro e w3 ⟨rfl, g3⟩
  rw [gotText1]
  simp only [ans]
  go_wp2_with fail
  refine (get_any ⟨#[1]⟩ 1 (by decide) (by omega) (by decide) _).mono ?_
  rintro e w4 ⟨rfl, g4⟩
  rw [gotEnd]
  simp only [ans]
  go_wp2_with fail
  refine (get_off ⟨#[1]⟩ (1 + (1 + x % 1024)) (by decide) (.inr (by show ((1 : Nat) : Int) < _; omega)) _).mono ?_
  rintro e w5 ⟨rfl, g5⟩
  simp only [ans]
  go_wp2_with fail
  refine (get_any ⟨#[255, 255, 255, 255, 15]⟩ 0 (by decide) (by omega) (by decide) _).mono ?_
  rintro e w6 ⟨rfl, g6⟩
  rw [gotMost]
  simp only [ans]
  have G : Hid (Onto w w6) := g1.trans (((Onto.refl _).alloc _ _).trans (g2.trans (((Onto.refl _).alloc _ _).trans (g3.trans (g4.trans (((Onto.refl _).alloc _ _).trans (g5.trans g6)))))))
  clear g1 g2 g3 g4 g5 g6 m1 m7 m1023
  go_wp2
  go_ret
  exact ⟨rfl, G.out⟩

theorem gotText2 : getv ((ByteArray.mk #[255, 255, 255, 255, 16]).data.toList.drop (0 : Int).toNat) = none := by decide +kernel

set_option maxRecDepth 100000 in
set_option maxHeartbeats 1000000 in
theorem forms2 (a x : Int) (hk : a % 8 = 2) (w : World) :
    Calls Try.prog 4 #[.int .i64 a, .int .i64 x] w fun e w' => e = .returned (.bool true) ∧ Onto w w' := by
  have hp : a % 2 = 0 := by omega
  have m1 := and1
  have m7 := and7
  have m1023 := and1023
  have d0 : 0 ≤ x % 1024 := by omega
  have d1 : x % 1024 < 1024 := by omega
  go_enter Try.func4, Try.ntmps4
  go_wp2_with fail
  refine (awake_true _).mono ?_
  rintro e w1 ⟨rfl, g1⟩
  go_wp2_with fail
  refine (put_no (-(1 + x % 1024)) (by omega) (by omega) (.inl (by omega)) _).mono ?_
  rintro e w2 ⟨rfl, g2⟩
  go_wp2_with fail
  refine (get_any ⟨#[255, 255, 255, 255, 16]⟩ 0 (by decide) (by omega) (by decide) _).mono ?_
  rintro e w3 ⟨rfl, g3⟩
  rw [gotText2]
  simp only [ans]
  go_wp2_with fail
  refine (get_any ⟨#[1]⟩ 1 (by decide) (by omega) (by decide) _).mono ?_
  rintro e w4 ⟨rfl, g4⟩
  rw [gotEnd]
  simp only [ans]
  go_wp2_with fail
  refine (get_off ⟨#[1]⟩ (-(1 + x % 1024)) (by decide) (.inl (by omega)) _).mono ?_
  rintro e w5 ⟨rfl, g5⟩
  simp only [ans]
  go_wp2_with fail
  refine (get_any ⟨#[255, 255, 255, 255, 15]⟩ 0 (by decide) (by omega) (by decide) _).mono ?_
  rintro e w6 ⟨rfl, g6⟩
  rw [gotMost]
  simp only [ans]
  have G : Hid (Onto w w6) := g1.trans (((Onto.refl _).alloc _ _).trans (g2.trans (((Onto.refl _).alloc _ _).trans (g3.trans (g4.trans (((Onto.refl _).alloc _ _).trans (g5.trans g6)))))))
  clear g1 g2 g3 g4 g5 g6 m1 m7 m1023
  go_wp2
  go_ret
  exact ⟨rfl, G.out⟩

theorem gotText3 : getv ((ByteArray.mk #[128, 0]).data.toList.drop (0 : Int).toNat) = none := by decide +kernel

set_option maxRecDepth 100000 in
set_option maxHeartbeats 1000000 in
theorem forms3 (a x : Int) (hk : a % 8 = 3) (w : World) :
    Calls Try.prog 4 #[.int .i64 a, .int .i64 x] w fun e w' => e = .returned (.bool true) ∧ Onto w w' := by
  have hp : a % 2 = 1 := by omega
  have m1 := and1
  have m7 := and7
  have m1023 := and1023
  have d0 : 0 ≤ x % 1024 := by omega
  have d1 : x % 1024 < 1024 := by omega
  go_enter Try.func4, Try.ntmps4
  go_wp2_with fail
  refine (awake_true _).mono ?_
  rintro e w1 ⟨rfl, g1⟩
  go_wp2_with fail
  refine (put_no (4294967295 + (1 + x % 1024)) (by omega) (by omega) (.inr (by omega)) _).mono ?_
  rintro e w2 ⟨rfl, g2⟩
  go_wp2_with fail
  refine (get_any ⟨#[128, 0]⟩ 0 (by decide) (by omega) (by decide) _).mono ?_
  rintro e w3 ⟨rfl, g3⟩
  rw [gotText3]
  simp only [ans]
  go_wp2_with fail
  refine (get_any ⟨#[1]⟩ 1 (by decide) (by omega) (by decide) _).mono ?_
  rintro e w4 ⟨rfl, g4⟩
  rw [gotEnd]
  simp only [ans]
  go_wp2_with fail
  refine (get_off ⟨#[1]⟩ (1 + (1 + x % 1024)) (by decide) (.inr (by show ((1 : Nat) : Int) < _; omega)) _).mono ?_
  rintro e w5 ⟨rfl, g5⟩
  simp only [ans]
  go_wp2_with fail
  refine (get_any ⟨#[255, 255, 255, 255, 15]⟩ 0 (by decide) (by omega) (by decide) _).mono ?_
  rintro e w6 ⟨rfl, g6⟩
  rw [gotMost]
  simp only [ans]
  have G : Hid (Onto w w6) := g1.trans (((Onto.refl _).alloc _ _).trans (g2.trans (((Onto.refl _).alloc _ _).trans (g3.trans (g4.trans (((Onto.refl _).alloc _ _).trans (g5.trans g6)))))))
  clear g1 g2 g3 g4 g5 g6 m1 m7 m1023
  go_wp2
  go_ret
  exact ⟨rfl, G.out⟩

theorem gotText4 : getv ((ByteArray.mk #[255, 255, 255, 255, 255, 1]).data.toList.drop (0 : Int).toNat) = none := by decide +kernel

set_option maxRecDepth 100000 in
set_option maxHeartbeats 1000000 in
theorem forms4 (a x : Int) (hk : a % 8 = 4) (w : World) :
    Calls Try.prog 4 #[.int .i64 a, .int .i64 x] w fun e w' => e = .returned (.bool true) ∧ Onto w w' := by
  have hp : a % 2 = 0 := by omega
  have m1 := and1
  have m7 := and7
  have m1023 := and1023
  have d0 : 0 ≤ x % 1024 := by omega
  have d1 : x % 1024 < 1024 := by omega
  go_enter Try.func4, Try.ntmps4
  go_wp2_with fail
  refine (awake_true _).mono ?_
  rintro e w1 ⟨rfl, g1⟩
  go_wp2_with fail
  refine (put_no (-(1 + x % 1024)) (by omega) (by omega) (.inl (by omega)) _).mono ?_
  rintro e w2 ⟨rfl, g2⟩
  go_wp2_with fail
  refine (get_any ⟨#[255, 255, 255, 255, 255, 1]⟩ 0 (by decide) (by omega) (by decide) _).mono ?_
  rintro e w3 ⟨rfl, g3⟩
  rw [gotText4]
  simp only [ans]
  go_wp2_with fail
  refine (get_any ⟨#[1]⟩ 1 (by decide) (by omega) (by decide) _).mono ?_
  rintro e w4 ⟨rfl, g4⟩
  rw [gotEnd]
  simp only [ans]
  go_wp2_with fail
  refine (get_off ⟨#[1]⟩ (-(1 + x % 1024)) (by decide) (.inl (by omega)) _).mono ?_
  rintro e w5 ⟨rfl, g5⟩
  simp only [ans]
  go_wp2_with fail
  refine (get_any ⟨#[255, 255, 255, 255, 15]⟩ 0 (by decide) (by omega) (by decide) _).mono ?_
  rintro e w6 ⟨rfl, g6⟩
  rw [gotMost]
  simp only [ans]
  have G : Hid (Onto w w6) := g1.trans (((Onto.refl _).alloc _ _).trans (g2.trans (((Onto.refl _).alloc _ _).trans (g3.trans (g4.trans (((Onto.refl _).alloc _ _).trans (g5.trans g6)))))))
  clear g1 g2 g3 g4 g5 g6 m1 m7 m1023
  go_wp2
  go_ret
  exact ⟨rfl, G.out⟩

theorem gotText5 : getv ((ByteArray.mk #[129, 128, 0]).data.toList.drop (0 : Int).toNat) = none := by decide +kernel

set_option maxRecDepth 100000 in
set_option maxHeartbeats 1000000 in
theorem forms5 (a x : Int) (hk : a % 8 = 5) (w : World) :
    Calls Try.prog 4 #[.int .i64 a, .int .i64 x] w fun e w' => e = .returned (.bool true) ∧ Onto w w' := by
  have hp : a % 2 = 1 := by omega
  have m1 := and1
  have m7 := and7
  have m1023 := and1023
  have d0 : 0 ≤ x % 1024 := by omega
  have d1 : x % 1024 < 1024 := by omega
  go_enter Try.func4, Try.ntmps4
  go_wp2_with fail
  refine (awake_true _).mono ?_
  rintro e w1 ⟨rfl, g1⟩
  go_wp2_with fail
  refine (put_no (4294967295 + (1 + x % 1024)) (by omega) (by omega) (.inr (by omega)) _).mono ?_
  rintro e w2 ⟨rfl, g2⟩
  go_wp2_with fail
  refine (get_any ⟨#[129, 128, 0]⟩ 0 (by decide) (by omega) (by decide) _).mono ?_
  rintro e w3 ⟨rfl, g3⟩
  rw [gotText5]
  simp only [ans]
  go_wp2_with fail
  refine (get_any ⟨#[1]⟩ 1 (by decide) (by omega) (by decide) _).mono ?_
  rintro e w4 ⟨rfl, g4⟩
  rw [gotEnd]
  simp only [ans]
  go_wp2_with fail
  refine (get_off ⟨#[1]⟩ (1 + (1 + x % 1024)) (by decide) (.inr (by show ((1 : Nat) : Int) < _; omega)) _).mono ?_
  rintro e w5 ⟨rfl, g5⟩
  simp only [ans]
  go_wp2_with fail
  refine (get_any ⟨#[255, 255, 255, 255, 15]⟩ 0 (by decide) (by omega) (by decide) _).mono ?_
  rintro e w6 ⟨rfl, g6⟩
  rw [gotMost]
  simp only [ans]
  have G : Hid (Onto w w6) := g1.trans (((Onto.refl _).alloc _ _).trans (g2.trans (((Onto.refl _).alloc _ _).trans (g3.trans (g4.trans (((Onto.refl _).alloc _ _).trans (g5.trans g6)))))))
  clear g1 g2 g3 g4 g5 g6 m1 m7 m1023
  go_wp2
  go_ret
  exact ⟨rfl, G.out⟩

theorem gotText6 : getv ((ByteArray.mk #[255, 255, 255, 255]).data.toList.drop (0 : Int).toNat) = none := by decide +kernel

set_option maxRecDepth 100000 in
set_option maxHeartbeats 1000000 in
theorem forms6 (a x : Int) (hk : a % 8 = 6) (w : World) :
    Calls Try.prog 4 #[.int .i64 a, .int .i64 x] w fun e w' => e = .returned (.bool true) ∧ Onto w w' := by
  have hp : a % 2 = 0 := by omega
  have m1 := and1
  have m7 := and7
  have m1023 := and1023
  have d0 : 0 ≤ x % 1024 := by omega
  have d1 : x % 1024 < 1024 := by omega
  go_enter Try.func4, Try.ntmps4
  go_wp2_with fail
  refine (awake_true _).mono ?_
  rintro e w1 ⟨rfl, g1⟩
  go_wp2_with fail
  refine (put_no (-(1 + x % 1024)) (by omega) (by omega) (.inl (by omega)) _).mono ?_
  rintro e w2 ⟨rfl, g2⟩
  go_wp2_with fail
  refine (get_any ⟨#[255, 255, 255, 255]⟩ 0 (by decide) (by omega) (by decide) _).mono ?_
  rintro e w3 ⟨rfl, g3⟩
  rw [gotText6]
  simp only [ans]
  go_wp2_with fail
  refine (get_any ⟨#[1]⟩ 1 (by decide) (by omega) (by decide) _).mono ?_
  rintro e w4 ⟨rfl, g4⟩
  rw [gotEnd]
  simp only [ans]
  go_wp2_with fail
  refine (get_off ⟨#[1]⟩ (-(1 + x % 1024)) (by decide) (.inl (by omega)) _).mono ?_
  rintro e w5 ⟨rfl, g5⟩
  simp only [ans]
  go_wp2_with fail
  refine (get_any ⟨#[255, 255, 255, 255, 15]⟩ 0 (by decide) (by omega) (by decide) _).mono ?_
  rintro e w6 ⟨rfl, g6⟩
  rw [gotMost]
  simp only [ans]
  have G : Hid (Onto w w6) := g1.trans (((Onto.refl _).alloc _ _).trans (g2.trans (((Onto.refl _).alloc _ _).trans (g3.trans (g4.trans (((Onto.refl _).alloc _ _).trans (g5.trans g6)))))))
  clear g1 g2 g3 g4 g5 g6 m1 m7 m1023
  go_wp2
  go_ret
  exact ⟨rfl, G.out⟩

theorem gotText7 : getv ((ByteArray.mk #[128, 128, 128, 128, 128, 128]).data.toList.drop (0 : Int).toNat) = none := by decide +kernel

set_option maxRecDepth 100000 in
set_option maxHeartbeats 1000000 in
theorem forms7 (a x : Int) (hk : a % 8 = 7) (w : World) :
    Calls Try.prog 4 #[.int .i64 a, .int .i64 x] w fun e w' => e = .returned (.bool true) ∧ Onto w w' := by
  have hp : a % 2 = 1 := by omega
  have m1 := and1
  have m7 := and7
  have m1023 := and1023
  have d0 : 0 ≤ x % 1024 := by omega
  have d1 : x % 1024 < 1024 := by omega
  go_enter Try.func4, Try.ntmps4
  go_wp2_with fail
  refine (awake_true _).mono ?_
  rintro e w1 ⟨rfl, g1⟩
  go_wp2_with fail
  refine (put_no (4294967295 + (1 + x % 1024)) (by omega) (by omega) (.inr (by omega)) _).mono ?_
  rintro e w2 ⟨rfl, g2⟩
  go_wp2_with fail
  refine (get_any ⟨#[128, 128, 128, 128, 128, 128]⟩ 0 (by decide) (by omega) (by decide) _).mono ?_
  rintro e w3 ⟨rfl, g3⟩
  rw [gotText7]
  simp only [ans]
  go_wp2_with fail
  refine (get_any ⟨#[1]⟩ 1 (by decide) (by omega) (by decide) _).mono ?_
  rintro e w4 ⟨rfl, g4⟩
  rw [gotEnd]
  simp only [ans]
  go_wp2_with fail
  refine (get_off ⟨#[1]⟩ (1 + (1 + x % 1024)) (by decide) (.inr (by show ((1 : Nat) : Int) < _; omega)) _).mono ?_
  rintro e w5 ⟨rfl, g5⟩
  simp only [ans]
  go_wp2_with fail
  refine (get_any ⟨#[255, 255, 255, 255, 15]⟩ 0 (by decide) (by omega) (by decide) _).mono ?_
  rintro e w6 ⟨rfl, g6⟩
  rw [gotMost]
  simp only [ans]
  have G : Hid (Onto w w6) := g1.trans (((Onto.refl _).alloc _ _).trans (g2.trans (((Onto.refl _).alloc _ _).trans (g3.trans (g4.trans (((Onto.refl _).alloc _ _).trans (g5.trans g6)))))))
  clear g1 g2 g3 g4 g5 g6 m1 m7 m1023
  go_wp2
  go_ret
  exact ⟨rfl, G.out⟩

theorem forms_walk (a x : Int) (w : World) :
    Calls Try.prog 4 #[.int .i64 a, .int .i64 x] w fun e w' => e = .returned (.bool true) ∧ Onto w w' := by
  have h : a % 8 = 0 ∨ a % 8 = 1 ∨ a % 8 = 2 ∨ a % 8 = 3 ∨ a % 8 = 4 ∨ a % 8 = 5 ∨ a % 8 = 6 ∨ a % 8 = 7 := by omega
  rcases h with h | h | h | h | h | h | h | h
  · exact forms0 a x h w
  · exact forms1 a x h w
  · exact forms2 a x h w
  · exact forms3 a x h w
  · exact forms4 a x h w
  · exact forms5 a x h w
  · exact forms6 a x h w
  · exact forms7 a x h w

end Go.Proofs.Ytggccjbedoojmaa.Varint
