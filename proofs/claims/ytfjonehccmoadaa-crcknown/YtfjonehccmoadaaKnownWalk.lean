/-
  The walk of CrcKnown: it answers true for any int. No condition but that the number is an int.
-/
import Derived.Test.YtfjonehccmoadaaCAwake
import Derived.Deep.QuietTactic
import Derived.BigQuiet
import Derived.Deep.RegionWith
namespace Go.Proofs.Ytfjonehccmoadaa.Crc
open Go.RowKit
set_option linter.unusedVariables false

theorem known0 : crc (ByteArray.mk #[97]).data.toList = 3904355907 := by decide +kernel
theorem known1 : crc (ByteArray.mk #[97, 98, 99]).data.toList = 891568578 := by decide +kernel
theorem known2 : crc (ByteArray.mk #[0, 0, 0, 0]).data.toList = 558161692 := by decide +kernel
theorem known3 : crc (ByteArray.mk #[255, 255, 255, 255]).data.toList = 4294967295 := by decide +kernel
theorem known4 : crc (ByteArray.mk #[84, 104, 101, 32, 113, 117, 105, 99, 107, 32, 98, 114, 111, 119, 110, 32, 102, 111, 120, 32, 106, 117, 109, 112, 115, 32, 111, 118, 101, 114, 32, 116, 104, 101, 32, 108, 97, 122, 121, 32, 100, 111, 103]).data.toList = 1095738169 := by decide +kernel

theorem pick (n : Int) (i : Int) (h : n % 18446744073709551616 % 5 = i) : wrap64 ((IntKind.u64.wrap n).tmod 5) = i := by
  have e : IntKind.u64.wrap n = n % 18446744073709551616 := by simp [IntKind.wrap, IntKind.bits, IntKind.signed]
  rw [e, Int.tmod_eq_emod_of_nonneg (by omega), h, wrap64]
  omega

set_option maxHeartbeats 1000000 in
theorem known_0 (n : Int) (h : n % 18446744073709551616 % 5 = 0) (w : World) :
    Calls Try.prog 5 #[.int .i64 n] w fun e w' => e = .returned (.bool true) ∧ Onto w w' := by
  have hp := pick n 0 h
  have q := fun w => sum_ok ⟨#[97]⟩ (by decide) w
  rw [known0] at q
  have Q : Hid (∀ w, Calls Try.prog 9 #[.string ⟨#[97]⟩] w fun e w' => e = .returned (.int .i64 ((3904355907 : Nat) : Int)) ∧ w' = w) := q
  clear q h
  go_enter Try.func5, Try.ntmps5
  go_wp2_with fail
  refine (awake_true _).mono ?_
  rintro e w0 ⟨rfl, rfl⟩
  go_wp2_with fail
  go_quiet (first | (go_at_call 9; exact Calls.quiet_of_same (Q.out _)) | (go_at_call 8; exact Calls.quiet_of_same (num_ok _ _)))
  go_wp2
  go_ret
  exact ⟨rfl, (((Onto.refl _).alloc _ _).alloc _ _).drewN _⟩

set_option maxHeartbeats 1000000 in
theorem known_1 (n : Int) (h : n % 18446744073709551616 % 5 = 1) (w : World) :
    Calls Try.prog 5 #[.int .i64 n] w fun e w' => e = .returned (.bool true) ∧ Onto w w' := by
  have hp := pick n 1 h
  have q := fun w => sum_ok ⟨#[97, 98, 99]⟩ (by decide) w
  rw [known1] at q
  have Q : Hid (∀ w, Calls Try.prog 9 #[.string ⟨#[97, 98, 99]⟩] w fun e w' => e = .returned (.int .i64 ((891568578 : Nat) : Int)) ∧ w' = w) := q
  clear q h
  go_enter Try.func5, Try.ntmps5
  go_wp2_with fail
  refine (awake_true _).mono ?_
  rintro e w0 ⟨rfl, rfl⟩
  go_wp2_with fail
  go_quiet (first | (go_at_call 9; exact Calls.quiet_of_same (Q.out _)) | (go_at_call 8; exact Calls.quiet_of_same (num_ok _ _)))
  go_wp2
  go_ret
  exact ⟨rfl, (((Onto.refl _).alloc _ _).alloc _ _).drewN _⟩

set_option maxHeartbeats 1000000 in
theorem known_2 (n : Int) (h : n % 18446744073709551616 % 5 = 2) (w : World) :
    Calls Try.prog 5 #[.int .i64 n] w fun e w' => e = .returned (.bool true) ∧ Onto w w' := by
  have hp := pick n 2 h
  have q := fun w => sum_ok ⟨#[0, 0, 0, 0]⟩ (by decide) w
  rw [known2] at q
  have Q : Hid (∀ w, Calls Try.prog 9 #[.string ⟨#[0, 0, 0, 0]⟩] w fun e w' => e = .returned (.int .i64 ((558161692 : Nat) : Int)) ∧ w' = w) := q
  clear q h
  go_enter Try.func5, Try.ntmps5
  go_wp2_with fail
  refine (awake_true _).mono ?_
  rintro e w0 ⟨rfl, rfl⟩
  go_wp2_with fail
  go_quiet (first | (go_at_call 9; exact Calls.quiet_of_same (Q.out _)) | (go_at_call 8; exact Calls.quiet_of_same (num_ok _ _)))
  go_wp2
  go_ret
  exact ⟨rfl, (((Onto.refl _).alloc _ _).alloc _ _).drewN _⟩

set_option maxHeartbeats 1000000 in
theorem known_3 (n : Int) (h : n % 18446744073709551616 % 5 = 3) (w : World) :
    Calls Try.prog 5 #[.int .i64 n] w fun e w' => e = .returned (.bool true) ∧ Onto w w' := by
  have hp := pick n 3 h
  have q := fun w => sum_ok ⟨#[255, 255, 255, 255]⟩ (by decide) w
  rw [known3] at q
  have Q : Hid (∀ w, Calls Try.prog 9 #[.string ⟨#[255, 255, 255, 255]⟩] w fun e w' => e = .returned (.int .i64 ((4294967295 : Nat) : Int)) ∧ w' = w) := q
  clear q h
  go_enter Try.func5, Try.ntmps5
  go_wp2_with fail
  refine (awake_true _).mono ?_
  rintro e w0 ⟨rfl, rfl⟩
  go_wp2_with fail
  go_quiet (first | (go_at_call 9; exact Calls.quiet_of_same (Q.out _)) | (go_at_call 8; exact Calls.quiet_of_same (num_ok _ _)))
  go_wp2
  go_ret
  exact ⟨rfl, (((Onto.refl _).alloc _ _).alloc _ _).drewN _⟩

set_option maxHeartbeats 1000000 in
theorem known_4 (n : Int) (h : n % 18446744073709551616 % 5 = 4) (w : World) :
    Calls Try.prog 5 #[.int .i64 n] w fun e w' => e = .returned (.bool true) ∧ Onto w w' := by
  have hp := pick n 4 h
  have q := fun w => sum_ok ⟨#[84, 104, 101, 32, 113, 117, 105, 99, 107, 32, 98, 114, 111, 119, 110, 32, 102, 111, 120, 32, 106, 117, 109, 112, 115, 32, 111, 118, 101, 114, 32, 116, 104, 101, 32, 108, 97, 122, 121, 32, 100, 111, 103]⟩ (by decide) w
  rw [known4] at q
  have Q : Hid (∀ w, Calls Try.prog 9 #[.string ⟨#[84, 104, 101, 32, 113, 117, 105, 99, 107, 32, 98, 114, 111, 119, 110, 32, 102, 111, 120, 32, 106, 117, 109, 112, 115, 32, 111, 118, 101, 114, 32, 116, 104, 101, 32, 108, 97, 122, 121, 32, 100, 111, 103]⟩] w fun e w' => e = .returned (.int .i64 ((1095738169 : Nat) : Int)) ∧ w' = w) := q
  clear q h
  go_enter Try.func5, Try.ntmps5
  go_wp2_with fail
  refine (awake_true _).mono ?_
  rintro e w0 ⟨rfl, rfl⟩
  go_wp2_with fail
  go_quiet (first | (go_at_call 9; exact Calls.quiet_of_same (Q.out _)) | (go_at_call 8; exact Calls.quiet_of_same (num_ok _ _)))
  go_wp2
  go_ret
  exact ⟨rfl, (((Onto.refl _).alloc _ _).alloc _ _).drewN _⟩

theorem known_walk (n : Int) (w : World) :
    Calls Try.prog 5 #[.int .i64 n] w fun e w' => e = .returned (.bool true) ∧ Onto w w' := by
  rcases (show n % 18446744073709551616 % 5 = 0 ∨ n % 18446744073709551616 % 5 = 1 ∨ n % 18446744073709551616 % 5 = 2 ∨ n % 18446744073709551616 % 5 = 3 ∨ n % 18446744073709551616 % 5 = 4 from by omega) with h | h | h | h | h
  · exact known_0 n h w
  · exact known_1 n h w
  · exact known_2 n h w
  · exact known_3 n h w
  · exact known_4 n h w

end Go.Proofs.Ytfjonehccmoadaa.Crc
