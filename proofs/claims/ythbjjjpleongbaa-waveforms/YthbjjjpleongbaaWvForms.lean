/-
  Files that may not be, one thing at a time. No condition.
-/
import Derived.Test.YthbjjjpleongbaaWvAwake
import Derived.Test.YthbjjjpleongbaaGPlace
namespace Go.Proofs.Ythbjjjpleongbaa.Wav
open Go.RowKit Go.Sort Go.Proofs.Ythbjjjpleongbaa.Mod Go.Proofs.Ythbjjjpleongbaa.Num Go.Proofs.Ythbjjjpleongbaa.Chk
set_option linter.unusedVariables false

theorem place_u (x d : Int) (h0 : 0 < d) (h1 : d ≤ 140737488355328) : ∃ K : Nat, (K : Int) < d ∧ (IntKind.u64.wrap x).tmod d = (K : Int) := by
  have e : IntKind.u64.wrap x = x % 18446744073709551616 := by simp [IntKind.wrap, IntKind.bits, IntKind.signed]
  have h0' : 0 ≤ x % 18446744073709551616 := by omega
  rw [e, Int.tmod_eq_emod_of_nonneg h0']
  have h2 := Int.emod_nonneg (x % 18446744073709551616) (show d ≠ 0 by omega)
  have h3 := Int.emod_lt_of_pos (x % 18446744073709551616) h0
  exact ⟨(x % 18446744073709551616 % d).toNat, by omega, by omega⟩
theorem len_8 : (fil_2_16 D8).length = 64 := by kernel_rfl
theorem all_of {p : Nat → Bool} {n : Nat} (h : (List.range n).all p = true) (v : Nat) (hv : v < n) : p v = true := List.all_eq_true.1 h v (List.mem_range.2 hv)
theorem of_isNone {w : Option Wv} (h : w.isNone = true) : w = none := by cases w with | none => rfl | some _ => cases h
theorem form_0 : parse ((fil_2_16 D8).set 20 3) = none := by kernel_rfl
theorem form_1 : parse ((fil_2_16 D8).set 21 1) = none := by kernel_rfl
theorem all_2 : (List.range 64).all (fun v => (parse ((fil_2_16 D8).set 22 (UInt8.ofNat (3 + v)))).isNone) = true := by kernel_rfl
theorem form_2 (v : Nat) (h0 : 3 ≤ v) (h1 : v < 67) : parse ((fil_2_16 D8).set 22 (UInt8.ofNat v)) = none := by
  have := all_of all_2 (v - 3) (by omega)
  rw [show 3 + (v - 3) = v by omega] at this
  exact of_isNone this
theorem form_3 : parse ((fil_2_16 D8).set 22 0) = none := by kernel_rfl
theorem all_4 : (List.range 64).all (fun v => (parse ((fil_2_16 D8).set 32 (UInt8.ofNat (5 + v)))).isNone) = true := by kernel_rfl
theorem form_4 (v : Nat) (h0 : 5 ≤ v) (h1 : v < 69) : parse ((fil_2_16 D8).set 32 (UInt8.ofNat v)) = none := by
  have := all_of all_4 (v - 5) (by omega)
  rw [show 5 + (v - 5) = v by omega] at this
  exact of_isNone this
theorem form_5 : parse ((fil_2_16 D8).set 34 24) = none := by kernel_rfl
theorem form_6 : parse ((fil_2_16 D8).set 34 8) = none := by kernel_rfl
theorem form_7 : parse ((fil_2_16 D8).set 12 70) = none := by kernel_rfl
theorem form_8 : parse ((fil_2_16 D8).set 36 68) = none := by kernel_rfl
theorem form_9 : parse (((((fil_2_16 D8).set 52 100).set 53 97).set 54 116).set 55 97) = none := by kernel_rfl
theorem form_10 : parse (((((fil_2_16 D8).set 52 102).set 53 109).set 54 116).set 55 32) = none := by kernel_rfl
theorem form_11 : parse ((fil_2_16 D8).set 40 6) = none := by kernel_rfl

end Go.Proofs.Ythbjjjpleongbaa.Wav
