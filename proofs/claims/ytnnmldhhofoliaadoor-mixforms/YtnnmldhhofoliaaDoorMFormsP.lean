/-
  Plain facts for the walk of MixForms. No condition.
-/
import Derived.Test.YtnnmldhhofoliaaDoorMAwake
namespace Go.Proofs.YtnnmldhhofoliaaDoor.Mix
open Go.RowKit Go.Proofs.YtnnmldhhofoliaaDoor.Num Go.Proofs.YtnnmldhhofoliaaDoor.Str
set_option linter.unusedVariables false

theorem mval3 (x n k : Int) (hn : 0 < n) (hn1 : n ≤ 4096) (h : x % 18446744073709551616 % n = k) : wrap64 ((IntKind.u64.wrap x).tmod n) = k := by
  have e : IntKind.u64.wrap x = x % 18446744073709551616 := by simp [IntKind.wrap, IntKind.bits, IntKind.signed]
  have h0 := Int.emod_nonneg (x % 18446744073709551616) (Int.ne_of_gt hn)
  have h1 := Int.emod_lt_of_pos (x % 18446744073709551616) hn
  rw [e, Int.tmod_eq_emod_of_nonneg (by omega), h, wrap64]
  omega

theorem may_plain : May 1 2 3 4 5 6 := by unfold May; omega

end Go.Proofs.YtnnmldhhofoliaaDoor.Mix
