/-
  Plain facts on places: 'int(uint(x) % uint(d))' is a place below d. No condition.
-/
import Derived.Test.YtpakcajdbibbbaaGRow
namespace Go.Proofs.Ytpakcajdbibbbaa.Mod
open Go.RowKit
set_option linter.unusedVariables false

theorem place_of (x d : Int) (h0 : 0 < d) (h1 : d ≤ 140737488355328) : ∃ K : Nat, (K : Int) < d ∧ wrap64 ((IntKind.u64.wrap x).tmod d) = (K : Int) := by
  have e : IntKind.u64.wrap x = x % 18446744073709551616 := by simp [IntKind.wrap, IntKind.bits, IntKind.signed]
  have h0' : 0 ≤ x % 18446744073709551616 := by omega
  rw [e, Int.tmod_eq_emod_of_nonneg h0']
  have h2 := Int.emod_nonneg (x % 18446744073709551616) (show d ≠ 0 by omega)
  have h3 := Int.emod_lt_of_pos (x % 18446744073709551616) h0
  refine ⟨(x % 18446744073709551616 % d).toNat, by omega, ?_⟩
  generalize x % 18446744073709551616 % d = y at *
  unfold wrap64
  omega

end Go.Proofs.Ytpakcajdbibbbaa.Mod
