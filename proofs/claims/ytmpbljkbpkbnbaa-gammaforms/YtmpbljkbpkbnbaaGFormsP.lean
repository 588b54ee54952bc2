/-
  GammaForms' parts: what the walks of its ways share. No condition.
-/
import Derived.Test.YtmpbljkbpkbnbaaGAwake
import Derived.Laws.OwnMore
import Derived.OwnWalk
namespace Go.Proofs.Ytmpbljkbpkbnbaa.Gam
open Go.RowKit Go.Proofs.Ytmpbljkbpkbnbaa.Mod Go.Proofs.Ytmpbljkbpkbnbaa.Ints Go.Proofs.Ytmpbljkbpkbnbaa.Num
set_option linter.unusedVariables false

theorem and_10 (n : Int) : bits .and .i64 n 1023 = n % 1024 := and_mask 10 1023 (by decide) (by decide) n
theorem slc_1 {w : World} {a : Addr} {x : Int} (h : w.cell? (a.add 0) = some (.int .i64 x)) : Slc w (some a) [x] := fun k hk => ⟨_, rfl, by
  obtain rfl : k = 0 := by simp at hk; omega
  simpa using h⟩
theorem slc_3 {w : World} {a : Addr} {x y z : Int} (h : w.cell? (a.add 0) = some (.int .i64 x)) (h1 : w.cell? (a.add 1) = some (.int .i64 y)) (h2 : w.cell? (a.add 2) = some (.int .i64 z)) : Slc w (some a) [x, y, z] := fun k hk => ⟨_, rfl, by
  match k, hk with
  | 0, _ => simpa using h
  | 1, _ => simpa using h1
  | 2, _ => simpa using h2
  | k + 3, hk => exact absurd hk (by simp)⟩
theorem which_11 (x : Int) : ∃ j : Nat, j < 11 ∧ wrap64 ((IntKind.u64.wrap x).tmod 11) = (j : Int) := by
  have e : IntKind.u64.wrap x = x % 18446744073709551616 := by simp [IntKind.wrap, IntKind.bits, IntKind.signed]
  refine ⟨(x % 18446744073709551616 % 11).toNat, by omega, ?_⟩
  rw [e, Int.tmod_eq_emod_of_nonneg (by omega)]
  unfold wrap64
  omega

end Go.Proofs.Ytmpbljkbpkbnbaa.Gam
