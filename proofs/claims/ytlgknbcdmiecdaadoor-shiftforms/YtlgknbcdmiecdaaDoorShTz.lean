/-
  The contracts of math/bits.TrailingZeros64, TrailingZeros, of numbers that are not 0. Condition: the library's table is laid as its text lays it.
-/
import Derived.Test.YtlgknbcdmiecdaaDoorShNum
import Derived.Test.YtlgknbcdmiecdaaDoorRows
import Derived.ProofKit
import Derived.Laws.Bits64b
import Derived.Shelf.Spec.TrailingZeros
namespace Go.Proofs.YtlgknbcdmiecdaaDoor.Shf
open Go.RowKit Go.Proofs.YtlgknbcdmiecdaaDoor.Mod
set_option linter.unusedVariables false

/-- The library's table, cell by cell. -/
def Tab (w : World) : Prop := ∀ d, d < 64 → w.cell? ⟨1, d, none⟩ = some (.int .u8 ((Lib.deBruijn64tab.getD d 0 : Nat) : Int))
theorem Tab.bel {w w' : World} (T : Tab w) (b : Bel w w') : Tab w' := fun d hd => b.keep (T d hd)

set_option maxHeartbeats 1000000 in
theorem tz64_at (x k idx : Nat) (w : World) (hx0 : ((x : Int) == 0) = false)
    (key : IntKind.u64.wrap (bits .and .u64 (x : Int) (IntKind.u64.wrap (-(x : Int))) * 285870213051353865) / 288230376151711744 = (idx : Int))
    (hi : idx < 64) (hk : k < 64) (c : w.cell? ⟨1, idx, none⟩ = some (.int .u8 (k : Int))) :
    Calls Tryd.prog 31 #[.int .u64 (x : Int)] w fun e w' => e = .returned (.int .i64 (k : Int)) ∧ w' = w := by
  go_enter Tryd.func31, Tryd.ntmps31
  go_wp2_with (simp only [key])
  go_ret
  exact ⟨rfl, rfl⟩

theorem tz64_ok (x : Nat) (h0 : x ≠ 0) (hx : x < 18446744073709551616) (w : World) (T : Tab w) :
    Calls Tryd.prog 31 #[.int .u64 (x : Int)] w fun e w' => e = .returned (.int .i64 ((Lib.ctz 64 x : Nat) : Int)) ∧ w' = w := by
  obtain ⟨hl, hk⟩ := Lib.lowest_bit 64 x h0 (by omega)
  obtain ⟨hi, ht⟩ := Lib.deBruijn64_at _ hk
  have c := T _ hi
  rw [ht] at c
  exact tz64_at x _ _ w (by simp; omega) (tz64_key x _ hx h0 hl) hi hk c

set_option maxHeartbeats 400000 in
theorem tz_ok (a : Int) (h : In64 a) (h0 : a ≠ 0) (w : World) (T : Tab w) :
    Calls Tryd.prog 24 #[.int .u64 (IntKind.u64.wrap a)] w fun e w' => e = .returned (.int .i64 ((Lib.ctz 64 (a % 18446744073709551616).toNat : Nat) : Int)) ∧ w' = w := by
  obtain ⟨p, q⟩ := mod_ne h h0
  have e : IntKind.u64.wrap a = (((a % 18446744073709551616).toNat : Nat) : Int) := by
    rw [IntKind.wrap_u64]
    omega
  have C : Hid (Calls Tryd.prog 31 #[.int .u64 (((a % 18446744073709551616).toNat : Nat) : Int)] w fun e w' => e = .returned (.int .i64 ((Lib.ctz 64 (a % 18446744073709551616).toNat : Nat) : Int)) ∧ w' = w) := tz64_ok _ p q w T
  rw [e]
  clear e p q h h0
  generalize Lib.ctz 64 (a % 18446744073709551616).toNat = k at *
  generalize (((a % 18446744073709551616).toNat : Nat) : Int) = x at *
  go_enter Tryd.func24, Tryd.ntmps24
  go_wp2_with fail
  refine (C.out).mono ?_
  rintro e w1 ⟨rfl, rfl⟩
  go_wp2
  go_ret
  exact ⟨rfl, rfl⟩

end Go.Proofs.YtlgknbcdmiecdaaDoor.Shf
