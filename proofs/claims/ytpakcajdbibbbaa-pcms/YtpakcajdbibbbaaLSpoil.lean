/-
  The contract of the statements' own SpoilInts. Conditions: the row is there and may be written.
-/
import Derived.Test.YtpakcajdbibbbaaLInts
namespace Go.Proofs.Ytpakcajdbibbbaa.Ints
open Go.RowKit Go.Proofs.Ytpakcajdbibbbaa.Mod
set_option linter.unusedVariables false

set_option maxHeartbeats 400000 in
theorem spoil_nil (w : World) : Calls Try.prog 31 #[.slice none 0 0] w fun e w' => e = .returned (.tuple #[]) ∧ w' = w := by
  go_enter Try.func31, Try.ntmps31
  go_wp2
  refine wp_loop_rounds 1 ?_
  rw [rounds_succ]
  go_wp2
  go_end0
  exact ⟨rfl, rfl⟩

set_option maxHeartbeats 1000000 in
/-- Spoilt: that block alone is written. -/
theorem spoil_ok (L : List Int) (n g c : Nat) (hn : n = L.length) (hx : n ≤ maxLen) (w : World) (hH : Holds w g L) :
    Calls Try.prog 31 #[.slice (some ⟨g, 0, none⟩) n c] w fun e w' => e = .returned (.tuple #[]) ∧ Below g w w' := by
  unfold maxLen at hx
  have HH : Hid (n = L.length ∧ Holds w g L) := ⟨hn, hH⟩
  clear hn hH
  go_enter Try.func31, Try.ntmps31
  go_wp2
  go_loopw [2] (fun i wr => ∃ j : Nat, j ≤ n ∧ i = .int .i64 j ∧ (∃ M : List Int, n = M.length ∧ Holds wr g M) ∧ Below g w wr) (fun i _ => n - (intOf i).toNat)
  case atStart => exact ⟨0, Nat.zero_le _, rfl, ⟨L, HH.out.1, HH.out.2⟩, Below.refl _ _⟩
  case round =>
    obtain ⟨j, hj, rfl, ⟨M, hM, hh⟩, hb⟩ := hrel
    have H2 : Hid (n = M.length ∧ Holds wr g M) := ⟨hM, hh⟩
    have HB : Hid (Below g w wr) := hb
    clear HH hM hh hb
    by_cases hlt : j < n
    · have hc := H2.out.2.cell j (H2.out.1 ▸ hlt)
      have hf := H2.out.2.free j (H2.out.1 ▸ hlt)
      generalize M.getD j 0 = p at *
      go_wp2
      go_roundw
      case rel => exact ⟨j + 1, by omega, by go_num, ⟨M.set j _, by simpa using H2.out.1, H2.out.2.set j (H2.out.1 ▸ hlt) _⟩, HB.out.setCell (Nat.le_refl _) _⟩
      case measure => simp [intOf]; omega
    · obtain rfl : j = n := by omega
      go_wp2
      go_end0
      exact ⟨rfl, HB.out⟩

end Go.Proofs.Ytpakcajdbibbbaa.Ints
