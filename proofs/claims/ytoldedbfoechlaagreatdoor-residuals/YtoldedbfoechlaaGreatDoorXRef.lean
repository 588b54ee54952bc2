/-
  The contracts of the reference's upTo, bitMay, Ones and Context, of any int and any row of ints: what context.Of tells. Condition: the row is there.
-/
import Derived.Test.YtoldedbfoechlaaGreatDoorXOf
namespace Go.Proofs.YtoldedbfoechlaaGreatDoor.Ctx
open Go.RowKit Go.Proofs.YtoldedbfoechlaaGreatDoor.Mod Go.Proofs.YtoldedbfoechlaaGreatDoor.Ints Go.Proofs.YtoldedbfoechlaaGreatDoor.Num Go.Proofs.YtoldedbfoechlaaGreatDoor.Gam
set_option linter.unusedVariables false

theorem upto_ok (x lo hi : Int) (r : Bool) (h : decide (lo ≤ x ∧ x ≤ hi) = r) (w : World) :
    Calls Tryz.prog 51 #[.int .i64 x, .int .i64 lo, .int .i64 hi] w fun e w' => e = .returned (.bool r) ∧ w' = w := by
  subst h
  by_cases a : lo ≤ x
  · have hb : decide (lo ≤ x) = true := decide_eq_true a
    have hr : decide (lo ≤ x ∧ x ≤ hi) = decide (x ≤ hi) := by simp [a]
    rw [hr]
    clear hr
    go_enter Tryz.func51, Tryz.ntmps51
    go_wp2
    go_ret
    exact ⟨rfl, rfl⟩
  · have hb : decide (lo ≤ x) = false := decide_eq_false a
    have hr : decide (lo ≤ x ∧ x ≤ hi) = false := by simp [a]
    rw [hr]
    clear hr
    go_enter Tryz.func51, Tryz.ntmps51
    go_wp2
    go_ret
    exact ⟨rfl, rfl⟩

set_option maxHeartbeats 1000000 in
theorem ones_ok (ao : Option Addr) (L : List Int) (n cap : Nat) (hn : n = L.length) (hx : n ≤ maxLen) (w : World) (hA : Slc w ao L) :
    Calls Tryz.prog 33 #[.slice ao n cap] w fun e w' => e = .returned (.int .i64 ((ones L : Nat) : Int)) ∧ w' = w := by
  unfold maxLen at hx
  have HA : Hid (Slc w ao L) := hA
  have HN : Hid (n = L.length) := hn
  obtain ⟨r, hr⟩ : ∃ r, ones L = r := ⟨_, rfl⟩
  rw [hr]
  have HR : Hid (ones L = r) := hr
  clear hA hn hr
  go_enter Tryz.func33, Tryz.ntmps33
  go_wp2
  go_loopw [3] (fun i wr => ∃ j : Nat, j ≤ n ∧ i = .int .i64 j ∧ wr = w ∧ Hid (∀ t, t < j → L.getD t 0 = 1)) (fun i _ => n - (intOf i).toNat)
  case atStart => exact ⟨0, Nat.zero_le _, rfl, rfl, fun t ht => by omega⟩
  case round =>
    obtain ⟨j, hj, rfl, hw, hh⟩ := hrel
    replace hw := hw.symm
    subst hw
    by_cases hlt : j < n
    · obtain ⟨x, rfl, hc⟩ := HA.out j (HN.out ▸ hlt)
      have hd : decide ((j : Int) < (n : Int)) = true := decide_eq_true (by omega)
      by_cases he : L.getD j 0 = 1
      · have h2 : Hid (∀ t, t < j + 1 → L.getD t 0 = 1) := fun t ht => by
          rcases Nat.lt_or_ge t j with h | h
          · exact hh.out t h
          · obtain rfl : t = j := by omega
            exact he
        rw [he] at hc
        clear he hh
        go_wp2
        go_roundw
        case rel => exact ⟨j + 1, by omega, by go_num, by first | rfl | trivial, h2⟩
        case measure => simp [intOf]; omega
      · obtain rfl : j = r := (ones_is L j (by have := HN.out; omega) hh.out (.inr he)).symm.trans HR.out
        generalize L.getD j 0 = p at *
        have hb : (p == 1) = false := by simpa using he
        go_wp2
        go_ret
        exact ⟨rfl, rfl⟩
    · obtain rfl : j = n := by omega
      obtain rfl : j = r := (ones_is L j (by have := HN.out; omega) hh.out (.inl HN.out)).symm.trans HR.out
      go_wp2
      go_ret
      exact ⟨rfl, rfl⟩

theorem bitMay_ok (b : Int) (r : Bool) (h : decide (b = 0 ∨ b = 1) = r) (w : World) :
    Calls Tryz.prog 52 #[.int .i64 b] w fun e w' => e = .returned (.bool r) ∧ w' = w := by
  subst h
  by_cases a : b = 0
  · subst a
    go_enter Tryz.func52, Tryz.ntmps52
    go_wp2
    go_ret
    exact ⟨rfl, rfl⟩
  · have hb : (b == 0) = false := by simpa using a
    have hr : decide (b = 0 ∨ b = 1) = (b == 1) := by
      by_cases q : b = 1
      · simp [q]
      · simp [a, q]
    rw [hr]
    clear hr a
    go_enter Tryz.func52, Tryz.ntmps52
    go_wp2
    go_ret
    exact ⟨rfl, rfl⟩

end Go.Proofs.YtoldedbfoechlaaGreatDoor.Ctx
