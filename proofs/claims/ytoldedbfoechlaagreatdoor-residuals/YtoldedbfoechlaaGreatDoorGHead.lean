/-
  The contracts of gamma.isHead and gamma.Number, of any row of ints, as P11.1 has them. Condition: the row is there.
-/
import Derived.Test.YtoldedbfoechlaaGreatDoorGLen
import Derived.Test.YtoldedbfoechlaaGreatDoorLInts
namespace Go.Proofs.YtoldedbfoechlaaGreatDoor.Gam
open Go.RowKit Go.Proofs.YtoldedbfoechlaaGreatDoor.Mod Go.Proofs.YtoldedbfoechlaaGreatDoor.Ints Go.Proofs.YtoldedbfoechlaaGreatDoor.Num
set_option linter.unusedVariables false

theorem head_of (L : List Int) (k : Nat) (hl : L.length = k + 1) : (L = List.replicate k 1 ++ [0]) ↔ ((∀ i, i < k → L.getD i 0 = 1) ∧ L.getD k 0 = 0) := by
  constructor
  · rintro rfl
    refine ⟨fun i hi => ?_, ?_⟩
    · rw [List.getD_eq_getElem?_getD, List.getElem?_append_left (by simpa using hi)]
      simp [hi]
    · rw [List.getD_eq_getElem?_getD, List.getElem?_append_right (by simp)]
      simp
  · rintro ⟨h1, h2⟩
    refine eq_of_getD (by simp [hl]) fun i hi => ?_
    by_cases q : i < k
    · rw [h1 i q, List.getD_eq_getElem?_getD, List.getElem?_append_left (by simpa using q)]
      simp [q]
    · obtain rfl : i = k := by omega
      rw [h2, List.getD_eq_getElem?_getD, List.getElem?_append_right (by simp)]
      simp

set_option maxHeartbeats 1000000 in
theorem isHead_ok (x : Addr) (L : List Int) (k cap : Nat) (hl : L.length = k + 1) (hk : k ≤ 1000) (hc : k + 1 ≤ cap) (w : World) (hA : Slc w (some x) L) :
    Calls Tryz.prog 100 #[.slice (some x) (k + 1) cap] w fun e w' => e = .returned (.bool (decide (L = List.replicate k 1 ++ [0]))) ∧ w' = w := by
  obtain ⟨r, hr⟩ : ∃ r, decide (L = List.replicate k 1 ++ [0]) = r := ⟨_, rfl⟩
  rw [hr]
  have HR : Hid (decide (L = List.replicate k 1 ++ [0]) = r) := hr
  have HL : Hid (L.length = k + 1) := hl
  have HA : Hid (∀ j, j < k + 1 → w.cell? (x.add j) = some (.int .i64 (L.getD j 0))) := fun j hj => by
    obtain ⟨y, hy, h⟩ := hA j (by omega)
    cases hy
    exact h
  clear hA hl hr
  go_enter Tryz.func100, Tryz.ntmps100
  go_wp2
  go_loopw [13] (fun i wr => ∃ j : Nat, j ≤ k ∧ i = .int .i64 j ∧ wr = w ∧ Hid (∀ t, t < j → L.getD t 0 = 1)) (fun i _ => k - (intOf i).toNat)
  case atStart => exact ⟨0, Nat.zero_le _, rfl, rfl, fun t ht => by omega⟩
  case round =>
    obtain ⟨j, hj, rfl, rfl, hh⟩ := hrel
    have hc1 := HA.out j (by omega)
    by_cases hlt : j < k
    · by_cases he : L.getD j 0 = 1
      · have h2 : Hid (∀ t, t < j + 1 → L.getD t 0 = 1) := fun t ht => by
          rcases Nat.lt_or_ge t j with h | h
          · exact hh.out t h
          · obtain rfl : t = j := by omega
            exact he
        rw [he] at hc1
        clear he hh
        go_wp2
        go_roundw
        case rel => exact ⟨j + 1, by omega, by go_num, by trivial, h2⟩
        case measure => simp [intOf]; omega
      · obtain rfl : r = false := HR.out.symm.trans (decide_eq_false fun e => he (((head_of L k HL.out).1 e).1 j hlt))
        generalize L.getD j 0 = p at *
        have hb : (p != 1) = true := by simpa using he
        go_wp2
        go_ret
        exact ⟨rfl, rfl⟩
    · obtain rfl : j = k := by omega
      by_cases he : L.getD j 0 = 0
      · obtain rfl : r = true := HR.out.symm.trans (decide_eq_true ((head_of L j HL.out).2 ⟨hh.out, he⟩))
        rw [he] at hc1
        clear he
        go_wp2
        go_ret
        exact ⟨rfl, rfl⟩
      · obtain rfl : r = false := HR.out.symm.trans (decide_eq_false fun e => he ((head_of L j HL.out).1 e).2)
        generalize L.getD j 0 = p at *
        have hb : (p == 0) = false := by simpa using he
        go_wp2
        go_ret
        exact ⟨rfl, rfl⟩

abbrev numV (L : List Int) : Value := .tuple #[.int .i64 (numP L).1, .int .i64 (numP L).2]

set_option maxHeartbeats 1000000 in
/-- Number of a row of a wrong length. -/
theorem number_len (ao : Option Addr) (L : List Int) (n cap : Nat) (hn : n = L.length) (hx : n ≤ maxLen) (h : ¬(n = 2 * (n / 2) + 1 ∧ n / 2 ≤ 25)) (w : World) :
    Calls Tryz.prog 65 #[.slice ao n cap] w fun e w' => e = .returned (numV L) ∧ w' = w := by
  have e : numP L = (0, 1100) := numP_no (by rw [← hn]; intro q; exact h ⟨q.1, q.2.1⟩)
  unfold numV
  rw [e]
  unfold maxLen at hx
  clear e hn
  have d : ((n : Int)).tdiv 2 = ((n / 2 : Nat) : Int) := by rw [Int.tdiv_eq_ediv_of_nonneg (by omega)]; omega
  have HD : Hid (n / 2 * 2 ≤ n ∧ n < n / 2 * 2 + 2) := (by omega : n / 2 * 2 ≤ n ∧ n < n / 2 * 2 + 2)
  generalize n / 2 = k at *
  have C := behind_ok 33554433 25 (by decide) (by decide) (by decide) w
  by_cases q : n = 2 * k + 1
  · have k25 : 25 < k := by omega
    have hb : ((n : Int) != 2 * (k : Int) + 1) = false := by simp; omega
    have k2 := HD.out
    clear q h
    go_enter Tryz.func65, Tryz.ntmps65
    go_wp2_with (go_at_call 44; refine C.mono ?_; rintro e w1 ⟨rfl, rfl⟩)
    go_ret2
    exact ⟨rfl, rfl⟩
  · have hb : ((n : Int) != 2 * (k : Int) + 1) = true := by simp; omega
    have k2 := HD.out
    clear q h
    go_enter Tryz.func65, Tryz.ntmps65
    go_wp2
    go_ret2
    exact ⟨rfl, rfl⟩

end Go.Proofs.YtoldedbfoechlaaGreatDoor.Gam
