/-
  The contracts of slices.IndexFunc and slices.ContainsFunc over a limit's method, on any row of ints. Conditions: the row is there, however long; limits from 0 to 16777216.
-/
import Derived.Test.YtlgknbcdmiecdaaDoorLNum
import Derived.Test.YtlgknbcdmiecdaaDoorRows
import Derived.ProofKit
namespace Go.Proofs.YtlgknbcdmiecdaaDoor.Has
open Go.RowKit Go.Sort Go.Proofs.YtlgknbcdmiecdaaDoor.Mod Go.Proofs.YtlgknbcdmiecdaaDoor.Lin
set_option linter.unusedVariables false
set_option linter.unusedSimpArgs false

set_option maxHeartbeats 400000 in
theorem passed_at (l x : Int) (hl0 : 0 ≤ l) (hl1 : l ≤ 16777216) (w : World) :
    Calls Tryd.prog 23 #[.int .i64 l, .int .i64 x] w fun e w' => e = .returned (.bool (passed l x)) ∧ w' = w := by
  by_cases h0 : x < -l
  · have e : passed l x = true := decide_eq_true (.inl h0)
    rw [e]
    have h3 : decide (x < -l) = true := decide_eq_true h0
    clear e
    go_enter Tryd.func23, Tryd.ntmps23
    go_wp2
    go_ret
    exact ⟨rfl, rfl⟩
  · have e : passed l x = decide (l < x) := by unfold passed; simp [h0]
    rw [e]
    have h3 : decide (x < -l) = false := decide_eq_false h0
    clear e
    go_enter Tryd.func23, Tryd.ntmps23
    go_wp2
    go_ret
    exact ⟨rfl, rfl⟩

set_option maxHeartbeats 1000000 in
theorem index_slc (l : Int) (hl0 : 0 ≤ l) (hl1 : l ≤ 16777216) (ao : Option Addr) (L : List Int) (n cap : Nat) (hn : n = L.length) (hx : n ≤ maxLen) (w : World) (hA : Slc w ao L) :
    Calls Tryd.prog 29 #[.slice ao n cap, .func (.func 23) #[.int .i64 l] #[]] w fun e w' => (∃ r : Int, e = .returned (.int .i64 r) ∧ decide (0 ≤ r) = anyOf (passed l) (fun j => L.getD j 0) n) ∧ w' = w := by
  unfold maxLen at hx
  have P : Hid (∀ x w, Calls Tryd.prog 23 #[.int .i64 l, .int .i64 x] w fun e w' => e = .returned (.bool (passed l x)) ∧ w' = w) := fun x w => passed_at l x hl0 hl1 w
  have CS : Hid (∀ j, j < n → ∃ x, ao = some x ∧ w.cell? (x.add j) = some (.int .i64 (L.getD j 0))) := fun j hj => hA j (hn ▸ hj)
  clear hA hn
  generalize hf : (fun j => L.getD j 0) = f at *
  have FE : ∀ j, L.getD j 0 = f j := fun j => by rw [← hf]
  clear hf
  simp only [FE] at CS
  clear FE
  go_enter Tryd.func29, Tryd.ntmps29
  go_wp2_with fail
  go_loopw [8] (fun i wr => ∃ j : Nat, j ≤ n ∧ i = .int .i64 (j : Int) ∧ Hid (∀ i, i < j → passed l (f i) = false) ∧ wr = w) (fun i _ => n - (intOf i).toNat)
  case atStart => exact ⟨0, by omega, rfl, (fun i hi => by omega : ∀ i, i < 0 → passed l (f i) = false), rfl⟩
  case round =>
    obtain ⟨j, hj, rfl, HN, rfl⟩ := hrel
    by_cases hlt : j < n
    · obtain ⟨a, rfl, hc⟩ := CS.out j hlt
      have hd : decide ((j : Int) < (n : Int)) = true := decide_eq_true (by omega)
      obtain ⟨x, hx⟩ : ∃ x, f j = x := ⟨_, rfl⟩
      rw [hx] at hc
      cases hp : passed l x
      · have HN2 : Hid (∀ i, i < j + 1 → passed l (f i) = false) := fun i hi => by
          rcases Nat.lt_or_ge i j with h | h
          · exact HN.out i h
          · obtain rfl : i = j := by omega
            rw [hx]; exact hp
        have PP := P.out x
        rw [hp] at PP
        have PQ : Hid (∀ w, Calls Tryd.prog 23 #[.int .i64 l, .int .i64 x] w fun e w' => e = .returned (.bool false) ∧ w' = w) := PP
        clear PP hx hp HN
        go_wp2_with fail
        refine (PQ.out _).mono ?_
        rintro e w1 ⟨rfl, rfl⟩
        go_wp2
        go_roundw
        case rel => exact ⟨j + 1, by omega, by go_num, HN2, by trivial⟩
        case measure => simp [intOf]; omega
      · have HA : Hid (anyOf (passed l) f n = true) := anyOf_yes j hlt (by rw [hx]; exact hp)
        have PP := P.out x
        rw [hp] at PP
        have PQ : Hid (∀ w, Calls Tryd.prog 23 #[.int .i64 l, .int .i64 x] w fun e w' => e = .returned (.bool true) ∧ w' = w) := PP
        clear PP hx hp HN
        go_wp2_with fail
        refine (PQ.out _).mono ?_
        rintro e w1 ⟨rfl, rfl⟩
        go_wp2
        go_ret
        exact ⟨⟨_, rfl, by rw [HA.out]; exact decide_eq_true (by omega)⟩, rfl⟩
    · have hd : decide ((j : Int) < (n : Int)) = false := decide_eq_false (by omega)
      have HA : Hid (anyOf (passed l) f n = false) := anyOf_no fun i hi => HN.out i (by omega)
      clear HN
      go_wp2
      go_ret
      exact ⟨⟨_, rfl, by rw [HA.out]; decide⟩, rfl⟩

set_option maxHeartbeats 400000 in
theorem contains_slc (l : Int) (hl0 : 0 ≤ l) (hl1 : l ≤ 16777216) (ao : Option Addr) (L : List Int) (n cap : Nat) (hn : n = L.length) (hx : n ≤ maxLen) (w : World) (hA : Slc w ao L) :
    Calls Tryd.prog 22 #[.slice ao n cap, .func (.func 23) #[.int .i64 l] #[]] w fun e w' => e = .returned (.bool (anyOf (passed l) (fun j => L.getD j 0) n)) ∧ w' = w := by
  have I := index_slc l hl0 hl1 ao L n cap hn hx w hA
  generalize anyOf (passed l) (fun j => L.getD j 0) n = k at *
  clear hA hn
  have I2 : Hid (Calls Tryd.prog 29 #[.slice ao n cap, .func (.func 23) #[.int .i64 l] #[]] w fun e w' => (∃ r : Int, e = .returned (.int .i64 r) ∧ decide (0 ≤ r) = k) ∧ w' = w) := I
  clear I
  go_enter Tryd.func22, Tryd.ntmps22
  go_wp2_with fail
  refine (I2.out).mono ?_
  rintro e w1 ⟨⟨r, rfl, hr⟩, rfl⟩
  subst hr
  go_wp2
  go_ret
  exact ⟨rfl, rfl⟩

end Go.Proofs.YtlgknbcdmiecdaaDoor.Has
