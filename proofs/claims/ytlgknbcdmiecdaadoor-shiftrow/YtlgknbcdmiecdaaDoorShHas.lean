/-
  The contracts of what Down asks of each sample, and of slices.IndexFunc and slices.ContainsFunc over it, on rows of ints however long. Conditions: the row is there; the power is from 1 to 32768.
-/
import Derived.Test.YtlgknbcdmiecdaaDoorShNum
import Derived.Test.YtlgknbcdmiecdaaDoorGHas
namespace Go.Proofs.YtlgknbcdmiecdaaDoor.Shf
open Go.RowKit Go.Sort Go.Proofs.YtlgknbcdmiecdaaDoor.Mod Go.Proofs.YtlgknbcdmiecdaaDoor.Lin Go.Proofs.YtlgknbcdmiecdaaDoor.Has
set_option linter.unusedVariables false
set_option linter.unusedSimpArgs false

theorem rem_bad (p x : Int) : decide (x % p ≠ 0) = (x.tmod p != 0) := by
  by_cases h : p ∣ x
  · rw [Int.tmod_eq_zero_of_dvd h, decide_eq_false (by rw [Int.emod_eq_zero_of_dvd h]; decide)]; rfl
  · have h1 : x % p ≠ 0 := fun q => h (Int.dvd_of_emod_eq_zero q)
    have h2 : x.tmod p ≠ 0 := fun q => h (Int.dvd_of_tmod_eq_zero q)
    rw [decide_eq_true h1]
    simpa using h2

set_option maxHeartbeats 1000000 in
theorem not_ok (B : Nat) (p x : Int) (hp0 : 1 ≤ p) (hp1 : p ≤ 32768) (w : World) (c : w.cell? ⟨B, 0, none⟩ = some (.int .i64 p)) :
    Calls Tryd.prog 27 #[.int .i64 x, .pointer (some ⟨B, 0, none⟩)] w fun e w' => e = .returned (.bool (bad p x)) ∧ w' = w := by
  have PP : Hid (Calls Tryd.prog 23 #[.int .i64 131072, .int .i64 x] w fun e w' => e = .returned (.bool (passed 131072 x)) ∧ w' = w) := passed_at 131072 x (by decide) (by decide) w
  cases hp : passed 131072 x
  · rw [hp] at PP
    have e : bad p x = (x.tmod p != 0) := by unfold bad; rw [hp, Bool.false_or, rem_bad]
    rw [e]
    obtain ⟨x0, x1⟩ := passed_no.1 hp
    have hz : (p == 0) = false := by simp; omega
    obtain ⟨r, hr⟩ : ∃ r, (x.tmod p != 0) = r := ⟨_, rfl⟩
    rw [hr]
    clear e hp
    go_enter Tryd.func27, Tryd.ntmps27
    go_wp2_with fail
    refine (PP.out).mono ?_
    rintro e w1 ⟨rfl, rfl⟩
    go_wp2
    go_ret
    exact ⟨rfl, rfl⟩
  · rw [hp] at PP
    have e : bad p x = true := by unfold bad; rw [hp]; rfl
    rw [e]
    clear e hp
    go_enter Tryd.func27, Tryd.ntmps27
    go_wp2_with fail
    refine (PP.out).mono ?_
    rintro e w1 ⟨rfl, rfl⟩
    go_wp2
    go_ret
    exact ⟨rfl, rfl⟩

set_option maxHeartbeats 1000000 in
theorem index_not (B : Nat) (p : Int) (hp0 : 1 ≤ p) (hp1 : p ≤ 32768) (ao : Option Addr) (L : List Int) (n cap : Nat) (hn : n = L.length) (hx : n ≤ maxLen) (w : World) (cB : w.cell? ⟨B, 0, none⟩ = some (.int .i64 p)) (hA : Slc w ao L) :
    Calls Tryd.prog 29 #[.slice ao n cap, .func (.func 27) #[] #[.pointer (some ⟨B, 0, none⟩)]] w fun e w' => (∃ r : Int, e = .returned (.int .i64 r) ∧ decide (0 ≤ r) = anyOf (bad p) (fun j => L.getD j 0) n) ∧ w' = w := by
  unfold maxLen at hx
  have P : Hid (∀ x, Calls Tryd.prog 27 #[.int .i64 x, .pointer (some ⟨B, 0, none⟩)] w fun e w' => e = .returned (.bool (bad p x)) ∧ w' = w) := fun x => not_ok B p x hp0 hp1 w cB
  have CS : Hid (∀ j, j < n → ∃ x, ao = some x ∧ w.cell? (x.add j) = some (.int .i64 (L.getD j 0))) := fun j hj => hA j (hn ▸ hj)
  clear hA hn cB
  generalize hf : (fun j => L.getD j 0) = f at *
  have FE : ∀ j, L.getD j 0 = f j := fun j => by rw [← hf]
  clear hf
  simp only [FE] at CS
  clear FE
  go_enter Tryd.func29, Tryd.ntmps29
  go_wp2_with fail
  go_loopw [8] (fun i wr => ∃ j : Nat, j ≤ n ∧ i = .int .i64 (j : Int) ∧ Hid (∀ i, i < j → bad p (f i) = false) ∧ wr = w) (fun i _ => n - (intOf i).toNat)
  case atStart => exact ⟨0, by omega, rfl, (fun i hi => by omega : ∀ i, i < 0 → bad p (f i) = false), rfl⟩
  case round =>
    obtain ⟨j, hj, rfl, HN, rfl⟩ := hrel
    by_cases hlt : j < n
    · obtain ⟨a, rfl, hc⟩ := CS.out j hlt
      have hd : decide ((j : Int) < (n : Int)) = true := decide_eq_true (by omega)
      obtain ⟨x, hx⟩ : ∃ x, f j = x := ⟨_, rfl⟩
      rw [hx] at hc
      cases hp : bad p x
      · have HN2 : Hid (∀ i, i < j + 1 → bad p (f i) = false) := fun i hi => by
          rcases Nat.lt_or_ge i j with h | h
          · exact HN.out i h
          · obtain rfl : i = j := by omega
            rw [hx]; exact hp
        have PP := P.out x
        rw [hp] at PP
        have PQ : Hid (Calls Tryd.prog 27 #[.int .i64 x, .pointer (some ⟨B, 0, none⟩)] wr fun e w' => e = .returned (.bool false) ∧ w' = wr) := PP
        clear PP hx hp HN
        go_wp2_with fail
        refine (PQ.out).mono ?_
        rintro e w1 ⟨rfl, rfl⟩
        go_wp2
        go_roundw
        case rel => exact ⟨j + 1, by omega, by go_num, HN2, by trivial⟩
        case measure => simp [intOf]; omega
      · have HA : Hid (anyOf (bad p) f n = true) := anyOf_yes j hlt (by rw [hx]; exact hp)
        have PP := P.out x
        rw [hp] at PP
        have PQ : Hid (Calls Tryd.prog 27 #[.int .i64 x, .pointer (some ⟨B, 0, none⟩)] wr fun e w' => e = .returned (.bool true) ∧ w' = wr) := PP
        clear PP hx hp HN
        go_wp2_with fail
        refine (PQ.out).mono ?_
        rintro e w1 ⟨rfl, rfl⟩
        go_wp2
        go_ret
        exact ⟨⟨_, rfl, by rw [HA.out]; exact decide_eq_true (by omega)⟩, rfl⟩
    · have hd : decide ((j : Int) < (n : Int)) = false := decide_eq_false (by omega)
      have HA : Hid (anyOf (bad p) f n = false) := anyOf_no fun i hi => HN.out i (by omega)
      clear HN
      go_wp2
      go_ret
      exact ⟨⟨_, rfl, by rw [HA.out]; decide⟩, rfl⟩

set_option maxHeartbeats 400000 in
theorem contains_not (B : Nat) (p : Int) (hp0 : 1 ≤ p) (hp1 : p ≤ 32768) (ao : Option Addr) (L : List Int) (n cap : Nat) (hn : n = L.length) (hx : n ≤ maxLen) (w : World) (cB : w.cell? ⟨B, 0, none⟩ = some (.int .i64 p)) (hA : Slc w ao L) :
    Calls Tryd.prog 22 #[.slice ao n cap, .func (.func 27) #[] #[.pointer (some ⟨B, 0, none⟩)]] w fun e w' => e = .returned (.bool (anyOf (bad p) (fun j => L.getD j 0) n)) ∧ w' = w := by
  have I := index_not B p hp0 hp1 ao L n cap hn hx w cB hA
  generalize anyOf (bad p) (fun j => L.getD j 0) n = k at *
  clear hA hn cB
  have I2 : Hid (Calls Tryd.prog 29 #[.slice ao n cap, .func (.func 27) #[] #[.pointer (some ⟨B, 0, none⟩)]] w fun e w' => (∃ r : Int, e = .returned (.int .i64 r) ∧ decide (0 ≤ r) = k) ∧ w' = w) := I
  clear I
  go_enter Tryd.func22, Tryd.ntmps22
  go_wp2_with fail
  refine (I2.out).mono ?_
  rintro e w1 ⟨⟨r, rfl, hr⟩, rfl⟩
  subst hr
  go_wp2
  go_ret
  exact ⟨rfl, rfl⟩

end Go.Proofs.YtlgknbcdmiecdaaDoor.Shf
