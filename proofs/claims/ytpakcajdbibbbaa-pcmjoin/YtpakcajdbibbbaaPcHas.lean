/-
  The contracts of slices.IndexFunc and slices.ContainsFunc over a depth's method, on rows of ints however long. Conditions: the row is there.
-/
import Derived.Test.YtpakcajdbibbbaaPcSmall
import Derived.Test.YtpakcajdbibbbaaGList
namespace Go.Proofs.Ytpakcajdbibbbaa.Pcm
open Go.RowKit Go.Sort Go.Proofs.Ytpakcajdbibbbaa.Mod
set_option linter.unusedVariables false
set_option linter.unusedSimpArgs false

set_option maxHeartbeats 1000000 in
theorem index_none (l : Int) (p : Int → Bool) (hP : ∀ x w, Calls Try.prog 35 #[.int .i64 l, .int .i64 x] w fun e w' => e = .returned (.bool (p x)) ∧ w' = w) (ao : Option Addr) (L : List Int) (n cap : Nat) (hn : n = L.length) (hx : n ≤ maxLen) (w : World) (hA : Slc w ao L) :
    Calls Try.prog 39 #[.slice ao n cap, .func (.func 35) #[.int .i64 l] #[]] w fun e w' => (∃ r : Int, e = .returned (.int .i64 r) ∧ decide (0 ≤ r) = anyOf p (fun j => L.getD j 0) n) ∧ w' = w := by
  unfold maxLen at hx
  have P : Hid (∀ x w, Calls Try.prog 35 #[.int .i64 l, .int .i64 x] w fun e w' => e = .returned (.bool (p x)) ∧ w' = w) := hP
  have CS : Hid (∀ j, j < n → ∃ x, ao = some x ∧ w.cell? (x.add j) = some (.int .i64 (L.getD j 0))) := fun j hj => hA j (hn ▸ hj)
  clear hA hn hP
  generalize hf : (fun j => L.getD j 0) = f at *
  have FE : ∀ j, L.getD j 0 = f j := fun j => by rw [← hf]
  clear hf
  simp only [FE] at CS
  clear FE
  go_enter Try.func39, Try.ntmps39
  go_wp2_with fail
  go_loopw [8] (fun i wr => ∃ j : Nat, j ≤ n ∧ i = .int .i64 (j : Int) ∧ Hid (∀ i, i < j → p (f i) = false) ∧ wr = w) (fun i _ => n - (intOf i).toNat)
  case atStart => exact ⟨0, by omega, rfl, (fun i hi => by omega : ∀ i, i < 0 → p (f i) = false), rfl⟩
  case round =>
    obtain ⟨j, hj, rfl, HN, rfl⟩ := hrel
    by_cases hlt : j < n
    · obtain ⟨a, rfl, hc⟩ := CS.out j hlt
      have hd : decide ((j : Int) < (n : Int)) = true := decide_eq_true (by omega)
      obtain ⟨x, hx⟩ : ∃ x, f j = x := ⟨_, rfl⟩
      rw [hx] at hc
      cases hp : p x
      · have HN2 : Hid (∀ i, i < j + 1 → p (f i) = false) := fun i hi => by
          rcases Nat.lt_or_ge i j with h | h
          · exact HN.out i h
          · obtain rfl : i = j := by omega
            rw [hx]; exact hp
        have PP := P.out x
        rw [hp] at PP
        have PQ : Hid (∀ w, Calls Try.prog 35 #[.int .i64 l, .int .i64 x] w fun e w' => e = .returned (.bool false) ∧ w' = w) := PP
        clear PP hx hp HN
        go_wp2_with fail
        refine (PQ.out _).mono ?_
        rintro e w1 ⟨rfl, rfl⟩
        go_wp2
        go_roundw
        case rel => exact ⟨j + 1, by omega, by go_num, HN2, by trivial⟩
        case measure => simp [intOf]; omega
      · have HA : Hid (anyOf p f n = true) := anyOf_yes j hlt (by rw [hx]; exact hp)
        have PP := P.out x
        rw [hp] at PP
        have PQ : Hid (∀ w, Calls Try.prog 35 #[.int .i64 l, .int .i64 x] w fun e w' => e = .returned (.bool true) ∧ w' = w) := PP
        clear PP hx hp HN
        go_wp2_with fail
        refine (PQ.out _).mono ?_
        rintro e w1 ⟨rfl, rfl⟩
        go_wp2
        go_ret
        exact ⟨⟨_, rfl, by rw [HA.out]; exact decide_eq_true (by omega)⟩, rfl⟩
    · have hd : decide ((j : Int) < (n : Int)) = false := decide_eq_false (by omega)
      have HA : Hid (anyOf p f n = false) := anyOf_no fun i hi => HN.out i (by omega)
      clear HN
      go_wp2
      go_ret
      exact ⟨⟨_, rfl, by rw [HA.out]; decide⟩, rfl⟩

set_option maxHeartbeats 400000 in
theorem contains_none (l : Int) (p : Int → Bool) (hP : ∀ x w, Calls Try.prog 35 #[.int .i64 l, .int .i64 x] w fun e w' => e = .returned (.bool (p x)) ∧ w' = w) (ao : Option Addr) (L : List Int) (n cap : Nat) (hn : n = L.length) (hx : n ≤ maxLen) (w : World) (hA : Slc w ao L) :
    Calls Try.prog 34 #[.slice ao n cap, .func (.func 35) #[.int .i64 l] #[]] w fun e w' => e = .returned (.bool (anyOf p (fun j => L.getD j 0) n)) ∧ w' = w := by
  have I := index_none l p hP ao L n cap hn hx w hA
  generalize anyOf p (fun j => L.getD j 0) n = k at *
  clear hA hn hP
  have I2 : Hid (Calls Try.prog 39 #[.slice ao n cap, .func (.func 35) #[.int .i64 l] #[]] w fun e w' => (∃ r : Int, e = .returned (.int .i64 r) ∧ decide (0 ≤ r) = k) ∧ w' = w) := I
  clear I
  go_enter Try.func34, Try.ntmps34
  go_wp2_with fail
  refine (I2.out).mono ?_
  rintro e w1 ⟨⟨r, rfl, hr⟩, rfl⟩
  subst hr
  go_wp2
  go_ret
  exact ⟨rfl, rfl⟩

end Go.Proofs.Ytpakcajdbibbbaa.Pcm
