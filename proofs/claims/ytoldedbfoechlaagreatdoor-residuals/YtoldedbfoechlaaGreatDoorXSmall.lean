/-
  The contracts of context's small functions and of slices.IndexFunc, ContainsFunc and Index over rows of ints. Condition: the row is there.
-/
import Derived.Test.YtoldedbfoechlaaGreatDoorXNum
import Derived.Test.YtoldedbfoechlaaGreatDoorLOwn
namespace Go.Proofs.YtoldedbfoechlaaGreatDoor.Ctx
open Go.RowKit Go.Proofs.YtoldedbfoechlaaGreatDoor.Mod Go.Proofs.YtoldedbfoechlaaGreatDoor.Ints Go.Proofs.YtoldedbfoechlaaGreatDoor.Num Go.Proofs.YtoldedbfoechlaaGreatDoor.Gam
set_option linter.unusedVariables false

theorem counted_ok (x : Int) (w : World) :
    Calls Tryz.prog 73 #[.int .i64 x] w fun e w' => e = .returned (.int .i64 (upto31 x)) ∧ w' = w := by
  by_cases h : x ≤ 31
  · have e : upto31 x = x := if_pos h
    rw [e]
    clear e
    go_enter Tryz.func73, Tryz.ntmps73
    go_wp2
    go_ret
    exact ⟨rfl, rfl⟩
  · have e : upto31 x = 31 := if_neg h
    rw [e]
    clear e
    go_enter Tryz.func73, Tryz.ntmps73
    go_wp2
    go_ret
    exact ⟨rfl, rfl⟩

theorem oneIf_ok (r : Bool) (w : World) :
    Calls Tryz.prog 74 #[.bool r] w fun e w' => e = .returned (.int .i64 (oneB r)) ∧ w' = w := by
  cases r
  · go_enter Tryz.func74, Tryz.ntmps74
    go_wp2
    go_ret
    exact ⟨rfl, rfl⟩
  · go_enter Tryz.func74, Tryz.ntmps74
    go_wp2
    go_ret
    exact ⟨rfl, rfl⟩

def noBit (b : Int) : Bool := decide (¬(b = 0 ∨ b = 1))

theorem noBit_ok (b : Int) (w : World) :
    Calls Tryz.prog 72 #[.int .i64 b] w fun e w' => e = .returned (.bool (noBit b)) ∧ w' = w := by
  by_cases a : b = 0
  · subst a
    go_enter Tryz.func72, Tryz.ntmps72
    go_wp2
    go_ret
    exact ⟨rfl, rfl⟩
  · have hb : (b != 0) = true := by simpa using a
    have hr : noBit b = (b != 1) := by
      unfold noBit
      by_cases q : b = 1
      · simp [q]
      · simp [a, q]
    rw [hr]
    clear hr a
    go_enter Tryz.func72, Tryz.ntmps72
    go_wp2
    go_ret
    exact ⟨rfl, rfl⟩

theorem noBit_no {b : Int} (h : noBit b = false) : b = 0 ∨ b = 1 := by
  unfold noBit at h
  have := of_decide_eq_false h
  omega

set_option maxHeartbeats 1000000 in
/-- Where none is bad none is found; else one is. -/
theorem indexF_ok (ao : Option Addr) (L : List Int) (n cap : Nat) (hn : n = L.length) (hx : n ≤ 63) (r : Bool) (hr : r = true ↔ ¬ Bits01 L) (w : World) (hA : Slc w ao L) :
    Calls Tryz.prog 41 #[.slice ao n cap, .func (.func 72) #[] #[]] w fun e w' => (∃ q : Int, e = .returned (.int .i64 q) ∧ decide (0 ≤ q) = r) ∧ w' = w := by
  have P : Hid (∀ x w, Calls Tryz.prog 72 #[.int .i64 x] w fun e w' => e = .returned (.bool (noBit x)) ∧ w' = w) := noBit_ok
  have HA : Hid (Slc w ao L) := hA
  have HN : Hid (n = L.length) := hn
  have HR : Hid (r = true ↔ ¬ Bits01 L) := hr
  clear hA hn hr
  go_enter Tryz.func41, Tryz.ntmps41
  go_wp2_with fail
  go_loopw [8] (fun i wr => ∃ j : Nat, j ≤ n ∧ i = .int .i64 (j : Int) ∧ Hid (∀ i, i < j → noBit (L.getD i 0) = false) ∧ wr = w) (fun i _ => n - (intOf i).toNat)
  case atStart => exact ⟨0, by omega, rfl, (fun i hi => by omega : ∀ i, i < 0 → noBit (L.getD i 0) = false), rfl⟩
  case round =>
    obtain ⟨j, hj, rfl, HB, hw⟩ := hrel
    replace hw := hw.symm
    subst hw
    by_cases hlt : j < n
    · obtain ⟨x, rfl, hc⟩ := HA.out j (HN.out ▸ hlt)
      have hd : decide ((j : Int) < (n : Int)) = true := decide_eq_true (by omega)
      obtain ⟨p, hp⟩ : ∃ p, L.getD j 0 = p := ⟨_, rfl⟩
      rw [hp] at hc
      cases hq : noBit p
      · have HB2 : Hid (∀ i, i < j + 1 → noBit (L.getD i 0) = false) := fun i hi => by
          rcases Nat.lt_or_ge i j with h | h
          · exact HB.out i h
          · obtain rfl : i = j := by omega
            rw [hp]; exact hq
        have PP := P.out p
        rw [hq] at PP
        have PQ : Hid (∀ w, Calls Tryz.prog 72 #[.int .i64 p] w fun e w' => e = .returned (.bool false) ∧ w' = w) := PP
        clear PP hp hq HB
        go_wp2_with fail
        refine (PQ.out _).mono ?_
        rintro e w1 ⟨rfl, h2⟩
        replace h2 := h2.symm
        subst h2
        go_wp2
        go_roundw
        case rel => exact ⟨j + 1, by omega, by go_num, HB2, by first | rfl | trivial⟩
        case measure => simp [intOf]; omega
      · obtain rfl : r = true := HR.out.2 fun h => by
          have h1 := h j (HN.out ▸ hlt)
          rw [hp] at h1
          rw [noBit, decide_eq_true_eq] at hq
          exact hq h1
        have PP := P.out p
        rw [hq] at PP
        have PQ : Hid (∀ w, Calls Tryz.prog 72 #[.int .i64 p] w fun e w' => e = .returned (.bool true) ∧ w' = w) := PP
        clear PP hp hq HB
        go_wp2_with fail
        refine (PQ.out _).mono ?_
        rintro e w1 ⟨rfl, h2⟩
        replace h2 := h2.symm
        subst h2
        go_wp2
        go_ret
        exact ⟨⟨_, rfl, decide_eq_true (by omega)⟩, rfl⟩
    · have hd : decide ((j : Int) < (n : Int)) = false := decide_eq_false (by omega)
      obtain rfl : r = false := by
        cases hr : r
        · rfl
        · exact absurd (fun k hk => noBit_no (HB.out k (by have := HN.out; omega))) (HR.out.1 hr)
      clear HB
      go_wp2
      go_ret
      exact ⟨⟨_, rfl, by decide⟩, rfl⟩

set_option maxHeartbeats 400000 in
theorem contains_ok (ao : Option Addr) (L : List Int) (n cap : Nat) (hn : n = L.length) (hx : n ≤ 63) (r : Bool) (hr : r = true ↔ ¬ Bits01 L) (w : World) (hA : Slc w ao L) :
    Calls Tryz.prog 16 #[.slice ao n cap, .func (.func 72) #[] #[]] w fun e w' => e = .returned (.bool r) ∧ w' = w := by
  have I : Hid (Calls Tryz.prog 41 #[.slice ao n cap, .func (.func 72) #[] #[]] w fun e w' => (∃ q : Int, e = .returned (.int .i64 q) ∧ decide (0 ≤ q) = r) ∧ w' = w) := indexF_ok ao L n cap hn hx r hr w hA
  clear hA hn hr
  go_enter Tryz.func16, Tryz.ntmps16
  go_wp2_with fail
  refine (I.out).mono ?_
  rintro e w1 ⟨⟨q, rfl, hq⟩, h2⟩
  replace h2 := h2.symm
  subst h2
  subst hq
  go_wp2
  go_ret
  exact ⟨rfl, rfl⟩

set_option maxHeartbeats 1000000 in
/-- slices.Index of 0, of bits. -/
theorem index_ok (ao : Option Addr) (L : List Int) (n cap : Nat) (hn : n = L.length) (hx : n ≤ 63) (hb : Bits01 L) (r : Int) (hr : r = if has0 L then (ones L : Int) else -1) (w : World) (hA : Slc w ao L) :
    Calls Tryz.prog 71 #[.slice ao n cap, .int .i64 0] w fun e w' => e = .returned (.int .i64 r) ∧ w' = w := by
  have HA : Hid (Slc w ao L) := hA
  have HN : Hid (n = L.length) := hn
  have HR : Hid (r = if has0 L then (ones L : Int) else -1) := hr
  have HT : Hid (Bits01 L) := hb
  clear hA hn hr hb
  go_enter Tryz.func71, Tryz.ntmps71
  go_wp2_with fail
  go_loopw [8] (fun i wr => ∃ j : Nat, j ≤ n ∧ i = .int .i64 (j : Int) ∧ Hid (∀ i, i < j → L.getD i 0 ≠ 0) ∧ wr = w) (fun i _ => n - (intOf i).toNat)
  case atStart => exact ⟨0, by omega, rfl, (fun i hi => by omega : ∀ i, i < 0 → L.getD i 0 ≠ 0), rfl⟩
  case round =>
    obtain ⟨j, hj, rfl, HB, hw⟩ := hrel
    replace hw := hw.symm
    subst hw
    by_cases hlt : j < n
    · obtain ⟨x, rfl, hc⟩ := HA.out j (HN.out ▸ hlt)
      have hd : decide ((j : Int) < (n : Int)) = true := decide_eq_true (by omega)
      by_cases he : L.getD j 0 = 0
      · obtain rfl : r = (j : Int) := by
          have e := first0 HT.out j (HN.out ▸ hlt) he HB.out
          rw [HR.out, e, has0, decide_eq_true (by rw [e]; exact HN.out ▸ hlt), if_pos rfl]
        rw [he] at hc
        clear he HB HR
        go_wp2
        go_ret
        exact ⟨rfl, rfl⟩
      · have HB2 : Hid (∀ i, i < j + 1 → L.getD i 0 ≠ 0) := fun i hi => by
          rcases Nat.lt_or_ge i j with h | h
          · exact HB.out i h
          · obtain rfl : i = j := by omega
            exact he
        generalize L.getD j 0 = p at *
        have hb : ((0 : Int) == p) = false := by simp; omega
        clear HB
        go_wp2
        go_roundw
        case rel => exact ⟨j + 1, by omega, by go_num, HB2, by first | rfl | trivial⟩
        case measure => simp [intOf]; omega
    · have hd : decide ((j : Int) < (n : Int)) = false := decide_eq_false (by omega)
      obtain rfl : r = -1 := by
        have e := no0 HT.out fun i hi => HB.out i (by have := HN.out; omega)
        rw [HR.out, has0, decide_eq_false (by omega), if_neg (by decide)]
      clear HB
      go_wp2
      go_ret
      exact ⟨rfl, rfl⟩

end Go.Proofs.YtoldedbfoechlaaGreatDoor.Ctx
