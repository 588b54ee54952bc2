/-
  What a line holds that learns one number many times. No condition but that the number is from 1 to 1024.
-/
import Derived.Test.YtjckeagbimfonaaLNum
namespace Go.Proofs.Ytjckeagbimfonaa.Lin
open Go.RowKit Go.Proofs.Ytjckeagbimfonaa.Mod
set_option linter.unusedVariables false
set_option linter.unusedSimpArgs false

/-- Behind n numbers v: t steps of the first weight, one less of each further one. -/
structure Form (v : Int) (n t : Nat) (L : List Int) : Prop where
  len : L.length = 16
  wt : ∀ k, k < 8 → L.getD k 0 = 16 * ((t - k : Nat) : Int)
  num : ∀ k, k < 8 → L.getD (8 + k) 0 = if k < n then v else 0
  st : (n ≤ 36 ∧ t = n - 1) ∨ (36 ≤ n ∧ (t = 35 ∨ t = 36))

theorem form_zero (v : Int) : Form v 0 0 zeros16 :=
  ⟨zeros16_len, fun k hk => by rw [zeros16_get]; omega, fun k hk => by rw [zeros16_get, if_neg (by omega)], .inl ⟨by omega, rfl⟩⟩

/-- All weights together. -/
def wsum (t : Nat) : Int := 16 * ((t - 0 : Nat) : Int) + 16 * ((t - 1 : Nat) : Int) + 16 * ((t - 2 : Nat) : Int) + 16 * ((t - 3 : Nat) : Int) + 16 * ((t - 4 : Nat) : Int) + 16 * ((t - 5 : Nat) : Int) + 16 * ((t - 6 : Nat) : Int) + 16 * ((t - 7 : Nat) : Int)

theorem wsum_range (t : Nat) : 0 ≤ wsum t ∧ (t ≤ 35 → wsum t ≤ 4032) ∧ (t = 35 → wsum t = 4032) ∧ (t = 36 → wsum t = 4160) := by
  unfold wsum
  omega

theorem Form.dot {v : Int} {n t : Nat} {L : List Int} (F : Form v n t L) : dot L 8 = wsum t * v := by
  have e : ∀ k, k < 8 → L.getD k 0 * L.getD (8 + k) 0 = 16 * ((t - k : Nat) : Int) * v := fun k hk => by
    rw [F.wt k hk, F.num k hk]
    by_cases h : k < n
    · rw [if_pos h]
    · have : t - k = 0 := by have := F.st; omega
      rw [if_neg h, this]
      omega
  have d : Lin.dot L 8 = 0 + L.getD 0 0 * L.getD (8 + 0) 0 + L.getD 1 0 * L.getD (8 + 1) 0 + L.getD 2 0 * L.getD (8 + 2) 0 + L.getD 3 0 * L.getD (8 + 3) 0 + L.getD 4 0 * L.getD (8 + 4) 0 + L.getD 5 0 * L.getD (8 + 5) 0 + L.getD 6 0 * L.getD (8 + 6) 0 + L.getD 7 0 * L.getD (8 + 7) 0 := rfl
  rw [d, e 0 (by decide), e 1 (by decide), e 2 (by decide), e 3 (by decide), e 4 (by decide), e 5 (by decide), e 6 (by decide), e 7 (by decide)]
  unfold wsum
  rw [Int.zero_add]
  simp only [Int.add_mul]

theorem Form.may {v : Int} {n t : Nat} {L : List Int} (hv : 1 ≤ v ∧ v ≤ 1024) (F : Form v n t L) : mayL L = true :=
  (may_iff L).2 ⟨fun k hk => by rw [F.wt k hk]; have := F.st; omega, fun k hk => by rw [F.num k hk]; split <;> omega⟩

/-- What it guesses. -/
theorem Form.guess {v : Int} {n t : Nat} {L : List Int} (hv : 1 ≤ v ∧ v ≤ 1024) (F : Form v n t L) :
    (t ≤ 35 → Lin.guess L < v) ∧ (t = 36 → v ≤ Lin.guess L) ∧ (36 ≤ n → v - v / 64 - 1 ≤ Lin.guess L ∧ Lin.guess L ≤ v + v / 64) := by
  obtain ⟨r0, r1, r2, r3⟩ := wsum_range t
  unfold Lin.guess
  rw [F.dot]
  have st := F.st
  have hh : ∀ y : Int, -1048576 < y → y ≤ 1048576 → hold 1048576 y = y := fun y h0 h1 => by
    unfold hold
    rw [if_neg (by omega), if_neg (by omega)]
  rcases (by omega : t ≤ 35 ∨ t = 36) with h | h
  · have m1 := Int.mul_le_mul_of_nonneg_right (r1 h) (show 0 ≤ v by omega)
    have m0 := Int.mul_nonneg r0 (show 0 ≤ v by omega)
    rcases (by omega : n < 36 ∨ t = 35) with g | g
    · generalize wsum t * v = P at *
      rw [hh _ (by omega) (by omega)]
      omega
    · rw [r2 g] at m0 m1 ⊢
      rw [hh _ (by omega) (by omega)]
      omega
  · rw [r3 h, hh _ (by omega) (by omega)]
    omega

theorem hold_in (y : Int) (h : -1048576 ≤ y ∧ y ≤ 1048576) : hold 1048576 y = y := by
  unfold hold
  split
  · omega
  · split <;> omega

theorem Form.step {v : Int} {n t : Nat} {L : List Int} (hv : 1 ≤ v ∧ v ≤ 1024) (F : Form v n t L) : ∃ t', Form v (n + 1) t' (learn L v) := by
  obtain ⟨g0, g1, g2⟩ := F.guess hv
  have st := F.st
  have num : ∀ k, k < 8 → (learn L v).getD (8 + k) 0 = if k < n + 1 then v else 0 := fun k hk => by
    rw [learn_get L v F.len (8 + k) (by omega), if_neg (by omega)]
    by_cases h0 : k = 0
    · subst h0
      rw [if_pos rfl, if_pos (by omega)]
    · rw [if_neg (by omega), show 8 + k - 1 = 8 + (k - 1) by omega, F.num (k - 1) (by omega)]
      by_cases h1 : k - 1 < n
      · rw [if_pos h1, if_pos (by omega)]
      · rw [if_neg h1, if_neg (by omega)]
  have len : (learn L v).length = 16 := (learn_len L v).trans F.len
  have wt : ∀ k, k < 8 → (learn L v).getD k 0 = hold 1048576 (16 * ((t - k : Nat) : Int) + 16 * sgn (v - Lin.guess L) * sgn (if k < n then v else 0)) := fun k hk => by
    rw [learn_get L v F.len k (by omega), if_pos hk, stp, F.wt k hk, F.num k hk]
  by_cases ht : t ≤ 35
  · have s1 : sgn (v - Lin.guess L) = 1 := sgn_pos (by have := g0 ht; omega)
    refine ⟨if n = 0 then 0 else t + 1, len, fun k hk => ?_, num, ?_⟩
    · rw [wt k hk, s1]
      by_cases hn : k < n
      · rw [if_pos hn, sgn_pos (by omega), if_neg (by omega), hold_in _ (by omega)]
        omega
      · rw [if_neg hn, sgn_zero, hold_in _ (by omega)]
        split <;> omega
    · split <;> omega
  · obtain rfl : t = 36 := by omega
    have hn : 36 ≤ n := by omega
    rcases (by have := g1 rfl; omega : v = Lin.guess L ∨ v < Lin.guess L) with e | e
    · have s1 : sgn (v - Lin.guess L) = 0 := by rw [← e, Int.sub_self]; exact sgn_zero
      refine ⟨36, len, fun k hk => ?_, num, .inr ⟨by omega, .inr rfl⟩⟩
      rw [wt k hk, s1, Int.mul_zero, Int.zero_mul, hold_in _ (by omega)]
      omega
    · have s1 : sgn (v - Lin.guess L) = -1 := sgn_neg (by omega)
      refine ⟨35, len, fun k hk => ?_, num, .inr ⟨by omega, .inl rfl⟩⟩
      rw [wt k hk, s1, if_pos (by omega), sgn_pos (by omega), hold_in _ (by omega)]
      omega

end Go.Proofs.Ytjckeagbimfonaa.Lin
