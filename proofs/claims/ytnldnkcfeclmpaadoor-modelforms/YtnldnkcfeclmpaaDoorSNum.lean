/-
  Plain facts on the chance of a number (P6.1) and the least number of a chance (P6.2). No condition.
-/
import Derived.WalkKit
namespace Go.Proofs.YtnldnkcfeclmpaaDoor.Str

/-- The table of P6.1. -/
def places : List Int := [1, 2, 3, 6, 10, 16, 27, 45, 73, 120, 194, 310, 488, 747, 1101, 1546, 2047, 2549, 2994, 3348, 3607, 3785, 3901, 3975, 4022, 4050, 4068, 4079, 4085, 4089, 4092, 4093, 4094]

/-- The chance that x stands for. -/
def sq (x : Int) : Int :=
  if x > 2047 then 4095 else if x < -2047 then 0
  else (places.getD ((x + 2048) / 128).toNat 0 * (128 - (x + 2048) % 128) + places.getD (((x + 2048) / 128).toNat + 1) 0 * ((x + 2048) % 128) + 64) / 128

theorem sq_above (x : Int) (h : 2047 < x) : sq x = 4095 := by simp [sq, h]
theorem sq_below (x : Int) (h : x < -2047) : sq x = 0 := by
  have : ¬ x > 2047 := by omega
  simp [sq, h, this]

theorem sq_at (x : Int) (h0 : -2047 ≤ x) (h1 : x ≤ 2047) : sq x = (places.getD ((x + 2048) / 128).toNat 0 * (128 - (x + 2048) % 128) + places.getD (((x + 2048) / 128).toNat + 1) 0 * ((x + 2048) % 128) + 64) / 128 := by
  have a : ¬ x > 2047 := by omega
  have b : ¬ x < -2047 := by omega
  simp only [sq, if_neg a, if_neg b]

theorem places_low : ∀ d, d < 33 → 0 ≤ places.getD d 0 ∧ places.getD d 0 ≤ 4094 := by decide +kernel

set_option maxRecDepth 100000 in
theorem steps : ((List.range 4096).all fun i => decide (sq ((i : Int) - 2048) ≤ sq ((i : Int) - 2047))) = true := by decide +kernel

theorem sq_step (x : Int) (h0 : -2048 ≤ x) (h1 : x ≤ 2047) : sq x ≤ sq (x + 1) := by
  have h := List.all_eq_true.1 steps (x + 2048).toNat (by simp; omega)
  have e1 : (((x + 2048).toNat : Nat) : Int) - 2048 = x := by omega
  have e2 : (((x + 2048).toNat : Nat) : Int) - 2047 = x + 1 := by omega
  rw [e1, e2] at h
  exact of_decide_eq_true h

theorem sq_mono_nat (x : Int) (h0 : -2048 ≤ x) : ∀ n : Nat, x + n ≤ 2048 → sq x ≤ sq (x + n)
  | 0, _ => by simp
  | n + 1, h => by
    have h2 := sq_mono_nat x h0 n (by omega)
    have h3 := sq_step (x + n) (by omega) (by omega)
    have e : x + ((n + 1 : Nat) : Int) = x + n + 1 := by omega
    rw [e]
    omega

theorem sq_mono (x y : Int) (h0 : -2048 ≤ x) (h1 : x ≤ y) (h2 : y ≤ 2048) : sq x ≤ sq y := by
  have h := sq_mono_nat x h0 (y - x).toNat (by omega)
  have e : x + (((y - x).toNat : Nat) : Int) = y := by omega
  rwa [e] at h

theorem sq_least : sq (-2047) = 1 := by decide +kernel
theorem sq_most : sq 2047 = 4094 := by decide +kernel

theorem sq_within (x : Int) (h0 : -2047 ≤ x) (h1 : x ≤ 2047) : 1 ≤ sq x ∧ sq x ≤ 4094 := by
  have a := sq_mono (-2047) x (by omega) h0 (by omega)
  have b := sq_mono x 2047 (by omega) h1 (by omega)
  rw [sq_least] at a
  rw [sq_most] at b
  exact ⟨a, b⟩

theorem sq_chance (x : Int) : 0 ≤ sq x ∧ sq x ≤ 4095 := by
  by_cases h : 2047 < x
  · rw [sq_above x h]; omega
  · by_cases k : x < -2047
    · rw [sq_below x k]; omega
    · have := sq_within x (by omega) (by omega); omega

/-- y is the least number from -2047 to 2047 that stands for the chance p or more; 2047, if there is none. -/
def Least (p y : Int) : Prop := -2047 ≤ y ∧ y ≤ 2047 ∧ (∀ x, -2047 ≤ x → x < y → sq x < p) ∧ (y = 2047 ∨ p ≤ sq y)

theorem least_unique {p y z : Int} (h : Least p y) (k : Least p z) : y = z := by
  obtain ⟨h1, h2, h3, h4⟩ := h
  obtain ⟨k1, k2, k3, k4⟩ := k
  by_cases a : y < z
  · have := k3 y h1 a
    omega
  · by_cases b : z < y
    · have := h3 z k1 b
      omega
    · omega

def seek (p : Int) : Nat → Int → Int
  | 0, x => x
  | k + 1, x => if p ≤ sq x then x else seek p k (x + 1)

/-- The least number of a chance. -/
def st (p : Int) : Int := seek p 4094 (-2047)

theorem seek_least (p : Int) : ∀ (k : Nat) (x : Int), -2047 ≤ x → x + k = 2047 → (∀ y, -2047 ≤ y → y < x → sq y < p) → Least p (seek p k x)
  | 0, x, h0, h1, h2 => ⟨h0, by simp at h1; simp [seek]; omega, h2, .inl (by simp at h1; simpa [seek] using h1)⟩
  | k + 1, x, h0, h1, h2 => by
    unfold seek
    by_cases c : p ≤ sq x
    · rw [if_pos c]
      exact ⟨h0, by omega, h2, .inr c⟩
    · rw [if_neg c]
      refine seek_least p k (x + 1) (by omega) (by omega) fun y a b => ?_
      by_cases d : y < x
      · exact h2 y a d
      · have : y = x := by omega
        subst this; omega

theorem st_least (p : Int) : Least p (st p) := seek_least p 4094 (-2047) (by omega) (by omega) (fun y a b => by omega)

theorem st_is {p y : Int} (h : Least p y) : y = st p := least_unique h (st_least p)

/-- A number at which p is met, and ahead of which it is not, is the least one. -/
theorem least_of (p y : Int) (h0 : -2047 ≤ y) (h1 : y ≤ 2047) (h2 : y = -2047 ∨ sq (y - 1) < p) (h3 : y = 2047 ∨ p ≤ sq y) : Least p y := by
  refine ⟨h0, h1, fun x a b => ?_, h3⟩
  rcases h2 with h | h
  · omega
  · have := sq_mono x (y - 1) (by omega) (by omega) (by omega)
    omega

theorem st_2047 : st 2047 = 0 := (st_is (least_of 2047 0 (by omega) (by omega) (.inr (by decide +kernel)) (.inr (by decide +kernel)))).symm
theorem st_0 : st 0 = -2047 := (st_is (least_of 0 (-2047) (by omega) (by omega) (.inl rfl) (.inr (by decide +kernel)))).symm
theorem st_4095 : st 4095 = 2047 := (st_is (least_of 4095 2047 (by omega) (by omega) (.inr (by decide +kernel)) (.inl rfl))).symm
theorem sq_0 : sq 0 = 2047 := by decide +kernel

/-- What StretchRises asks of the least number. -/
theorem st_ahead (p : Int) : -2047 ≤ st p ∧ st p ≤ 2047 ∧ (p ≤ sq (st p) ∨ st p = 2047) ∧ (st p = -2047 ∨ sq (st p - 1) < p) := by
  obtain ⟨h1, h2, h3, h4⟩ := st_least p
  refine ⟨h1, h2, h4.symm, ?_⟩
  by_cases c : st p = -2047
  · exact .inl c
  · exact .inr (h3 _ (by omega) (by omega))

/-- A number's chance, stretched, has that chance. -/
theorem st_back (k : Int) (h0 : -2047 ≤ k) (h1 : k ≤ 2047) : st (sq k) ≤ k ∧ sq (st (sq k)) = sq k := by
  obtain ⟨l1, l2, l3, l4⟩ := st_least (sq k)
  have a : st (sq k) ≤ k := by
    by_cases c : k < st (sq k)
    · have := l3 k h0 c; omega
    · omega
  have b := sq_mono (st (sq k)) k (by omega) a (by omega)
  refine ⟨a, ?_⟩
  rcases l4 with h | h
  · have : k = 2047 := by omega
    rw [h, this]
  · omega

set_option maxRecDepth 100000 in
theorem mirrors : ((List.range 2048).all fun i => decide (4090 ≤ sq (i : Int) + sq (-(i : Int)) ∧ sq (i : Int) + sq (-(i : Int)) ≤ 4100 ∧ sq (-(i : Int)) ≤ sq (i : Int))) = true := by decide +kernel

theorem mirror (k : Int) (h0 : 0 ≤ k) (h1 : k < 2048) : 4090 ≤ sq k + sq (-k) ∧ sq k + sq (-k) ≤ 4100 ∧ sq (-k) ≤ sq k := by
  have h := List.all_eq_true.1 mirrors k.toNat (by simp; omega)
  rw [Int.toNat_of_nonneg h0] at h
  exact of_decide_eq_true h

/-- At multiples of 128 the table stands. -/
theorem knots : ∀ i : Nat, i < 31 → sq (128 * ((i : Int) - 15)) = places.getD (i + 1) 0 := by decide +kernel

end Go.Proofs.YtnldnkcfeclmpaaDoor.Str
