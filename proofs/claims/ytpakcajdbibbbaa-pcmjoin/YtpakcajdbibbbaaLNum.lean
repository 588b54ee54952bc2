/-
  Plain facts on lines that learn: which may be, what is guessed, what is learned, number by number. No condition.
-/
import Derived.Test.YtpakcajdbibbbaaGPut
namespace Go.Proofs.Ytpakcajdbibbbaa.Lin
open Go.RowKit Go.Proofs.Ytpakcajdbibbbaa.Mod
set_option linter.unusedVariables false
set_option linter.unusedSimpArgs false

/-- Is x further from 0 than l? -/
def passed (l x : Int) : Bool := decide (x < -l ∨ l < x)
/-- x, or the end that it is beyond. -/
def hold (l x : Int) : Int := if x ≤ -l then -l else if l < x then l else x
def sgn (x : Int) : Int := if x < 0 then -1 else if 0 < x then 1 else 0

theorem passed_no {l x : Int} : passed l x = false ↔ -l ≤ x ∧ x ≤ l := by
  unfold passed
  rw [decide_eq_false_iff_not]
  omega
theorem hold_range (l x : Int) (h : 0 ≤ l) : -l ≤ hold l x ∧ hold l x ≤ l := by
  unfold hold
  split
  · omega
  · split <;> omega
theorem sgn_range (x : Int) : -1 ≤ sgn x ∧ sgn x ≤ 1 := by
  unfold sgn
  split
  · omega
  · split <;> omega
theorem sgn_zero : sgn 0 = 0 := by decide
theorem sgn_pos {x : Int} (h : 0 < x) : sgn x = 1 := by unfold sgn; rw [if_neg (by omega), if_pos h]
theorem sgn_neg {x : Int} (h : x < 0) : sgn x = -1 := by unfold sgn; rw [if_pos h]

/-- Weights from 0 on, numbers from 8 on. -/
def mayL (L : List Int) : Bool := !anyOf (passed 1048576) (fun j => L.getD j 0) 8 && !anyOf (passed 4194304) (fun j => L.getD (8 + j) 0) 8

theorem may_iff (L : List Int) : mayL L = true ↔ (∀ k, k < 8 → -1048576 ≤ L.getD k 0 ∧ L.getD k 0 ≤ 1048576) ∧ (∀ k, k < 8 → -4194304 ≤ L.getD (8 + k) 0 ∧ L.getD (8 + k) 0 ≤ 4194304) := by
  unfold mayL
  rw [Bool.and_eq_true, Bool.not_eq_true', Bool.not_eq_true']
  constructor
  · rintro ⟨h, g⟩
    exact ⟨fun k hk => passed_no.1 (anyOf_false h k hk), fun k hk => passed_no.1 (anyOf_false g k hk)⟩
  · rintro ⟨h, g⟩
    exact ⟨anyOf_no fun k hk => passed_no.2 (h k hk), anyOf_no fun k hk => passed_no.2 (g k hk)⟩

/-- The sum of n weights times their numbers. -/
def dot (L : List Int) : Nat → Int
  | 0 => 0
  | n + 1 => dot L n + L.getD n 0 * L.getD (8 + n) 0

theorem prod_le (a b A B : Int) (h : -A ≤ a ∧ a ≤ A) (g : -B ≤ b ∧ b ≤ B) : -(A * B) ≤ a * b ∧ a * b ≤ A * B := by
  obtain ⟨h0, h1⟩ := h
  obtain ⟨g0, g1⟩ := g
  have hA : 0 ≤ A := by omega
  have hB : 0 ≤ B := by omega
  rcases Int.le_total 0 a with ha | ha
  · rcases Int.le_total 0 b with hb | hb
    · have := Int.mul_le_mul h1 g1 hb hA
      have := Int.mul_nonneg ha hb
      have := Int.mul_nonneg hA hB
      omega
    · have e : a * -b = -(a * b) := Int.mul_neg a b
      have := Int.mul_le_mul h1 (show -b ≤ B by omega) (by omega) hA
      have := Int.mul_nonneg ha (show 0 ≤ -b by omega)
      have := Int.mul_nonneg hA hB
      omega
  · rcases Int.le_total 0 b with hb | hb
    · have e : -a * b = -(a * b) := Int.neg_mul a b
      have := Int.mul_le_mul (show -a ≤ A by omega) g1 hb hA
      have := Int.mul_nonneg (show 0 ≤ -a by omega) hb
      have := Int.mul_nonneg hA hB
      omega
    · have e : -a * -b = a * b := Int.neg_mul_neg a b
      have := Int.mul_le_mul (show -a ≤ A by omega) (show -b ≤ B by omega) (by omega) hA
      have := Int.mul_nonneg (show 0 ≤ -a by omega) (show 0 ≤ -b by omega)
      have := Int.mul_nonneg hA hB
      omega

theorem prod_range {L : List Int} (h : mayL L = true) (k : Nat) (hk : k < 8) : -4398046511104 ≤ L.getD k 0 * L.getD (8 + k) 0 ∧ L.getD k 0 * L.getD (8 + k) 0 ≤ 4398046511104 := by
  obtain ⟨h1, h2⟩ := (may_iff L).1 h
  exact prod_le _ _ 1048576 4194304 (h1 k hk) (h2 k hk)

theorem dot_range {L : List Int} (h : mayL L = true) : ∀ n : Nat, n ≤ 8 → -((n : Int) * 4398046511104) ≤ dot L n ∧ dot L n ≤ (n : Int) * 4398046511104
  | 0, _ => by simp [dot]
  | n + 1, hn => by
    have i := dot_range h n (by omega)
    have p := prod_range h n (by omega)
    rw [dot]
    omega

def guess (L : List Int) : Int := hold 1048576 (dot L 8 / 4096)
theorem guess_range (L : List Int) : -1048576 ≤ guess L ∧ guess L ≤ 1048576 := hold_range _ _ (by decide)

/-- Where a weight goes. -/
def stp (L : List Int) (off : Int) (i : Nat) : Int := hold 1048576 (L.getD i 0 + 16 * sgn off * sgn (L.getD (8 + i) 0))
theorem stp_range (L : List Int) (off : Int) (i : Nat) : -1048576 ≤ stp L off i ∧ stp L off i ≤ 1048576 := hold_range _ _ (by decide)

theorem sgns_range (x y : Int) : -16 ≤ 16 * sgn x * sgn y ∧ 16 * sgn x * sgn y ≤ 16 := by
  have a := sgn_range x
  have b := sgn_range y
  have := prod_le (16 * sgn x) (sgn y) 16 1 (by omega) b
  omega

/-- Behind n weights that learned. -/
def turned (L : List Int) (off : Int) : Nat → List Int
  | 0 => L
  | n + 1 => (turned L off n).set n (stp L off n)

theorem turned_len (L : List Int) (off : Int) : ∀ n, (turned L off n).length = L.length
  | 0 => rfl
  | n + 1 => by rw [turned, List.length_set, turned_len L off n]

theorem turned_ge (L : List Int) (off : Int) (k : Nat) : ∀ n, n ≤ k → (turned L off n).getD k 0 = L.getD k 0
  | 0, _ => rfl
  | n + 1, h => by rw [turned, Mod.getD_set_ne _ _ _ _ (by omega), turned_ge L off k n (by omega)]

theorem turned_lt (L : List Int) (off : Int) (k : Nat) : ∀ n, k < n → n ≤ L.length → (turned L off n).getD k 0 = stp L off k
  | 0, h, _ => by omega
  | n + 1, h, g => by
    rw [turned]
    by_cases e : k = n
    · subst e
      rw [Mod.getD_set_eq _ _ _ (by rw [turned_len]; omega)]
    · rw [Mod.getD_set_ne _ _ _ _ (fun q => e q.symm), turned_lt L off k n (by omega) (by omega)]

/-- Its numbers go one further on, x comes first. -/
def moved (M : List Int) (x : Int) : List Int := (put M 9 ((M.drop 8).take 7)).set 8 x
def learn (L : List Int) (x : Int) : List Int := moved (turned L (x - guess L) 8) x

theorem moved_len (M : List Int) (x : Int) : (moved M x).length = M.length := by rw [moved, List.length_set, put_length]
theorem learn_len (L : List Int) (x : Int) : (learn L x).length = L.length := by rw [learn, moved_len, turned_len]

theorem moved_get (M : List Int) (x : Int) (hM : M.length = 16) (k : Nat) (hk : k < 16) : (moved M x).getD k 0 = if k < 8 then M.getD k 0 else if k = 8 then x else M.getD (k - 1) 0 := by
  have hl : ((M.drop 8).take 7).length = 7 := by simp; omega
  unfold moved
  by_cases h8 : k = 8
  · subst h8
    rw [Mod.getD_set_eq _ _ _ (by rw [put_length]; omega), if_neg (by decide), if_pos rfl]
  · rw [Mod.getD_set_ne _ _ _ _ (fun q => h8 q.symm)]
    by_cases h1 : k < 8
    · rw [getD_put_out _ _ _ _ (.inl (by omega)), if_pos h1]
    · rw [if_neg h1, if_neg h8]
      have e := getD_put_in ((M.drop 8).take 7) M 9 (k - 9) (by omega) (by omega)
      rw [show 9 + (k - 9) = k by omega] at e
      rw [e]
      rw [List.getD_eq_getElem?_getD, List.getD_eq_getElem?_getD, List.getElem?_take_of_lt (by omega), List.getElem?_drop, show 8 + (k - 9) = k - 1 by omega]

/-- What it holds that has learned. -/
theorem learn_get (L : List Int) (x : Int) (hL : L.length = 16) (k : Nat) (hk : k < 16) : (learn L x).getD k 0 = if k < 8 then stp L (x - guess L) k else if k = 8 then x else L.getD (k - 1) 0 := by
  rw [learn, moved_get _ _ (by rw [turned_len, hL]) k hk]
  by_cases h1 : k < 8
  · rw [if_pos h1, if_pos h1, turned_lt _ _ _ _ h1 (by omega)]
  · rw [if_neg h1, if_neg h1]
    by_cases h8 : k = 8
    · rw [if_pos h8, if_pos h8]
    · rw [if_neg h8, if_neg h8, turned_ge _ _ _ _ (by omega)]

theorem may_learn {L : List Int} (hL : L.length = 16) (h : mayL L = true) (x : Int) (hx : passed 4194304 x = false) : mayL (learn L x) = true := by
  obtain ⟨h1, h2⟩ := (may_iff L).1 h
  refine (may_iff _).2 ⟨fun k hk => ?_, fun k hk => ?_⟩
  · rw [learn_get L x hL k (by omega), if_pos hk]
    exact stp_range _ _ _
  · rw [learn_get L x hL (8 + k) (by omega), if_neg (by omega)]
    by_cases e : 8 + k = 8
    · rw [if_pos e]
      exact passed_no.1 hx
    · rw [if_neg e, show 8 + k - 1 = 8 + (k - 1) by omega]
      exact h2 (k - 1) (by omega)

def zeros16 : List Int := List.replicate 16 0
theorem zeros16_len : zeros16.length = 16 := List.length_replicate
theorem zeros16_get (k : Nat) : zeros16.getD k 0 = 0 := by
  unfold zeros16
  rw [List.getD_eq_getElem?_getD, List.getElem?_replicate]
  split <;> rfl
theorem zeros16_may : mayL zeros16 = true := by decide +kernel

end Go.Proofs.Ytpakcajdbibbbaa.Lin
