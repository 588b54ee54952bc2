/-
  Plain facts on bits that are not used: numbers laid over each other, how many bits are 0 at their end, what goes down and comes up. No condition.
-/
import Derived.Test.YtlgknbcdmiecdaaDoorLNum
import Derived.Lib.TrailingZeros
import Derived.Laws.BitsLemmas
namespace Go.Proofs.YtlgknbcdmiecdaaDoor.Shf
open Go.RowKit Go.Proofs.YtlgknbcdmiecdaaDoor.Mod Go.Proofs.YtlgknbcdmiecdaaDoor.Lin
set_option linter.unusedVariables false
set_option linter.unusedSimpArgs false

/-- What an int may be. -/
def In64 (x : Int) : Prop := -9223372036854775808 ≤ x ∧ x < 9223372036854775808

theorem pow_dvd64 (k : Nat) (hk : k ≤ 64) : (2 : Int) ^ k ∣ 18446744073709551616 := by
  have h := Int.natCast_dvd_natCast.2 (Nat.pow_dvd_pow 2 hk)
  rw [Int.natCast_pow] at h
  exact h
theorem wrap_dvd (k : Nat) (hk : k ≤ 64) (n : Int) : (2 : Int) ^ k ∣ IntKind.i64.wrap n ↔ (2 : Int) ^ k ∣ n := by
  obtain ⟨q, hq⟩ : ∃ q, IntKind.i64.wrap n = n + 18446744073709551616 * q := ⟨-((n + 9223372036854775808) / 18446744073709551616), by rw [IntKind.wrap_i64]; omega⟩
  rw [hq]
  exact Int.dvd_add_left (Int.dvd_mul_of_dvd_left (pow_dvd64 k hk))
theorem mod_dvd (k : Nat) (hk : k ≤ 64) (x : Int) : 2 ^ k ∣ (x % 18446744073709551616).toNat ↔ (2 : Int) ^ k ∣ x := by
  have h0 : 0 ≤ x % 18446744073709551616 := Int.emod_nonneg _ (by decide)
  rw [← Int.natCast_dvd_natCast, Int.toNat_of_nonneg h0, Int.natCast_pow]
  have e := Int.mul_ediv_add_emod x 18446744073709551616
  have h := Int.dvd_add_right (c := x % 18446744073709551616) (Int.dvd_mul_of_dvd_left (c := x / 18446744073709551616) (pow_dvd64 k hk))
  rw [e] at h
  exact h.symm
theorem or_dvd (k : Nat) (hk : k ≤ 64) (x y : Int) : (2 : Int) ^ k ∣ bits .or .i64 x y ↔ (2 : Int) ^ k ∣ x ∧ (2 : Int) ^ k ∣ y := by
  show (2 : Int) ^ k ∣ IntKind.i64.wrap ((BitVec.ofInt 64 x ||| BitVec.ofInt 64 y).toNat : Int) ↔ _
  rw [wrap_dvd k hk, BitVec.toNat_or, BitVec.toNat_ofInt, BitVec.toNat_ofInt, ← mod_dvd k hk x, ← mod_dvd k hk y]
  have h := @Int.natCast_dvd_natCast (2 ^ k) ((x % 18446744073709551616).toNat ||| (y % 18446744073709551616).toNat)
  rw [Int.natCast_pow] at h
  refine h.trans ?_
  rw [Nat.dvd_iff_mod_eq_zero, Nat.or_mod_two_pow, Nat.or_eq_zero_iff, Nat.dvd_iff_mod_eq_zero, Nat.dvd_iff_mod_eq_zero]

/-- The first n numbers, laid over each other. -/
def laidTo (f : Nat → Int) : Nat → Int
  | 0 => 0
  | j + 1 => bits .or .i64 (laidTo f j) (f j)
theorem laid_dvd (f : Nat → Int) (k : Nat) (hk : k ≤ 64) : ∀ n, (2 : Int) ^ k ∣ laidTo f n ↔ ∀ i, i < n → (2 : Int) ^ k ∣ f i
  | 0 => by simp [laidTo]
  | n + 1 => by
    rw [laidTo, or_dvd k hk, laid_dvd f k hk n]
    constructor
    · rintro ⟨h, g⟩ i hi
      rcases Nat.lt_or_ge i n with q | q
      · exact h i q
      · obtain rfl : i = n := by omega
        exact g
    · intro h
      exact ⟨fun i hi => h i (by omega), h n (by omega)⟩
theorem laid_in (f : Nat → Int) : ∀ n, In64 (laidTo f n)
  | 0 => by unfold In64 laidTo; omega
  | n + 1 => by
    show In64 (IntKind.i64.wrap ((BitVec.ofInt 64 (laidTo f n) ||| BitVec.ofInt 64 (f n)).toNat : Int))
    rw [IntKind.wrap_i64]
    unfold In64
    omega
theorem zero_iff {x : Int} (h : In64 x) : (2 : Int) ^ 64 ∣ x ↔ x = 0 := by
  unfold In64 at h
  constructor
  · rintro ⟨c, hc⟩
    have : (2 : Int) ^ 64 = 18446744073709551616 := by decide
    rw [this] at hc
    omega
  · rintro rfl
    exact Int.dvd_zero _
theorem laid_zero (f : Nat → Int) (n : Nat) (h : ∀ i, i < n → In64 (f i)) : laidTo f n = 0 ↔ ∀ i, i < n → f i = 0 := by
  rw [← zero_iff (laid_in f n), laid_dvd f 64 (Nat.le_refl _)]
  exact ⟨fun g i hi => (zero_iff (h i hi)).1 (g i hi), fun g i hi => (zero_iff (h i hi)).2 (g i hi)⟩

/-- How many of the lowest bits are 0; 15 at most; 0 of 0. -/
def wst (a : Int) : Nat := if a = 0 then 0 else min (Lib.ctz 64 (a % 18446744073709551616).toNat) 15
theorem wst_le (a : Int) : wst a ≤ 15 := by unfold wst; split <;> omega
theorem wst_zero : wst 0 = 0 := if_pos rfl
theorem mod_ne {a : Int} (h : In64 a) (h0 : a ≠ 0) : (a % 18446744073709551616).toNat ≠ 0 ∧ (a % 18446744073709551616).toNat < 18446744073709551616 := by
  unfold In64 at h
  omega
theorem ctz_dvd (x : Nat) (h0 : x ≠ 0) (h1 : x < 18446744073709551616) (k : Nat) : 2 ^ k ∣ x ↔ k ≤ Lib.ctz 64 x := by
  obtain ⟨m, hm, hk⟩ := Lib.ctzFrom_spec 64 x (by omega) (by omega)
  have e : Lib.ctz 64 x = Lib.ctzFrom 64 x := by simp [Lib.ctz, h0]
  rw [e]
  generalize Lib.ctzFrom 64 x = c at *
  constructor
  · intro h
    rcases Nat.lt_or_ge c k with q | q
    · have h2 : 2 ^ c * 2 ∣ 2 ^ c * (2 * m + 1) := by
        rw [← hm, ← Nat.pow_succ]
        exact Nat.dvd_trans (Nat.pow_dvd_pow 2 q) h
      have := Nat.dvd_of_mul_dvd_mul_left (Nat.two_pow_pos c) h2
      omega
    · exact q
  · intro h
    rw [hm]
    exact Nat.dvd_mul_right_of_dvd (Nat.pow_dvd_pow 2 h) _
theorem wst_dvd {a : Int} (h : In64 a) (h0 : a ≠ 0) {k : Nat} (hk : k ≤ 15) : (2 : Int) ^ k ∣ a ↔ k ≤ wst a := by
  obtain ⟨p, q⟩ := mod_ne h h0
  rw [← mod_dvd k (by omega) a, ctz_dvd _ p q k]
  unfold wst
  rw [if_neg h0]
  omega
theorem wst_unique {a : Int} (h : In64 a) (h0 : a ≠ 0) {k : Nat} (hk : k ≤ 15) (hd : (2 : Int) ^ k ∣ a) (hn : k = 15 ∨ ¬ (2 : Int) ^ (k + 1) ∣ a) : k = wst a := by
  have h1 := (wst_dvd h h0 hk).1 hd
  have h2 := wst_le a
  rcases hn with q | q
  · omega
  · rcases Nat.lt_or_ge k (wst a) with g | g
    · exact absurd ((wst_dvd h h0 (by omega : k + 1 ≤ 15)).2 g) q
    · omega
/-- One bit further. -/
theorem next_dvd (a : Int) (k : Nat) (h : (2 : Int) ^ k ∣ a) : (2 : Int) ^ (k + 1) ∣ a ↔ a / 2 ^ k % 2 = 0 := by
  obtain ⟨c, rfl⟩ := h
  have hp : (2 : Int) ^ k ≠ 0 := Int.ne_of_gt (Int.pow_pos (by decide))
  rw [Int.mul_ediv_cancel_left _ hp, Int.pow_succ]
  constructor
  · rintro ⟨d, hd⟩
    rw [Int.mul_assoc] at hd
    have := Int.eq_of_mul_eq_mul_left hp hd
    omega
  · intro hc
    exact Int.mul_dvd_mul (Int.dvd_refl _) (Int.dvd_of_emod_eq_zero hc)

/-- Rows of samples. -/
def okRow (L : List Int) : Bool := !anyOf (passed 131072) (fun j => L.getD j 0) L.length
theorem okRow_iff {L : List Int} : okRow L = true ↔ ∀ k, k < L.length → -131072 ≤ L.getD k 0 ∧ L.getD k 0 ≤ 131072 := by
  unfold okRow
  rw [Bool.not_eq_true']
  constructor
  · intro h k hk
    exact passed_no.1 (anyOf_false h k hk)
  · intro h
    exact anyOf_no fun k hk => passed_no.2 (h k hk)
def Naught (L : List Int) : Prop := ∀ i, i < L.length → L.getD i 0 = 0
def Times (k : Nat) (L : List Int) : Prop := ∀ i, i < L.length → (2 : Int) ^ k ∣ L.getD i 0
/-- What a row wastes. -/
def wstL (L : List Int) : Nat := wst (laidTo (fun j => L.getD j 0) L.length)
def wstE (L : List Int) : Int := if okRow L then 0 else 1800
def wstV (L : List Int) : Int := if okRow L then wstL L else 0

theorem row_in {L : List Int} (h : okRow L = true) : ∀ i, i < L.length → In64 (L.getD i 0) := fun i hi => by
  have := okRow_iff.1 h i hi
  unfold In64
  omega
theorem laid_zeroL {L : List Int} (h : okRow L = true) : laidTo (fun j => L.getD j 0) L.length = 0 ↔ Naught L := laid_zero _ _ (row_in h)
theorem wstL_le (L : List Int) : wstL L ≤ 15 := wst_le _
theorem wstL_zero {L : List Int} (h : okRow L = true) (z : Naught L) : wstL L = 0 := by
  unfold wstL
  rw [(laid_zeroL h).2 z]
  rfl
theorem wstL_dvd {L : List Int} (h : okRow L = true) (z : ¬ Naught L) {k : Nat} (hk : k ≤ 15) : Times k L ↔ k ≤ wstL L := by
  unfold wstL
  rw [← wst_dvd (laid_in _ _) (fun q => z ((laid_zeroL h).1 q)) hk]
  exact (laid_dvd _ k (by omega) _).symm
theorem mul_zero {L : List Int} (z : Naught L) (k : Nat) : Times k L := fun i hi => by rw [z i hi]; exact Int.dvd_zero _
theorem wstL_mul {L : List Int} (h : okRow L = true) : Times (wstL L) L := by
  by_cases z : Naught L
  · exact mul_zero z _
  · exact (wstL_dvd h z (wstL_le L)).2 (Nat.le_refl _)
theorem wstL_eq {L M : List Int} (h : okRow L = true) (g : okRow M = true) (z : Naught L ↔ Naught M) (m : ∀ k, k ≤ 15 → (Times k L ↔ Times k M)) : wstL L = wstL M := by
  by_cases q : Naught L
  · rw [wstL_zero h q, wstL_zero g (z.1 q)]
  · have q2 : ¬ Naught M := fun t => q (z.2 t)
    have a := (wstL_dvd g q2 (wstL_le L)).1 ((m _ (wstL_le L)).1 (wstL_mul h))
    have b := (wstL_dvd h q (wstL_le M)).1 ((m _ (wstL_le M)).2 (wstL_mul g))
    omega
theorem wstL_more {L : List Int} {y : Int} (h : okRow L = true) (g : okRow (L ++ [y]) = true) (z : ¬ Naught L) : wstL (L ++ [y]) ≤ wstL L := by
  refine (wstL_dvd h z (wstL_le _)).1 fun i hi => ?_
  have := wstL_mul g i (by simp; omega)
  rwa [List.getD_eq_getElem?_getD, List.getElem?_append_left hi, ← List.getD_eq_getElem?_getD] at this

/-- May so many go? -/
def inB (b : Int) : Bool := decide (0 ≤ b) && decide (b ≤ 15)
def pw (b : Int) : Int := 2 ^ b.toNat
theorem pw_all : ∀ n : Nat, n < 16 → (1 : Int) ≤ 2 ^ n ∧ (2 : Int) ^ n ≤ 32768 ∧ (131072 : Int) % 2 ^ n = 0 := by decide
theorem inB_iff {b : Int} : inB b = true ↔ 0 ≤ b ∧ b ≤ 15 := by
  unfold inB
  rw [Bool.and_eq_true, decide_eq_true_iff, decide_eq_true_iff]
theorem pw_range {b : Int} (h : inB b = true) : 1 ≤ pw b ∧ pw b ≤ 32768 ∧ 131072 % pw b = 0 := by
  have := inB_iff.1 h
  exact pw_all b.toNat (by omega)
/-- A sample that may not go by a factor of p. -/
def bad (p x : Int) : Bool := passed 131072 x || decide (x % p ≠ 0)
def okD (L : List Int) (b : Int) : Bool := inB b && !anyOf (bad (pw b)) (fun j => L.getD j 0) L.length
def downL (L : List Int) (b : Int) : List Int := if okD L b then L.map (· / pw b) else []
def downE (L : List Int) (b : Int) : Int := if okD L b then 0 else 1800
def okU (L : List Int) (b : Int) : Bool := inB b && !anyOf (passed (131072 / pw b)) (fun j => L.getD j 0) L.length
def upL (L : List Int) (b : Int) : List Int := if okU L b then L.map (· * pw b) else []
def upE (L : List Int) (b : Int) : Int := if okU L b then 0 else 1800

theorem bad_no {p x : Int} : bad p x = false ↔ (-131072 ≤ x ∧ x ≤ 131072) ∧ p ∣ x := by
  unfold bad
  rw [Bool.or_eq_false_iff, passed_no, decide_eq_false_iff_not, Decidable.not_not, Int.dvd_iff_emod_eq_zero]
theorem okD_iff {L : List Int} {b : Int} : okD L b = true ↔ inB b = true ∧ okRow L = true ∧ ∀ i, i < L.length → pw b ∣ L.getD i 0 := by
  unfold okD
  rw [Bool.and_eq_true, Bool.not_eq_true', okRow_iff]
  constructor
  · rintro ⟨h, g⟩
    exact ⟨h, fun i hi => (bad_no.1 (anyOf_false g i hi)).1, fun i hi => (bad_no.1 (anyOf_false g i hi)).2⟩
  · rintro ⟨h, g, k⟩
    exact ⟨h, anyOf_no fun i hi => bad_no.2 ⟨g i hi, k i hi⟩⟩
theorem up_no {p x : Int} (h1 : 1 ≤ p) (hd : 131072 % p = 0) : passed (131072 / p) x = false ↔ -131072 ≤ x * p ∧ x * p ≤ 131072 := by
  rw [passed_no]
  have hq : 131072 / p * p = 131072 := Int.ediv_mul_cancel (Int.dvd_of_emod_eq_zero hd)
  generalize 131072 / p = q at *
  have hp : 0 < p := by omega
  have e1 := @Int.mul_le_mul_right p x q hp
  have e2 := @Int.mul_le_mul_right p (-q) x hp
  rw [Int.neg_mul] at e2
  rw [hq] at e1 e2
  exact ⟨fun h => ⟨e2.2 h.1, e1.2 h.2⟩, fun h => ⟨e2.1 h.1, e1.1 h.2⟩⟩
theorem le_up {p x : Int} (h1 : 1 ≤ p) (h : -131072 ≤ x * p ∧ x * p ≤ 131072) : -131072 ≤ x ∧ x ≤ 131072 := by
  rcases Int.le_total 0 x with g | g
  · have := Int.mul_le_mul_of_nonneg_left h1 g
    omega
  · have := Int.mul_le_mul_of_nonneg_left h1 (show 0 ≤ -x by omega)
    rw [Int.neg_mul, Int.neg_mul, Int.mul_one] at this
    omega
theorem getD_map (f : Int → Int) (L : List Int) (k : Nat) (h : k < L.length) : (L.map f).getD k 0 = f (L.getD k 0) := by
  rw [List.getD_eq_getElem?_getD, List.getElem?_map, List.getD_eq_getElem?_getD, List.getElem?_eq_getElem h]
  rfl
theorem okU_iff {L : List Int} {b : Int} : okU L b = true ↔ inB b = true ∧ okRow L = true ∧ okRow (L.map (· * pw b)) = true := by
  unfold okU
  rw [Bool.and_eq_true, Bool.not_eq_true', okRow_iff, okRow_iff]
  constructor
  · rintro ⟨h, g⟩
    obtain ⟨p1, _, p3⟩ := pw_range h
    have u := fun i hi => (up_no p1 p3).1 (anyOf_false g i hi)
    refine ⟨h, fun i hi => le_up p1 (u i hi), fun i hi => ?_⟩
    rw [List.length_map] at hi
    rw [getD_map _ _ _ hi]
    exact u i hi
  · rintro ⟨h, _, k⟩
    obtain ⟨p1, _, p3⟩ := pw_range h
    refine ⟨h, anyOf_no fun i hi => (up_no p1 p3).2 ?_⟩
    have := k i (by rw [List.length_map]; exact hi)
    rwa [getD_map _ _ _ hi] at this

end Go.Proofs.YtlgknbcdmiecdaaDoor.Shf
