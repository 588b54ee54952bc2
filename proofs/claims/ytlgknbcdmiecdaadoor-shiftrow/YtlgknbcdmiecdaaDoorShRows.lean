/-
  Plain facts on rows that go down and come up: by what they waste and by one more; by so many and by so many more; rows alike. No condition.
-/
import Derived.Test.YtlgknbcdmiecdaaDoorShNum
namespace Go.Proofs.YtlgknbcdmiecdaaDoor.Shf
open Go.RowKit Go.Proofs.YtlgknbcdmiecdaaDoor.Mod Go.Proofs.YtlgknbcdmiecdaaDoor.Lin
set_option linter.unusedVariables false
set_option linter.unusedSimpArgs false

theorem pw_nat (k : Nat) : pw (k : Int) = 2 ^ k := by unfold pw; rw [Int.toNat_natCast]
theorem inB_nat {k : Nat} (h : k ≤ 15) : inB (k : Int) = true := inB_iff.2 ⟨by omega, by omega⟩
theorem yes_d {L : List Int} {b : Int} (h : okD L b = true) : downE L b = 0 ∧ downL L b = L.map (· / pw b) := by
  unfold downE downL
  rw [h]
  exact ⟨rfl, rfl⟩
theorem yes_u {L : List Int} {b : Int} (h : okU L b = true) : upE L b = 0 ∧ upL L b = L.map (· * pw b) := by
  unfold upE upL
  rw [h]
  exact ⟨rfl, rfl⟩
theorem no_d {L : List Int} {b : Int} (h : okD L b = false) : downE L b = 1800 ∧ downL L b = [] := by
  unfold downE downL
  rw [h]
  exact ⟨rfl, rfl⟩
theorem yes_w {L : List Int} (h : okRow L = true) : wstV L = (wstL L : Int) ∧ wstE L = 0 := by
  unfold wstV wstE
  rw [h]
  exact ⟨rfl, rfl⟩

/-- Divided and taken again: the row itself. -/
theorem map_back {L : List Int} {p : Int} (h : ∀ i, i < L.length → p ∣ L.getD i 0) : (L.map (· / p)).map (· * p) = L := by
  refine Mod.ext_getD _ _ (by simp) fun k hk => ?_
  have hk2 : k < L.length := by simpa using hk
  rw [getD_map _ _ _ (by simpa using hk2), getD_map _ _ _ hk2]
  exact Int.ediv_mul_cancel (h k hk2)
theorem map_low {M : List Int} {p : Int} (h1 : 1 ≤ p) (h : okRow (M.map (· * p)) = true) : okRow M = true := okRow_iff.2 fun k hk => by
  have := okRow_iff.1 h k (by simpa using hk)
  rw [getD_map _ _ _ hk] at this
  exact le_up h1 this

/-- All that is wasted may go, and comes back. -/
theorem waste_goes {L : List Int} (h : okRow L = true) : ∃ D : List Int, D.length = L.length ∧ downE L (wstL L : Int) = 0 ∧ downL L (wstL L : Int) = D ∧ upE D (wstL L : Int) = 0 ∧ upL D (wstL L : Int) = L := by
  have hb := inB_nat (wstL_le L)
  obtain ⟨p1, _, _⟩ := pw_range hb
  have m : ∀ i, i < L.length → pw (wstL L : Int) ∣ L.getD i 0 := fun i hi => by rw [pw_nat]; exact wstL_mul h i hi
  obtain ⟨d1, d2⟩ := yes_d (okD_iff.2 ⟨hb, h, m⟩)
  have hm := map_back m
  have hu : okU (L.map (· / pw (wstL L : Int))) (wstL L : Int) = true := okU_iff.2 ⟨hb, map_low p1 (by rw [hm]; exact h), by rw [hm]; exact h⟩
  obtain ⟨u1, u2⟩ := yes_u hu
  exact ⟨_, by simp, d1, d2, u1, by rw [u2, hm]⟩
/-- One more may not. -/
theorem more_not {L : List Int} (h : okRow L = true) (z : ¬ Naught L) : downE L ((wstL L : Int) + 1) = 1800 := by
  refine (no_d (Bool.eq_false_iff.2 fun q => ?_)).1
  obtain ⟨q1, _, q3⟩ := okD_iff.1 q
  have b := inB_iff.1 q1
  have e : (wstL L : Int) + 1 = ((wstL L + 1 : Nat) : Int) := rfl
  have := (wstL_dvd h z (show wstL L + 1 ≤ 15 by omega)).1 fun i hi => by
    have := q3 i hi
    rwa [e, pw_nat] at this
  omega

theorem pw_add {a b : Int} (ha : 0 ≤ a) (hb : 0 ≤ b) : pw (a + b) = pw b * pw a := by
  unfold pw
  rw [show (a + b).toNat = b.toNat + a.toNat by omega, Int.pow_add]
/-- Of what is told by q p, what goes by p. -/
theorem goes_by (M : List Int) (b q : Int) (hb : inB b = true) (h : okRow (M.map (· * (q * pw b))) = true) : downE (M.map (· * (q * pw b))) b = 0 ∧ downL (M.map (· * (q * pw b))) b = M.map (· * q) := by
  obtain ⟨p1, _, _⟩ := pw_range hb
  have o : okD (M.map (· * (q * pw b))) b = true := okD_iff.2 ⟨hb, h, fun i hi => by
    rw [getD_map _ _ _ (by simpa using hi), ← Int.mul_assoc]
    exact Int.dvd_mul_left _ _⟩
  obtain ⟨d1, d2⟩ := yes_d o
  refine ⟨d1, d2.trans ?_⟩
  refine Mod.ext_getD _ _ (by simp) fun k hk => ?_
  have hk2 : k < M.length := by simpa using hk
  rw [getD_map _ _ _ (by simpa using hk2), getD_map _ _ _ hk2, getD_map _ _ _ hk2, ← Int.mul_assoc]
  exact Int.mul_ediv_cancel _ (by omega)
theorem map_one (M : List Int) : M.map (· * (1 : Int)) = M := by simp
/-- By s, and by t, and by both; and up again. -/
theorem twice_goes (M : List Int) (s t : Int) (hs : 0 ≤ s ∧ s ≤ 7) (ht : 0 ≤ t ∧ t ≤ 7) (hM : ∀ i, i < M.length → 0 ≤ M.getD i 0 ∧ M.getD i 0 ≤ 7) :
    (downE (M.map (· * pw (s + t))) s = 0 ∧ downL (M.map (· * pw (s + t))) s = M.map (· * pw t)) ∧ (downE (M.map (· * pw t)) t = 0 ∧ downL (M.map (· * pw t)) t = M) ∧
    (downE (M.map (· * pw (s + t))) (s + t) = 0 ∧ downL (M.map (· * pw (s + t))) (s + t) = M) ∧ upE M t = 0 ∧ upL M t = M.map (· * pw t) := by
  have bs : inB s = true := inB_iff.2 (by omega)
  have bt : inB t = true := inB_iff.2 (by omega)
  have bst : inB (s + t) = true := inB_iff.2 (by omega)
  have small : ∀ c : Int, 1 ≤ c → c ≤ 16384 → okRow (M.map (· * c)) = true := fun c c1 c2 => okRow_iff.2 fun k hk => by
    have hk2 : k < M.length := by simpa using hk
    rw [getD_map _ _ _ hk2]
    obtain ⟨m0, m1⟩ := hM k hk2
    have := prod_le (M.getD k 0) c 7 16384 (by omega) (by omega)
    have g : 0 ≤ M.getD k 0 * c := Int.mul_nonneg m0 (by omega)
    show -131072 ≤ M.getD k 0 * c ∧ M.getD k 0 * c ≤ 131072
    omega
  have p14 : ∀ n : Nat, n < 15 → (1 : Int) ≤ 2 ^ n ∧ (2 : Int) ^ n ≤ 16384 := by decide
  have pt := p14 t.toNat (by omega)
  have pst := p14 (s + t).toNat (by omega)
  have ot := small (pw t) pt.1 pt.2
  have ost := small (pw (s + t)) pst.1 pst.2
  have e0 := pw_add hs.1 ht.1
  have g1 := goes_by M s (pw t) bs (by rw [← e0]; exact ost)
  rw [← e0] at g1
  have g2 := goes_by M t 1 bt (by rw [Int.one_mul]; exact ot)
  rw [Int.one_mul, map_one] at g2
  have g3 := goes_by M (s + t) 1 bst (by rw [Int.one_mul]; exact ost)
  rw [Int.one_mul, map_one] at g3
  have u := yes_u (okU_iff.2 ⟨bt, map_low pt.1 ot, ot⟩)
  exact ⟨g1, g2, g3, u.1, u.2⟩

/-- A row told by its numbers. -/
def rowOf (f : Nat → Int) (n : Nat) : List Int := (List.range n).map f
theorem rowOf_length (f : Nat → Int) (n : Nat) : (rowOf f n).length = n := by simp [rowOf]
theorem rowOf_get (f : Nat → Int) (n k : Nat) (h : k < n) : (rowOf f n).getD k 0 = f k := by
  unfold rowOf
  rw [List.getD_eq_getElem?_getD, List.getElem?_map, List.getElem?_range h]
  rfl
theorem rowOf_next (f : Nat → Int) (j : Nat) : rowOf f j ++ [f j] = rowOf f (j + 1) := by
  unfold rowOf
  rw [List.range_succ, List.map_append]; rfl
theorem rowOf_zero (f : Nat → Int) (n : Nat) : Naught (rowOf f n) ↔ ∀ k, k < n → f k = 0 := by
  constructor
  · intro h k hk
    rw [← rowOf_get f n k hk]
    exact h k (by rw [rowOf_length]; exact hk)
  · intro h k hk
    rw [rowOf_length] at hk
    rw [rowOf_get f n k hk]
    exact h k hk
theorem rowOf_ok (f : Nat → Int) (n : Nat) (h : ∀ k, k < n → -131072 ≤ f k ∧ f k ≤ 131072) : okRow (rowOf f n) = true := okRow_iff.2 fun k hk => by
  rw [rowOf_length] at hk
  rw [rowOf_get f n k hk]
  exact h k hk
theorem rowOf_mul (f : Nat → Int) (n k : Nat) : Times k (rowOf f n) ↔ ∀ i, i < n → (2 : Int) ^ k ∣ f i := by
  constructor
  · intro h i hi
    rw [← rowOf_get f n i hi]
    exact h i (by rw [rowOf_length]; exact hi)
  · intro h i hi
    rw [rowOf_length] at hi
    rw [rowOf_get f n i hi]
    exact h i hi
/-- Opposites waste alike. -/
theorem waste_neg (f : Nat → Int) (n : Nat) (h : ∀ k, k < n → -131072 ≤ f k ∧ f k ≤ 131072) : wstL (rowOf (fun k => -f k) n) = wstL (rowOf f n) := by
  refine wstL_eq (rowOf_ok _ _ fun k hk => by have := h k hk; omega) (rowOf_ok _ _ h) ?_ fun k _ => ?_
  · rw [rowOf_zero, rowOf_zero]
    exact ⟨fun g k hk => by have := g k hk; omega, fun g k hk => by have := g k hk; omega⟩
  · rw [rowOf_mul, rowOf_mul]
    exact ⟨fun g i hi => Int.dvd_neg.1 (g i hi), fun g i hi => Int.dvd_neg.2 (g i hi)⟩
theorem turn_back (n K k : Nat) (h : k < n) : ((k + (n - K % n)) % n + K) % n = k := by
  have h1 := Nat.mod_lt K (show 0 < n by omega)
  rw [Nat.mod_add_mod, ← Nat.add_mod_mod (k + (n - K % n)) K n, show k + (n - K % n) + K % n = k + n by omega, Nat.add_mod_right, Nat.mod_eq_of_lt h]
/-- Turned rows waste alike. -/
theorem waste_turn (f : Nat → Int) (n K : Nat) (h : ∀ k, k < n → -131072 ≤ f k ∧ f k ≤ 131072) : wstL (rowOf (fun k => f ((k + K) % n)) n) = wstL (rowOf f n) := by
  rcases Nat.eq_zero_or_pos n with rfl | hp
  · rfl
  have lt : ∀ k, (k + K) % n < n := fun k => Nat.mod_lt _ hp
  have back : ∀ k, k < n → ∃ i, i < n ∧ (i + K) % n = k := fun k hk => ⟨_, Nat.mod_lt _ hp, turn_back n K k hk⟩
  refine wstL_eq (rowOf_ok _ _ fun k hk => h _ (lt k)) (rowOf_ok _ _ h) ?_ fun k _ => ?_
  · rw [rowOf_zero, rowOf_zero]
    refine ⟨fun g k hk => ?_, fun g k _ => g _ (lt k)⟩
    obtain ⟨i, hi, rfl⟩ := back k hk
    exact g i hi
  · rw [rowOf_mul, rowOf_mul]
    refine ⟨fun g k hk => ?_, fun g k _ => g _ (lt k)⟩
    obtain ⟨i, hi, rfl⟩ := back k hk
    exact g i hi

end Go.Proofs.YtlgknbcdmiecdaaDoor.Shf
