/-
  Plain facts on gamma bits: the bits that tell a number, the number that bits tell, how they come back, that none begin with another's. No condition.
-/
import Derived.Test.YtoldedbfoechlaaGreatDoorGRow
import Derived.Laws.MathBits
namespace Go.Proofs.YtoldedbfoechlaaGreatDoor.Gam
open Go.RowKit Go.Proofs.YtoldedbfoechlaaGreatDoor.Mod
set_option linter.unusedVariables false

/-- How many bits u + 1 has behind its highest one. -/
def many (u : Nat) : Nat := (u + 1).log2
/-- The bit of u + 1 that is told as the i-th of them. -/
def bitAt (u n i : Nat) : Int := (((u + 1) / 2 ^ (n - 1 - i) % 2 : Nat) : Int)
def tail (u n i : Nat) : List Int := (List.range i).map (bitAt u n)
def bitsOf (u : Nat) : List Int := List.replicate (many u) 1 ++ 0 :: tail u (many u) (many u)

theorem tail_length (u n i : Nat) : (tail u n i).length = i := by simp [tail]
theorem tail_succ (u n i : Nat) : tail u n (i + 1) = tail u n i ++ [bitAt u n i] := by simp [tail, List.range_succ]
theorem bitsOf_length (u : Nat) : (bitsOf u).length = 2 * many u + 1 := by simp [bitsOf, tail_length]; omega
theorem many_le (u k : Nat) (h : u + 1 < 2 ^ (k + 1)) : many u ≤ k := by
  have := (Nat.log2_lt (by omega : u + 1 ≠ 0)).2 h
  unfold many; omega
theorem many_low (u : Nat) : 2 ^ many u ≤ u + 1 := Nat.log2_self_le (by omega)
theorem many_high (u : Nat) : u + 1 < 2 ^ (many u + 1) := Nat.lt_log2_self
theorem many_mono (u v : Nat) (h : u ≤ v) : many u ≤ many v := by
  refine many_le u (many v) ?_
  have := many_high v
  omega
theorem many_25 (u : Nat) (h : u ≤ 33554432) : many u ≤ 25 := many_le u 25 (Nat.lt_of_le_of_lt (by omega : u + 1 ≤ 33554433) (by decide))

/-- What bits tell, behind what was told ahead of them. -/
def take01 : Int → List Int → Option Int
  | v, [] => some v
  | v, b :: r => if b = 0 ∨ b = 1 then take01 (2 * v + b) r else none

theorem take01_append : ∀ (A B : List Int) (v : Int), take01 v (A ++ B) = (take01 v A).bind fun x => take01 x B
  | [], B, v => rfl
  | a :: r, B, v => by
    simp only [List.cons_append, take01]
    split
    · exact take01_append r B _
    · rfl
theorem take01_snoc {A : List Int} {v b x : Int} (h : take01 v A = some x) (hb : b = 0 ∨ b = 1) : take01 v (A ++ [b]) = some (2 * x + b) := by
  rw [take01_append, h]
  simp [take01, hb]
theorem take01_bad {A R : List Int} {v b x : Int} (h : take01 v A = some x) (hb : ¬(b = 0 ∨ b = 1)) : take01 v (A ++ b :: R) = none := by
  rw [take01_append, h]
  simp [take01, hb]
theorem take01_bound : ∀ (A : List Int) (v x : Int), 1 ≤ v → take01 v A = some x → 1 ≤ x ∧ x < (v + 1) * 2 ^ A.length
  | [], v, x, h0, h => by simp [take01] at h; subst h; simp; omega
  | a :: r, v, x, h0, h => by
    simp only [take01] at h
    split at h
    · rename_i ha
      have hi := take01_bound r (2 * v + a) x (by omega) h
      refine ⟨hi.1, Int.lt_of_lt_of_le hi.2 ?_⟩
      have e : (v + 1) * 2 ^ (a :: r).length = ((v + 1) * 2) * 2 ^ r.length := by
        rw [List.length_cons, Int.pow_succ, Int.mul_assoc, Int.mul_comm (2 ^ r.length) 2]
      rw [e]
      exact Int.mul_le_mul_of_nonneg_right (by omega) (Int.le_of_lt (Int.pow_pos (by decide)))
    · cases h
theorem take01_small {A : List Int} {x : Int} (h : take01 1 A = some x) (hA : A.length ≤ 25) : 1 ≤ x ∧ x < 67108864 := by
  have hb := take01_bound A 1 x (by decide) h
  refine ⟨hb.1, Int.lt_of_lt_of_le hb.2 ?_⟩
  have h1 : (2 : Nat) ^ A.length ≤ 2 ^ 25 := Nat.pow_le_pow_right (by decide) hA
  have h2 : ((2 ^ A.length : Nat) : Int) ≤ ((2 ^ 25 : Nat) : Int) := by exact_mod_cast h1
  have h3 : ((2 ^ A.length : Nat) : Int) = (2 : Int) ^ A.length := by simp
  have h4 : ((2 ^ 25 : Nat) : Int) = 33554432 := by decide
  omega

abbrev headOk (L : List Int) : Prop := L.take (L.length / 2 + 1) = List.replicate (L.length / 2) 1 ++ [0]

/-- The number and the error that bits tell. -/
def numP (L : List Int) : Int × Int :=
  if L.length = 2 * (L.length / 2) + 1 ∧ L.length / 2 ≤ 25 ∧ headOk L then
    match take01 1 (L.drop (L.length / 2 + 1)) with
    | some v => if v ≤ 33554433 then (v - 1, 0) else (0, 1100)
    | none => (0, 1100)
  else (0, 1100)

theorem numP_no {L : List Int} (h : ¬(L.length = 2 * (L.length / 2) + 1 ∧ L.length / 2 ≤ 25 ∧ headOk L)) : numP L = (0, 1100) := by
  unfold numP; rw [if_neg h]
theorem numP_none {L : List Int} (h : take01 1 (L.drop (L.length / 2 + 1)) = none) : numP L = (0, 1100) := by
  unfold numP; rw [h]; simp
theorem numP_some {L : List Int} {v : Int} (h1 : L.length = 2 * (L.length / 2) + 1) (h2 : L.length / 2 ≤ 25) (h3 : headOk L) (h : take01 1 (L.drop (L.length / 2 + 1)) = some v) (hv : v ≤ 33554433) : numP L = (v - 1, 0) := by
  unfold numP; rw [if_pos ⟨h1, h2, h3⟩, h]; simp [hv]
theorem numP_great {L : List Int} {v : Int} (h : take01 1 (L.drop (L.length / 2 + 1)) = some v) (hv : 33554433 < v) : numP L = (0, 1100) := by
  unfold numP; rw [h]
  have : ¬ v ≤ 33554433 := by omega
  simp [this]

theorem take01_tail (u : Nat) : ∀ i, i ≤ many u → take01 1 (tail u (many u) i) = some (((u + 1) / 2 ^ (many u - i) : Nat) : Int)
  | 0, _ => by
    have h1 := many_low u
    have h2 := many_high u
    have hp : 0 < 2 ^ many u := Nat.two_pow_pos _
    have : (u + 1) / 2 ^ many u = 1 := by
      rw [Nat.pow_succ] at h2
      exact Nat.div_eq_of_lt_le (by omega) (by omega)
    simp [tail, take01, this]
  | i + 1, h => by
    rw [tail_succ, take01_snoc (take01_tail u i (by omega)) (by unfold bitAt; omega)]
    unfold bitAt
    have e : many u - i = (many u - (i + 1)) + 1 := by omega
    have e2 : many u - 1 - i = many u - (i + 1) := by omega
    rw [e, e2, Nat.pow_succ, ← Nat.div_div_eq_div_mul]
    congr 1
    generalize (u + 1) / 2 ^ (many u - (i + 1)) = q
    omega

theorem bitsOf_half (u : Nat) : (bitsOf u).length / 2 = many u := by rw [bitsOf_length]; omega
theorem bitsOf_head (u : Nat) : headOk (bitsOf u) := by
  unfold headOk
  rw [bitsOf_half]
  have e : bitsOf u = (List.replicate (many u) 1 ++ [0]) ++ tail u (many u) (many u) := by simp [bitsOf]
  rw [e]
  have l : (List.replicate (many u) (1 : Int) ++ [0]).length = many u + 1 := by simp
  rw [← l, List.take_left]
theorem bitsOf_drop (u : Nat) : (bitsOf u).drop (many u + 1) = tail u (many u) (many u) := by
  have e : bitsOf u = (List.replicate (many u) 1 ++ [0]) ++ tail u (many u) (many u) := by simp [bitsOf]
  rw [e]
  have l : (List.replicate (many u) (1 : Int) ++ [0]).length = many u + 1 := by simp
  rw [← l, List.drop_left]

/-- They come back. -/
theorem numP_bits (u : Nat) (h : u ≤ 33554432) : numP (bitsOf u) = ((u : Int), 0) := by
  have ht : take01 1 ((bitsOf u).drop ((bitsOf u).length / 2 + 1)) = some ((u : Int) + 1) := by
    rw [bitsOf_half, bitsOf_drop, take01_tail u _ (Nat.le_refl _), Nat.sub_self]
    simp
  rw [numP_some (by rw [bitsOf_half]; exact bitsOf_length u) (by rw [bitsOf_half]; exact many_25 u h) (bitsOf_head u) ht (by omega)]
  simp

theorem getD_one (u k : Nat) (h : k < many u) : (bitsOf u).getD k 0 = 1 := by
  unfold bitsOf
  rw [List.getD_eq_getElem?_getD, List.getElem?_append_left (by simpa using h)]
  simp [h]
theorem getD_mid (u : Nat) : (bitsOf u).getD (many u) 0 = 0 := by
  unfold bitsOf
  rw [List.getD_eq_getElem?_getD, List.getElem?_append_right (by simp)]
  simp
theorem getD_tail (u i : Nat) (h : i < many u) : (bitsOf u).getD (many u + 1 + i) 0 = bitAt u (many u) i := by
  unfold bitsOf
  rw [List.getD_eq_getElem?_getD, List.getElem?_append_right (by simp; omega)]
  have : many u + 1 + i - (List.replicate (many u) (1 : Int)).length = i + 1 := by simp; omega
  rw [this]
  simp [tail, h]

/-- None begin with another's. -/
theorem prefix_eq (u v : Nat) (hu : u ≤ 33554432) (hv : v ≤ 33554432) (k : Nat) (h1 : k ≤ (bitsOf u).length) (h2 : k ≤ (bitsOf v).length) (h : k = (bitsOf u).length ∨ k = (bitsOf v).length)
    (e : (bitsOf u).take k = (bitsOf v).take k) : u = v := by
  have g : ∀ i, i < k → (bitsOf u).getD i 0 = (bitsOf v).getD i 0 := fun i hi => by
    have := congrArg (fun l => l.getD i 0) e
    simpa [List.getD_eq_getElem?_getD, List.getElem?_take, hi] using this
  have lu := bitsOf_length u
  have lv := bitsOf_length v
  have hm : many u = many v := by
    rcases Nat.lt_trichotomy (many u) (many v) with q | q | q
    · have := g (many u) (by omega)
      rw [getD_mid, getD_one v _ q] at this
      omega
    · exact q
    · have := g (many v) (by omega)
      rw [getD_mid, getD_one u _ q] at this
      omega
  have eu : (bitsOf u).take k = bitsOf u := List.take_of_length_le (by omega)
  have ev : (bitsOf v).take k = bitsOf v := List.take_of_length_le (by omega)
  rw [eu, ev] at e
  have nu := numP_bits u hu
  rw [e, numP_bits v hv] at nu
  simp at nu
  omega

/-- How many bits 1 some begin with. -/
def ones : List Int → Nat
  | [] => 0
  | b :: r => if b = 1 then ones r + 1 else 0
theorem ones_le : ∀ L : List Int, ones L ≤ L.length
  | [] => Nat.le_refl _
  | b :: r => by have := ones_le r; simp only [ones, List.length_cons]; split <;> omega
theorem ones_one : ∀ (L : List Int) (k : Nat), k < ones L → L.getD k 0 = 1
  | [], k, h => by simp [ones] at h
  | b :: r, k, h => by
    simp only [ones] at h
    split at h
    · rename_i hb
      match k with
      | 0 => simp [hb]
      | k + 1 => simpa using ones_one r k (by omega)
    · omega
theorem ones_end : ∀ (L : List Int), ones L < L.length → L.getD (ones L) 0 ≠ 1
  | [], h => by simp at h
  | b :: r, h => by
    simp only [ones] at h ⊢
    split
    · rename_i hb
      rw [if_pos hb] at h
      simpa using ones_end r (by simpa using h)
    · rename_i hb
      simpa using hb
theorem ones_is (L : List Int) (k : Nat) (hk : k ≤ L.length) (h1 : ∀ i, i < k → L.getD i 0 = 1) (h2 : k = L.length ∨ L.getD k 0 ≠ 1) : ones L = k := by
  have a := ones_le L
  rcases Nat.lt_trichotomy (ones L) k with q | q | q
  · exact absurd (h1 _ q) (ones_end L (by omega))
  · exact q
  · rcases h2 with h2 | h2
    · omega
    · exact absurd (ones_one L k q) h2

theorem head_iff (L : List Int) (k : Nat) (hk : L.length = 2 * k + 1) : headOk L ↔ (∀ i, i < k → L.getD i 0 = 1) ∧ L.getD k 0 = 0 := by
  have hh : L.length / 2 = k := by omega
  unfold headOk
  rw [hh]
  constructor
  · intro e
    have g : ∀ i, i < k + 1 → L.getD i 0 = (List.replicate k (1 : Int) ++ [0]).getD i 0 := fun i hi => by
      have := congrArg (fun l => l.getD i 0) e
      simpa [List.getD_eq_getElem?_getD, List.getElem?_take, hi] using this
    refine ⟨fun i hi => ?_, ?_⟩
    · rw [g i (by omega), List.getD_eq_getElem?_getD, List.getElem?_append_left (by simpa using hi)]
      simp [hi]
    · rw [g k (by omega), List.getD_eq_getElem?_getD, List.getElem?_append_right (by simp)]
      simp
  · rintro ⟨h1, h2⟩
    refine List.ext_getElem (by simp; omega) fun i a b => ?_
    have hi : i < k + 1 := by simp at b; omega
    have hL : i < L.length := by omega
    rw [List.getElem_take]
    by_cases q : i < k
    · have := h1 i q
      rw [List.getD_eq_getElem?_getD, List.getElem?_eq_getElem hL] at this
      rw [List.getElem_append_left (by simpa using q)]
      simpa using this
    · obtain rfl : i = k := by omega
      rw [List.getD_eq_getElem?_getD, List.getElem?_eq_getElem hL] at h2
      rw [List.getElem_append_right (by simp)]
      simpa using h2

theorem head_ones {L : List Int} (h1 : L.length = 2 * (L.length / 2) + 1) (h : headOk L) : ones L = L.length / 2 := by
  have := (head_iff L (L.length / 2) h1).1 h
  exact ones_is L _ (by omega) this.1 (.inr (by omega))

end Go.Proofs.YtoldedbfoechlaaGreatDoor.Gam
