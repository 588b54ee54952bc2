/-
  Plain facts on samples in bytes: which formats may be, the rows that bytes are, the bytes that rows are, there and back, parts. No condition.
-/
import Derived.Test.YtpakcajdbibbbaaNum
import Derived.Test.YtpakcajdbibbbaaGPut
namespace Go.Proofs.Ytpakcajdbibbbaa.Pcm
open Go.RowKit Go.Proofs.Ytpakcajdbibbbaa.Mod Go.Proofs.Ytpakcajdbibbbaa.Num
set_option linter.unusedVariables false

/-- May it be a format? -/
def okF (c b : Int) : Bool := (decide (1 ≤ c) && decide (c ≤ 2)) && (b == 8 || b == 16)
/-- How many channels, how many bytes a sample. -/
def fC (c : Int) : Nat := c.toNat
def fQ (b : Int) : Nat := (b / 8).toNat

theorem okF_yes {c b : Int} (h : okF c b = true) : (c = 1 ∨ c = 2) ∧ (b = 8 ∨ b = 16) := by
  unfold okF at h
  rw [Bool.and_eq_true, Bool.and_eq_true, decide_eq_true_eq, decide_eq_true_eq, Bool.or_eq_true, beq_iff_eq, beq_iff_eq] at h
  exact ⟨by omega, h.2⟩

/-- The sample for which a number stands, and the other way round. -/
def smp (q : Nat) (u : Int) : Int := if q = 1 then u - 128 else if 32768 ≤ u then u - 65536 else u
def numb (q : Nat) (x : Int) : Int := if q = 1 then x + 128 else if x < 0 then x + 65536 else x
def hlf (q : Nat) : Int := if q = 1 then 128 else 32768
def fits (q : Nat) (x : Int) : Bool := decide (-hlf q ≤ x) && decide (x < hlf q)

theorem numb_smp (q : Nat) (u : Int) (h0 : 0 ≤ u) (hq : q = 1 ∧ u < 256 ∨ q = 2 ∧ u < 65536) : numb q (smp q u) = u := by
  unfold numb smp
  rcases hq with ⟨rfl, h⟩ | ⟨rfl, h⟩
  · rw [if_pos rfl, if_pos rfl]; omega
  · simp only [if_neg (by decide : ¬ (2 : Nat) = 1)]
    by_cases k : 32768 ≤ u
    · rw [if_pos k, if_pos (by omega)]; omega
    · rw [if_neg k, if_neg (by omega)]
theorem fits_smp (q : Nat) (u : Int) (h0 : 0 ≤ u) (hq : q = 1 ∧ u < 256 ∨ q = 2 ∧ u < 65536) : fits q (smp q u) = true := by
  unfold fits smp hlf
  rcases hq with ⟨rfl, h⟩ | ⟨rfl, h⟩
  · simp only [if_pos]
    rw [decide_eq_true (by omega), decide_eq_true (by omega)]; rfl
  · simp only [if_neg (by decide : ¬ (2 : Nat) = 1)]
    by_cases k : 32768 ≤ u
    · rw [if_pos k, decide_eq_true (by omega), decide_eq_true (by omega)]; rfl
    · rw [if_neg k, decide_eq_true (by omega), decide_eq_true (by omega)]; rfl
theorem fits_1 {x : Int} (h : fits 1 x = true) : -128 ≤ x ∧ x < 128 := by
  unfold fits hlf at h
  simpa using h
theorem fits_2 {x : Int} (h : fits 2 x = true) : -32768 ≤ x ∧ x < 32768 := by
  unfold fits hlf at h
  simpa using h
theorem numb_lt {q : Nat} (hq : q = 1 ∨ q = 2) {x : Int} (h : fits q x = true) : 0 ≤ numb q x ∧ numb q x < 256 ^ q := by
  rcases hq with rfl | rfl
  · have := fits_1 h
    unfold numb
    rw [if_pos rfl]
    omega
  · have := fits_2 h
    unfold numb
    rw [if_neg (by decide)]
    by_cases k : x < 0
    · rw [if_pos k]; omega
    · rw [if_neg k]; omega

/-- The sample i of bytes, one behind the other. -/
def smpAt (q : Nat) (L : List UInt8) (i : Nat) : Int := smp q (num ((L.drop (i * q)).take q))
def byt (L : List UInt8) (i : Nat) : Int := ((L.getD i 0).toNat : Int)

theorem byt_range (L : List UInt8) (i : Nat) : 0 ≤ byt L i ∧ byt L i < 256 := by
  unfold byt
  have := (L.getD i 0).toNat_lt
  omega
theorem take_1 (L : List UInt8) (i : Nat) (h : i < L.length) : (L.drop i).take 1 = [L.getD i 0] := by
  rw [List.drop_eq_getElem_cons h, List.take_succ_cons, List.take_zero, List.getD_eq_getElem?_getD, List.getElem?_eq_getElem h]
  rfl
theorem take_2 (L : List UInt8) (i : Nat) (h : i + 1 < L.length) : (L.drop i).take 2 = [L.getD i 0, L.getD (i + 1) 0] := by
  rw [List.drop_eq_getElem_cons (by omega : i < L.length), List.take_succ_cons, take_1 L (i + 1) h, show L.getD i 0 = L[i] by rw [List.getD_eq_getElem?_getD, List.getElem?_eq_getElem (by omega : i < L.length)]; rfl]
theorem smpAt_1 (L : List UInt8) (i : Nat) (h : i < L.length) : smpAt 1 L i = byt L i - 128 := by
  unfold smpAt smp
  rw [if_pos rfl, Nat.mul_one, take_1 L i h]
  simp [num, byt]
theorem smpAt_2 (L : List UInt8) (i : Nat) (h : i * 2 + 1 < L.length) : smpAt 2 L i = if 32768 ≤ byt L (i * 2) + 256 * byt L (i * 2 + 1) then byt L (i * 2) + 256 * byt L (i * 2 + 1) - 65536 else byt L (i * 2) + 256 * byt L (i * 2 + 1) := by
  unfold smpAt smp
  rw [if_neg (by decide), take_2 L (i * 2) h]
  simp [num, byt]

/-- The rows that bytes are. -/
def rows (C q : Nat) (L : List UInt8) : List (List Int) := (List.range C).map fun j => (List.range (L.length / (C * q))).map fun k => smpAt q L (k * C + j)

theorem rows_length (C q : Nat) (L : List UInt8) : (rows C q L).length = C := by simp [rows]
theorem rows_get (C q : Nat) (L : List UInt8) (j : Nat) (h : j < C) : (rows C q L).getD j [] = (List.range (L.length / (C * q))).map fun k => smpAt q L (k * C + j) := by
  unfold rows
  rw [List.getD_eq_getElem?_getD, List.getElem?_map, List.getElem?_range h]
  rfl
theorem tab_get (f : Nat → Int) (m k : Nat) (h : k < m) : ((List.range m).map f).getD k 0 = f k := by
  rw [List.getD_eq_getElem?_getD, List.getElem?_map, List.getElem?_range h]
  rfl

def okGet (c b : Int) (L : List UInt8) : Bool := okF c b && (decide (L.length ≤ 4096) && decide (L.length % (fC c * fQ b) = 0))
def ansGet (c b : Int) (L : List UInt8) : List (List Int) := if okGet c b L then rows (fC c) (fQ b) L else []
def errGet (c b : Int) (L : List UInt8) : Int := if okGet c b L then 0 else 1900

/-- The bytes that a sample is, that rows are. -/
def tell (q : Nat) (x : Int) : List UInt8 := (low q (numb q x)).map fun n => UInt8.ofNat n.toNat
def bytesOf (q : Nat) (Ls : List (List Int)) (m : Nat) : List UInt8 := (List.range m).flatMap fun k => Ls.flatMap fun L => tell q (L.getD k 0)
def rowFits (q : Nat) (L : List Int) : Bool := !anyOf (fun x => !fits q x) (fun j => L.getD j 0) L.length
def rowsFit (q : Nat) (Ls : List (List Int)) : Bool := Ls.all fun L => decide (L.length = (Ls.getD 0 []).length) && rowFits q L
def okPut (c b : Int) (Ls : List (List Int)) : Bool := okF c b && (decide (Ls.length = fC c) && (decide ((Ls.getD 0 []).length * (fC c * fQ b) ≤ 4096) && rowsFit (fQ b) Ls))
def ansPut (c b : Int) (Ls : List (List Int)) : List UInt8 := if okPut c b Ls then bytesOf (fQ b) Ls (Ls.getD 0 []).length else []
def errPut (c b : Int) (Ls : List (List Int)) : Int := if okPut c b Ls then 0 else 1900

theorem tell_length (q : Nat) (x : Int) : (tell q x).length = q := by simp [tell, low_length]

theorem rowFits_yes {q : Nat} {L : List Int} (h : ∀ k, k < L.length → fits q (L.getD k 0) = true) : rowFits q L = true := by
  unfold rowFits
  rw [anyOf_no (fun i hi => by rw [h i hi]; rfl)]; rfl
theorem rowFits_no {q : Nat} {L : List Int} (k : Nat) (hk : k < L.length) (h : fits q (L.getD k 0) = false) : rowFits q L = false := by
  unfold rowFits
  rw [anyOf_yes k hk (by rw [h]; rfl)]; rfl
theorem rowFits_get {q : Nat} {L : List Int} (h : rowFits q L = true) (k : Nat) (hk : k < L.length) : fits q (L.getD k 0) = true := by
  cases e : fits q (L.getD k 0)
  · rw [rowFits_no k hk e] at h; cases h
  · rfl
theorem rowsFit_yes {q : Nat} {Ls : List (List Int)} (h : ∀ k, k < Ls.length → (Ls.getD k []).length = (Ls.getD 0 []).length ∧ rowFits q (Ls.getD k []) = true) : rowsFit q Ls = true := by
  unfold rowsFit
  rw [List.all_eq_true]
  intro L hL
  obtain ⟨k, hk, rfl⟩ := List.getElem_of_mem hL
  have := h k hk
  rw [show Ls.getD k [] = Ls[k] by rw [List.getD_eq_getElem?_getD, List.getElem?_eq_getElem hk]; rfl] at this
  rw [decide_eq_true this.1, this.2]; rfl
theorem rowsFit_no {q : Nat} {Ls : List (List Int)} (k : Nat) (hk : k < Ls.length) (h : (Ls.getD k []).length ≠ (Ls.getD 0 []).length ∨ rowFits q (Ls.getD k []) = false) : rowsFit q Ls = false := by
  unfold rowsFit
  rw [List.all_eq_false]
  refine ⟨Ls[k], List.getElem_mem _, ?_⟩
  rw [show Ls.getD k [] = Ls[k] by rw [List.getD_eq_getElem?_getD, List.getElem?_eq_getElem hk]; rfl] at h
  rcases h with h | h
  · rw [decide_eq_false h, Bool.false_and]; decide
  · rw [h, Bool.and_false]; decide
theorem rowsFit_get {q : Nat} {Ls : List (List Int)} (h : rowsFit q Ls = true) (k : Nat) (hk : k < Ls.length) : (Ls.getD k []).length = (Ls.getD 0 []).length ∧ rowFits q (Ls.getD k []) = true := by
  refine ⟨?_, ?_⟩
  · by_cases e : (Ls.getD k []).length = (Ls.getD 0 []).length
    · exact e
    · rw [rowsFit_no k hk (.inl e)] at h; cases h
  · cases e : rowFits q (Ls.getD k [])
    · rw [rowsFit_no k hk (.inr e)] at h; cases h
    · rfl

theorem getD_flat (Ls : List (List Int)) (f : List Int → List UInt8) (j : Nat) (h : j < Ls.length) : (Ls.take j).flatMap f ++ f (Ls.getD j []) = (Ls.take (j + 1)).flatMap f := by
  rw [List.getD_eq_getElem?_getD, List.getElem?_eq_getElem h]
  rw [← List.take_append_getElem h, List.flatMap_append, List.flatMap_singleton]
  rfl
theorem bytesOf_snoc (q : Nat) (Ls : List (List Int)) (k : Nat) : bytesOf q Ls k ++ (Ls.flatMap fun L => tell q (L.getD k 0)) = bytesOf q Ls (k + 1) := by
  unfold bytesOf
  rw [List.range_succ, List.flatMap_append, List.flatMap_singleton]
theorem flat_length (Ls : List (List Int)) (f : List Int → List UInt8) (q : Nat) (h : ∀ L, (f L).length = q) : (Ls.flatMap f).length = Ls.length * q := by
  induction Ls with
  | nil => simp
  | cons a r ih => rw [List.flatMap_cons, List.length_append, ih, h]; simp [Nat.succ_mul, Nat.add_comm]
theorem bytesOf_length (q : Nat) (Ls : List (List Int)) : ∀ m, (bytesOf q Ls m).length = m * (Ls.length * q)
  | 0 => by simp [bytesOf]
  | m + 1 => by rw [← bytesOf_snoc, List.length_append, bytesOf_length q Ls m, flat_length Ls _ q (fun L => tell_length _ _), Nat.succ_mul]

/-- Pieces of q bytes, one behind the other. -/
theorem chunks (L : List UInt8) (q : Nat) : ∀ N : Nat, ((List.range N).flatMap fun i => (L.drop (i * q)).take q) = L.take (N * q)
  | 0 => by simp
  | N + 1 => by
    rw [List.range_succ, List.flatMap_append, chunks L q N, Nat.succ_mul, List.take_add]
    simp

theorem tell_smp {q : Nat} (hq : q = 1 ∨ q = 2) (l : List UInt8) (h : l.length = q) : tell q (smp q (num l)) = l := by
  have h1 := num_nonneg l
  have h2 := num_lt l
  rw [h] at h2
  unfold tell
  rw [numb_smp q _ h1 (by rcases hq with rfl | rfl <;> simp at h2 ⊢ <;> omega)]
  have := low_num l
  rwa [h] at this

theorem div_facts {n f : Nat} (hf : 0 < f) (h : n % f = 0) : n / f * f = n := by
  have := Nat.div_add_mod n f
  rw [h, Nat.add_zero, Nat.mul_comm] at this
  exact this
theorem at_lt {C q m k j : Nat} (hk : k < m) (hj : j < C) : (k * C + j) * q + q ≤ m * (C * q) := by
  have h1 : k * C + j + 1 ≤ m * C := by
    have : (k + 1) * C ≤ m * C := Nat.mul_le_mul_right C hk
    rw [Nat.succ_mul] at this
    omega
  have h2 := Nat.mul_le_mul_right q h1
  rw [Nat.succ_mul, Nat.mul_assoc] at h2
  exact h2

theorem flat_range (Ls : List (List Int)) (C : Nat) (g : Nat → List Int) (h : Ls = (List.range C).map g) (f : List Int → List UInt8) : Ls.flatMap f = (List.range C).flatMap fun j => f (g j) := by
  subst h
  rw [List.flatMap_map]
theorem flat_congr {n : Nat} {f g : Nat → List UInt8} (h : ∀ i, i < n → f i = g i) : (List.range n).flatMap f = (List.range n).flatMap g := by
  induction n with
  | zero => rfl
  | succ n ih => rw [List.range_succ, List.flatMap_append, List.flatMap_append, ih fun i hi => h i (by omega)]; simp [h n (by omega)]

/-- The bytes come back. -/
theorem bytes_rows {C q : Nat} (hC : 0 < C) (hq : q = 1 ∨ q = 2) (L : List UInt8) (h : L.length % (C * q) = 0) : bytesOf q (rows C q L) (L.length / (C * q)) = L := by
  have hq0 : 0 < q := by omega
  have hm := div_facts (Nat.mul_pos hC hq0) h
  obtain ⟨m, hM⟩ : ∃ m, L.length / (C * q) = m := ⟨_, rfl⟩
  rw [hM] at hm ⊢
  have e : bytesOf q (rows C q L) m = (List.range m).flatMap fun k => (L.drop (k * (C * q))).take (C * q) := by
    unfold bytesOf
    refine flat_congr fun k hk => ?_
    rw [flat_range (rows C q L) C _ rfl, hM]
    have e1 : ((List.range C).flatMap fun j => tell q (((List.range m).map fun k => smpAt q L (k * C + j)).getD k 0)) = (List.range C).flatMap fun j => ((L.drop (k * (C * q))).drop (j * q)).take q := by
      refine flat_congr fun j hj => ?_
      rw [tab_get _ _ _ hk]
      unfold smpAt
      have := at_lt (q := q) hk hj
      rw [tell_smp hq _ (by rw [List.length_take, List.length_drop]; omega), List.drop_drop]
      congr 2
      rw [Nat.add_mul, Nat.mul_assoc]
    rw [e1, chunks]
  rw [e, chunks, hm, List.take_length]

theorem fC_1 : fC 1 = 1 := rfl
theorem fC_2 : fC 2 = 2 := rfl
theorem fQ_8 : fQ 8 = 1 := rfl
theorem fQ_16 : fQ 16 = 2 := rfl
theorem okF_nat {c b : Int} (h : okF c b = true) : (fC c = 1 ∨ fC c = 2) ∧ (fQ b = 1 ∨ fQ b = 2) ∧ c = (fC c : Int) ∧ b = 8 * (fQ b : Int) := by
  obtain ⟨h1, h2⟩ := okF_yes h
  rcases h1 with rfl | rfl <;> rcases h2 with rfl | rfl <;> decide

theorem back {c b : Int} {L : List UInt8} (h : okGet c b L = true) : okPut c b (ansGet c b L) = true ∧ ansPut c b (ansGet c b L) = L := by
  have e : ansGet c b L = rows (fC c) (fQ b) L := by unfold ansGet; rw [if_pos h]
  unfold okGet at h
  rw [Bool.and_eq_true, Bool.and_eq_true, decide_eq_true_eq, decide_eq_true_eq] at h
  obtain ⟨hC, hq, _, _⟩ := okF_nat h.1
  have hl : ((rows (fC c) (fQ b) L).getD 0 []).length = L.length / (fC c * fQ b) := by rw [rows_get _ _ _ 0 (by omega)]; simp
  have hf : 0 < fC c * fQ b := Nat.mul_pos (by omega) (by omega)
  have hm := div_facts hf h.2.2
  have ok : okPut c b (rows (fC c) (fQ b) L) = true := by
    unfold okPut
    rw [h.1, rows_length, decide_eq_true rfl, hl, decide_eq_true (by rw [hm]; exact h.2.1), Bool.true_and, Bool.true_and, Bool.true_and]
    refine rowsFit_yes fun k hk => ?_
    rw [rows_length] at hk
    rw [hl, rows_get _ _ _ k hk]
    refine ⟨by simp, rowFits_yes fun i hi => ?_⟩
    have hi' : i < L.length / (fC c * fQ b) := by simpa using hi
    rw [tab_get _ _ _ hi']
    unfold smpAt
    have ha := at_lt (q := fQ b) hi' hk
    rw [hm] at ha
    have hn : ((L.drop ((i * fC c + k) * fQ b)).take (fQ b)).length = fQ b := by rw [List.length_take, List.length_drop]; omega
    have h2 := num_lt ((L.drop ((i * fC c + k) * fQ b)).take (fQ b))
    rw [hn] at h2
    refine fits_smp _ _ (num_nonneg _) ?_
    rcases hq with q | q <;> rw [q] at h2 ⊢ <;> simp at h2 ⊢ <;> omega
  rw [e]
  refine ⟨ok, ?_⟩
  unfold ansPut
  rw [if_pos ok, hl]
  exact bytes_rows (by omega) hq L h.2.2

end Go.Proofs.Ytpakcajdbibbbaa.Pcm
