/-
  Rows of ints in memory: a cell that is stored, a part that is stored, what stays behind a call; whether any of a row is such a one; plain facts on rows. No condition.
-/
import Derived.Test.YtpakcajdbibbbaaGRow
import Derived.Deep.MidRow
import Derived.Deep.WholeRow
import Derived.Lib.QuietBelow
namespace Go.Proofs.Ytpakcajdbibbbaa.Mod
open Go.RowKit Go.Sort
set_option linter.unusedVariables false
set_option linter.unusedSimpArgs false

theorem Bel.setCells {w : World} {B : Nat} (hB : w.heap.size ≤ B) : ∀ (vs : List Value) (o : Nat) {w' : World}, Bel w w' → Bel w (w'.setCells B o vs)
  | [], _, _, h => h
  | v :: r, o, _, h => Bel.setCells hB r (o + 1) (h.setCell (a := ⟨B, o, none⟩) hB v)

theorem vals_one (L : List Int) : (vals L).toArray.all (·.oneCell') = true := all_oneCell_toArray (fun v hv => by
  simp only [vals, List.mem_map] at hv
  obtain ⟨x, _, rfl⟩ := hv
  rfl)

theorem Holds.range {w : World} {B : Nat} {L : List Int} (h : Holds w B L) : w.rangeAt B 0 (vals L) := fun j v hv => by
  have hj : j < L.length := by
    have := (List.getElem?_eq_some_iff.1 hv).1
    rwa [vals_length] at this
  rw [vals_get L j hj] at hv
  rw [Nat.zero_add, h.cell j hj, hv]

/-- A part of what the block holds. -/
theorem Holds.part {w : World} {B : Nat} {L : List Int} (h : Holds w B L) (o n : Nat) (hn : o + n ≤ L.length) : w.rangeAt B o (vals ((L.drop o).take n)) := fun j v hv => by
  have hj : j < ((L.drop o).take n).length := by
    have := (List.getElem?_eq_some_iff.1 hv).1
    rwa [vals_length] at this
  rw [vals_get _ j hj] at hv
  have hj2 : j < n := by simp at hj; omega
  rw [h.cell (o + j) (by omega), ← hv]
  congr 2
  simp [List.getD_eq_getElem?_getD, List.getElem?_drop, hj2]

theorem Holds.there {w : World} {B : Nat} {L : List Int} (h : Holds w B L) (o n : Nat) (hn : o + n ≤ L.length) : w.there B o n := fun j hj =>
  ⟨by rw [h.cell (o + j) (by omega)]; rfl, h.free _ (by omega)⟩

theorem Holds.others {B C : Nat} {L : List Int} (hC : B ≠ C) : ∀ (vs : List Value) (o : Nat) {w : World}, Holds w B L → Holds (w.setCells C o vs) B L
  | [], _, _, h => h
  | v :: r, o, _, h => Holds.others hC r (o + 1) (h.other C o hC v)

/-- What a part of a row is turned into. -/
def put (L : List Int) : Nat → List Int → List Int
  | _, [] => L
  | o, x :: r => put (L.set o x) (o + 1) r

theorem put_length : ∀ (M : List Int) (L : List Int) (o : Nat), (put L o M).length = L.length
  | [], _, _ => rfl
  | x :: r, L, o => by rw [put, put_length r]; simp

theorem Holds.put : ∀ (M : List Int) {w : World} {B : Nat} {L : List Int} (h : Holds w B L) (o : Nat) (hn : o + M.length ≤ L.length), Holds (w.setCells B o (vals M)) B (put L o M)
  | [], _, _, _, h, _, _ => h
  | x :: r, _, _, _, h, o, hn => Holds.put r (h.set o (by simp at hn; omega) x) (o + 1) (by simp at hn ⊢; omega)

theorem getD_put_out : ∀ (M : List Int) (L : List Int) (o k : Nat), k < o ∨ o + M.length ≤ k → (put L o M).getD k 0 = L.getD k 0
  | [], _, _, _, _ => rfl
  | x :: r, L, o, k, h => by
    rw [Mod.put, getD_put_out r (L.set o x) (o + 1) k (by simp at h; omega)]
    have : o ≠ k := by simp at h; omega
    simp [List.getD_eq_getElem?_getD, List.getElem?_set_ne this]

theorem getD_put_in : ∀ (M : List Int) (L : List Int) (o j : Nat), o + M.length ≤ L.length → j < M.length → (put L o M).getD (o + j) 0 = M.getD j 0
  | [], _, _, _, _, h => by simp at h
  | x :: r, L, o, 0, hn, _ => by
    have ho : o < L.length := by simp at hn; omega
    rw [Mod.put, getD_put_out r (L.set o x) (o + 1) (o + 0) (by omega)]
    simp [List.getD_eq_getElem?_getD, ho]
  | x :: r, L, o, j + 1, hn, h => by
    rw [Mod.put, show o + (j + 1) = o + 1 + j by omega, getD_put_in r (L.set o x) (o + 1) j (by simp at hn ⊢; omega) (by simpa using h)]
    simp

/-- All of it is turned. -/
theorem put_all (L M : List Int) (h : L.length = M.length) : put L 0 M = M := by
  refine List.ext_getElem (by rw [put_length]; exact h) fun k h1 h2 => ?_
  have e := getD_put_in M L 0 k (by omega) h2
  rw [Nat.zero_add] at e
  rw [List.getD_eq_getElem?_getD, List.getD_eq_getElem?_getD, List.getElem?_eq_getElem h1, List.getElem?_eq_getElem h2] at e
  exact e

/-- In every world of a drawn region's class. -/
theorem Holds.regrown {w : World} {B : Nat} {L : List Int} (h : Holds w B L) (d : Nat) (os : Array Obj) : Holds (grow (redrawn w d) os) B L := h.bel (below_regrown w d os)

theorem tab_set (f g : Nat → Int) (n m : Nat) (x : Int) (h1 : g m = x) (h2 : ∀ i, i ≠ m → g i = f i) : ((List.range n).map f).set m x = (List.range n).map g := by
  refine List.ext_getElem (by simp) fun k a b => ?_
  rw [List.getElem_set]
  by_cases e : m = k
  · subst e; simp [h1]
  · simp [e, h2 k (fun q => e q.symm)]

theorem holds_all {w : World} {B : Nat} {L : List Int} (h : Holds w B L) (M : List Int) (e : L.length = M.length) : Holds (w.setCells B 0 (vals M)) B M := by
  have := Holds.put M h 0 (by omega)
  rwa [put_all L M e] at this

theorem getD_set_ne (L : List Int) (k j : Nat) (x : Int) (h : k ≠ j) : (L.set k x).getD j 0 = L.getD j 0 := by
  simp [List.getD_eq_getElem?_getD, List.getElem?_set_ne h]

theorem getD_set_eq (L : List Int) (k : Nat) (x : Int) (h : k < L.length) : (L.set k x).getD k 0 = x := by
  simp [List.getD_eq_getElem?_getD, h]

/-- Two lists of one length that agree everywhere are one. -/
theorem ext_getD (L M : List Int) (h : L.length = M.length) (g : ∀ k, k < L.length → L.getD k 0 = M.getD k 0) : L = M := by
  refine List.ext_getElem h fun k h1 h2 => ?_
  have e := g k h1
  rw [List.getD_eq_getElem?_getD, List.getD_eq_getElem?_getD, List.getElem?_eq_getElem h1, List.getElem?_eq_getElem h2] at e
  exact e

/-- Is any of n numbers such a one? -/
def anyOf (p : Int → Bool) (f : Nat → Int) (n : Nat) : Bool := (List.range n).any fun j => p (f j)

theorem anyOf_no {p : Int → Bool} {f : Nat → Int} {n : Nat} (h : ∀ i, i < n → p (f i) = false) : anyOf p f n = false := by
  unfold anyOf
  rw [List.any_eq_false]
  intro j hj
  rw [h j (by simpa using hj)]
  decide

theorem anyOf_yes {p : Int → Bool} {f : Nat → Int} {n : Nat} (j : Nat) (hj : j < n) (h : p (f j) = true) : anyOf p f n = true := by
  unfold anyOf
  rw [List.any_eq_true]
  exact ⟨j, by simpa using hj, h⟩

theorem anyOf_false {p : Int → Bool} {f : Nat → Int} {n : Nat} (h : anyOf p f n = false) : ∀ i, i < n → p (f i) = false := fun i hi => by
  cases e : p (f i)
  · rfl
  · rw [anyOf_yes i hi e] at h; exact h

end Go.Proofs.Ytpakcajdbibbbaa.Mod
