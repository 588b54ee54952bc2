/-
  Rows of ints in memory, however long: what a block holds, a cell that is stored, a part that is stored, what stays behind a call. No condition.
-/
import Derived.Test.YtpljlekidfbemaaDoorNBase
import Derived.Deep.MidRow
import Derived.Deep.WholeRow
import Derived.Lib.QuietBelow
namespace Go.Proofs.YtpljlekidfbemaaDoor.Mod
open Go.RowKit Go.Sort
set_option linter.unusedVariables false
set_option linter.unusedSimpArgs false

abbrev Bel (w w' : World) : Prop := Below w.heap.size w w'
theorem Bel.refl (w : World) : Bel w w := Below.refl _ _
theorem Bel.trans {a b c : World} (h : Bel a b) (k : Bel b c) : Bel a c := Below.trans h (k.mono h.size)
theorem Bel.alloc {w w' : World} (h : Bel w w') (o : Obj) : Bel w (w'.alloc o) := Below.alloc h h.size o
theorem Bel.setCell {w w' : World} (h : Bel w w') {a : Addr} (ha : w.heap.size ≤ a.block) (v : Value) : Bel w (w'.setCell a v) := Below.setCell h ha v
theorem Bel.drew {w w' : World} (h : Bel w w') : Bel w w'.drew := Below.drew h
theorem Bel.drewN {w w' : World} (h : Bel w w') (n : Nat) : Bel w (w'.drewN n) := ⟨h.os, h.tape, h.output, h.size, h.block⟩
theorem Bel.setCells {w : World} {B : Nat} (hB : w.heap.size ≤ B) : ∀ (vs : List Value) (o : Nat) {w' : World}, Bel w w' → Bel w (w'.setCells B o vs)
  | [], _, _, h => h
  | v :: r, o, _, h => Bel.setCells hB r (o + 1) (h.setCell (a := ⟨B, o, none⟩) hB v)
theorem Bel.keep {w w' : World} (h : Bel w w') {a : Addr} {v : Value} (c : w.cell? a = some v) : w'.cell? a = some v := by rw [h.cell (block_lt_of_cell c)]; exact c
theorem Bel.free {w w' : World} (h : Bel w w') {a : Addr} {v : Value} (c : w.cell? a = some v) (f : w.frozen? a = false) : w'.frozen? a = false := by rw [h.frozen (block_lt_of_cell c)]; exact f
theorem bel_of {w w' : World} (h : Onto w w') : Bel w w' := h.b
theorem tab_bel {w w' : World} (T : Str.Tab w) (h : Bel w w') : Str.Tab w' := fun d hd => h.keep (T d hd)

/-- Ints as cells. -/
def vals (L : List Int) : List Value := L.map (Value.int .i64)
theorem vals_length (L : List Int) : (vals L).length = L.length := by simp [vals]
theorem vals_get (L : List Int) (k : Nat) (h : k < L.length) : (vals L)[k]? = some (.int .i64 (L.getD k 0)) := by
  simp [vals, List.getElem?_eq_getElem h]
theorem vals_one (L : List Int) : (vals L).toArray.all (·.oneCell') = true := all_oneCell_toArray (fun v hv => by
  simp only [vals, List.mem_map] at hv
  obtain ⟨x, _, rfl⟩ := hv
  rfl)

/-- The block B holds the ints L, from its first cell on, and they may be written. -/
structure Holds (w : World) (B : Nat) (L : List Int) : Prop where
  cell : ∀ k, k < L.length → w.cell? ⟨B, k, none⟩ = some (.int .i64 (L.getD k 0))
  free : ∀ k, k < L.length → w.frozen? ⟨B, k, none⟩ = false

theorem Holds.bel {w w' : World} {B : Nat} {L : List Int} (h : Holds w B L) (b : Bel w w') : Holds w' B L :=
  ⟨fun k hk => b.keep (h.cell k hk), fun k hk => b.free (h.cell k hk) (h.free k hk)⟩
theorem Holds.drew {w : World} {B : Nat} {L : List Int} (h : Holds w B L) : Holds w.drew B L := ⟨h.cell, h.free⟩
theorem Holds.drewN {w : World} {B : Nat} {L : List Int} (h : Holds w B L) (n : Nat) : Holds (w.drewN n) B L := ⟨h.cell, h.free⟩

theorem Holds.range {w : World} {B : Nat} {L : List Int} (h : Holds w B L) : w.rangeAt B 0 (vals L) := fun j v hv => by
  have hj : j < L.length := by
    have := (List.getElem?_eq_some_iff.1 hv).1
    rwa [vals_length] at this
  rw [vals_get L j hj] at hv
  rw [Nat.zero_add, h.cell j hj, hv]

/-- A part of what the block holds. -/
theorem Holds.part {w : World} {B : Nat} {L : List Int} (h : Holds w B L) (o n : Nat) (hn : o + n ≤ L.length) : w.rangeAt B o (vals ((L.drop o).take n)) := fun j v hv => by
  have hj : j < ((L.drop o).take n).length := by
    have := (List.getElem?_eq_some_iff.1 hv).1
    rwa [vals_length] at this
  rw [vals_get _ j hj] at hv
  have hj2 : j < n := by simp at hj; omega
  rw [h.cell (o + j) (by omega), ← hv]
  congr 2
  simp [List.getD_eq_getElem?_getD, List.getElem?_drop, hj2]

theorem Holds.there {w : World} {B : Nat} {L : List Int} (h : Holds w B L) (o n : Nat) (hn : o + n ≤ L.length) : w.there B o n := fun j hj =>
  ⟨by rw [h.cell (o + j) (by omega)]; rfl, h.free _ (by omega)⟩

theorem Holds.set {w : World} {B : Nat} {L : List Int} (h : Holds w B L) (k : Nat) (hk : k < L.length) (x : Int) : Holds (w.setCell ⟨B, k, none⟩ (.int .i64 x)) B (L.set k x) := by
  refine ⟨fun j hj => ?_, fun j hj => ?_⟩
  · have hj' : j < L.length := by simpa using hj
    by_cases e : k = j
    · subst e
      rw [World.cell?_setCell_same (h := h.cell k hk)]
      simp [List.getD_eq_getElem?_getD, hk]
    · rw [World.cell?_setCell_other (h := by intro q; injection q with _ q2 _; exact e q2), h.cell j hj']
      simp [List.getD_eq_getElem?_getD, List.getElem?_set_ne e]
  · rw [World.frozen?_setCell]
    exact h.free j (by simpa using hj)

/-- Another block's cell. -/
theorem Holds.other {w : World} {B : Nat} {L : List Int} (h : Holds w B L) (C k : Nat) (hC : B ≠ C) (v : Value) : Holds (w.setCell ⟨C, k, none⟩ v) B L := by
  refine ⟨fun j hj => ?_, fun j hj => ?_⟩
  · rw [World.cell?_setCell_other (h := by intro q; injection q with q1 _ _; exact hC q1.symm), h.cell j hj]
  · rw [World.frozen?_setCell]; exact h.free j hj

theorem Holds.others {B C : Nat} {L : List Int} (hC : B ≠ C) : ∀ (vs : List Value) (o : Nat) {w : World}, Holds w B L → Holds (w.setCells C o vs) B L
  | [], _, _, h => h
  | v :: r, o, _, h => Holds.others hC r (o + 1) (h.other C o hC v)

/-- What a part of a row is turned into. -/
def put (L : List Int) : Nat → List Int → List Int
  | _, [] => L
  | o, x :: r => put (L.set o x) (o + 1) r

theorem put_length : ∀ (M : List Int) (L : List Int) (o : Nat), (put L o M).length = L.length
  | [], _, _ => rfl
  | x :: r, L, o => by rw [put, put_length r]; simp

theorem Holds.put : ∀ (M : List Int) {w : World} {B : Nat} {L : List Int} (h : Holds w B L) (o : Nat) (hn : o + M.length ≤ L.length), Holds (w.setCells B o (vals M)) B (put L o M)
  | [], _, _, _, h, _, _ => h
  | x :: r, _, _, _, h, o, hn => Holds.put r (h.set o (by simp at hn; omega) x) (o + 1) (by simp at hn ⊢; omega)

theorem getD_put_out : ∀ (M : List Int) (L : List Int) (o k : Nat), k < o ∨ o + M.length ≤ k → (put L o M).getD k 0 = L.getD k 0
  | [], _, _, _, _ => rfl
  | x :: r, L, o, k, h => by
    rw [Mod.put, getD_put_out r (L.set o x) (o + 1) k (by simp at h; omega)]
    have : o ≠ k := by simp at h; omega
    simp [List.getD_eq_getElem?_getD, List.getElem?_set_ne this]

theorem getD_put_in : ∀ (M : List Int) (L : List Int) (o j : Nat), o + M.length ≤ L.length → j < M.length → (put L o M).getD (o + j) 0 = M.getD j 0
  | [], _, _, _, _, h => by simp at h
  | x :: r, L, o, 0, hn, _ => by
    have ho : o < L.length := by simp at hn; omega
    rw [Mod.put, getD_put_out r (L.set o x) (o + 1) (o + 0) (by omega)]
    simp [List.getD_eq_getElem?_getD, ho]
  | x :: r, L, o, j + 1, hn, h => by
    rw [Mod.put, show o + (j + 1) = o + 1 + j by omega, getD_put_in r (L.set o x) (o + 1) j (by simp at hn ⊢; omega) (by simpa using h)]
    simp

/-- All of it is turned. -/
theorem put_all (L M : List Int) (h : L.length = M.length) : put L 0 M = M := by
  refine List.ext_getElem (by rw [put_length]; exact h) fun k h1 h2 => ?_
  have e := getD_put_in M L 0 k (by omega) h2
  rw [Nat.zero_add] at e
  rw [List.getD_eq_getElem?_getD, List.getD_eq_getElem?_getD, List.getElem?_eq_getElem h1, List.getElem?_eq_getElem h2] at e
  exact e

theorem holds_new (w : World) (L : List Int) (t : TypeId) : Holds (w.alloc (.cells (vals L).toArray t)) w.heap.size L := by
  refine ⟨fun k hk => ?_, fun k hk => ?_⟩
  · have := cell_of_row (w.alloc (.cells (vals L).toArray t)) w.heap.size k _ t (0, 0) (heap_alloc_last w _)
    rw [this]
    simpa using vals_get L k hk
  · simp

theorem holds_at {w : World} {B : Nat} (hB : B = w.heap.size) (L : List Int) (t : TypeId) : Holds (w.alloc (.cells (vals L).toArray t)) B L := hB ▸ holds_new w L t

/-- In every world of a drawn region's class. -/
theorem Holds.regrown {w : World} {B : Nat} {L : List Int} (h : Holds w B L) (d : Nat) (os : Array Obj) : Holds (grow (redrawn w d) os) B L := h.bel (below_regrown w d os)

end Go.Proofs.YtpljlekidfbemaaDoor.Mod
