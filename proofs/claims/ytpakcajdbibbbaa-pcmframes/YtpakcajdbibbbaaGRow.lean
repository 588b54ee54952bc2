/-
  Rows of ints in memory, however long: what a block holds, a cell that is stored, what stays behind a call; slices of them. No condition.
-/
import Derived.WalkKit
import Derived.Below
import Derived.Deep.Draws
import Derived.Lib.QuietBelow
import Derived.WalkLawsBesides
import Derived.WalkSpells
import Derived.Deep.LoopGhost
import Derived.Laws.AppendOwnNone
namespace Go.Proofs.Ytpakcajdbibbbaa.Mod
open Go.RowKit
set_option linter.unusedVariables false
set_option linter.unusedSimpArgs false

abbrev Bel (w w' : World) : Prop := Below w.heap.size w w'
theorem Bel.refl (w : World) : Bel w w := Below.refl _ _
theorem Bel.trans {a b c : World} (h : Bel a b) (k : Bel b c) : Bel a c := Below.trans h (k.mono h.size)
theorem Bel.alloc {w w' : World} (h : Bel w w') (o : Obj) : Bel w (w'.alloc o) := Below.alloc h h.size o
theorem Bel.setCell {w w' : World} (h : Bel w w') {a : Addr} (ha : w.heap.size ≤ a.block) (v : Value) : Bel w (w'.setCell a v) := Below.setCell h ha v
theorem Bel.drew {w w' : World} (h : Bel w w') : Bel w w'.drew := Below.drew h
theorem Bel.drewN {w w' : World} (h : Bel w w') (n : Nat) : Bel w (w'.drewN n) := ⟨h.os, h.tape, h.output, h.size, h.block⟩
theorem Bel.keep {w w' : World} (h : Bel w w') {a : Addr} {v : Value} (c : w.cell? a = some v) : w'.cell? a = some v := by rw [h.cell (block_lt_of_cell c)]; exact c
theorem Bel.free {w w' : World} (h : Bel w w') {a : Addr} {v : Value} (c : w.cell? a = some v) (f : w.frozen? a = false) : w'.frozen? a = false := by rw [h.frozen (block_lt_of_cell c)]; exact f
theorem bel_below {B : Nat} {w w' : World} (hB : B ≤ w.heap.size) (h : Bel w w') : Below B w w' := h.mono hB

/-- Ints as cells. -/
def vals (L : List Int) : List Value := L.map (Value.int .i64)
theorem vals_length (L : List Int) : (vals L).length = L.length := by simp [vals]
theorem vals_get (L : List Int) (k : Nat) (h : k < L.length) : (vals L)[k]? = some (.int .i64 (L.getD k 0)) := by
  simp [vals, List.getElem?_eq_getElem h]
theorem vals_append (L M : List Int) : vals (L ++ M) = vals L ++ vals M := by simp [vals]

/-- The block B holds the ints L, from its first cell on, and they may be written. -/
structure Holds (w : World) (B : Nat) (L : List Int) : Prop where
  cell : ∀ k, k < L.length → w.cell? ⟨B, k, none⟩ = some (.int .i64 (L.getD k 0))
  free : ∀ k, k < L.length → w.frozen? ⟨B, k, none⟩ = false

theorem Holds.bel {w w' : World} {B : Nat} {L : List Int} (h : Holds w B L) (b : Bel w w') : Holds w' B L :=
  ⟨fun k hk => b.keep (h.cell k hk), fun k hk => b.free (h.cell k hk) (h.free k hk)⟩
theorem Holds.below {w w' : World} {C B : Nat} {L : List Int} (h : Holds w B L) (b : Below C w w') (hC : B < C) : Holds w' B L :=
  ⟨fun k hk => by rw [b.cell hC]; exact h.cell k hk, fun k hk => by rw [b.frozen hC]; exact h.free k hk⟩
theorem Holds.drew {w : World} {B : Nat} {L : List Int} (h : Holds w B L) : Holds w.drew B L := ⟨h.cell, h.free⟩
theorem Holds.drewN {w : World} {B : Nat} {L : List Int} (h : Holds w B L) (n : Nat) : Holds (w.drewN n) B L := ⟨h.cell, h.free⟩

theorem Holds.set {w : World} {B : Nat} {L : List Int} (h : Holds w B L) (k : Nat) (hk : k < L.length) (x : Int) : Holds (w.setCell ⟨B, k, none⟩ (.int .i64 x)) B (L.set k x) := by
  refine ⟨fun j hj => ?_, fun j hj => ?_⟩
  · have hj' : j < L.length := by simpa using hj
    by_cases e : k = j
    · subst e
      rw [World.cell?_setCell_same (h := h.cell k hk)]
      simp [List.getD_eq_getElem?_getD, hk]
    · rw [World.cell?_setCell_other (h := by intro q; injection q with _ q2 _; exact e q2), h.cell j hj']
      simp [List.getD_eq_getElem?_getD, List.getElem?_set_ne e]
  · rw [World.frozen?_setCell]
    exact h.free j (by simpa using hj)

/-- Another block's cell. -/
theorem Holds.other {w : World} {B : Nat} {L : List Int} (h : Holds w B L) (C k : Nat) (hC : B ≠ C) (v : Value) : Holds (w.setCell ⟨C, k, none⟩ v) B L := by
  refine ⟨fun j hj => ?_, fun j hj => ?_⟩
  · rw [World.cell?_setCell_other (h := by intro q; injection q with q1 _ _; exact hC q1.symm), h.cell j hj]
  · rw [World.frozen?_setCell]; exact h.free j hj

theorem holds_new (w : World) (L : List Int) (t : TypeId) : Holds (w.alloc (.cells (vals L).toArray t)) w.heap.size L := by
  refine ⟨fun k hk => ?_, fun k hk => ?_⟩
  · have := cell_of_row (w.alloc (.cells (vals L).toArray t)) w.heap.size k _ t (0, 0) (heap_alloc_new w _)
    rw [this]
    simpa using vals_get L k hk
  · simp

theorem holds_at {w : World} {B : Nat} (hB : B = w.heap.size) (L : List Int) (t : TypeId) : Holds (w.alloc (.cells (vals L).toArray t)) B L := hB ▸ holds_new w L t

theorem Holds.take {w : World} {B : Nat} {L : List Int} (h : Holds w B L) (n : Nat) : Holds w B (L.take n) := by
  refine ⟨fun k hk => ?_, fun k hk => h.free k (by simp at hk; omega)⟩
  have h1 : k < n := by simp at hk; omega
  rw [h.cell k (by simp at hk; omega)]
  simp [List.getD_eq_getElem?_getD, h1]

/-- A slice at ao holds the ints L: its cells, wherever they lie. -/
def Slc (w : World) (ao : Option Addr) (L : List Int) : Prop := ∀ k, k < L.length → ∃ x, ao = some x ∧ w.cell? (x.add k) = some (.int .i64 (L.getD k 0))

theorem slc_nil (w : World) (ao : Option Addr) : Slc w ao [] := fun k hk => absurd hk (by simp)
theorem Holds.slc {w : World} {B : Nat} {L : List Int} (h : Holds w B L) : Slc w (some ⟨B, 0, none⟩) L := fun k hk => ⟨_, rfl, by rw [Addr.add_lit]; simpa using h.cell k hk⟩
theorem Slc.bel {w w' : World} {ao : Option Addr} {L : List Int} (h : Slc w ao L) (b : Bel w w') : Slc w' ao L := fun k hk => by
  obtain ⟨x, hx, hc⟩ := h k hk
  exact ⟨x, hx, b.keep hc⟩
theorem Slc.drewN {w : World} {ao : Option Addr} {L : List Int} (h : Slc w ao L) (n : Nat) : Slc (w.drewN n) ao L := h
theorem Slc.take {w : World} {ao : Option Addr} {L : List Int} (h : Slc w ao L) (n : Nat) : Slc w ao (L.take n) := fun k hk => by
  have h1 : k < n := by simp at hk; omega
  obtain ⟨x, hx, hc⟩ := h k (by simp at hk; omega)
  exact ⟨x, hx, by rw [hc]; simp [List.getD_eq_getElem?_getD, h1]⟩

/-- What an owned row holds. -/
theorem owns_shape {w : World} {base n : Nat} {v : Value} {L : List Int} (h : w.ownsRow base 3 1 v n (vals L)) (hn : 0 < n) :
    ∃ g cap, v = .slice (some ⟨g, 0, none⟩) n cap ∧ base ≤ g ∧ g < w.heap.size ∧ n ≤ cap ∧ cap ≤ maxLen ∧ n = L.length ∧ Holds w g L := by
  have hL : n = L.length := by have := h.1; rw [vals_length] at this; omega
  rcases h.2 with ⟨_, h0⟩ | ⟨g, cap, cur, rfl, hb, hg, hc, hm, _, _⟩
  · omega
  · refine ⟨g, cap, rfl, hb, (Array.getElem?_eq_some_iff.1 hg).1, hc, hm, hL, ⟨fun k hk => ?_, fun k hk => h.frozenAt k⟩⟩
    rw [h.cellAt k (by omega)]
    exact vals_get L k hk

end Go.Proofs.Ytpakcajdbibbbaa.Mod
