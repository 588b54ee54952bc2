/-
  'Onto w w'': the world w' is w with new blocks laid behind it, and nothing old has turned; both of the library's words for that at once. No condition.
-/
import Derived.WalkKit
import Derived.Below
import Derived.Deep.Draws
namespace Go.Proofs.YtnldnkcfeclmpaaDoor
open Go.RowKit

structure Onto (w w' : World) : Prop where
  g : Grown w w'
  b : Below w.heap.size w w'

theorem Onto.refl (w : World) : Onto w w := ⟨Grown.refl _, Below.refl _ _⟩

theorem Onto.trans {a b c : World} (h : Onto a b) (k : Onto b c) : Onto a c := by
  refine ⟨?_, h.b.trans (k.b.mono h.b.size)⟩
  obtain ⟨h1, h2, h3⟩ := h.g
  obtain ⟨k1, k2, k3⟩ := k.g
  exact ⟨World.keptBut_trans h1 k1, fun x => (k2 x).trans (h2 x), Nat.le_trans h3 k3⟩

theorem Onto.alloc {w w' : World} (h : Onto w w') (c : Array Value) (t : TypeId) : Onto w (w'.alloc (.cells c t)) :=
  ⟨h.g.alloc c t, h.b.alloc h.b.size _⟩

theorem Onto.setCell {w w' : World} (h : Onto w w') {a : Addr} (ha : w.heap.size ≤ a.block) (v : Value) : Onto w (w'.setCell a v) :=
  ⟨h.g.setCell ha v, h.b.setCell ha v⟩

theorem Onto.drew {w w' : World} (h : Onto w w') : Onto w w'.drew := ⟨h.g.drew, h.b.drew⟩

theorem Onto.drewN {w w' : World} (h : Onto w w') (n : Nat) : Onto w (w'.drewN n) := by
  obtain ⟨h1, h2, h3⟩ := h.g
  exact ⟨⟨h1, h2, h3⟩, h.b.trans ⟨rfl, rfl, rfl, Nat.le_refl _, fun _ _ => rfl⟩⟩

/-- A cell that was there reads as it did. -/
theorem Onto.cell {w w' : World} (h : Onto w w') {p : Addr} (hp : p.block < w.heap.size) : w'.cell? p = w.cell? p := h.b.cell hp

theorem Onto.cell_some {w w' : World} (h : Onto w w') {p : Addr} {v : Value} (hp : w.cell? p = some v) : w'.cell? p = some v := by
  rcases Nat.lt_or_ge p.block w.heap.size with hb | hb
  · rw [h.cell hb]; exact hp
  · have e : w.heap[p.block]? = none := Array.getElem?_eq_none hb
    simp [World.cell?, e] at hp

end Go.Proofs.YtnldnkcfeclmpaaDoor
