/-
  An array of three ints in a block of its own: what stays of it where rows of ints are appended to, behind calls, and where it is written. No condition.
-/
import Derived.Test.YthphgndebcnahaaXAwake
import Derived.Laws.OwnMore
import Derived.OwnWalk
namespace Go.Proofs.Ythphgndebcnahaa.Ctx
open Go.RowKit Go.Proofs.Ythphgndebcnahaa.Mod Go.Proofs.Ythphgndebcnahaa.Ints
set_option linter.unusedVariables false

/-- The block B is an array of three ints. -/
def Arr (w : World) (B : Nat) (x y z : Int) : Prop := w.heap[B]? = some (.cells #[.int .i64 x, .int .i64 y, .int .i64 z] 24 (0, 0))

theorem Arr.cells {w : World} {B : Nat} {x y z : Int} (h : Arr w B x y z) : w.cell? ⟨B, 0, none⟩ = some (.int .i64 x) ∧ w.cell? ⟨B, 1, none⟩ = some (.int .i64 y) ∧ w.cell? ⟨B, 2, none⟩ = some (.int .i64 z) :=
  ⟨by rw [cell_of_row w B 0 _ 24 (0, 0) h]; rfl, by rw [cell_of_row w B 1 _ 24 (0, 0) h]; rfl, by rw [cell_of_row w B 2 _ 24 (0, 0) h]; rfl⟩
theorem Arr.lt {w : World} {B : Nat} {x y z : Int} (h : Arr w B x y z) : B < w.heap.size := (Array.getElem?_eq_some_iff.1 h).1
theorem Arr.bel {w w' : World} {B : Nat} {x y z : Int} (h : Arr w B x y z) (b : Bel w w') : Arr w' B x y z := by
  unfold Arr
  rw [b.block B h.lt]
  exact h
theorem arr_new (w : World) (x y z : Int) : Arr (w.alloc (.cells #[.int .i64 x, .int .i64 y, .int .i64 z] 24)) w.heap.size x y z := heap_alloc_new w _

/-- No row of ints is an array. -/
theorem Arr.apart {w : World} {B base n : Nat} {x y z : Int} {v : Value} {xs : List Value} (h : Arr w B x y z) (ho : w.ownsRow base 3 1 v n xs) : some B ≠ v.ownBlock := by
  intro e
  rcases ho.2 with ⟨q, _⟩ | ⟨g, cap, cur, q, _, hg, _⟩
  · rw [q] at e
    exact absurd e (by simp [Value.ownBlock])
  · rw [q] at e
    have e2 : B = g := by simpa [Value.ownBlock] using e
    subst e2
    rw [show w.heap[B]? = _ from h] at hg
    injection hg with hg
    injection hg with _ h2
    exact absurd h2 (by decide)

theorem Arr.more {w w' : World} {B base n : Nat} {x y z : Int} {v : Value} {xs : List Value} {o : Obj} (h : Arr w B x y z) (ho : w.ownsRow base 3 1 v n xs) (hg : (w.alloc o).grownBy w' v.ownBlock) : Arr w' B x y z := by
  have h1 : Arr (w.alloc o) B x y z := h.bel ((Bel.refl w).alloc o)
  unfold Arr
  rw [hg.block B h1.lt (h.apart ho)]
  exact h1

theorem Arr.free {w : World} {B : Nat} {x y z : Int} (h : Arr w B x y z) (k : Nat) : w.frozen? ⟨B, k, none⟩ = false := by
  have h1 : w.heap[B]? = _ := h
  simp [World.frozen?, h1]

theorem one_cell2 (w : World) (o : Obj) (x : Int) : ∀ j u, (vals [x])[j]? = some u → ((w.alloc o).alloc (.cells #[.int .i64 x] 3)).cell? ((⟨w.heap.size + 1, 0, none⟩ : Addr).add j) = some u := by
  have := one_cell (w.alloc o) x
  have e : (w.alloc o).heap.size = w.heap.size + 1 := by simp
  rwa [e] at this

theorem eq_to {a b c a' b' c' : Int} (h0 : a = a') (h1 : b = b') (h2 : c = c') (w : World) : (binOp .eql 24 (.agg #[.int .i64 a, .int .i64 b, .int .i64 c]) (.agg #[.int .i64 a', .int .i64 b', .int .i64 c'])).run Try.prog w = .ok (.bool true) w := by
  subst h0 h1 h2; exact eq_same _ _ _ w
theorem eq_in_to {a b c a' b' c' : Int} (h0 : a = a') (h1 : b = b') (h2 : c = c') (w : World) : (Op.equalIn 10000 24 (.agg #[.int .i64 a, .int .i64 b, .int .i64 c]) (.agg #[.int .i64 a', .int .i64 b', .int .i64 c'])).run Try.prog w = .ok true w := by
  subst h0 h1 h2; exact eq_in_same _ _ _ w

theorem heap_other (w : World) (a : Addr) (u : Value) (k : Nat) (h : k ≠ a.block) : (w.setCell a u).heap[k]? = w.heap[k]? := by
  simp [World.setCell, Array.getElem?_modify, Ne.symm h]

/-- It is written over. -/
def put3 (w : World) (B : Nat) (x y z : Int) : World := ((w.setCell ⟨B, 0, none⟩ (.int .i64 x)).setCell ⟨B, 1, none⟩ (.int .i64 y)).setCell ⟨B, 2, none⟩ (.int .i64 z)
theorem Arr.put {w : World} {B : Nat} {x y z : Int} (h : Arr w B x y z) (x' y' z' : Int) : Arr (put3 w B x' y' z') B x' y' z' := by
  have h1 : w.heap[B]? = _ := h
  unfold Arr put3
  simp [World.setCell, Array.getElem?_modify, h1]
theorem owns_put {w : World} {B base n : Nat} {v : Value} {xs : List Value} (h : w.ownsRow base 3 1 v n xs) (hB : some B ≠ v.ownBlock) (x y z : Int) : (put3 w B x y z).ownsRow base 3 1 v n xs := by
  refine ⟨h.1, ?_⟩
  rcases h.2 with q | ⟨g, cap, cur, h1, h2, h3, h4⟩
  · exact .inl q
  · refine .inr ⟨g, cap, cur, h1, h2, ?_, h4⟩
    have hg : g ≠ B := fun e => hB (by rw [h1, e]; rfl)
    unfold put3
    rw [heap_other _ _ _ _ hg, heap_other _ _ _ _ hg, heap_other _ _ _ _ hg]
    exact h3
theorem bel_put {w w' : World} (b : Bel w w') {B : Nat} (hB : w.heap.size ≤ B) (x y z : Int) : Bel w (put3 w' B x y z) := ((b.setCell hB _).setCell hB _).setCell hB _

theorem put_size (w : World) (B : Nat) (x y z : Int) : (put3 w B x y z).heap.size = w.heap.size := by simp [put3, World.setCell]
theorem one_cell3 (w : World) (o : Obj) (B : Nat) (x y z v : Int) : ∀ j u, (vals [v])[j]? = some u → ((put3 (w.alloc o) B x y z).alloc (.cells #[.int .i64 v] 3)).cell? ((⟨w.heap.size + 1, 0, none⟩ : Addr).add j) = some u := by
  have := one_cell (put3 (w.alloc o) B x y z) v
  have e : (w.alloc o).heap.size = w.heap.size + 1 := by simp
  rwa [put_size, e] at this

end Go.Proofs.Ythphgndebcnahaa.Ctx
