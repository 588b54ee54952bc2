/-
  Rows of rows that are written out: the headers in a new block, the rows as they lie, or in new blocks ahead of it. No condition.
-/
import Derived.Test.YtpakcajdbibbbaaGList
namespace Go.Proofs.Ytpakcajdbibbbaa.Mod
open Go.RowKit
set_option linter.unusedVariables false

theorem hdr_cell (w : World) (us : List Value) (t : TypeId) (k : Nat) : (w.alloc (.cells us.toArray t)).cell? ((⟨w.heap.size, 0, none⟩ : Addr).add k) = us[k]? := by
  rw [Addr.add_lit, Nat.zero_add, cell_of_row (w.alloc (.cells us.toArray t)) w.heap.size k _ t (0, 0) (heap_alloc_new w _)]
  simp

theorem hdr_1 (w : World) {bo : Option Addr} {n c : Nat} {A : List Int} (hn : n = A.length) (h8 : n * 8 ≤ 140737488351232) (h0 : bo = none → c = 0) (hs : Slc w bo A) :
    Lls (w.alloc (.cells #[.slice bo n c] 44)) (some ⟨w.heap.size, 0, none⟩) [A] :=
  lls_1 (hdr_cell w [.slice bo n c] _ 0) hn h8 h0 (hs.bel ((Bel.refl w).alloc _))
theorem hdr_2 (w : World) {bo eo : Option Addr} {n c m d : Nat} {A B : List Int} (hn : n = A.length) (h8 : n * 8 ≤ 140737488351232) (h0 : bo = none → c = 0) (hs : Slc w bo A) (km : m = B.length) (k8 : m * 8 ≤ 140737488351232) (k0 : eo = none → d = 0) (ks : Slc w eo B) :
    Lls (w.alloc (.cells #[.slice bo n c, .slice eo m d] 44)) (some ⟨w.heap.size, 0, none⟩) [A, B] :=
  lls_2 (hdr_cell w [.slice bo n c, .slice eo m d] _ 0) hn h8 h0 (hs.bel ((Bel.refl w).alloc _)) (hdr_cell w [.slice bo n c, .slice eo m d] _ 1) km k8 k0 (ks.bel ((Bel.refl w).alloc _))

/-- One row, written out. -/
theorem lit_1 (w : World) (A : List Int) (h8 : A.length * 8 ≤ 140737488351232) : Lls ((w.alloc (.cells (vals A).toArray 3)).alloc (.cells #[.slice (some ⟨w.heap.size, 0, none⟩) A.length A.length] 44)) (some ⟨w.heap.size + 1, 0, none⟩) [A] := by
  have := hdr_1 (w.alloc (.cells (vals A).toArray 3)) (bo := some ⟨w.heap.size, 0, none⟩) (c := A.length) rfl h8 (fun q => by cases q) (holds_new w A 3).slc
  rwa [show (w.alloc (.cells (vals A).toArray 3)).heap.size = w.heap.size + 1 by simp] at this
/-- Two rows, written out. -/
theorem lit_2 (w : World) (A B : List Int) (h8 : A.length * 8 ≤ 140737488351232) (k8 : B.length * 8 ≤ 140737488351232) :
    Lls (((w.alloc (.cells (vals A).toArray 3)).alloc (.cells (vals B).toArray 3)).alloc (.cells #[.slice (some ⟨w.heap.size, 0, none⟩) A.length A.length, .slice (some ⟨w.heap.size + 1, 0, none⟩) B.length B.length] 44)) (some ⟨w.heap.size + 2, 0, none⟩) [A, B] := by
  have := hdr_2 ((w.alloc (.cells (vals A).toArray 3)).alloc (.cells (vals B).toArray 3)) (bo := some ⟨w.heap.size, 0, none⟩) (c := A.length) (eo := some ⟨w.heap.size + 1, 0, none⟩) (d := B.length) rfl h8 (fun q => by cases q)
    ((holds_new w A 3).bel ((Bel.refl _).alloc _)).slc rfl k8 (fun q => by cases q) (holds_at (by simp) B 3).slc
  rwa [show ((w.alloc (.cells (vals A).toArray 3)).alloc (.cells (vals B).toArray 3)).heap.size = w.heap.size + 2 by simp] at this

end Go.Proofs.Ytpakcajdbibbbaa.Mod
