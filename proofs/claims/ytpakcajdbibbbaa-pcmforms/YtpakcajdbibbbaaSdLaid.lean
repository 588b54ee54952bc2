/-
  Channels that a call makes anew: the block of the headers, behind it a block for each row. No condition.
-/
import Derived.Test.YtpakcajdbibbbaaGCopyTo
import Derived.Test.YtpakcajdbibbbaaGSpoilL
import Derived.Deep.OwnRows
namespace Go.Proofs.Ytpakcajdbibbbaa.Sid
open Go.RowKit Go.Sort Go.Proofs.Ytpakcajdbibbbaa.Mod
set_option linter.unusedVariables false
set_option linter.unusedSimpArgs false

theorem infoI : (Try.prog.info? 3).map (fun i => (i.zero, i.size, i.bytes)) = some (some (.int .i64 0), 1, 8) := by kernel_rfl
theorem infoL : (Try.prog.info? 44).map (fun i => (i.zero, i.size, i.bytes)) = some (some (.slice none 0 0), 1, 24) := by kernel_rfl
theorem made_ints (m : Nat) : madeCells #[.int .i64 0] m = (vals (List.replicate m 0)).toArray := by
  refine Array.toList_inj.1 (List.ext_getElem (by simp [madeCells, vals]) fun i a b => ?_)
  simp [madeCells, vals, Nat.mod_one]
theorem mk_row (m : Nat) (h1 : m * 8 ≤ 140737488351232) (w : World) :
    (Instr.makeSlice 44 (.int .i64 (m : Int)) (.int .i64 (m : Int))).run Try.prog w = .ok (.slice (some ⟨w.heap.size, 0, none⟩) m m) (w.alloc (.cells (vals (List.replicate m 0)).toArray 3)) := by
  rw [← made_ints]
  exact run_make_row' (P := Try.prog) 44 3 (.int .i64 0) 8 Try.underlying44 infoI rfl .i64 .i64 m (by omega) (by omega) w
theorem mk_rows (m : Nat) (h1 : m ≤ 2) (w : World) :
    (Instr.makeSlice 22 (.int .i64 (m : Int)) (.int .i64 (m : Int))).run Try.prog w = .ok (.slice (some ⟨w.heap.size, 0, none⟩) m m) (w.alloc (.cells (madeCells #[.slice none 0 0] m) 44)) :=
  run_make_row' (P := Try.prog) 22 44 (.slice none 0 0) 24 Try.underlying22 infoL rfl .i64 .i64 m (by omega) (by omega) w

/-- Behind j rounds: the rows that are made, one block each behind the block of the headers. -/
structure Laid (w wr : World) (G n j : Nat) (Ls : List (List Int)) : Prop where
  size : wr.heap.size = G + 1 + j
  bel : Bel w wr
  done : ∀ k, k < j → wr.cell? ⟨G, k, none⟩ = some (.slice (some ⟨G + 1 + k, 0, none⟩) (Ls.getD k []).length (Ls.getD k []).length) ∧ wr.heap[G + 1 + k]? = some (.cells (vals (Ls.getD k [])).toArray 3 (0, 0))
  todo : ∀ k, j ≤ k → k < n → wr.cell? ⟨G, k, none⟩ = some (.slice none 0 0)
  free : ∀ k, k < n → wr.frozen? ⟨G, k, none⟩ = false

theorem laid_start (w : World) (n : Nat) (Ls : List (List Int)) : Laid w (w.alloc (.cells (madeCells #[.slice none 0 0] n) 44)) w.heap.size n 0 Ls := by
  have r := World.rowIs_made w (.slice none 0 0) n 44
  exact ⟨by simp, (Bel.refl w).alloc _, fun k hk => by omega, fun k _ hk => r.cell hk, fun k hk => r.frozen k⟩

theorem laid_step {w wr w1 : World} {G n j l : Nat} {Ls : List (List Int)} (h : Laid w wr G n j Ls) (hG : w.heap.size ≤ G) (hj : j < n) (hl : l = (Ls.getD j []).length)
    (h1 : w1.heap.size = ((wr.alloc (.cells (vals (List.replicate l 0)).toArray 3)).setCell ⟨G, j, none⟩ (.slice (some ⟨wr.heap.size, 0, none⟩) l l)).heap.size)
    (h2 : w1.heap[wr.heap.size]? = some (.cells (vals (Ls.getD j [])).toArray 3 (0, 0)))
    (h3 : Exc (fun k => k = wr.heap.size) ((wr.alloc (.cells (vals (List.replicate l 0)).toArray 3)).setCell ⟨G, j, none⟩ (.slice (some ⟨wr.heap.size, 0, none⟩) l l)) w1) :
    Laid w w1 G n (j + 1) Ls := by
  have hs := h.size
  have c0 := h.todo j (Nat.le_refl _) hj
  have ba : Bel wr (wr.alloc (.cells (vals (List.replicate l 0)).toArray 3)) := (Bel.refl _).alloc _
  have c1 := ba.keep c0
  have other : ∀ k, k ≠ j → ∀ v, wr.cell? ⟨G, k, none⟩ = some v → w1.cell? ⟨G, k, none⟩ = some v := fun k hk v hv => by
    refine h3.keep ?_ (by show ¬ G = _; omega)
    rw [World.cell?_setCell_other (h := by intro q; injection q with _ q2 _; exact hk q2.symm)]
    exact ba.keep hv
  have same : w1.cell? ⟨G, j, none⟩ = some (.slice (some ⟨wr.heap.size, 0, none⟩) l l) := by
    refine h3.keep ?_ (by show ¬ G = _; omega)
    rw [World.cell?_setCell_same (h := c1)]
  have blk : ∀ i, G < i → i < wr.heap.size → w1.heap[i]? = wr.heap[i]? := fun i h5 h6 => by
    rw [h3.block i (by simp [World.setCell]; omega) (by omega), Below.heap_setCell _ _ _ _ (by show i ≠ G; omega), ba.block i h6]
  refine ⟨by rw [h1]; simp [World.setCell]; omega, ?_, fun k hk => ?_, fun k h5 h6 => other k (by omega) _ (h.todo k (by omega) h6), fun k hk => ?_⟩
  · exact h3.from ((h.bel.alloc _).setCell (a := ⟨G, j, none⟩) hG _) (fun i hi => by have := h.bel.size; omega)
  · rcases Nat.lt_or_ge k j with q | q
    · obtain ⟨d1, d2⟩ := h.done k q
      exact ⟨other k (by omega) _ d1, (blk _ (by omega) (by omega)).trans d2⟩
    · obtain rfl : k = j := by omega
      subst hl
      rw [← hs]
      exact ⟨same, h2⟩
  · have fk : (wr.alloc (.cells (vals (List.replicate l 0)).toArray 3)).frozen? ⟨G, k, none⟩ = false := by
      rcases Nat.lt_or_ge k j with q | q
      · exact ba.free (h.done k q).1 (h.free k hk)
      · exact ba.free (h.todo k q hk) (h.free k hk)
    have f2 : ((wr.alloc (.cells (vals (List.replicate l 0)).toArray 3)).setCell ⟨G, j, none⟩ (.slice (some ⟨wr.heap.size, 0, none⟩) l l)).frozen? ⟨G, k, none⟩ = false := by rw [World.frozen?_setCell]; exact fk
    by_cases e : k = j
    · subst e
      exact h3.free (World.cell?_setCell_same _ _ _ c1) (by show ¬ G = _; omega) f2
    · have : ∃ v, wr.cell? ⟨G, k, none⟩ = some v := by
        rcases Nat.lt_or_ge k j with q | q
        · exact ⟨_, (h.done k q).1⟩
        · exact ⟨_, h.todo k q hk⟩
      obtain ⟨v, hv⟩ := this
      refine h3.free (v := v) ?_ (by show ¬ G = _; omega) f2
      rw [World.cell?_setCell_other (h := by intro q; injection q with _ q2 _; exact e q2.symm)]
      exact ba.keep hv

/-- A block that holds ints. -/
theorem holds_blk {w : World} {B : Nat} {L : List Int} {t : TypeId} (h : w.heap[B]? = some (.cells (vals L).toArray t (0, 0))) : Holds w B L :=
  ⟨fun k hk => by rw [cell_of_row w B k _ t (0, 0) h]; simpa using vals_get L k hk, fun k hk => by simp [World.frozen?, h]⟩

/-- The rows as they are answered: where the headers stand, and each row in its block. -/
theorem laid_own {w wr : World} {G n : Nat} {Ms : List (List Int)} (hn : Ms.length = n) (hG : w.heap.size ≤ G)
    (hc : ∀ k, k < n → wr.cell? ⟨G, k, none⟩ = some (.slice (some ⟨G + 1 + k, 0, none⟩) (Ms.getD k []).length (Ms.getD k []).length)) (h8 : ∀ k, k < n → (Ms.getD k []).length * 8 ≤ 140737488351232)
    (hr : ∀ k, k < n → Holds wr (G + 1 + k) (Ms.getD k [])) (hs : G + 1 + n ≤ wr.heap.size) : OwnL wr w.heap.size wr.heap.size (some ⟨G, 0, none⟩) Ms :=
  ⟨G, fun k => G + 1 + k, fun k => (Ms.getD k []).length, fun k hk => ⟨rfl, (by show w.heap.size ≤ G ∧ w.heap.size ≤ G + 1 + k; omega), (by show G + 1 + k < wr.heap.size; omega), (by show G + 1 + k ≠ G; omega), (fun j hj => by show G + 1 + j ≠ G + 1 + k; omega), hc k (by omega), h8 k (by omega), hr k (by omega)⟩⟩

end Go.Proofs.Ytpakcajdbibbbaa.Sid
