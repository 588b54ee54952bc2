/-
  Rows of one length that a call makes, one for each header, wherever their blocks lie; a sample that is written into one of them. No condition.
-/
import Derived.Test.YtpakcajdbibbbaaSdLaid
namespace Go.Proofs.Ytpakcajdbibbbaa.Pcm
open Go.RowKit Go.Sort Go.Proofs.Ytpakcajdbibbbaa.Mod Go.Proofs.Ytpakcajdbibbbaa.Sid
set_option linter.unusedVariables false
set_option linter.unusedSimpArgs false

/-- The headers stand in block G; j of C rows of m ints are made, row k in block h k, holding R k. -/
structure Chs (w wr : World) (G C m j : Nat) (h : Nat → Nat) (R : Nat → List Int) : Prop where
  bel : Bel w wr
  lt : w.heap.size ≤ G ∧ G < wr.heap.size
  done : ∀ k, k < j → wr.cell? ⟨G, k, none⟩ = some (.slice (some ⟨h k, 0, none⟩) m m) ∧ (w.heap.size ≤ h k ∧ h k < wr.heap.size) ∧ h k ≠ G ∧ (∀ i, i < k → h i ≠ h k) ∧ Holds wr (h k) (R k) ∧ (R k).length = m
  todo : ∀ k, j ≤ k → k < C → wr.cell? ⟨G, k, none⟩ = some (.slice none 0 0)
  free : ∀ k, k < C → wr.frozen? ⟨G, k, none⟩ = false

theorem Chs.more {w wr w1 : World} {G C m j : Nat} {h : Nat → Nat} {R : Nat → List Int} (H : Chs w wr G C m j h R) (hj : j ≤ C) (b : Bel wr w1) : Chs w w1 G C m j h R := by
  refine ⟨H.bel.trans b, ⟨H.lt.1, Nat.lt_of_lt_of_le H.lt.2 b.size⟩, fun k hk => ?_, fun k h1 h2 => b.keep (H.todo k h1 h2), fun k hk => ?_⟩
  · obtain ⟨h1, h2, h3, h4, h5, h6⟩ := H.done k hk
    exact ⟨b.keep h1, ⟨h2.1, Nat.lt_of_lt_of_le h2.2 b.size⟩, h3, h4, h5.bel b, h6⟩
  · rcases Nat.lt_or_ge k j with q | q
    · exact b.free (H.done k q).1 (H.free k hk)
    · exact b.free (H.todo k q hk) (H.free k hk)

theorem chs_start (w w0 : World) (C m : Nat) (h : Nat → Nat) (R : Nat → List Int) (b : Bel w w0) : Chs w (w0.alloc (.cells (madeCells #[.slice none 0 0] C) 44)) w0.heap.size C m 0 h R := by
  have r := World.rowIs_made w0 (.slice none 0 0) C 44
  exact ⟨b.alloc _, ⟨b.size, by simp⟩, fun k hk => by omega, fun k _ hk => r.cell hk, fun k hk => r.frozen k⟩

/-- One more row of m zeros, its header stored. -/
theorem Chs.step {w wr : World} {G C m j : Nat} {h : Nat → Nat} {R : Nat → List Int} (H : Chs w wr G C m j h R) (hj : j < C) (e : R j = List.replicate m 0) :
    Chs w ((wr.alloc (.cells (vals (List.replicate m 0)).toArray 3)).setCell ⟨G, j, none⟩ (.slice (some ⟨wr.heap.size, 0, none⟩) m m)) G C m (j + 1) (fun k => if k = j then wr.heap.size else h k) R := by
  have ba : Bel wr (wr.alloc (.cells (vals (List.replicate m 0)).toArray 3)) := (Bel.refl _).alloc _
  have c0 := H.todo j (Nat.le_refl _) hj
  have A := H.more (Nat.le_of_lt hj) ba
  have hs : (wr.alloc (.cells (vals (List.replicate m 0)).toArray 3)).heap.size = wr.heap.size + 1 := by simp
  have hG := H.lt
  have other : ∀ k, k ≠ j → ∀ v, wr.cell? ⟨G, k, none⟩ = some v → ((wr.alloc (.cells (vals (List.replicate m 0)).toArray 3)).setCell ⟨G, j, none⟩ (.slice (some ⟨wr.heap.size, 0, none⟩) m m)).cell? ⟨G, k, none⟩ = some v := fun k hk v hv => by
    rw [World.cell?_setCell_other (h := by intro q; injection q with _ q2 _; exact hk q2.symm)]
    exact ba.keep hv
  refine ⟨A.bel.setCell (a := ⟨G, j, none⟩) hG.1 _, ⟨hG.1, by simp [World.setCell]; omega⟩, fun k hk => ?_, fun k h1 h2 => other k (by omega) _ (H.todo k (by omega) h2), fun k hk => by rw [World.frozen?_setCell]; exact A.free k hk⟩
  have hs2 : ((wr.alloc (.cells (vals (List.replicate m 0)).toArray 3)).setCell ⟨G, j, none⟩ (.slice (some ⟨wr.heap.size, 0, none⟩) m m)).heap.size = wr.heap.size + 1 := by simp [World.setCell]
  rcases Nat.lt_or_ge k j with q | q
  · obtain ⟨h1, h2, h3, h4, h5, h6⟩ := H.done k q
    simp only [show ¬ k = j by omega, if_false]
    refine ⟨other k (by omega) _ h1, ⟨h2.1, by rw [hs2]; omega⟩, h3, fun i hi => ?_, (h5.bel ba).other G j h3 _, h6⟩
    rw [if_neg (by omega)]
    exact h4 i hi
  · obtain rfl : k = j := by omega
    have hh := holds_new wr (List.replicate m 0) 3
    simp only [if_true]
    refine ⟨by rw [World.cell?_setCell_same (h := ba.keep c0)], ⟨by omega, by rw [hs2]; omega⟩, by omega, fun i hi => ?_, ?_, by rw [e]; simp⟩
    · rw [if_neg (by omega)]
      have := (H.done i hi).2.1
      omega
    · rw [e]
      exact hh.other G k (by omega) _

/-- A sample is written. -/
theorem Chs.put {w wr : World} {G C m j k : Nat} {h : Nat → Nat} {R R' : Nat → List Int} {x : Int} (H : Chs w wr G C m C h R) (hj : j < C) (hk : k < m) (e1 : R' j = (R j).set k x) (e2 : ∀ i, i ≠ j → R' i = R i) :
    Chs w (wr.setCell ⟨h j, k, none⟩ (.int .i64 x)) G C m C h R' := by
  obtain ⟨q1, q2, q3, q4, q5, q6⟩ := H.done j hj
  refine ⟨H.bel.setCell (a := ⟨h j, k, none⟩) q2.1 _, ⟨H.lt.1, by have := H.lt.2; simpa [World.setCell] using this⟩, fun i hi => ?_, fun i h1 h2 => by omega, fun i hi => by rw [World.frozen?_setCell]; exact H.free i hi⟩
  obtain ⟨h1, h2, h3, h4, h5, h6⟩ := H.done i hi
  refine ⟨by rw [World.cell?_setCell_other (h := by intro q; injection q with q1 _ _; exact q3 q1)]; exact h1, ⟨h2.1, by simpa [World.setCell] using h2.2⟩, h3, h4, ?_, ?_⟩
  · by_cases q : i = j
    · subst q
      rw [e1]
      exact h5.set k (by omega) x
    · rw [e2 i q]
      refine h5.other _ k ?_ _
      rcases Nat.lt_or_ge i j with r | r
      · exact q4 i r
      · exact fun s => h4 j (by omega) s.symm
  · by_cases q : i = j
    · subst q
      rw [e1]; simpa using h6
    · rw [e2 i q]; exact h6

theorem Chs.own {w wr : World} {G C m : Nat} {h : Nat → Nat} {R : Nat → List Int} (H : Chs w wr G C m C h R) (h8 : m * 8 ≤ 140737488351232) : OwnL wr w.heap.size wr.heap.size (some ⟨G, 0, none⟩) ((List.range C).map R) := by
  refine ⟨G, h, fun _ => m, fun k hk => ?_⟩
  have hk' : k < C := by simpa using hk
  obtain ⟨h1, h2, h3, h4, h5, h6⟩ := H.done k hk'
  have e : ((List.range C).map R).getD k [] = R k := by
    rw [List.getD_eq_getElem?_getD, List.getElem?_map, List.getElem?_range hk']
    rfl
  rw [e, h6]
  exact ⟨rfl, ⟨H.lt.1, h2.1⟩, h2.2, h3, h4, h1, h8, h5⟩

theorem lowerL {w : World} {lo lo' hi : Nat} {ao : Option Addr} {Ls : List (List Int)} (H : OwnL w lo hi ao Ls) (e : lo' ≤ lo) : OwnL w lo' hi ao Ls := by
  obtain ⟨g, h, c, H⟩ := H
  refine ⟨g, h, c, fun k hk => ?_⟩
  obtain ⟨h1, h2, h3⟩ := H k hk
  exact ⟨h1, ⟨Nat.le_trans e h2.1, Nat.le_trans e h2.2⟩, h3⟩

theorem Chs.congr {w wr : World} {G C m j : Nat} {h : Nat → Nat} {R R' : Nat → List Int} (H : Chs w wr G C m j h R) (e : ∀ i, R' i = R i) : Chs w wr G C m j h R' := by
  obtain rfl : R' = R := funext e
  exact H

/-- A row of which t are filled. -/
def part (m t : Nat) (f : Nat → Int) : List Int := (List.range m).map fun i => if i < t then f i else 0
theorem part_none (m : Nat) (f : Nat → Int) : part m 0 f = List.replicate m 0 := by
  refine List.ext_getElem (by simp [part]) fun i a b => ?_
  simp [part]
theorem part_all (m : Nat) (f : Nat → Int) : part m m f = (List.range m).map f := by
  refine List.ext_getElem (by simp [part]) fun i a b => ?_
  have : i < m := by simpa [part] using a
  simp [part, this]
theorem part_set (m t : Nat) (f : Nat → Int) (h : t < m) : (part m t f).set t (f t) = part m (t + 1) f := by
  refine List.ext_getElem (by simp [part]) fun i a b => ?_
  rw [List.getElem_set]
  by_cases e : t = i
  · subst e; simp [part]
  · rw [if_neg e]
    by_cases q : i < t
    · simp [part, q, Nat.lt_succ_of_lt q]
    · simp only [part, List.getElem_map, List.getElem_range, if_neg q, if_neg (by omega : ¬ i < t + 1)]

end Go.Proofs.Ytpakcajdbibbbaa.Pcm
