/-
  A row appended to rows of rows; rows that a call owns, apart from the rows of rows that it owns. No condition.
-/
import Derived.Test.YtpakcajdbibbbaaGList
import Derived.Test.YtpakcajdbibbbaaGApp
namespace Go.Proofs.Ytpakcajdbibbbaa.Mod
open Go.RowKit Go.Sort Go.Proofs.Ytpakcajdbibbbaa.Ints
set_option linter.unusedVariables false
set_option linter.unusedSimpArgs false

theorem info_row : (Try.prog.info? 44).map (fun i => (i.zero, i.size, i.bytes)) = some (some (.slice none 0 0), 1, 24) := by kernel_rfl

theorem one_cellL (w : World) (y : Value) : ∀ j u, [y][j]? = some u → (w.alloc (.cells #[y] 44)).cell? ((⟨w.heap.size, 0, none⟩ : Addr).add j) = some u := fun j u hu => by
  have hj : j < [y].length := (List.getElem?_eq_some_iff.1 hu).1
  obtain rfl : j = 0 := by simp at hj; omega
  rw [Addr.add_lit, Nat.zero_add]
  have := cell_of_row (w.alloc (.cells #[y] 44)) w.heap.size 0 _ 44 (0, 0) (heap_alloc_new w _)
  rw [this]
  simpa using hu

/-- One more row is appended: nothing but the block of the row of rows has turned. -/
theorem wpl_moreL {ops : Array Oper} {rest : List Oper} {o : Oper} {a : Act} {Q : Exit → Act → World → Prop} (w : World) (hgd : o.guard = none) (s x : Operand)
    (ho : o.op = .call { callee := .builtin .append, args := #[s, x], argTypes := #[22, 22] }) (B n : Nat) (hB : B ≤ w.heap.size) (v : Value) (xs : List Value) (y : Value) (hy : y.oneCell' = true) (hs : a.eval s = v) (hx : a.eval x = .slice (some ⟨w.heap.size, 0, none⟩) 1 1)
    (hown : w.ownsRow B 44 1 v n xs) (h24 : n * 24 ≤ 140737488351232)
    (k : ∀ v' w1, w1.ownsRow B 44 1 v' (n + 1) (xs ++ [y]) → Exc (fun k => v.ownBlock = some k) w w1 → wpList Try.prog ops Q rest (a.put o.dst v') w1) :
    wpList Try.prog ops Q (o :: rest) a (w.alloc (.cells #[y] 44)) := by
  obtain ⟨i0, hi, hz0, hz1, hz2⟩ := info_parts info_row
  refine wpList_append_own _ hgd s x 22 ho B 44 i0 (.slice none 0 0) 1 24 Try.underlying22 hi hz0 hz1 hz2 rfl (by decide) _ n _ hs (hown.alloc _) ⟨w.heap.size, 0, none⟩ 1 1 [y] hx rfl (one_cellL _ _) (fun u hu => by rw [List.mem_singleton.1 hu]; exact hy) (by unfold maxLen; omega) (by omega) (by simp; omega) ?_
  intro v' w1 ho1 hg _
  exact k v' w1 ho1 (Exc.grown ((Exc.refl _ w).alloc _) hg (fun k hk _ => hk))

theorem owns_up {w : World} {B C n : Nat} {v : Value} {xs : List Value} (h : w.ownsRow C 3 1 v n xs) (hB : B ≤ C) : w.ownsRow B 3 1 v n xs := by
  refine ⟨h.1, ?_⟩
  rcases h.2 with q | ⟨g, cap, cur, e1, e2, e3⟩
  · exact .inl q
  · exact .inr ⟨g, cap, cur, e1, Nat.le_trans hB e2, e3⟩
theorem own_oldL {w : World} {B n : Nat} {v : Value} {xs : List Value} (h : w.ownsRow B 44 1 v n xs) {k : Nat} (e : v.ownBlock = some k) : B ≤ k ∧ k < w.heap.size := h.lt k e

/-- A row of ints lies in no block of a row of rows. -/
theorem own_apart {w : World} {B C n m : Nat} {v u : Value} {xs ys : List Value} (h : w.ownsRow B 3 1 v n xs) (k : w.ownsRow C 44 1 u m ys) : ∀ i, u.ownBlock = some i → v.ownBlock ≠ some i := fun i hi hv => by
  rcases h.2 with ⟨rfl, _⟩ | ⟨g, cap, cur, rfl, _, h3, _⟩
  · simp [Value.ownBlock] at hv
  · rcases k.2 with ⟨rfl, _⟩ | ⟨g', cap', cur', rfl, _, k3, _⟩
    · simp [Value.ownBlock] at hi
    · simp [Value.ownBlock] at hi hv
      subst hi
      subst hv
      rw [h3] at k3
      injection k3 with k3
      injection k3 with _ k4 _
      cases k4

/-- A row that is owned stays, where its own block is none of those that turn. -/
theorem Exc.own {S : Nat → Prop} {w w' : World} (h : Exc S w w') {base n : Nat} {e : TypeId} {v : Value} {xs : List Value} (c : w.ownsRow base e 1 v n xs) (hB : ∀ k, v.ownBlock = some k → ¬ S k) : w'.ownsRow base e 1 v n xs := by
  refine ⟨c.1, ?_⟩
  rcases c.2 with q | ⟨g, cap, cur, rfl, h2, h3, h4⟩
  · exact .inl q
  · exact .inr ⟨g, cap, cur, rfl, h2, by rw [h.block g (Array.getElem?_eq_some_iff.1 h3).1 (hB g (by simp [Value.ownBlock]))]; exact h3, h4⟩

/-- Rows that a call owns: us are the headers, each leads to its ints. -/
def OwnsL (w : World) (base : Nat) (v : Value) (us : List Value) (Ls : List (List Int)) : Prop :=
  w.ownsRow base 44 1 v Ls.length us ∧ ∀ k, k < Ls.length → w.ownsRow base 3 1 (us.getD k (.slice none 0 0)) (Ls.getD k []).length (vals (Ls.getD k [])) ∧ (Ls.getD k []).length * 8 ≤ 140737488351232

theorem ownsL_none (w : World) (base : Nat) : OwnsL w base (.slice none 0 0) [] [] := ⟨⟨rfl, .inl ⟨rfl, rfl⟩⟩, fun k hk => absurd hk (by simp)⟩
theorem OwnsL.bel {w w' : World} {base : Nat} {v : Value} {us : List Value} {Ls : List (List Int)} (h : OwnsL w base v us Ls) (b : Bel w w') : OwnsL w' base v us Ls :=
  ⟨(Exc.of_bel (S := fun _ => False) b).own h.1 (fun _ _ f => f), fun k hk => ⟨(Exc.of_bel (S := fun _ => False) b).own (h.2 k hk).1 (fun _ _ f => f), (h.2 k hk).2⟩⟩
theorem OwnsL.len {w : World} {base : Nat} {v : Value} {us : List Value} {Ls : List (List Int)} (h : OwnsL w base v us Ls) : us.length = Ls.length := by have := h.1.1; omega
/-- One more row behind them. -/
theorem OwnsL.more {w w' : World} {base : Nat} {v v' y : Value} {us : List Value} {Ls : List (List Int)} {L : List Int} (h : OwnsL w base v us Ls) (hy : w.ownsRow base 3 1 y L.length (vals L)) (h8 : L.length * 8 ≤ 140737488351232)
    (ho : w'.ownsRow base 44 1 v' (Ls.length + 1) (us ++ [y])) (e : Exc (fun k => v.ownBlock = some k) w w') : OwnsL w' base v' (us ++ [y]) (Ls ++ [L]) := by
  have hl := h.len
  refine ⟨by rw [List.length_append]; exact ho, fun k hk => ?_⟩
  rcases Nat.lt_or_ge k Ls.length with hk2 | hk2
  · have e1 : (Ls ++ [L]).getD k [] = Ls.getD k [] := by simp [List.getD_eq_getElem?_getD, List.getElem?_append_left hk2]
    have e2 : (us ++ [y]).getD k (.slice none 0 0) = us.getD k (.slice none 0 0) := by simp [List.getD_eq_getElem?_getD, List.getElem?_append_left (hl ▸ hk2)]
    rw [e1, e2]
    exact ⟨e.own (h.2 k hk2).1 (fun i h1 h2 => own_apart (h.2 k hk2).1 h.1 i h2 h1), (h.2 k hk2).2⟩
  · obtain rfl : k = Ls.length := by simp at hk; omega
    have e1 : (Ls ++ [L]).getD Ls.length [] = L := by simp [List.getD_eq_getElem?_getD]
    have e2 : (us ++ [y]).getD Ls.length (.slice none 0 0) = y := by rw [← hl]; simp [List.getD_eq_getElem?_getD]
    rw [e1, e2]
    exact ⟨e.own hy (fun i h1 h2 => own_apart hy h.1 i h2 h1), h8⟩

/-- Where a row of ints turns that is none of them. -/
theorem OwnsL.exc_int {w w' : World} {base C m : Nat} {v u : Value} {us ys : List Value} {Ls : List (List Int)} (h : OwnsL w base v us Ls) (hy : w.ownsRow C 3 1 u m ys) (e : Exc (fun k => u.ownBlock = some k) w w') (hd : ∀ k, k < Ls.length → ∀ i, (us.getD k (.slice none 0 0)).ownBlock = some i → u.ownBlock ≠ some i) : OwnsL w' base v us Ls :=
  ⟨e.own h.1 (fun i h1 h2 => own_apart hy h.1 i h1 h2), fun k hk => ⟨e.own (h.2 k hk).1 (fun i h1 h2 => hd k hk i h1 h2), (h.2 k hk).2⟩⟩

/-- Owned rows, as the calls take them. -/
theorem OwnsL.lls {w : World} {base : Nat} {v : Value} {us : List Value} {Ls : List (List Int)} (h : OwnsL w base v us Ls) : ∃ ao cap, v = .slice ao Ls.length cap ∧ (ao = none → cap = 0) ∧ Lls w ao Ls := by
  rcases h.1.2 with ⟨e, h0⟩ | ⟨g, cap, cur, e, hb, hg, hc, hm, hs, ht⟩
  · rw [List.length_eq_zero_iff] at h0
    subst h0
    exact ⟨none, 0, e, fun _ => rfl, lls_nil _ _⟩
  · refine ⟨some ⟨g, 0, none⟩, cap, e, fun q => (by cases q), fun k hk => ⟨_, rfl, ?_⟩⟩
    have ho := h.1
    rw [e] at ho
    have hl := h.len
    have hcell := ho.cellAt k (by omega)
    obtain ⟨h1, h2⟩ := h.2 k hk
    obtain ⟨bo, c, e1, _, _, _, hs1⟩ := owns_slc h1
    refine ⟨bo, c, ?_, h2, fun q => ?_, hs1⟩
    · rw [Addr.add_lit, Nat.zero_add, hcell, ← e1, List.getD_eq_getElem?_getD, List.getElem?_eq_getElem (by omega)]
      rfl
    · subst q
      rcases h1.2 with ⟨q1, _⟩ | ⟨_, _, _, q1, _⟩
      · rw [q1] at e1; injection e1 with _ _ e3; exact e3.symm
      · rw [q1] at e1; cases e1

end Go.Proofs.Ytpakcajdbibbbaa.Mod
