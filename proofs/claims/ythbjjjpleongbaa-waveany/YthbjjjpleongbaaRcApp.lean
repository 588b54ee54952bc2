/-
  Rows of chunks that a call makes: one more chunk behind them; what they hold for others. No condition.
-/
import Derived.Test.YthbjjjpleongbaaRcRows
import Derived.OwnWalk
namespace Go.Proofs.Ythbjjjpleongbaa.Chk
open Go.RowKit Go.Sort Go.Proofs.Ythbjjjpleongbaa.Mod Go.Proofs.Ythbjjjpleongbaa.Num
set_option linter.unusedVariables false
set_option linter.unusedSimpArgs false

/-- A row of chunks that a call owns, in a block from B on. -/
abbrev OwnR (w : World) (B : Nat) (v : Value) (n : Nat) (Cs : List Ch) : Prop := w.ownsRow B 52 3 v n (cvs Cs)

theorem own_none (w : World) (B : Nat) : OwnR w B (.slice none 0 0) 0 [] := World.ownsRow_nil w B 52 3
theorem own_bel {w w' : World} {B n : Nat} {v : Value} {Cs : List Ch} (h : OwnR w B v n Cs) (b : Bel w w') : OwnR w' B v n Cs := by
  refine ⟨h.1, ?_⟩
  rcases h.2 with r | ⟨g, cap, cur, e1, e2, e3, e4⟩
  · exact .inl r
  · exact .inr ⟨g, cap, cur, e1, e2, by rw [b.block g (Array.getElem?_eq_some_iff.1 e3).1]; exact e3, e4⟩
theorem own_up {w : World} {B C n : Nat} {v : Value} {Cs : List Ch} (h : OwnR w C v n Cs) (hB : B ≤ C) : OwnR w B v n Cs := by
  refine ⟨h.1, ?_⟩
  rcases h.2 with q | ⟨g, cap, cur, e1, e2, e3⟩
  · exact .inl q
  · exact .inr ⟨g, cap, cur, e1, Nat.le_trans hB e2, e3⟩
theorem own_form {w : World} {B n : Nat} {v : Value} {Cs : List Ch} (h : OwnR w B v n Cs) : ∃ ao cap, v = .slice ao n cap := by
  rcases h.2 with ⟨rfl, rfl⟩ | ⟨g, cap, cur, rfl, _⟩
  · exact ⟨_, _, rfl⟩
  · exact ⟨_, _, rfl⟩
theorem own_len {w : World} {B n : Nat} {v : Value} {Cs : List Ch} (h : OwnR w B v n Cs) : n = Cs.length := by
  have := h.1
  rw [cvs_length] at this
  omega

theorem info_chunk : (Try.prog.info? 52).map (fun i => (i.zero, i.size, i.bytes)) = some (some (.agg #[.string ⟨#[]⟩, .int .i64 0, .int .i64 0]), 3, 32) := by kernel_rfl

theorem ccs_at (w : World) (c : Ch) : ∀ j u, (ccs c)[j]? = some u → (w.alloc (.cells #[.string (tx c.1), .int .i64 (c.2.1 : Int), .int .i64 (c.2.2 : Int)] 52)).cell? ((⟨w.heap.size, 0, none⟩ : Addr).add j) = some u := fun j u hu => by
  rw [Addr.add_lit, Nat.zero_add]
  have := cell_of_row (w.alloc (.cells #[.string (tx c.1), .int .i64 (c.2.1 : Int), .int .i64 (c.2.2 : Int)] 52)) w.heap.size j _ 52 (0, 0) (heap_alloc_new w _)
  rw [this]
  rw [← Array.getElem?_toList]
  exact hu
theorem ccs_one (c : Ch) : ∀ u ∈ ccs c, u.oneCell' = true := fun u hu => by
  unfold ccs at hu
  simp only [List.mem_cons, List.not_mem_nil, or_false] at hu
  rcases hu with rfl | rfl | rfl <;> rfl
theorem cvs_one (c : Ch) : cvs [c] = ccs c := by simp [cvs]

/-- One more chunk is appended. -/
theorem wpl_moreC {ops : Array Oper} {rest : List Oper} {o : Oper} {a : Act} {Q : Exit → Act → World → Prop} (w : World) (hgd : o.guard = none) (s x : Operand)
    (ho : o.op = .call { callee := .builtin .append, args := #[s, x], argTypes := #[44, 44] }) (B n : Nat) (hB : B ≤ w.heap.size) (v : Value) (Cs : List Ch) (l : List UInt8) (q m : Nat) (t : ByteArray) (ht : t = tx l) (hs : a.eval s = v) (hx : a.eval x = .slice (some ⟨w.heap.size, 0, none⟩) 1 1)
    (hown : OwnR w B v n Cs) (h8 : n ≤ 4096)
    (k : ∀ v' w1, OwnR w1 B v' (n + 1) (Cs ++ [(l, q, m)]) → Exc (fun k => v.ownBlock = some k) w w1 → wpList Try.prog ops Q rest (a.put o.dst v') w1) :
    wpList Try.prog ops Q (o :: rest) a (w.alloc (.cells #[.string t, .int .i64 (q : Int), .int .i64 (m : Int)] 52)) := by
  subst ht
  obtain ⟨i0, hi, hz0, hz1, hz2⟩ := info_parts info_chunk
  refine wpList_append_own _ hgd s x 44 ho B 52 i0 (.agg #[.string ⟨#[]⟩, .int .i64 0, .int .i64 0]) 3 32 Try.underlying44 hi hz0 hz1 hz2 rfl (by decide) _ n _ hs (hown.alloc _) ⟨w.heap.size, 0, none⟩ 1 1 (ccs (l, q, m)) hx rfl (ccs_at w (l, q, m)) (ccs_one _) (by unfold maxLen; omega) (by omega) (by simp; omega) ?_
  intro v' w1 ho1 hg _
  refine k v' w1 ?_ (Exc.grown ((Exc.refl _ w).alloc _) hg (fun k hk _ => hk))
  unfold OwnR
  rw [cvs_append, cvs_one]
  exact ho1

/-- Chunks in a block of a call's own, between lo and hi. -/
def OwnC (w : World) (lo hi : Nat) (v : Value) (Cs : List Ch) : Prop :=
  ∃ ao cap, v = .slice ao Cs.length cap ∧ Slk w ao Cs ∧ (0 < Cs.length → ∃ g, ao = some ⟨g, 0, none⟩ ∧ lo ≤ g ∧ g < hi ∧ ∀ k, w.frozen? ⟨g, k, none⟩ = false)

theorem own_c {w : World} {B n : Nat} {v : Value} {Cs : List Ch} (h : OwnR w B v n Cs) : OwnC w B w.heap.size v Cs := by
  have hl := own_len h
  subst hl
  rcases h.2 with ⟨e, h0⟩ | ⟨g, cap, cur, e, hb, hg, hc, hm, hs, ht⟩
  · rw [h0] at h
    obtain rfl : Cs = [] := List.length_eq_zero_iff.1 h0
    exact ⟨none, 0, e, slk_nil _ _, fun h => absurd h (by simp)⟩
  · have ho := h
    rw [e] at ho
    refine ⟨some ⟨g, 0, none⟩, cap, e, fun k hk => ⟨g, rfl, ?_⟩, fun _ => ⟨g, rfl, hb, (Array.getElem?_eq_some_iff.1 hg).1, fun k => ho.frozenAt k⟩⟩
    obtain ⟨q0, q1, q2⟩ := cvs_get Cs k hk
    exact ⟨by rw [ho.cellAt _ (by omega)]; exact q0, by rw [ho.cellAt _ (by omega)]; exact q1, by rw [ho.cellAt _ (by omega)]; exact q2⟩
theorem OwnC.bel {w w' : World} {lo hi : Nat} {v : Value} {Cs : List Ch} (h : OwnC w lo hi v Cs) (b : Bel w w') : OwnC w' lo hi v Cs := by
  obtain ⟨ao, cap, e, hs, hf⟩ := h
  refine ⟨ao, cap, e, hs.bel b, fun h0 => ?_⟩
  obtain ⟨g, e1, h1, h2, h3⟩ := hf h0
  obtain ⟨g', e2, c0, _⟩ := hs 0 h0
  rw [e1] at e2
  injection e2 with e2
  injection e2 with e2 _ _
  subst e2
  exact ⟨g, e1, h1, h2, fun k => by rw [b.frozen (p := ⟨g, k, none⟩) (by have := block_lt_of_cell c0; exact this)]; exact h3 k⟩
theorem OwnC.wide {w : World} {lo hi lo' hi' : Nat} {v : Value} {Cs : List Ch} (h : OwnC w lo hi v Cs) (h1 : lo' ≤ lo) (h2 : hi ≤ hi') : OwnC w lo' hi' v Cs := by
  obtain ⟨ao, cap, e, hs, hf⟩ := h
  exact ⟨ao, cap, e, hs, fun h0 => by obtain ⟨g, e1, q1, q2, q3⟩ := hf h0; exact ⟨g, e1, by omega, by omega, q3⟩⟩

end Go.Proofs.Ythbjjjpleongbaa.Chk
