/-
  Rows of ints that a call appends to: a row copied by append, one more appended. No condition.
-/
import Derived.Test.YtpakcajdbibbbaaLOwn
import Derived.Test.YtpakcajdbibbbaaGExc
namespace Go.Proofs.Ytpakcajdbibbbaa.Mod
open Go.RowKit Go.Sort Go.Proofs.Ytpakcajdbibbbaa.Ints
set_option linter.unusedVariables false
set_option linter.unusedSimpArgs false

/-- What a call owns is new to what was there ahead of it. -/
theorem bel_then {a b c : World} (h : Bel a b) (k : Below a.heap.size b c) : Bel a c := Below.trans h k

/-- A row is copied. -/
theorem wpl_copy {ops : Array Oper} {rest : List Oper} {o : Oper} {a : Act} {Q : Exit → Act → World → Prop} (w : World) (hgd : o.guard = none) (s x : Operand)
    (ho : o.op = .call { callee := .builtin .append, args := #[s, x], argTypes := #[44, 44] }) (ao : Option Addr) (L : List Int) (n cap : Nat)
    (hs : a.eval s = .slice (some ⟨w.heap.size, 0, none⟩) 0 0) (hx : a.eval x = .slice ao n cap) (hn : n = L.length) (h8 : n * 8 ≤ 140737488351232) (hnil : ao = none → cap = 0) (hA : Slc w ao L)
    (k : ∀ v w1, w1.ownsRow w.heap.size 3 1 v n (vals L) → Bel w w1 → wpList Try.prog ops Q rest (a.put o.dst v) w1) :
    wpList Try.prog ops Q (o :: rest) a (w.alloc (.cells #[] 3)) := by
  obtain ⟨i0, hi, hz0, hz1, hz2⟩ := info_parts Ints.info_int
  have hown : (w.alloc (.cells #[] 3)).ownsRow w.heap.size 3 1 (.slice (some ⟨w.heap.size, 0, none⟩) 0 0) 0 (vals []) := World.ownsRow_made w #[] 0 (Nat.le_refl _) (by unfold maxLen; omega) (by simp)
  cases ao with
  | none =>
    obtain rfl := hnil rfl
    have h0 : n = 0 := by
      rcases Nat.eq_zero_or_pos n with h | h
      · exact h
      · obtain ⟨x, hx, _⟩ := hA 0 (by omega)
        cases hx
    subst h0
    obtain rfl : L = [] := List.eq_nil_of_length_eq_zero hn.symm
    exact wpList_append_own_none hgd s x 44 ho w.heap.size 3 i0 1 Try.underlying44 hi _ 0 _ hs hown hx (k _ _ hown ((Bel.refl _).alloc _))
  | some y =>
    refine wpList_append_own _ hgd s x 44 ho w.heap.size 3 i0 (.int .i64 0) 1 8 Try.underlying44 hi hz0 hz1 hz2 rfl (by decide) _ 0 _ hs hown y n cap (vals L) hx (by rw [vals_length, hn, Nat.mul_one]) ?_ (ints_oneCell _ _) (by unfold maxLen; omega) (by omega) (by simp) ?_
    · intro j u hu
      have hj : j < L.length := by have := (List.getElem?_eq_some_iff.1 hu).1; rwa [vals_length] at this
      rw [vals_get L j hj] at hu
      obtain ⟨z, hz, hc⟩ := hA j hj
      cases hz
      rw [((Bel.refl w).alloc _).keep hc, hu]
    · intro v' w1 ho1 hg _
      exact k v' w1 (by simpa [vals] using ho1) (Below.grown ((Bel.refl w).alloc _) hg (by simp) (fun k hk => by simp [Value.ownBlock] at hk; omega))

/-- One more is appended. -/
theorem wpl_more {ops : Array Oper} {rest : List Oper} {o : Oper} {a : Act} {Q : Exit → Act → World → Prop} (w : World) (hgd : o.guard = none) (s x : Operand)
    (ho : o.op = .call { callee := .builtin .append, args := #[s, x], argTypes := #[44, 44] }) (B n : Nat) (hB : B ≤ w.heap.size) (v : Value) (L : List Int) (y : Int) (hs : a.eval s = v) (hx : a.eval x = .slice (some ⟨w.heap.size, 0, none⟩) 1 1)
    (hown : w.ownsRow B 3 1 v n (vals L)) (h8 : n * 8 ≤ 140737488351232)
    (k : ∀ v' w1, w1.ownsRow B 3 1 v' (n + 1) (vals (L ++ [y])) → Below B w w1 → wpList Try.prog ops Q rest (a.put o.dst v') w1) :
    wpList Try.prog ops Q (o :: rest) a (w.alloc (.cells #[.int .i64 y] 3)) := by
  obtain ⟨i0, hi, hz0, hz1, hz2⟩ := info_parts Ints.info_int
  refine wpList_append_own _ hgd s x 44 ho B 3 i0 (.int .i64 0) 1 8 Try.underlying44 hi hz0 hz1 hz2 rfl (by decide) _ n _ hs (hown.alloc _) ⟨w.heap.size, 0, none⟩ 1 1 (vals [y]) hx rfl (one_cell _ _) (ints_oneCell _ _) (by unfold maxLen; omega) (by omega) (by simp; omega) ?_
  intro v' w1 ho1 hg _
  exact k v' w1 (by rw [vals_append]; exact ho1) (Below.grown (Below.alloc (Below.refl _ _) hB _) hg (by simp; omega) (fun k hk => (hown.lt k hk).1))

/-- The same: nothing but the row's own block has turned. -/
theorem wpl_more_exc {ops : Array Oper} {rest : List Oper} {o : Oper} {a : Act} {Q : Exit → Act → World → Prop} (w : World) (hgd : o.guard = none) (s x : Operand)
    (ho : o.op = .call { callee := .builtin .append, args := #[s, x], argTypes := #[44, 44] }) (B n : Nat) (hB : B ≤ w.heap.size) (v : Value) (L : List Int) (y : Int) (hs : a.eval s = v) (hx : a.eval x = .slice (some ⟨w.heap.size, 0, none⟩) 1 1)
    (hown : w.ownsRow B 3 1 v n (vals L)) (h8 : n * 8 ≤ 140737488351232)
    (k : ∀ v' w1, w1.ownsRow B 3 1 v' (n + 1) (vals (L ++ [y])) → Exc (fun k => v.ownBlock = some k) w w1 → wpList Try.prog ops Q rest (a.put o.dst v') w1) :
    wpList Try.prog ops Q (o :: rest) a (w.alloc (.cells #[.int .i64 y] 3)) := by
  obtain ⟨i0, hi, hz0, hz1, hz2⟩ := info_parts Ints.info_int
  refine wpList_append_own _ hgd s x 44 ho B 3 i0 (.int .i64 0) 1 8 Try.underlying44 hi hz0 hz1 hz2 rfl (by decide) _ n _ hs (hown.alloc _) ⟨w.heap.size, 0, none⟩ 1 1 (vals [y]) hx rfl (one_cell _ _) (ints_oneCell _ _) (by unfold maxLen; omega) (by omega) (by simp; omega) ?_
  intro v' w1 ho1 hg _
  exact k v' w1 (by rw [vals_append]; exact ho1) (Exc.grown ((Exc.refl _ w).alloc _) hg (fun k hk _ => hk))
theorem own_old {w : World} {B n : Nat} {v : Value} {xs : List Value} (h : w.ownsRow B 3 1 v n xs) {k : Nat} (e : v.ownBlock = some k) : B ≤ k ∧ k < w.heap.size := h.lt k e

end Go.Proofs.Ytpakcajdbibbbaa.Mod
