/-
  Rows of ints that a call makes, two at a time, by appending: they stay apart. No condition.
-/
import Derived.Test.YtlgknbcdmiecdaaDoorGApp
import Derived.Maps.AppendAt
namespace Go.Proofs.YtlgknbcdmiecdaaDoor.Mod
open Go.RowKit Go.Sort Go.Proofs.YtlgknbcdmiecdaaDoor.Ints
set_option linter.unusedVariables false
set_option linter.unusedSimpArgs false

/-- One more is appended: nothing but the row's own block has turned, and the row lies where it lay, or in a new block. -/
theorem wpl_more_at {ops : Array Oper} {rest : List Oper} {o : Oper} {a : Act} {Q : Exit → Act → World → Prop} (w : World) (hgd : o.guard = none) (s x : Operand)
    (ho : o.op = .call { callee := .builtin .append, args := #[s, x], argTypes := #[22, 22] }) (B n : Nat) (hB : B ≤ w.heap.size) (v : Value) (L : List Int) (y : Int) (hs : a.eval s = v) (hx : a.eval x = .slice (some ⟨w.heap.size, 0, none⟩) 1 1)
    (hown : w.ownsRow B 3 1 v n (vals L)) (h8 : n * 8 ≤ 140737488351232)
    (k : ∀ v' w1, w1.ownsRow B 3 1 v' (n + 1) (vals (L ++ [y])) → Exc (fun k => v.ownBlock = some k) w w1 → (∀ i, v'.ownBlock = some i → v.ownBlock = some i ∨ w.heap.size ≤ i) → wpList Tryd.prog ops Q rest (a.put o.dst v') w1) :
    wpList Tryd.prog ops Q (o :: rest) a (w.alloc (.cells #[.int .i64 y] 3)) := by
  obtain ⟨i0, hi, hz0, hz1, hz2⟩ := info_parts Ints.info_int
  refine wpList_append_own_at _ hgd s x 22 ho B 3 i0 (.int .i64 0) 1 8 Tryd.underlying22 hi hz0 hz1 hz2 rfl (by decide) _ n _ hs (hown.alloc _) ⟨w.heap.size, 0, none⟩ 1 1 (vals [y]) hx rfl (one_cell _ _) (ints_oneCell _ _) (by unfold maxLen; omega) (by omega) (by simp; omega) ?_
  intro v' w1 ho1 hg _ hl
  refine k v' w1 (by rw [vals_append]; exact ho1) (Exc.grown ((Exc.refl _ w).alloc _) hg (fun k hk _ => hk)) (fun i h1 => ?_)
  rcases hl with h | h
  · exact .inl (h ▸ h1)
  · rw [h1] at h
    injection h with h
    right
    simp at h
    omega

theorem min2_nat (x y k : Nat) (h : min x y = k) (ts : Array TypeId) (t : TypeId) (w : World) : (Builtin.min_ ts t #[.int .i64 (x : Int), .int .i64 (y : Int)]).run Tryd.prog w = .ok (.int .i64 (k : Int)) w := by
  rw [run_min_int2]
  have e : (if (y : Int) < (x : Int) then (y : Int) else (x : Int)) = (k : Int) := by split <;> omega
  rw [e]

/-- Where one of two rows that are apart has grown. -/
theorem apart_more {w : World} {B n : Nat} {u v v' : Value} {xs : List Value} (hu : w.ownsRow B 3 1 u n xs) (hd : ∀ i, u.ownBlock = some i → v.ownBlock ≠ some i)
    (hl : ∀ i, v'.ownBlock = some i → v.ownBlock = some i ∨ w.heap.size ≤ i) : ∀ i, u.ownBlock = some i → v'.ownBlock ≠ some i := fun i h1 h2 => by
  rcases hl i h2 with h | h
  · exact hd i h1 h
  · have := (own_old hu h1).2; omega
theorem apart_sym {u v : Value} (hd : ∀ i, u.ownBlock = some i → v.ownBlock ≠ some i) : ∀ i, v.ownBlock = some i → u.ownBlock ≠ some i := fun i h1 h2 => hd i h2 h1
/-- The other row stays. -/
theorem own_beside {w w' : World} {B n : Nat} {u v : Value} {xs : List Value} (h : w.ownsRow B 3 1 u n xs) (e : Exc (fun k => v.ownBlock = some k) w w') (hd : ∀ i, u.ownBlock = some i → v.ownBlock ≠ some i) : w'.ownsRow B 3 1 u n xs := by
  refine ⟨h.1, ?_⟩
  rcases h.2 with q | ⟨g, cap, cur, rfl, h2, h3, h4⟩
  · exact .inl q
  · exact .inr ⟨g, cap, cur, rfl, h2, by rw [e.block g (Array.getElem?_eq_some_iff.1 h3).1 (fun q => hd g (by simp [Value.ownBlock]) q)]; exact h3, h4⟩

end Go.Proofs.YtlgknbcdmiecdaaDoor.Mod
