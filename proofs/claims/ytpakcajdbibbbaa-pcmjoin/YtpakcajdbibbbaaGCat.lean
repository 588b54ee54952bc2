/-
  A row of ints appended to a row that a call owns. No condition.
-/
import Derived.Test.YtpakcajdbibbbaaGApp
namespace Go.Proofs.Ytpakcajdbibbbaa.Mod
open Go.RowKit Go.Sort Go.Proofs.Ytpakcajdbibbbaa.Ints
set_option linter.unusedVariables false
set_option linter.unusedSimpArgs false

theorem wpl_cat {ops : Array Oper} {rest : List Oper} {o : Oper} {a : Act} {Q : Exit → Act → World → Prop} (w : World) (hgd : o.guard = none) (s x : Operand)
    (ho : o.op = .call { callee := .builtin .append, args := #[s, x], argTypes := #[44, 44] }) (B m : Nat) (hB : B ≤ w.heap.size) (v : Value) (M : List Int) (ao : Option Addr) (L : List Int) (n cap : Nat)
    (hs : a.eval s = v) (hown : w.ownsRow B 3 1 v m (vals M)) (hx : a.eval x = .slice ao n cap) (hn : n = L.length) (h8 : (m + n) * 8 ≤ 140737488351232) (hnil : ao = none → cap = 0) (hA : Slc w ao L)
    (k : ∀ v' w1, w1.ownsRow B 3 1 v' (m + n) (vals (M ++ L)) → Below B w w1 → wpList Try.prog ops Q rest (a.put o.dst v') w1) :
    wpList Try.prog ops Q (o :: rest) a w := by
  obtain ⟨i0, hi, hz0, hz1, hz2⟩ := info_parts Ints.info_int
  cases ao with
  | none =>
    obtain rfl := hnil rfl
    have h0 : n = 0 := by
      rcases Nat.eq_zero_or_pos n with h | h
      · exact h
      · obtain ⟨x, hx, _⟩ := hA 0 (by omega)
        cases hx
    subst h0
    obtain rfl : L = [] := List.eq_nil_of_length_eq_zero hn.symm
    exact wpList_append_own_none hgd s x 44 ho B 3 i0 1 Try.underlying44 hi _ m _ hs hown hx (k _ _ (by simpa using hown) (Below.refl _ _))
  | some y =>
    refine wpList_append_own _ hgd s x 44 ho B 3 i0 (.int .i64 0) 1 8 Try.underlying44 hi hz0 hz1 hz2 rfl (by decide) _ m _ hs hown y n cap (vals L) hx (by rw [vals_length, hn, Nat.mul_one]) ?_ (ints_oneCell _ _) (by unfold maxLen; omega) (by omega) hB ?_
    · intro j u hu
      have hj : j < L.length := by have := (List.getElem?_eq_some_iff.1 hu).1; rwa [vals_length] at this
      rw [vals_get L j hj] at hu
      obtain ⟨z, hz, hc⟩ := hA j hj
      cases hz
      rw [hc, hu]
    · intro v' w1 ho1 hg _
      exact k v' w1 (by rw [vals_append]; exact ho1) (Below.grown (Below.refl _ _) hg hB (fun k hk => (hown.lt k hk).1))

end Go.Proofs.Ytpakcajdbibbbaa.Mod
