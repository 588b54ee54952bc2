/-
  Rows of rows of ints in memory: what a slice of slices holds, what stays behind a call. No condition.
-/
import Derived.Test.YtpakcajdbibbbaaGExc
namespace Go.Proofs.Ytpakcajdbibbbaa.Mod
open Go.RowKit
set_option linter.unusedVariables false

/-- A slice of slices at ao holds the rows Ls, wherever they lie; each is within the reach. -/
def Lls (w : World) (ao : Option Addr) (Ls : List (List Int)) : Prop :=
  ∀ k, k < Ls.length → ∃ x, ao = some x ∧ ∃ bo cap, w.cell? (x.add k) = some (.slice bo (Ls.getD k []).length cap) ∧ (Ls.getD k []).length * 8 ≤ 140737488351232 ∧ (bo = none → cap = 0) ∧ Slc w bo (Ls.getD k [])

theorem lls_nil (w : World) (ao : Option Addr) : Lls w ao [] := fun k hk => absurd hk (by simp)
theorem Lls.bel {w w' : World} {ao : Option Addr} {Ls : List (List Int)} (h : Lls w ao Ls) (b : Bel w w') : Lls w' ao Ls := fun k hk => by
  obtain ⟨x, hx, bo, cap, h1, h2, h3, h4⟩ := h k hk
  exact ⟨x, hx, bo, cap, b.keep h1, h2, h3, h4.bel b⟩
theorem Lls.drewN {w : World} {ao : Option Addr} {Ls : List (List Int)} (h : Lls w ao Ls) (n : Nat) : Lls (w.drewN n) ao Ls := h

theorem lls_1 {w : World} {a : Addr} {bo : Option Addr} {c n : Nat} {A : List Int} (h : w.cell? (a.add 0) = some (.slice bo n c)) (hn : n = A.length) (h8 : n * 8 ≤ 140737488351232) (h0 : bo = none → c = 0) (hs : Slc w bo A) : Lls w (some a) [A] := fun k hk => by
  obtain rfl : k = 0 := by simp at hk; omega
  subst hn
  exact ⟨a, rfl, bo, c, h, h8, h0, hs⟩
theorem lls_2 {w : World} {a : Addr} {bo eo : Option Addr} {c d n m : Nat} {A B : List Int} (h : w.cell? (a.add 0) = some (.slice bo n c)) (hn : n = A.length) (h8 : n * 8 ≤ 140737488351232) (h0 : bo = none → c = 0) (hs : Slc w bo A)
    (k : w.cell? (a.add 1) = some (.slice eo m d)) (km : m = B.length) (k8 : m * 8 ≤ 140737488351232) (k0 : eo = none → d = 0) (ks : Slc w eo B) : Lls w (some a) [A, B] := fun i hi => by
  subst hn
  subst km
  match i, hi with
  | 0, _ => exact ⟨a, rfl, bo, c, h, h8, h0, hs⟩
  | 1, _ => exact ⟨a, rfl, eo, d, k, k8, k0, ks⟩
  | i + 2, hi => exact absurd hi (by simp)

end Go.Proofs.Ytpakcajdbibbbaa.Mod
