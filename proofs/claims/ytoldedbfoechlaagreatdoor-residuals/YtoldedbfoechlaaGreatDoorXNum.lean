/-
  Plain facts on contexts: how bits are told, which may be asked, the three numbers of P12.1. No condition.
-/
import Derived.Test.YtoldedbfoechlaaGreatDoorGNum
namespace Go.Proofs.YtoldedbfoechlaaGreatDoor.Ctx
open Go.RowKit Go.Proofs.YtoldedbfoechlaaGreatDoor.Mod Go.Proofs.YtoldedbfoechlaaGreatDoor.Gam
set_option linter.unusedVariables false

/-- Each is 0 or 1. -/
def Bits01 (L : List Int) : Prop := ∀ k, k < L.length → L.getD k 0 = 0 ∨ L.getD k 0 = 1
/-- What may be asked. -/
def May (b : Int) (L : List Int) : Prop := 0 ≤ b ∧ b ≤ 63 ∧ L.length ≤ 63 ∧ Bits01 L

def upto31 (x : Int) : Int := if x ≤ 31 then x else 31
def oneB (r : Bool) : Int := if r then 1 else 0
/-- Has it a 0? -/
def has0 (L : List Int) : Bool := decide (ones L < L.length)
/-- Is its last one 1? -/
def last1 (L : List Int) : Bool := decide (0 < L.length ∧ L.getD (L.length - 1) 0 = 1)
def c0 (L : List Int) : Int := upto31 (ones L) + 32 * oneB (has0 L)
def c1 (b : Int) (L : List Int) : Int := 2 * upto31 b + oneB (has0 L)
def c2 (L : List Int) : Int := upto31 L.length + 32 * oneB (last1 L)
/-- The answer where it may be asked. -/
abbrev ctxV (b : Int) (L : List Int) : Value := .agg #[.int .i64 (c0 L), .int .i64 (c1 b L), .int .i64 (c2 L)]

theorem upto31_range (x : Int) (h : 0 ≤ x) : 0 ≤ upto31 x ∧ upto31 x ≤ 31 := by unfold upto31; split <;> omega
theorem oneB_range (r : Bool) : 0 ≤ oneB r ∧ oneB r ≤ 1 := by cases r <;> decide

/-- The first that is 0, of bits. -/
theorem first0 {L : List Int} (h : Bits01 L) (k : Nat) (hk : k < L.length) (h0 : L.getD k 0 = 0) (h1 : ∀ i, i < k → L.getD i 0 ≠ 0) : ones L = k :=
  ones_is L k (by omega) (fun i hi => (h i (by omega)).resolve_left (h1 i hi)) (.inr (by omega))
theorem no0 {L : List Int} (h : Bits01 L) (h1 : ∀ i, i < L.length → L.getD i 0 ≠ 0) : ones L = L.length :=
  ones_is L _ (Nat.le_refl _) (fun i hi => (h i hi).resolve_left (h1 i hi)) (.inl rfl)

theorem bits_nil : Bits01 [] := fun k hk => absurd hk (by simp)
theorem bits_snoc {L : List Int} (h : Bits01 L) {x : Int} (hx : x = 0 ∨ x = 1) : Bits01 (L ++ [x]) := fun k hk => by
  rcases Nat.lt_or_ge k L.length with q | q
  · rw [List.getD_eq_getElem?_getD, List.getElem?_append_left q, ← List.getD_eq_getElem?_getD]
    exact h k q
  · obtain rfl : k = L.length := by simp at hk; omega
    simpa [List.getD_eq_getElem?_getD] using hx
theorem bits_rep (k : Nat) (x : Int) (hx : x = 0 ∨ x = 1) : Bits01 (List.replicate k x) := fun i hi => by
  have : i < k := by simpa using hi
  simpa [List.getD_eq_getElem?_getD, this] using hx

end Go.Proofs.YtoldedbfoechlaaGreatDoor.Ctx
