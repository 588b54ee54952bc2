/-
  The contract of the statements' own Num; rows of ints that a call makes by appending one after the other; short rows by their cells. No condition.
-/
import Derived.Test.YtpakcajdbibbbaaLInts
namespace Go.Proofs.Ytpakcajdbibbbaa.Ints
open Go.RowKit Go.Proofs.Ytpakcajdbibbbaa.Mod Go.Proofs.Ytpakcajdbibbbaa.Num
set_option linter.unusedVariables false

theorem num_ok (n : Int) (w : World) :
    Calls Try.prog 13 #[.int .i64 n] w fun e w' => e = .returned (.int .i64 n) ∧ w' = w := by
  go_enter Try.func13, Try.ntmps13
  go_wp2
  go_ret
  exact ⟨rfl, rfl⟩

theorem one_cell (w : World) (x : Int) : ∀ j u, (vals [x])[j]? = some u → (w.alloc (.cells #[.int .i64 x] 3)).cell? ((⟨w.heap.size, 0, none⟩ : Addr).add j) = some u := fun j u hu => by
  have hj : j < [x].length := by have := (List.getElem?_eq_some_iff.1 hu).1; rwa [vals_length] at this
  rw [vals_get _ j hj] at hu
  rw [Addr.add_lit, Nat.zero_add, ← hu]
  exact (holds_new w [x] 3).cell j hj

theorem and_one (n : Int) : bits .and .i64 n 1 = n % 2 := and_mask 1 1 (by decide) (by decide) n

/-- What is made by appending one. -/
theorem owns_more {B : Nat} {w wr w1 : World} {v v' : Value} {k : Nat} {L : List Int} {x : Int} (ho : wr.ownsRow B 3 1 v k (vals L)) (hB : w.heap.size ≤ B) (hb : Bel w wr)
    (h1 : w1.ownsRow B 3 1 v' (k + 1) (vals L ++ vals [x])) (hg : (wr.alloc (.cells #[.int .i64 x] 3)).grownBy w1 v.ownBlock) :
    w1.ownsRow B 3 1 v' (k + 1) (vals (L ++ [x])) ∧ Bel w w1 :=
  ⟨by rw [vals_append]; exact h1, Below.grown (hb.alloc _) hg (by have := hb.size; simp; omega) (fun k hk => Nat.le_trans hB (ho.lt k hk).1)⟩

theorem rep_snoc (j : Nat) (x : Int) : List.replicate j x ++ [x] = List.replicate (j + 1) x := by
  rw [List.replicate_succ']

theorem size_ok {w wr : World} (hb : Bel w wr) (o : Obj) : w.heap.size ≤ (wr.alloc o).heap.size := by have := hb.size; simp; omega

theorem slc_1 {w : World} {a : Addr} {x : Int} (h : w.cell? (a.add 0) = some (.int .i64 x)) : Slc w (some a) [x] := fun k hk => ⟨_, rfl, by
  obtain rfl : k = 0 := by simp at hk; omega
  simpa using h⟩
theorem slc_2 {w : World} {a : Addr} {x y : Int} (h : w.cell? (a.add 0) = some (.int .i64 x)) (h1 : w.cell? (a.add 1) = some (.int .i64 y)) : Slc w (some a) [x, y] := fun k hk => ⟨_, rfl, by
  match k, hk with
  | 0, _ => simpa using h
  | 1, _ => simpa using h1
  | k + 2, hk => exact absurd hk (by simp)⟩
theorem slc_3 {w : World} {a : Addr} {x y z : Int} (h : w.cell? (a.add 0) = some (.int .i64 x)) (h1 : w.cell? (a.add 1) = some (.int .i64 y)) (h2 : w.cell? (a.add 2) = some (.int .i64 z)) : Slc w (some a) [x, y, z] := fun k hk => ⟨_, rfl, by
  match k, hk with
  | 0, _ => simpa using h
  | 1, _ => simpa using h1
  | 2, _ => simpa using h2
  | k + 3, hk => exact absurd hk (by simp)⟩
theorem slc_4 {w : World} {a : Addr} {x y z t : Int} (h : w.cell? (a.add 0) = some (.int .i64 x)) (h1 : w.cell? (a.add 1) = some (.int .i64 y)) (h2 : w.cell? (a.add 2) = some (.int .i64 z)) (h3 : w.cell? (a.add 3) = some (.int .i64 t)) : Slc w (some a) [x, y, z, t] := fun k hk => ⟨_, rfl, by
  match k, hk with
  | 0, _ => simpa using h
  | 1, _ => simpa using h1
  | 2, _ => simpa using h2
  | 3, _ => simpa using h3
  | k + 4, hk => exact absurd hk (by simp)⟩

/-- An owned row, be it nil, as the calls take it. -/
theorem owns_slc {w : World} {base n : Nat} {v : Value} {L : List Int} (h : w.ownsRow base 3 1 v n (vals L)) :
    ∃ (ao : Option Addr) (cap : Nat), v = .slice ao n cap ∧ n ≤ cap ∧ cap ≤ maxLen ∧ n = L.length ∧ Slc w ao L := by
  have hL : n = L.length := by have := h.1; rw [vals_length] at this; omega
  rcases h.2 with ⟨e, h0⟩ | ⟨g, cap, cur, rfl, hb, hg, hc, hm, _, _⟩
  · subst e h0
    obtain rfl : L = [] := List.eq_nil_of_length_eq_zero hL.symm
    exact ⟨none, 0, rfl, Nat.le_refl _, Nat.zero_le _, rfl, slc_nil _ _⟩
  · refine ⟨some ⟨g, 0, none⟩, cap, rfl, hc, hm, hL, fun k hk => ⟨_, rfl, ?_⟩⟩
    rw [Addr.add_lit, Nat.zero_add, h.cellAt k (by omega)]
    exact vals_get L k hk

/-- It stays owned behind a call. -/
theorem owns_bel {w w' : World} {base n : Nat} {v : Value} {xs : List Value} (h : w.ownsRow base 3 1 v n xs) (b : Bel w w') : w'.ownsRow base 3 1 v n xs := by
  refine ⟨h.1, ?_⟩
  rcases h.2 with q | ⟨g, cap, cur, h1, h2, h3, h4⟩
  · exact .inl q
  · exact .inr ⟨g, cap, cur, h1, h2, by rw [b.block g (Array.getElem?_eq_some_iff.1 h3).1]; exact h3, h4⟩

/-- A row as the frame hands it. -/
theorem of_row {w : World} {a : Option Addr} {len cap : Nat} {zs : List Int}
    (h : (a = none ∧ len = 0 ∧ cap = 0 ∧ zs = []) ∨ ∃ x, a = some x ∧ len ≤ cap ∧ cap ≤ maxLen ∧ zs.length = cap ∧ (∀ i, i < zs.length → w.cell? (x.add i) = some (.int .i64 (zs.getD i 0))) ∧ ∀ n ∈ zs, (Lit.int .i64 n).wf = true) :
    len = (zs.take len).length ∧ len ≤ cap ∧ cap ≤ maxLen ∧ (a = none → cap = 0) ∧ Slc w a (zs.take len) := by
  rcases h with ⟨rfl, rfl, rfl, rfl⟩ | ⟨x, rfl, h1, h2, h3, h4, h5⟩
  · exact ⟨rfl, Nat.le_refl _, Nat.zero_le _, fun _ => rfl, slc_nil _ _⟩
  · refine ⟨by simp; omega, h1, h2, fun q => absurd q (by simp), ?_⟩
    have : Slc w (some x) zs := fun k hk => ⟨x, rfl, h4 k hk⟩
    exact this.take len

end Go.Proofs.Ytpakcajdbibbbaa.Ints
