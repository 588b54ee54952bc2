/-
  Ints as a value: parts of it that are filled, two of them that are held against each other. No condition.
-/
import Derived.Test.YtpakcajdbibbbaaGPut
import Derived.Test.YtpakcajdbibbbaaRows
import Derived.ChangeKeysEq
namespace Go.Proofs.Ytpakcajdbibbbaa.Mod
open Go.RowKit Go.Sort
set_option linter.unusedVariables false
set_option linter.unusedSimpArgs false

/-- Ints as a value. -/
abbrev mdl (L : List Int) : Value := .agg (vals L).toArray

theorem size_vals (L : List Int) : (vals L).toArray.size = L.length := by rw [List.size_toArray, vals_length]

theorem fold_put : ∀ (X L : List Int) (off k : Nat), ((vals X).zipIdx k).foldl (fun (cs : Array Value) (p : Value × Nat) => cs.setIfInBounds (off + p.2) p.1) (vals L).toArray = (vals (put L (off + k) X)).toArray
  | [], _, _, _ => rfl
  | x :: r, L, off, k => by
    have e : (vals L).toArray.setIfInBounds (off + k) (.int .i64 x) = (vals (L.set (off + k) x)).toArray := by simp [vals, List.map_set]
    have := fold_put r (L.set (off + k) x) off (k + 1)
    simp only [vals, List.map_cons, List.zipIdx_cons, List.foldl_cons] at this e ⊢
    rw [e, this]
    rfl

theorem fold_put0 (X L : List Int) (off : Nat) : (vals X).toArray.zipIdx.foldl (fun (cs : Array Value) (x : Value × Nat) => match x with | (c, j) => cs.setIfInBounds (off + j) c) (vals L).toArray = (vals (put L off X)).toArray := by
  have h := fold_put X L off 0
  rw [Nat.add_zero] at h
  rw [← h, ← Array.foldl_toList]
  simp

theorem put_mid : ∀ (M P Q R : List Int), Q.length = M.length → put (P ++ Q ++ R) P.length M = P ++ M ++ R
  | [], P, Q, R, h => by
    have : Q = [] := List.length_eq_zero_iff.1 h
    subst this
    rfl
  | x :: r, P, q :: Q, R, h => by
    have e : (P ++ q :: Q ++ R).set P.length x = (P ++ [x]) ++ Q ++ R := by simp
    rw [put, e]
    have := put_mid r (P ++ [x]) Q R (by simpa using h)
    rw [List.length_append] at this
    simp only [List.length_cons, List.length_nil, Nat.zero_add] at this
    rw [this]
    simp

theorem fill_one {place : Nat → Option (Nat × Nat)} {L X : List Int} {i off size : Nat} {rest : List (Nat × Value)} (hp : place i = some (off, size)) (hs : X.length = size) (ho : off + size ≤ L.length) :
    Instr.fill place (vals L).toArray ((i, mdl X) :: rest) = Instr.fill place (vals (put L off X)).toArray rest := by
  have h1 : ((mdl X).cells.size ≠ size || off + (mdl X).cells.size > (vals L).toArray.size) = false := by
    have e : (mdl X).cells.size = size := (size_vals X).trans hs
    rw [e, size_vals L]
    simp; omega
  rw [Instr.fill, hp]
  show (if ((mdl X).cells.size ≠ size || off + (mdl X).cells.size > (vals L).toArray.size) = true then none else Instr.fill place ((vals X).toArray.zipIdx.foldl _ (vals L).toArray) rest) = _
  rw [h1, if_neg (by decide), fold_put0]

theorem eqItems_all {d n : Nat} {e : TypeId} {xs ys : Array Value} (w : World) (f g : Nat → Value) (r : Nat → Bool) : ∀ (is : List Nat),
    (∀ i ∈ is, (part e xs (i * n)).run Try.prog w = .ok (f i) w ∧ (part e ys (i * n)).run Try.prog w = .ok (g i) w ∧ (Op.equalIn d e (f i) (g i)).run Try.prog w = .ok (r i) w) →
    (Op.eqItems d e n xs ys is).run Try.prog w = .ok (is.all r) w
  | [], _ => by simp [Op.eqItems]
  | i :: is, h => by
    obtain ⟨h1, h2, h3⟩ := h i (by simp)
    have ih := eqItems_all w f g r is (fun j hj => h j (by simp [hj]))
    simp only [Op.eqItems, Sem.run_bind, h1, h2, h3, Result.andThen_ok, List.all_cons]
    cases r i
    · simp
    · simpa using ih

theorem part_int (L : List Int) (k : Nat) (hk : k < L.length) (w : World) : (part 3 (vals L).toArray k).run Try.prog w = .ok (.int .i64 (L.getD k 0)) w :=
  run_part_plain w (by kernel_rfl) (by simpa using vals_get L k hk)

set_option maxRecDepth 20000 in
/-- A row of ints against another. -/
theorem eq_row (t : TypeId) (n d : Nat) (hu : Try.prog.underlying t = some (.array n 3)) (L M : List Int) (hL : L.length = n) (hM : M.length = n) (w : World) :
    (Op.equalIn (d + 2) t (mdl L) (mdl M)).run Try.prog w = .ok (decide (L = M)) w := by
  rw [run_equalIn_array (i := Try.prog.types[3]!) w (d + 1) _ _ hu (by kernel_rfl)]
  have hc : Try.prog.cellsOf 3 = 1 := by kernel_rfl
  rw [hc]
  rw [eqItems_all w (fun i => .int .i64 (L.getD i 0)) (fun i => .int .i64 (M.getD i 0)) (fun i => L.getD i 0 == M.getD i 0)]
  · congr 1
    by_cases e : L = M
    · subst e; simp
    · rw [decide_eq_false e]
      rw [List.all_eq_false]
      refine Classical.byContradiction fun hn => e ?_
      refine List.ext_getElem (by omega) fun k h1 h2 => ?_
      have hk : k ∈ List.range n := by simp; omega
      have h3 : (L.getD k 0 == M.getD k 0) = true := Classical.byContradiction fun q => hn ⟨k, hk, q⟩
      have h4 := eq_of_beq h3
      rw [List.getD_eq_getElem?_getD, List.getD_eq_getElem?_getD, List.getElem?_eq_getElem h1, List.getElem?_eq_getElem h2] at h4
      exact h4
  · intro i hi
    have hi' : i < n := by simpa using hi
    rw [Nat.mul_one]
    exact ⟨part_int L i (by omega) w, part_int M i (by omega) w, run_equalIn_int w d 3 .i64 .i64 _ _ Try.underlying3⟩

theorem part_row (t : TypeId) (n : Nat) (ha : ∀ w, (isAgg t).run Try.prog w = .ok true w) (hs : ∀ w, (sizeOf t).run Try.prog w = .ok n w) (L : List Int) (k : Nat) (w : World) :
    (part t (vals L).toArray k).run Try.prog w = .ok (mdl ((L.drop k).take n)) w := by
  unfold part
  simp only [Sem.run_bind, ha, hs, Result.andThen_ok, if_true]
  simp [vals, List.map_drop, List.map_take, List.extract_eq_take_drop]

end Go.Proofs.Ytpakcajdbibbbaa.Mod
