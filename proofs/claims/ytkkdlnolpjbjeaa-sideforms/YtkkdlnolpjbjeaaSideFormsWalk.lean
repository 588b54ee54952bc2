/-
  SideForms, walked: it answers true for every two ints. No condition.
-/
import Derived.Test.YtkkdlnolpjbjeaaSdAwake
import Derived.Test.YtkkdlnolpjbjeaaGPlace
import Derived.Deep.CutRange
import Derived.Test.YtkkdlnolpjbjeaaGHdr
namespace Go.Proofs.Ytkkdlnolpjbjeaa.Sid
open Go.RowKit Go.Sort Go.Proofs.Ytkkdlnolpjbjeaa.Mod Go.Proofs.Ytkkdlnolpjbjeaa.Lin Go.Proofs.Ytkkdlnolpjbjeaa.Ints Go.Proofs.Ytkkdlnolpjbjeaa.Num
set_option linter.unusedVariables false
set_option linter.unusedSimpArgs false

theorem and_10 (n : Int) : bits .and .i64 n 1023 = n % 1024 := and_mask 10 1023 (by decide) (by decide) n
theorem okRow_1 (x : Int) : okRow [x] = !passed 131072 x := by
  unfold okRow anyOf
  simp
theorem no_far (s x : Int) (h : 131072 < x ∨ x < -131072) (Ls : List (List Int)) (hL : Ls = [[x]] ∨ Ls = [[1], [x]]) : errS s Ls = 1700 ∧ ansS s Ls = [] := by
  have p : okRow [x] = false := by
    rw [okRow_1]
    unfold passed
    rw [decide_eq_true (by omega)]; rfl
  have c : chsMay Ls = false := by
    rcases hL with rfl | rfl
    · rw [chsMay_1, p]
    · rw [chsMay_2, p]; simp
  have o : okS s Ls = false := by unfold okS; rw [c]; rfl
  exact (ansS_no o).symm
theorem no_told (s x y : Int) (h : 131072 < y + s * x ∨ y + s * x < -131072) : errS s [[x], [y]] = 1700 ∧ ansS s [[x], [y]] = [] := by
  have p : okRow [y + s * x] = false := by
    rw [okRow_1]
    unfold passed
    rw [decide_eq_true (by omega)]; rfl
  have c : chsMay (told s [[x], [y]]) = false := by
    show chsMay [[x], [y + s * x]] = false
    rw [chsMay_2, p]; simp
  have o : okS s [[x], [y]] = false := by unfold okS; rw [c, Bool.and_false]
  exact (ansS_no o).symm

/-- Three rows, written out. -/
theorem lls_of {w : World} {a : Addr} {Ls : List (List Int)} (h : ∀ k, k < Ls.length → ∃ bo cap, w.cell? (a.add k) = some (.slice bo (Ls.getD k []).length cap) ∧ (Ls.getD k []).length * 8 ≤ 140737488351232 ∧ (bo = none → cap = 0) ∧ Slc w bo (Ls.getD k [])) : Lls w (some a) Ls := fun k hk => ⟨a, rfl, h k hk⟩


/-- Which channels there are that may not be. -/
def Bad (Ls : List (List Int)) : Prop := (errS (-1) Ls = 1700 ∧ ansS (-1) Ls = []) ∧ errS 1 Ls = 1700 ∧ ansS 1 Ls = []
def Badly (w W : World) (g K : Nat) : Prop := ∃ bo n c Ls, W.cell? ⟨g, K, none⟩ = some (.slice bo n c) ∧ n = Ls.length ∧ n ≤ 3 ∧ Lls W bo Ls ∧ Bad Ls

set_option maxHeartbeats 1000000 in
theorem bad_0 (w : World) (d : Int) (h1 : 1 ≤ d) : Badly w (((((((((((((((w.alloc (.cells #[.int .i64 1] 3)).alloc (.cells #[.int .i64 2] 3)).alloc (.cells #[.int .i64 3] 3)).alloc (.cells #[.slice (some ⟨w.heap.size, 0, none⟩) 1 1, .slice (some ⟨w.heap.size + 1, 0, none⟩) 1 1, .slice (some ⟨w.heap.size + 1 + 1, 0, none⟩) 1 1] 34)).alloc (.cells #[.int .i64 1] 3)).alloc (.cells #[.int .i64 2, .int .i64 3] 3)).alloc (.cells #[.slice (some ⟨w.heap.size + 1 + 1 + 1 + 1, 0, none⟩) 1 1, .slice (some ⟨w.heap.size + 1 + 1 + 1 + 1 + 1, 0, none⟩) 2 2] 34)).alloc (.cells #[.int .i64 1] 3)).alloc (.cells #[.slice (some ⟨w.heap.size + 1 + 1 + 1 + 1 + 1 + 1 + 1, 0, none⟩) 1 1, .slice none 0 0] 34)).alloc (.cells #[.int .i64 (131072 + d)] 3)).alloc (.cells #[.slice (some ⟨w.heap.size + 1 + 1 + 1 + 1 + 1 + 1 + 1 + 1 + 1, 0, none⟩) 1 1] 34)).alloc (.cells #[.int .i64 1] 3)).alloc (.cells #[.int .i64 (-131072 - d)] 3)).alloc (.cells #[.slice (some ⟨w.heap.size + 1 + 1 + 1 + 1 + 1 + 1 + 1 + 1 + 1 + 1 + 1, 0, none⟩) 1 1, .slice (some ⟨w.heap.size + 1 + 1 + 1 + 1 + 1 + 1 + 1 + 1 + 1 + 1 + 1 + 1, 0, none⟩) 1 1] 34)).alloc (.cells #[.slice none 0 0, .slice (some ⟨w.heap.size + 1 + 1 + 1, 0, none⟩) 3 3, .slice (some ⟨w.heap.size + 1 + 1 + 1 + 1 + 1 + 1, 0, none⟩) 2 2, .slice (some ⟨w.heap.size + 1 + 1 + 1 + 1 + 1 + 1 + 1 + 1, 0, none⟩) 2 2, .slice (some ⟨w.heap.size + 1 + 1 + 1 + 1 + 1 + 1 + 1 + 1 + 1 + 1, 0, none⟩) 1 1, .slice (some ⟨w.heap.size + 1 + 1 + 1 + 1 + 1 + 1 + 1 + 1 + 1 + 1 + 1 + 1 + 1, 0, none⟩) 2 2] 22)) (w.heap.size + 1 + 1 + 1 + 1 + 1 + 1 + 1 + 1 + 1 + 1 + 1 + 1 + 1 + 1) 0 :=
  ⟨none, 0, 0, [], by go_simp, rfl, by decide, lls_nil _ _, ⟨by decide, by decide⟩⟩

set_option maxHeartbeats 1000000 in
theorem bad_1 (w : World) (d : Int) (h1 : 1 ≤ d) : Badly w (((((((((((((((w.alloc (.cells #[.int .i64 1] 3)).alloc (.cells #[.int .i64 2] 3)).alloc (.cells #[.int .i64 3] 3)).alloc (.cells #[.slice (some ⟨w.heap.size, 0, none⟩) 1 1, .slice (some ⟨w.heap.size + 1, 0, none⟩) 1 1, .slice (some ⟨w.heap.size + 1 + 1, 0, none⟩) 1 1] 34)).alloc (.cells #[.int .i64 1] 3)).alloc (.cells #[.int .i64 2, .int .i64 3] 3)).alloc (.cells #[.slice (some ⟨w.heap.size + 1 + 1 + 1 + 1, 0, none⟩) 1 1, .slice (some ⟨w.heap.size + 1 + 1 + 1 + 1 + 1, 0, none⟩) 2 2] 34)).alloc (.cells #[.int .i64 1] 3)).alloc (.cells #[.slice (some ⟨w.heap.size + 1 + 1 + 1 + 1 + 1 + 1 + 1, 0, none⟩) 1 1, .slice none 0 0] 34)).alloc (.cells #[.int .i64 (131072 + d)] 3)).alloc (.cells #[.slice (some ⟨w.heap.size + 1 + 1 + 1 + 1 + 1 + 1 + 1 + 1 + 1, 0, none⟩) 1 1] 34)).alloc (.cells #[.int .i64 1] 3)).alloc (.cells #[.int .i64 (-131072 - d)] 3)).alloc (.cells #[.slice (some ⟨w.heap.size + 1 + 1 + 1 + 1 + 1 + 1 + 1 + 1 + 1 + 1 + 1, 0, none⟩) 1 1, .slice (some ⟨w.heap.size + 1 + 1 + 1 + 1 + 1 + 1 + 1 + 1 + 1 + 1 + 1 + 1, 0, none⟩) 1 1] 34)).alloc (.cells #[.slice none 0 0, .slice (some ⟨w.heap.size + 1 + 1 + 1, 0, none⟩) 3 3, .slice (some ⟨w.heap.size + 1 + 1 + 1 + 1 + 1 + 1, 0, none⟩) 2 2, .slice (some ⟨w.heap.size + 1 + 1 + 1 + 1 + 1 + 1 + 1 + 1, 0, none⟩) 2 2, .slice (some ⟨w.heap.size + 1 + 1 + 1 + 1 + 1 + 1 + 1 + 1 + 1 + 1, 0, none⟩) 1 1, .slice (some ⟨w.heap.size + 1 + 1 + 1 + 1 + 1 + 1 + 1 + 1 + 1 + 1 + 1 + 1 + 1, 0, none⟩) 2 2] 22)) (w.heap.size + 1 + 1 + 1 + 1 + 1 + 1 + 1 + 1 + 1 + 1 + 1 + 1 + 1 + 1) 1 :=
  ⟨(some ⟨w.heap.size + 1 + 1 + 1, 0, none⟩), 3, 3, [[1], [2], [3]], by go_simp, rfl, by decide, lls_of (fun k hk => by
    match k, hk with
    | 0, _ => exact ⟨(some ⟨w.heap.size, 0, none⟩), 1, by go_simp, (by show 1 * 8 ≤ 140737488351232; omega), (fun q => by first | rfl | cases q), slc_1 (by go_simp)⟩
    | 1, _ => exact ⟨(some ⟨w.heap.size + 1, 0, none⟩), 1, by go_simp, (by show 1 * 8 ≤ 140737488351232; omega), (fun q => by first | rfl | cases q), slc_1 (by go_simp)⟩
    | 2, _ => exact ⟨(some ⟨w.heap.size + 1 + 1, 0, none⟩), 1, by go_simp, (by show 1 * 8 ≤ 140737488351232; omega), (fun q => by first | rfl | cases q), slc_1 (by go_simp)⟩
    | i + 3, hi => exact absurd hi (by simp)), ⟨by decide, by decide⟩⟩

set_option maxHeartbeats 1000000 in
theorem bad_2 (w : World) (d : Int) (h1 : 1 ≤ d) : Badly w (((((((((((((((w.alloc (.cells #[.int .i64 1] 3)).alloc (.cells #[.int .i64 2] 3)).alloc (.cells #[.int .i64 3] 3)).alloc (.cells #[.slice (some ⟨w.heap.size, 0, none⟩) 1 1, .slice (some ⟨w.heap.size + 1, 0, none⟩) 1 1, .slice (some ⟨w.heap.size + 1 + 1, 0, none⟩) 1 1] 34)).alloc (.cells #[.int .i64 1] 3)).alloc (.cells #[.int .i64 2, .int .i64 3] 3)).alloc (.cells #[.slice (some ⟨w.heap.size + 1 + 1 + 1 + 1, 0, none⟩) 1 1, .slice (some ⟨w.heap.size + 1 + 1 + 1 + 1 + 1, 0, none⟩) 2 2] 34)).alloc (.cells #[.int .i64 1] 3)).alloc (.cells #[.slice (some ⟨w.heap.size + 1 + 1 + 1 + 1 + 1 + 1 + 1, 0, none⟩) 1 1, .slice none 0 0] 34)).alloc (.cells #[.int .i64 (131072 + d)] 3)).alloc (.cells #[.slice (some ⟨w.heap.size + 1 + 1 + 1 + 1 + 1 + 1 + 1 + 1 + 1, 0, none⟩) 1 1] 34)).alloc (.cells #[.int .i64 1] 3)).alloc (.cells #[.int .i64 (-131072 - d)] 3)).alloc (.cells #[.slice (some ⟨w.heap.size + 1 + 1 + 1 + 1 + 1 + 1 + 1 + 1 + 1 + 1 + 1, 0, none⟩) 1 1, .slice (some ⟨w.heap.size + 1 + 1 + 1 + 1 + 1 + 1 + 1 + 1 + 1 + 1 + 1 + 1, 0, none⟩) 1 1] 34)).alloc (.cells #[.slice none 0 0, .slice (some ⟨w.heap.size + 1 + 1 + 1, 0, none⟩) 3 3, .slice (some ⟨w.heap.size + 1 + 1 + 1 + 1 + 1 + 1, 0, none⟩) 2 2, .slice (some ⟨w.heap.size + 1 + 1 + 1 + 1 + 1 + 1 + 1 + 1, 0, none⟩) 2 2, .slice (some ⟨w.heap.size + 1 + 1 + 1 + 1 + 1 + 1 + 1 + 1 + 1 + 1, 0, none⟩) 1 1, .slice (some ⟨w.heap.size + 1 + 1 + 1 + 1 + 1 + 1 + 1 + 1 + 1 + 1 + 1 + 1 + 1, 0, none⟩) 2 2] 22)) (w.heap.size + 1 + 1 + 1 + 1 + 1 + 1 + 1 + 1 + 1 + 1 + 1 + 1 + 1 + 1) 2 :=
  ⟨(some ⟨w.heap.size + 1 + 1 + 1 + 1 + 1 + 1, 0, none⟩), 2, 2, [[1], [2, 3]], by go_simp, rfl, by decide, lls_of (fun k hk => by
    match k, hk with
    | 0, _ => exact ⟨(some ⟨w.heap.size + 1 + 1 + 1 + 1, 0, none⟩), 1, by go_simp, (by show 1 * 8 ≤ 140737488351232; omega), (fun q => by first | rfl | cases q), slc_1 (by go_simp)⟩
    | 1, _ => exact ⟨(some ⟨w.heap.size + 1 + 1 + 1 + 1 + 1, 0, none⟩), 2, by go_simp, (by show 2 * 8 ≤ 140737488351232; omega), (fun q => by first | rfl | cases q), slc_2 (by go_simp) (by go_simp)⟩
    | i + 2, hi => exact absurd hi (by simp)), ⟨by decide, by decide⟩⟩

set_option maxHeartbeats 1000000 in
theorem bad_3 (w : World) (d : Int) (h1 : 1 ≤ d) : Badly w (((((((((((((((w.alloc (.cells #[.int .i64 1] 3)).alloc (.cells #[.int .i64 2] 3)).alloc (.cells #[.int .i64 3] 3)).alloc (.cells #[.slice (some ⟨w.heap.size, 0, none⟩) 1 1, .slice (some ⟨w.heap.size + 1, 0, none⟩) 1 1, .slice (some ⟨w.heap.size + 1 + 1, 0, none⟩) 1 1] 34)).alloc (.cells #[.int .i64 1] 3)).alloc (.cells #[.int .i64 2, .int .i64 3] 3)).alloc (.cells #[.slice (some ⟨w.heap.size + 1 + 1 + 1 + 1, 0, none⟩) 1 1, .slice (some ⟨w.heap.size + 1 + 1 + 1 + 1 + 1, 0, none⟩) 2 2] 34)).alloc (.cells #[.int .i64 1] 3)).alloc (.cells #[.slice (some ⟨w.heap.size + 1 + 1 + 1 + 1 + 1 + 1 + 1, 0, none⟩) 1 1, .slice none 0 0] 34)).alloc (.cells #[.int .i64 (131072 + d)] 3)).alloc (.cells #[.slice (some ⟨w.heap.size + 1 + 1 + 1 + 1 + 1 + 1 + 1 + 1 + 1, 0, none⟩) 1 1] 34)).alloc (.cells #[.int .i64 1] 3)).alloc (.cells #[.int .i64 (-131072 - d)] 3)).alloc (.cells #[.slice (some ⟨w.heap.size + 1 + 1 + 1 + 1 + 1 + 1 + 1 + 1 + 1 + 1 + 1, 0, none⟩) 1 1, .slice (some ⟨w.heap.size + 1 + 1 + 1 + 1 + 1 + 1 + 1 + 1 + 1 + 1 + 1 + 1, 0, none⟩) 1 1] 34)).alloc (.cells #[.slice none 0 0, .slice (some ⟨w.heap.size + 1 + 1 + 1, 0, none⟩) 3 3, .slice (some ⟨w.heap.size + 1 + 1 + 1 + 1 + 1 + 1, 0, none⟩) 2 2, .slice (some ⟨w.heap.size + 1 + 1 + 1 + 1 + 1 + 1 + 1 + 1, 0, none⟩) 2 2, .slice (some ⟨w.heap.size + 1 + 1 + 1 + 1 + 1 + 1 + 1 + 1 + 1 + 1, 0, none⟩) 1 1, .slice (some ⟨w.heap.size + 1 + 1 + 1 + 1 + 1 + 1 + 1 + 1 + 1 + 1 + 1 + 1 + 1, 0, none⟩) 2 2] 22)) (w.heap.size + 1 + 1 + 1 + 1 + 1 + 1 + 1 + 1 + 1 + 1 + 1 + 1 + 1 + 1) 3 :=
  ⟨(some ⟨w.heap.size + 1 + 1 + 1 + 1 + 1 + 1 + 1 + 1, 0, none⟩), 2, 2, [[1], []], by go_simp, rfl, by decide, lls_of (fun k hk => by
    match k, hk with
    | 0, _ => exact ⟨(some ⟨w.heap.size + 1 + 1 + 1 + 1 + 1 + 1 + 1, 0, none⟩), 1, by go_simp, (by show 1 * 8 ≤ 140737488351232; omega), (fun q => by first | rfl | cases q), slc_1 (by go_simp)⟩
    | 1, _ => exact ⟨none, 0, by go_simp, (by show 0 * 8 ≤ 140737488351232; omega), (fun q => by first | rfl | cases q), slc_nil _ _⟩
    | i + 2, hi => exact absurd hi (by simp)), ⟨by decide, by decide⟩⟩

set_option maxHeartbeats 1000000 in
theorem bad_4 (w : World) (d : Int) (h1 : 1 ≤ d) : Badly w (((((((((((((((w.alloc (.cells #[.int .i64 1] 3)).alloc (.cells #[.int .i64 2] 3)).alloc (.cells #[.int .i64 3] 3)).alloc (.cells #[.slice (some ⟨w.heap.size, 0, none⟩) 1 1, .slice (some ⟨w.heap.size + 1, 0, none⟩) 1 1, .slice (some ⟨w.heap.size + 1 + 1, 0, none⟩) 1 1] 34)).alloc (.cells #[.int .i64 1] 3)).alloc (.cells #[.int .i64 2, .int .i64 3] 3)).alloc (.cells #[.slice (some ⟨w.heap.size + 1 + 1 + 1 + 1, 0, none⟩) 1 1, .slice (some ⟨w.heap.size + 1 + 1 + 1 + 1 + 1, 0, none⟩) 2 2] 34)).alloc (.cells #[.int .i64 1] 3)).alloc (.cells #[.slice (some ⟨w.heap.size + 1 + 1 + 1 + 1 + 1 + 1 + 1, 0, none⟩) 1 1, .slice none 0 0] 34)).alloc (.cells #[.int .i64 (131072 + d)] 3)).alloc (.cells #[.slice (some ⟨w.heap.size + 1 + 1 + 1 + 1 + 1 + 1 + 1 + 1 + 1, 0, none⟩) 1 1] 34)).alloc (.cells #[.int .i64 1] 3)).alloc (.cells #[.int .i64 (-131072 - d)] 3)).alloc (.cells #[.slice (some ⟨w.heap.size + 1 + 1 + 1 + 1 + 1 + 1 + 1 + 1 + 1 + 1 + 1, 0, none⟩) 1 1, .slice (some ⟨w.heap.size + 1 + 1 + 1 + 1 + 1 + 1 + 1 + 1 + 1 + 1 + 1 + 1, 0, none⟩) 1 1] 34)).alloc (.cells #[.slice none 0 0, .slice (some ⟨w.heap.size + 1 + 1 + 1, 0, none⟩) 3 3, .slice (some ⟨w.heap.size + 1 + 1 + 1 + 1 + 1 + 1, 0, none⟩) 2 2, .slice (some ⟨w.heap.size + 1 + 1 + 1 + 1 + 1 + 1 + 1 + 1, 0, none⟩) 2 2, .slice (some ⟨w.heap.size + 1 + 1 + 1 + 1 + 1 + 1 + 1 + 1 + 1 + 1, 0, none⟩) 1 1, .slice (some ⟨w.heap.size + 1 + 1 + 1 + 1 + 1 + 1 + 1 + 1 + 1 + 1 + 1 + 1 + 1, 0, none⟩) 2 2] 22)) (w.heap.size + 1 + 1 + 1 + 1 + 1 + 1 + 1 + 1 + 1 + 1 + 1 + 1 + 1 + 1) 4 :=
  ⟨(some ⟨w.heap.size + 1 + 1 + 1 + 1 + 1 + 1 + 1 + 1 + 1 + 1, 0, none⟩), 1, 1, [[131072 + d]], by go_simp, rfl, by decide, lls_of (fun k hk => by
    match k, hk with
    | 0, _ => exact ⟨(some ⟨w.heap.size + 1 + 1 + 1 + 1 + 1 + 1 + 1 + 1 + 1, 0, none⟩), 1, by go_simp, (by show 1 * 8 ≤ 140737488351232; omega), (fun q => by first | rfl | cases q), slc_1 (by go_simp)⟩
    | i + 1, hi => exact absurd hi (by simp)), ⟨no_far _ _ (.inl (by omega)) _ (.inl rfl), no_far _ _ (.inl (by omega)) _ (.inl rfl)⟩⟩

set_option maxHeartbeats 1000000 in
theorem bad_5 (w : World) (d : Int) (h1 : 1 ≤ d) : Badly w (((((((((((((((w.alloc (.cells #[.int .i64 1] 3)).alloc (.cells #[.int .i64 2] 3)).alloc (.cells #[.int .i64 3] 3)).alloc (.cells #[.slice (some ⟨w.heap.size, 0, none⟩) 1 1, .slice (some ⟨w.heap.size + 1, 0, none⟩) 1 1, .slice (some ⟨w.heap.size + 1 + 1, 0, none⟩) 1 1] 34)).alloc (.cells #[.int .i64 1] 3)).alloc (.cells #[.int .i64 2, .int .i64 3] 3)).alloc (.cells #[.slice (some ⟨w.heap.size + 1 + 1 + 1 + 1, 0, none⟩) 1 1, .slice (some ⟨w.heap.size + 1 + 1 + 1 + 1 + 1, 0, none⟩) 2 2] 34)).alloc (.cells #[.int .i64 1] 3)).alloc (.cells #[.slice (some ⟨w.heap.size + 1 + 1 + 1 + 1 + 1 + 1 + 1, 0, none⟩) 1 1, .slice none 0 0] 34)).alloc (.cells #[.int .i64 (131072 + d)] 3)).alloc (.cells #[.slice (some ⟨w.heap.size + 1 + 1 + 1 + 1 + 1 + 1 + 1 + 1 + 1, 0, none⟩) 1 1] 34)).alloc (.cells #[.int .i64 1] 3)).alloc (.cells #[.int .i64 (-131072 - d)] 3)).alloc (.cells #[.slice (some ⟨w.heap.size + 1 + 1 + 1 + 1 + 1 + 1 + 1 + 1 + 1 + 1 + 1, 0, none⟩) 1 1, .slice (some ⟨w.heap.size + 1 + 1 + 1 + 1 + 1 + 1 + 1 + 1 + 1 + 1 + 1 + 1, 0, none⟩) 1 1] 34)).alloc (.cells #[.slice none 0 0, .slice (some ⟨w.heap.size + 1 + 1 + 1, 0, none⟩) 3 3, .slice (some ⟨w.heap.size + 1 + 1 + 1 + 1 + 1 + 1, 0, none⟩) 2 2, .slice (some ⟨w.heap.size + 1 + 1 + 1 + 1 + 1 + 1 + 1 + 1, 0, none⟩) 2 2, .slice (some ⟨w.heap.size + 1 + 1 + 1 + 1 + 1 + 1 + 1 + 1 + 1 + 1, 0, none⟩) 1 1, .slice (some ⟨w.heap.size + 1 + 1 + 1 + 1 + 1 + 1 + 1 + 1 + 1 + 1 + 1 + 1 + 1, 0, none⟩) 2 2] 22)) (w.heap.size + 1 + 1 + 1 + 1 + 1 + 1 + 1 + 1 + 1 + 1 + 1 + 1 + 1 + 1) 5 :=
  ⟨(some ⟨w.heap.size + 1 + 1 + 1 + 1 + 1 + 1 + 1 + 1 + 1 + 1 + 1 + 1 + 1, 0, none⟩), 2, 2, [[1], [-131072 - d]], by go_simp, rfl, by decide, lls_of (fun k hk => by
    match k, hk with
    | 0, _ => exact ⟨(some ⟨w.heap.size + 1 + 1 + 1 + 1 + 1 + 1 + 1 + 1 + 1 + 1 + 1, 0, none⟩), 1, by go_simp, (by show 1 * 8 ≤ 140737488351232; omega), (fun q => by first | rfl | cases q), slc_1 (by go_simp)⟩
    | 1, _ => exact ⟨(some ⟨w.heap.size + 1 + 1 + 1 + 1 + 1 + 1 + 1 + 1 + 1 + 1 + 1 + 1, 0, none⟩), 1, by go_simp, (by show 1 * 8 ≤ 140737488351232; omega), (fun q => by first | rfl | cases q), slc_1 (by go_simp)⟩
    | i + 2, hi => exact absurd hi (by simp)), ⟨no_far _ _ (.inr (by omega)) _ (.inr rfl), no_far _ _ (.inr (by omega)) _ (.inr rfl)⟩⟩

theorem bads (w : World) (d : Int) (h1 : 1 ≤ d) (K : Nat) (hK : K < 6) : Badly w (((((((((((((((w.alloc (.cells #[.int .i64 1] 3)).alloc (.cells #[.int .i64 2] 3)).alloc (.cells #[.int .i64 3] 3)).alloc (.cells #[.slice (some ⟨w.heap.size, 0, none⟩) 1 1, .slice (some ⟨w.heap.size + 1, 0, none⟩) 1 1, .slice (some ⟨w.heap.size + 1 + 1, 0, none⟩) 1 1] 34)).alloc (.cells #[.int .i64 1] 3)).alloc (.cells #[.int .i64 2, .int .i64 3] 3)).alloc (.cells #[.slice (some ⟨w.heap.size + 1 + 1 + 1 + 1, 0, none⟩) 1 1, .slice (some ⟨w.heap.size + 1 + 1 + 1 + 1 + 1, 0, none⟩) 2 2] 34)).alloc (.cells #[.int .i64 1] 3)).alloc (.cells #[.slice (some ⟨w.heap.size + 1 + 1 + 1 + 1 + 1 + 1 + 1, 0, none⟩) 1 1, .slice none 0 0] 34)).alloc (.cells #[.int .i64 (131072 + d)] 3)).alloc (.cells #[.slice (some ⟨w.heap.size + 1 + 1 + 1 + 1 + 1 + 1 + 1 + 1 + 1, 0, none⟩) 1 1] 34)).alloc (.cells #[.int .i64 1] 3)).alloc (.cells #[.int .i64 (-131072 - d)] 3)).alloc (.cells #[.slice (some ⟨w.heap.size + 1 + 1 + 1 + 1 + 1 + 1 + 1 + 1 + 1 + 1 + 1, 0, none⟩) 1 1, .slice (some ⟨w.heap.size + 1 + 1 + 1 + 1 + 1 + 1 + 1 + 1 + 1 + 1 + 1 + 1, 0, none⟩) 1 1] 34)).alloc (.cells #[.slice none 0 0, .slice (some ⟨w.heap.size + 1 + 1 + 1, 0, none⟩) 3 3, .slice (some ⟨w.heap.size + 1 + 1 + 1 + 1 + 1 + 1, 0, none⟩) 2 2, .slice (some ⟨w.heap.size + 1 + 1 + 1 + 1 + 1 + 1 + 1 + 1, 0, none⟩) 2 2, .slice (some ⟨w.heap.size + 1 + 1 + 1 + 1 + 1 + 1 + 1 + 1 + 1 + 1, 0, none⟩) 1 1, .slice (some ⟨w.heap.size + 1 + 1 + 1 + 1 + 1 + 1 + 1 + 1 + 1 + 1 + 1 + 1 + 1, 0, none⟩) 2 2] 22)) (w.heap.size + 1 + 1 + 1 + 1 + 1 + 1 + 1 + 1 + 1 + 1 + 1 + 1 + 1 + 1) K := by
  match K, hK with
  | 0, _ => exact bad_0 w d h1
  | 1, _ => exact bad_1 w d h1
  | 2, _ => exact bad_2 w d h1
  | 3, _ => exact bad_3 w d h1
  | 4, _ => exact bad_4 w d h1
  | 5, _ => exact bad_5 w d h1
  | i + 6, hi => exact absurd hi (by omega)
theorem bads_bel (w : World) (d : Int) : Bel w (((((((((((((((w.alloc (.cells #[.int .i64 1] 3)).alloc (.cells #[.int .i64 2] 3)).alloc (.cells #[.int .i64 3] 3)).alloc (.cells #[.slice (some ⟨w.heap.size, 0, none⟩) 1 1, .slice (some ⟨w.heap.size + 1, 0, none⟩) 1 1, .slice (some ⟨w.heap.size + 1 + 1, 0, none⟩) 1 1] 34)).alloc (.cells #[.int .i64 1] 3)).alloc (.cells #[.int .i64 2, .int .i64 3] 3)).alloc (.cells #[.slice (some ⟨w.heap.size + 1 + 1 + 1 + 1, 0, none⟩) 1 1, .slice (some ⟨w.heap.size + 1 + 1 + 1 + 1 + 1, 0, none⟩) 2 2] 34)).alloc (.cells #[.int .i64 1] 3)).alloc (.cells #[.slice (some ⟨w.heap.size + 1 + 1 + 1 + 1 + 1 + 1 + 1, 0, none⟩) 1 1, .slice none 0 0] 34)).alloc (.cells #[.int .i64 (131072 + d)] 3)).alloc (.cells #[.slice (some ⟨w.heap.size + 1 + 1 + 1 + 1 + 1 + 1 + 1 + 1 + 1, 0, none⟩) 1 1] 34)).alloc (.cells #[.int .i64 1] 3)).alloc (.cells #[.int .i64 (-131072 - d)] 3)).alloc (.cells #[.slice (some ⟨w.heap.size + 1 + 1 + 1 + 1 + 1 + 1 + 1 + 1 + 1 + 1 + 1, 0, none⟩) 1 1, .slice (some ⟨w.heap.size + 1 + 1 + 1 + 1 + 1 + 1 + 1 + 1 + 1 + 1 + 1 + 1, 0, none⟩) 1 1] 34)).alloc (.cells #[.slice none 0 0, .slice (some ⟨w.heap.size + 1 + 1 + 1, 0, none⟩) 3 3, .slice (some ⟨w.heap.size + 1 + 1 + 1 + 1 + 1 + 1, 0, none⟩) 2 2, .slice (some ⟨w.heap.size + 1 + 1 + 1 + 1 + 1 + 1 + 1 + 1, 0, none⟩) 2 2, .slice (some ⟨w.heap.size + 1 + 1 + 1 + 1 + 1 + 1 + 1 + 1 + 1 + 1, 0, none⟩) 1 1, .slice (some ⟨w.heap.size + 1 + 1 + 1 + 1 + 1 + 1 + 1 + 1 + 1 + 1 + 1 + 1 + 1, 0, none⟩) 2 2] 22)) := ((((((((((((((((Bel.refl w).alloc _).alloc _).alloc _).alloc _).alloc _).alloc _).alloc _).alloc _).alloc _).alloc _).alloc _).alloc _).alloc _).alloc _).alloc _)

set_option maxRecDepth 20000 in
set_option maxHeartbeats 1000000 in
theorem forms_walk (x y : Int) (w : World) : Calls Try.prog 4 #[.int .i64 x, .int .i64 y] w fun e w' => e = .returned (.bool true) ∧ Bel w w' := by
  obtain ⟨K, hK, hk⟩ := place_of x 6 (by omega) (by omega)
  have AW : Hid (∀ w, Calls Try.prog 15 #[] w fun e w' => e = .returned (.bool true) ∧ Bel w w') := awake_true
  obtain ⟨c, hc⟩ : ∃ c, y % 1024 = c := ⟨_, rfl⟩
  have ca : bits .and .i64 y 1023 = c := (and_10 y).trans hc
  obtain ⟨d, hd⟩ : ∃ d, 1 + c = d := ⟨_, rfl⟩
  have d0 : 1 ≤ d := by omega
  have d1 : d ≤ 1024 := by omega
  have c0 : 0 ≤ c := by omega
  have c1 : c ≤ 1023 := by omega
  clear hc
  go_enter Try.func4, Try.ntmps4
  go_wp2_with fail
  refine (AW.out _).mono ?_
  rintro e w1 ⟨rfl, b1⟩
  have B1 : Hid (Bel w w1) := b1
  clear b1
  go_upto_region 5 with fail
  obtain ⟨bo, n, cp, Ls, f1, hn, hn3, hl, hbad⟩ := bads w1 d d0 K (by omega)
  have BW : Bel w1 (((((((((((((((w1.alloc (.cells #[.int .i64 1] 3)).alloc (.cells #[.int .i64 2] 3)).alloc (.cells #[.int .i64 3] 3)).alloc (.cells #[.slice (some ⟨w1.heap.size, 0, none⟩) 1 1, .slice (some ⟨w1.heap.size + 1, 0, none⟩) 1 1, .slice (some ⟨w1.heap.size + 1 + 1, 0, none⟩) 1 1] 34)).alloc (.cells #[.int .i64 1] 3)).alloc (.cells #[.int .i64 2, .int .i64 3] 3)).alloc (.cells #[.slice (some ⟨w1.heap.size + 1 + 1 + 1 + 1, 0, none⟩) 1 1, .slice (some ⟨w1.heap.size + 1 + 1 + 1 + 1 + 1, 0, none⟩) 2 2] 34)).alloc (.cells #[.int .i64 1] 3)).alloc (.cells #[.slice (some ⟨w1.heap.size + 1 + 1 + 1 + 1 + 1 + 1 + 1, 0, none⟩) 1 1, .slice none 0 0] 34)).alloc (.cells #[.int .i64 (131072 + d)] 3)).alloc (.cells #[.slice (some ⟨w1.heap.size + 1 + 1 + 1 + 1 + 1 + 1 + 1 + 1 + 1, 0, none⟩) 1 1] 34)).alloc (.cells #[.int .i64 1] 3)).alloc (.cells #[.int .i64 (-131072 - d)] 3)).alloc (.cells #[.slice (some ⟨w1.heap.size + 1 + 1 + 1 + 1 + 1 + 1 + 1 + 1 + 1 + 1 + 1, 0, none⟩) 1 1, .slice (some ⟨w1.heap.size + 1 + 1 + 1 + 1 + 1 + 1 + 1 + 1 + 1 + 1 + 1 + 1, 0, none⟩) 1 1] 34)).alloc (.cells #[.slice none 0 0, .slice (some ⟨w1.heap.size + 1 + 1 + 1, 0, none⟩) 3 3, .slice (some ⟨w1.heap.size + 1 + 1 + 1 + 1 + 1 + 1, 0, none⟩) 2 2, .slice (some ⟨w1.heap.size + 1 + 1 + 1 + 1 + 1 + 1 + 1 + 1, 0, none⟩) 2 2, .slice (some ⟨w1.heap.size + 1 + 1 + 1 + 1 + 1 + 1 + 1 + 1 + 1 + 1, 0, none⟩) 1 1, .slice (some ⟨w1.heap.size + 1 + 1 + 1 + 1 + 1 + 1 + 1 + 1 + 1 + 1 + 1 + 1 + 1, 0, none⟩) 2 2] 22)) := bads_bel w1 d
  obtain ⟨W, hW⟩ : ∃ W, W = (((((((((((((((w1.alloc (.cells #[.int .i64 1] 3)).alloc (.cells #[.int .i64 2] 3)).alloc (.cells #[.int .i64 3] 3)).alloc (.cells #[.slice (some ⟨w1.heap.size, 0, none⟩) 1 1, .slice (some ⟨w1.heap.size + 1, 0, none⟩) 1 1, .slice (some ⟨w1.heap.size + 1 + 1, 0, none⟩) 1 1] 34)).alloc (.cells #[.int .i64 1] 3)).alloc (.cells #[.int .i64 2, .int .i64 3] 3)).alloc (.cells #[.slice (some ⟨w1.heap.size + 1 + 1 + 1 + 1, 0, none⟩) 1 1, .slice (some ⟨w1.heap.size + 1 + 1 + 1 + 1 + 1, 0, none⟩) 2 2] 34)).alloc (.cells #[.int .i64 1] 3)).alloc (.cells #[.slice (some ⟨w1.heap.size + 1 + 1 + 1 + 1 + 1 + 1 + 1, 0, none⟩) 1 1, .slice none 0 0] 34)).alloc (.cells #[.int .i64 (131072 + d)] 3)).alloc (.cells #[.slice (some ⟨w1.heap.size + 1 + 1 + 1 + 1 + 1 + 1 + 1 + 1 + 1, 0, none⟩) 1 1] 34)).alloc (.cells #[.int .i64 1] 3)).alloc (.cells #[.int .i64 (-131072 - d)] 3)).alloc (.cells #[.slice (some ⟨w1.heap.size + 1 + 1 + 1 + 1 + 1 + 1 + 1 + 1 + 1 + 1 + 1, 0, none⟩) 1 1, .slice (some ⟨w1.heap.size + 1 + 1 + 1 + 1 + 1 + 1 + 1 + 1 + 1 + 1 + 1 + 1, 0, none⟩) 1 1] 34)).alloc (.cells #[.slice none 0 0, .slice (some ⟨w1.heap.size + 1 + 1 + 1, 0, none⟩) 3 3, .slice (some ⟨w1.heap.size + 1 + 1 + 1 + 1 + 1 + 1, 0, none⟩) 2 2, .slice (some ⟨w1.heap.size + 1 + 1 + 1 + 1 + 1 + 1 + 1 + 1, 0, none⟩) 2 2, .slice (some ⟨w1.heap.size + 1 + 1 + 1 + 1 + 1 + 1 + 1 + 1 + 1 + 1, 0, none⟩) 1 1, .slice (some ⟨w1.heap.size + 1 + 1 + 1 + 1 + 1 + 1 + 1 + 1 + 1 + 1 + 1 + 1 + 1, 0, none⟩) 2 2] 22)) := ⟨_, rfl⟩
  rw [← hW] at f1 hl BW ⊢
  clear hW
  obtain ⟨g, hg⟩ : ∃ g, g = w1.heap.size + 1 + 1 + 1 + 1 + 1 + 1 + 1 + 1 + 1 + 1 + 1 + 1 + 1 + 1 := ⟨_, rfl⟩
  rw [← hg] at f1 ⊢
  clear hg ca hd c0 c1
  have LL : Hid (Lls W bo Ls ∧ n = Ls.length ∧ n ≤ maxLen) := ⟨hl, hn, by unfold maxLen; omega⟩
  have BD : Hid (Bad Ls) := hbad
  have B2 : Hid (Bel w W) := B1.out.trans BW
  have k0 : (0 : Int) ≤ (K : Int) := by omega
  have k6 : (K : Int) < 6 := hK
  have k6n : K < 6 := by omega
  have N1 : Hid (errS (-1) [[-d], [131072]] = 1700 ∧ ansS (-1) [[-d], [131072]] = []) := no_told (-1) (-d) 131072 (by omega)
  have N2 : Hid (errS 1 [[d], [131072]] = 1700 ∧ ansS 1 [[d], [131072]] = []) := no_told 1 d 131072 (by omega)
  clear hl hn hn3 hbad BW B1 hK
  go_wp2_with fail
  refine (put_at bo Ls [] n 0 cp 1700 LL.out.2.1 LL.out.2.2 BD.out.1.1 BD.out.1.2 rfl W LL.out.1).mono ?_
  rintro e w2 ⟨p1, q1, rfl, _, b2⟩
  have L2 : Hid (Lls w2 bo Ls) := LL.out.1.bel b2
  have B3 : Hid (Bel w w2) := B2.out.trans b2
  clear b2 f1
  go_wp2_with fail
  refine (get_at bo Ls [] n 0 cp 1700 LL.out.2.1 LL.out.2.2 BD.out.2.1 BD.out.2.2 rfl w2 L2.out).mono ?_
  rintro e w3 ⟨p2, q2, rfl, _, b3⟩
  have B4 : Hid (Bel w w3) := B3.out.trans b3
  clear b3
  go_wp2_with fail
  refine (put_at _ [[-d], [131072]] [] 2 0 2 1700 rfl (by unfold maxLen; omega) N1.out.1 N1.out.2 rfl _ ?_).mono ?_
  · exact lit_2 w3 [-d] [131072] (by show 1 * 8 ≤ _; omega) (by decide)
  rintro e w4 ⟨p3, q3, rfl, _, b4⟩
  have B5 : Hid (Bel w w4) := B4.out.trans (Bel.trans ((((Bel.refl w3).alloc _).alloc _).alloc _) b4)
  clear b4
  go_wp2_with fail
  refine (get_at _ [[d], [131072]] [] 2 0 2 1700 rfl (by unfold maxLen; omega) N2.out.1 N2.out.2 rfl _ ?_).mono ?_
  · exact lit_2 w4 [d] [131072] (by show 1 * 8 ≤ _; omega) (by decide)
  rintro e w5 ⟨p4, q4, rfl, _, b5⟩
  have B6 : Hid (Bel w w5) := B5.out.trans (Bel.trans ((((Bel.refl w4).alloc _).alloc _).alloc _) b5)
  clear b5
  go_wp2_with (go_at_call 13; refine (num_ok _ _).mono ?_; rintro e w99 ⟨rfl, hw⟩; replace hw := hw.symm; subst hw)
  go_ret
  exact ⟨rfl, B6.out⟩

end Go.Proofs.Ytkkdlnolpjbjeaa.Sid
