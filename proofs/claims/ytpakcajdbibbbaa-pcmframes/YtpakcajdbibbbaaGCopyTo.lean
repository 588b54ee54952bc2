/-
  A row copied into another one of its length, which lies in a block of its own. No condition.
-/
import Derived.Test.YtpakcajdbibbbaaGExc
import Derived.Test.YtpakcajdbibbbaaRows
import Derived.ProofKit
import Derived.Laws.CopyOwn
namespace Go.Proofs.Ytpakcajdbibbbaa.Mod
open Go.RowKit Go.Sort
set_option linter.unusedVariables false
set_option linter.unusedSimpArgs false

theorem info_size : (Try.prog.info? 3).map (·.size) = some 1 := by kernel_rfl

theorem wpl_copy_to {ops : Array Oper} {rest : List Oper} {dst : Option Tmp} {ty : TypeId} {pos : String} {aft : Array Edge} {a : Act} {Q : Exit → Act → World → Prop} (w : World) {d s : Operand}
    (g n dCap sCap : Nat) (sp : Option Addr) (hd : a.eval d = .slice (some ⟨g, 0, none⟩) n dCap) (hs : a.eval s = .slice sp n sCap) (Z L : List Int) (hZ : Z.length = n) (hL : n = L.length)
    (hg : w.heap[g]? = some (.cells (vals Z).toArray 3 (0, 0))) (hA : Slc w sp L)
    (k : ∀ w1, w1.heap.size = w.heap.size → w1.heap[g]? = some (.cells (vals L).toArray 3 (0, 0)) → Exc (fun k => k = g) w w1 → wpList Try.prog ops Q rest (a.put dst (.int .i64 (n : Int))) w1) :
    wpList Try.prog ops Q ({ dst := dst, op := .call { callee := .builtin .copy, args := #[d, s], argTypes := #[44, 44] }, type := ty, pos := pos, after := aft, guard := none } :: rest) a w := by
  by_cases h0 : n = 0
  · refine wpList_copy_nothing rfl d s 44 44 rfl 3 Try.underlying44 info_size _ _ _ _ _ _ hd hs (by simp [h0]) ?_
    obtain rfl : Z = [] := List.eq_nil_of_length_eq_zero (by omega)
    obtain rfl : L = [] := List.eq_nil_of_length_eq_zero (by omega)
    have := k w rfl hg (Exc.refl _ _)
    rw [h0] at this
    exact this
  · obtain ⟨x, rfl, _⟩ := hA 0 (by omega)
    refine wpList_copy_own rfl d s 44 44 rfl 3 Try.underlying44 info_size g 0 n dCap x n sCap hd hs (vals Z).toArray 3 hg (vals L) (by rw [vals_length]; simp [hL]) (fun j v hv => ?_) (by simp [vals_length]; omega) (ints_oneCell _ _) ?_
    · have hj : j < L.length := by have := (List.getElem?_eq_some_iff.1 hv).1; rwa [vals_length] at this
      rw [vals_get L j hj] at hv
      obtain ⟨y, hy, hc⟩ := hA j hj
      cases hy
      rw [hc, hv]
    · rw [vals_length, ← hL]
      have e : ((vals Z).toArray.toList.take 0 ++ (vals L ++ (vals Z).toArray.toList.drop (0 + n))).toArray = (vals L).toArray := by
        have : (vals Z).drop n = [] := List.drop_eq_nil_of_le (by rw [vals_length]; omega)
        simp [this]
      rw [e]
      exact k _ (by simp [World.setRow]) (setRow_heap w g _ _ _ _ hg) ⟨rfl, rfl, rfl, by simp [World.setRow], fun i hi hne => setRow_other w g i _ hne⟩

end Go.Proofs.Ytpakcajdbibbbaa.Mod
