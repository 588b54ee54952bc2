/-
  Plain facts and steps for the walk of ModelForms. No condition.
-/
import Derived.Test.YtnldnkcfeclmpaaDoorNAwake
namespace Go.Proofs.YtnldnkcfeclmpaaDoor.Mod
open Go.RowKit Go.Sort
set_option linter.unusedVariables false
set_option linter.unusedSimpArgs false

theorem mval (x n k : Int) (hn : 0 < n) (hn1 : n ≤ 4096) (h : x % 18446744073709551616 % n = k) : wrap64 ((IntKind.u64.wrap x).tmod n) = k := by
  have e : IntKind.u64.wrap x = x % 18446744073709551616 := by simp [IntKind.wrap, IntKind.bits, IntKind.signed]
  have h0 := Int.emod_nonneg (x % 18446744073709551616) (Int.ne_of_gt hn)
  have h1 := Int.emod_lt_of_pos (x % 18446744073709551616) hn
  rw [e, Int.tmod_eq_emod_of_nonneg (by omega), h, wrap64]
  omega

theorem fand63 (n : Int) : bits .and .i64 n 63 = n % 64 := Num.and_mask 6 63 (by decide) (by decide) n
theorem fand1 (n : Int) : bits .and .i64 n 1 = n % 2 := Num.and_mask 1 1 (by decide) (by decide) n
theorem fand3 (n : Int) : bits .and .i64 n 3 = n % 4 := Num.and_mask 2 3 (by decide) (by decide) n

theorem set_row_two (w : World) (c c' : Array Value) (t : TypeId) (o : Obj) : ((w.alloc (.cells c t)).alloc o).setRow w.heap.size c' = (w.alloc (.cells c' t)).alloc o := by
  simp only [World.setRow, World.alloc]
  congr 1
  apply Array.ext_getElem?
  intro i
  rw [Array.getElem?_modify]
  by_cases h : w.heap.size = i
  · subst h
    simp [Array.getElem?_push]
  · have h' : ¬ i = w.heap.size := fun e => h e.symm
    simp [h, h', Array.getElem?_push]

section
variable {ops : Array Oper} {rest : List Oper} {dst : Option Tmp} {a : Act} {w w0 : World} {ty : TypeId} {pos : String} {after : Array Edge} {x y : Operand} {B : Nat} {L M : List Int} {Q : Exit → Act → World → Prop}

/-- A model that is stored behind its variable and one more were made. -/
theorem wpl_store26m {o : Obj} (hL : L.length = 195) (hM : M.length = 195) (hx : a.eval x = .pointer (some ⟨w.heap.size, 0, none⟩)) (hy : a.eval y = mdl M) (k : wpList Tryd.prog ops Q rest (a.put dst undef) ((w.alloc (.cells (vals M).toArray 26)).alloc o)) :
    wpList Tryd.prog ops Q ({ dst := dst, op := .store 26 x y, type := ty, pos := pos, after := after, guard := none } :: rest) a ((w.alloc (.cells (vals L).toArray 26)).alloc o) :=
  wpList_plain rfl fun _ hK => by
    have hh : ((w.alloc (.cells (vals L).toArray 26)).alloc o).heap[w.heap.size]? = some (.cells (vals L).toArray 26) := by
      show ((w.heap.push _).push _)[w.heap.size]? = _
      simp [Array.getElem?_push]
    have hs := run_storeVar_row (P := Tryd.prog) _ _ 26 26 (vals L).toArray (vals M).toArray hh (by rw [size26, size_vals, hM]) (by rw [size_vals, size_vals, hL, hM]) (vals_one M)
    rw [set_row_two] at hs
    unfold Oper.wp execOp
    simp only [hx, hy, Sem.run_bind, Instr.storeAt, Instr.sureAddr, Sem.run_pure, hs, Result.andThen_ok]
    exact hK _ _ k

/-- Three ints that are stored in the block that was made last; behind it the world goes by a letter. -/
theorem wpl_store24g {p q r : Int} (hx : a.eval x = .pointer (some ⟨w.heap.size + 1, 0, none⟩)) (hy : a.eval y = .agg #[.int .i64 p, .int .i64 q, .int .i64 r]) (hb : Bel w0 w)
    (k : ∀ W : World, Holds W w.heap.size M → Holds W (w.heap.size + 1) [p, q, r] → Bel w0 W → W.heap.size = w.heap.size + 2 → wpList Tryd.prog ops Q rest (a.put dst undef) W) :
    wpList Tryd.prog ops Q ({ dst := dst, op := .store 24 x y, type := ty, pos := pos, after := after, guard := none } :: rest) a ((w.alloc (.cells (vals M).toArray 26)).alloc (.cells #[.int .i64 0, .int .i64 0, .int .i64 0] 24)) :=
  wpList_plain rfl fun _ hK => by
    have hs := run_storeAt_new (P := Tryd.prog) (w.alloc (.cells (vals M).toArray 26)) 24 #[.int .i64 0, .int .i64 0, .int .i64 0] #[.int .i64 p, .int .i64 q, .int .i64 r] (by kernel_rfl) rfl (vals_one [p, q, r])
    rw [World.size_alloc] at hs
    unfold Oper.wp execOp
    simp only [hx, hy, Sem.run_bind, hs, Result.andThen_ok]
    refine hK _ _ (k _ ((holds_new w M 26).bel ((Bel.refl _).alloc _)) (holds_at (by simp) [p, q, r] 24) ((hb.alloc _).alloc _) (by simp))
end

/-- A model with one counter, or one weight, that may not be. -/
theorem bad_set (k : Nat) (hk : k < 195) (v : Int) (h : (k < 192 ∧ (v < 0 ∨ 65535 < v)) ∨ (192 ≤ k ∧ (v < -1048576 ∨ 1048576 < v))) : mayM (newM.set k v) = false := by
  cases e : mayM (newM.set k v)
  · rfl
  · obtain ⟨h1, h2⟩ := (may_iff _).1 e
    have g : (newM.set k v).getD k 0 = v := getD_set_eq _ _ _ (by rw [newM_len]; exact hk)
    rcases h with ⟨a, b⟩ | ⟨a, b⟩
    · have := h1 k a
      rw [g] at this
      omega
    · have := h2 k a hk
      rw [g] at this
      omega

theorem bad_ctx {p q r : Int} (h : p < 0 ∨ 64 ≤ p ∨ q < 0 ∨ 64 ≤ q ∨ r < 0 ∨ 64 ≤ r) : ctxB p q r = false := by
  cases e : ctxB p q r
  · rfl
  · have := ctxB_of e
    omega

theorem bad_bit {b : Int} (h : b < 0 ∨ 1 < b) : Cnt.bitB b = false := decide_eq_false (by omega)

theorem no_of_may {a b c : Int} {L : List Int} (h : mayM L = false) : (ctxB a b c && mayM L) = false := by rw [h, Bool.and_false]
theorem no_of_ctx {a b c : Int} {L : List Int} (h : ctxB a b c = false) : (ctxB a b c && mayM L) = false := by rw [h, Bool.false_and]

end Go.Proofs.YtnldnkcfeclmpaaDoor.Mod
