/-
  Values of many ints, whatever their type: loads and stores at any offset of a block, with a guard and without, in plain regions and in quiet ones. No condition.
-/
import Derived.Test.YtamefddgpdhccaaGLaw
import Derived.Deep.QuietTactic
import Derived.BigQuiet
namespace Go.Proofs.Ytamefddgpdhccaa.Mod
open Go.RowKit Go.Sort
set_option linter.unusedVariables false
set_option linter.unusedSimpArgs false

/-- What is asked of a type: n cells, all in a row. -/
structure Wide (t : TypeId) (n : Nat) : Prop where
  row : ∃ d, Try.prog.underlying t = some d ∧ d.isRow = true
  size : (Try.prog.info? t).map (·.size) = some n

section
variable {ops : Array Oper} {rest : List Oper} {dst : Option Tmp} {a : Act} {w : World} {Q : Exit → Act → World → Prop} {ty : TypeId} {pos : String} {after : Array Edge} {x y : Operand} {B o n : Nat} {L M : List Int} {g : Nat × Bool} {t : TypeId}

theorem load_wide (T : Wide t n) (hM : (L.drop o).take n = M) (h : Holds w B L) (hL : o + n ≤ L.length) :
    (Instr.loadAt t (.pointer (some ⟨B, o, none⟩))).run Try.prog w = .ok (mdl M) w := by
  obtain ⟨d, hu, hd⟩ := T.row
  exact run_loadAt_mid w B o t (vals M) d (hM ▸ h.part o n hL) hu hd (by rw [T.size, vals_length, ← hM]; simp; omega)

theorem wpl_load_wide (T : Wide t n) (hM : (L.drop o).take n = M) (h : Holds w B L) (hL : o + n ≤ L.length) (hx : a.eval x = .pointer (some ⟨B, o, none⟩)) (k : wpList Try.prog ops Q rest (a.put dst (mdl M)) w) :
    wpList Try.prog ops Q ({ dst := dst, op := .load t x, type := ty, pos := pos, after := after, guard := none } :: rest) a w := by
  obtain ⟨d, hu, hd⟩ := T.row
  exact wpList_load_mid rfl t x rfl B o hx (vals M) d (hM ▸ h.part o n hL) hu hd (by rw [T.size, vals_length, ← hM]; simp; omega) k

theorem wpl_load_wideg (hw : Region.wanted { dst := dst, op := .load t x, type := ty, pos := pos, after := after, guard := some g } (yielded ops a.tmps) = true) (T : Wide t n) (hM : (L.drop o).take n = M) (h : Holds w B L) (hL : o + n ≤ L.length) (hx : a.eval x = .pointer (some ⟨B, o, none⟩)) (k : wpList Try.prog ops Q rest (a.put dst (mdl M)) w) :
    wpList Try.prog ops Q ({ dst := dst, op := .load t x, type := ty, pos := pos, after := after, guard := some g } :: rest) a w := by
  obtain ⟨d, hu, hd⟩ := T.row
  exact BigFrame.wpList_want hw fun _ hK => wp_load_mid t x rfl B o hx (vals M) d (hM ▸ h.part o n hL) hu hd (by rw [T.size, vals_length, ← hM]; simp; omega) (hK _ _ k)

theorem wpl_store_wide (T : Wide t n) (h : Holds w B L) (hL : o + n ≤ L.length) (hM : M.length = n) (hx : a.eval x = .pointer (some ⟨B, o, none⟩)) (hy : a.eval y = mdl M) (k : wpList Try.prog ops Q rest (a.put dst undef) (w.setCells B o (vals M))) :
    wpList Try.prog ops Q ({ dst := dst, op := .store t x y, type := ty, pos := pos, after := after, guard := none } :: rest) a w :=
  wpList_store_mid rfl t x y rfl B o (vals M).toArray hx hy (by rw [size_vals, hM]; exact h.there o n hL) (by rw [T.size, size_vals, hM]) (vals_one M) k

/-- The same, the world under a letter: what the block holds, what stands besides. -/
theorem wpl_store_widew {w0 : World} {N : List Int} (T : Wide t n) (b : Bel w0 w) (h : Holds w B L) (hB : w0.heap.size ≤ B) (hL : o + n ≤ L.length) (hM : M.length = n) (hN : put L o M = N) (hx : a.eval x = .pointer (some ⟨B, o, none⟩)) (hy : a.eval y = mdl M)
    (k : ∀ w', Hid (Holds w' B N) → Hid (Bel w0 w') → Hid (∀ (C : Nat) (K : List Int), C ≠ B → Holds w C K → Holds w' C K) → wpList Try.prog ops Q rest (a.put dst undef) w') :
    wpList Try.prog ops Q ({ dst := dst, op := .store t x y, type := ty, pos := pos, after := after, guard := none } :: rest) a w :=
  wpl_store_wide T h hL hM hx hy (k _ (hN ▸ h.put M o (by omega)) (Bel.setCells hB _ _ b) (fun C K hC hK => Holds.others hC _ _ hK))

/-- A new variable that is filled at once. -/
theorem wpl_store_widen (T : Wide t n) (hL : L.length = n) (hM : M.length = n) (hx : a.eval x = .pointer (some ⟨w.heap.size, 0, none⟩)) (hy : a.eval y = mdl M) (k : wpList Try.prog ops Q rest (a.put dst undef) (w.alloc (.cells (vals M).toArray t))) :
    wpList Try.prog ops Q ({ dst := dst, op := .store t x y, type := ty, pos := pos, after := after, guard := none } :: rest) a (w.alloc (.cells (vals L).toArray t)) :=
  wpList_plain rfl fun _ hK => by
    have s : (Instr.storeAt t (.pointer (some ⟨w.heap.size, 0, none⟩)) (mdl M)).run Try.prog (w.alloc (.cells (vals L).toArray t)) = .ok () (w.alloc (.cells (vals M).toArray t)) :=
      run_storeAt_new w t _ _ (by rw [T.size]; simp [vals_length, hM]) (by simp [vals_length, hL, hM]) (vals_one M)
    unfold Oper.wp execOp
    simp only [hx, hy, Sem.run_bind, s, Result.andThen_ok]
    exact hK _ _ k
end

section
variable {ops : Array Oper} {rest : List Oper} {dst : Option Tmp} {a : Act} {w : World} {ty : TypeId} {pos : String} {after : Array Edge} {x : Operand} {B o n : Nat} {L M : List Int} {Q : Act → Prop} {g : Nat × Bool} {t : TypeId}

theorem quiet_load_wide (T : Wide t n) (hM : (L.drop o).take n = M) (h : Holds w B L) (hL : o + n ≤ L.length) (hx : a.eval x = .pointer (some ⟨B, o, none⟩))
    (k : wpQuiet Try.prog ops (fun w' => ∃ p : Regrown, w' = grow (redrawn w p.d) p.os) Q rest (a.put dst (mdl M))) :
    wpQuiet Try.prog ops (fun w' => ∃ p : Regrown, w' = grow (redrawn w p.d) p.os) Q ({ dst := dst, op := .load t x, type := ty, pos := pos, after := after, guard := none } :: rest) a :=
  wpQuiet_step fun K hK => by
    rw [if_pos (show Region.wanted { dst := dst, op := .load t x, type := ty, pos := pos, after := after, guard := none } (yielded ops a.tmps) = true by simp [Region.wanted])]
    refine ⟨mdl M, fun w' hw => ?_, hK _ k⟩
    obtain ⟨p, rfl⟩ := hw
    unfold Oper.quietAt execOp
    simp only [hx, Sem.run_bind, load_wide T hM (h.regrown p.d p.os) hL, Result.andThen_ok]
    exact ⟨rfl, rfl⟩

theorem quiet_load_wideg (hw : Region.wanted { dst := dst, op := .load t x, type := ty, pos := pos, after := after, guard := some g } (yielded ops a.tmps) = true) (T : Wide t n) (hM : (L.drop o).take n = M) (h : Holds w B L) (hL : o + n ≤ L.length) (hx : a.eval x = .pointer (some ⟨B, o, none⟩))
    (k : wpQuiet Try.prog ops (fun w' => ∃ p : Regrown, w' = grow (redrawn w p.d) p.os) Q rest (a.put dst (mdl M))) :
    wpQuiet Try.prog ops (fun w' => ∃ p : Regrown, w' = grow (redrawn w p.d) p.os) Q ({ dst := dst, op := .load t x, type := ty, pos := pos, after := after, guard := some g } :: rest) a :=
  wpQuiet_step fun K hK => by
    rw [if_pos hw]
    refine ⟨mdl M, fun w' hw => ?_, hK _ k⟩
    obtain ⟨p, rfl⟩ := hw
    unfold Oper.quietAt execOp
    simp only [hx, Sem.run_bind, load_wide T hM (h.regrown p.d p.os) hL, Result.andThen_ok]
    exact ⟨rfl, rfl⟩
end

theorem take_all {L : List Int} {n : Nat} (h : L.length = n) : (L.drop 0).take n = L := by
  rw [List.drop_zero, List.take_of_length_le (by omega)]

end Go.Proofs.Ytamefddgpdhccaa.Mod
