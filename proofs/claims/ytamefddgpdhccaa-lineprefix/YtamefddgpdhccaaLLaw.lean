/-
  A line's values: loads, stores, new variables, values that are built, two that are held against each other. No condition.
-/
import Derived.Test.YtamefddgpdhccaaLNum
import Derived.Test.YtamefddgpdhccaaGLaw
import Derived.Deep.QuietTactic
import Derived.BigQuiet
namespace Go.Proofs.Ytamefddgpdhccaa.Lin
open Go.RowKit Go.Sort Go.Proofs.Ytamefddgpdhccaa.Mod
set_option linter.unusedVariables false
set_option linter.unusedSimpArgs false

theorem info24 : (Try.prog.info? 41).map (fun i => (i.zero, i.size)) = some (some (mdl zeros16), 16) := by kernel_rfl
theorem zero24 (w : World) : (zeroValue 41).run Try.prog w = .ok (mdl zeros16) w := (zero_of_info info24).1 w
theorem size24 : (Try.prog.info? 41).map (·.size) = some 16 := (zero_of_info info24).2
theorem size22 : (Try.prog.info? 39).map (·.size) = some 8 := by kernel_rfl

theorem load24 {w : World} {B : Nat} {L : List Int} (h : Holds w B L) (hn : L.length = 16) :
    (Instr.loadAt 41 (.pointer (some ⟨B, 0, none⟩))).run Try.prog w = .ok (mdl L) w :=
  run_loadAt_mid w B 0 41 (vals L) _ h.range Try.underlying41 rfl (by rw [size24, vals_length, hn])

theorem load22 {w : World} {B : Nat} {L : List Int} (h : Holds w B L) (o : Nat) (hn : o + 8 ≤ L.length) :
    (Instr.loadAt 39 (.pointer (some ⟨B, o, none⟩))).run Try.prog w = .ok (mdl ((L.drop o).take 8)) w :=
  run_loadAt_mid w B o 39 (vals ((L.drop o).take 8)) _ (h.part o 8 hn) Try.underlying39 rfl (by rw [size22, vals_length]; simp; omega)

theorem store24n {w : World} {L M : List Int} (hL : L.length = 16) (hM : M.length = 16) :
    (Instr.storeAt 41 (.pointer (some ⟨w.heap.size, 0, none⟩)) (mdl M)).run Try.prog (w.alloc (.cells (vals L).toArray 41)) = .ok () (w.alloc (.cells (vals M).toArray 41)) :=
  run_storeAt_new w 41 _ _ (by rw [size24]; simp [vals_length, hM]) (by simp [vals_length, hL, hM]) (vals_one M)

theorem part8_get (L : List Int) (o k : Nat) (hk : k < 8) : ((L.drop o).take 8).getD k 0 = L.getD (o + k) 0 := by
  rw [List.getD_eq_getElem?_getD, List.getD_eq_getElem?_getD, List.getElem?_take_of_lt hk, List.getElem?_drop]

theorem ix22_0 (a b c d e f g h : Value) (w : World) : (Instr.index 39 (.agg #[a, b, c, d, e, f, g, h]) (.int .i64 0)).run Try.prog w = .ok a w := by kernel_rfl
theorem ix22_1 (a b c d e f g h : Value) (w : World) : (Instr.index 39 (.agg #[a, b, c, d, e, f, g, h]) (.int .i64 1)).run Try.prog w = .ok b w := by kernel_rfl
theorem ix22_2 (a b c d e f g h : Value) (w : World) : (Instr.index 39 (.agg #[a, b, c, d, e, f, g, h]) (.int .i64 2)).run Try.prog w = .ok c w := by kernel_rfl
theorem ix22_3 (a b c d e f g h : Value) (w : World) : (Instr.index 39 (.agg #[a, b, c, d, e, f, g, h]) (.int .i64 3)).run Try.prog w = .ok d w := by kernel_rfl
theorem ix22_4 (a b c d e f g h : Value) (w : World) : (Instr.index 39 (.agg #[a, b, c, d, e, f, g, h]) (.int .i64 4)).run Try.prog w = .ok e w := by kernel_rfl
theorem ix22_5 (a b c d e f g h : Value) (w : World) : (Instr.index 39 (.agg #[a, b, c, d, e, f, g, h]) (.int .i64 5)).run Try.prog w = .ok f w := by kernel_rfl
theorem ix22_6 (a b c d e f g h : Value) (w : World) : (Instr.index 39 (.agg #[a, b, c, d, e, f, g, h]) (.int .i64 6)).run Try.prog w = .ok g w := by kernel_rfl
theorem ix22_7 (a b c d e f g h : Value) (w : World) : (Instr.index 39 (.agg #[a, b, c, d, e, f, g, h]) (.int .i64 7)).run Try.prog w = .ok h w := by kernel_rfl
/-- A number of a row that is held by value. -/
theorem ix22 (M : List Int) (hM : M.length = 8) (k : Nat) (hk : k < 8) (w : World) : (Instr.index 39 (mdl M) (.int .i64 (k : Int))).run Try.prog w = .ok (.int .i64 (M.getD k 0)) w := by
  match M, hM with
  | [a, b, c, d, e, f, g, h], _ =>
    match k, hk with
    | 0, _ => exact ix22_0 _ _ _ _ _ _ _ _ w
    | 1, _ => exact ix22_1 _ _ _ _ _ _ _ _ w
    | 2, _ => exact ix22_2 _ _ _ _ _ _ _ _ w
    | 3, _ => exact ix22_3 _ _ _ _ _ _ _ _ w
    | 4, _ => exact ix22_4 _ _ _ _ _ _ _ _ w
    | 5, _ => exact ix22_5 _ _ _ _ _ _ _ _ w
    | 6, _ => exact ix22_6 _ _ _ _ _ _ _ _ w
    | 7, _ => exact ix22_7 _ _ _ _ _ _ _ _ w
    | k + 8, hk => exact absurd hk (by omega)

theorem build24 (w : World) : (Instr.build 41 #[]).run Try.prog w = .ok (mdl zeros16) w := by
  unfold Instr.build
  simp only [Sem.run_bind, zero24, Result.andThen_ok, run_underlying Try.underlying41, Value.cells]
  simp [Try.sizeOf39, Instr.fill]

section
variable {ops : Array Oper} {rest : List Oper} {dst : Option Tmp} {a : Act} {w : World} {Q : Exit → Act → World → Prop} {ty : TypeId} {pos : String} {after : Array Edge} {x y : Operand} {B o : Nat} {L M : List Int} {g : Nat × Bool}

theorem wpl_load24 (h : Holds w B L) (hL : L.length = 16) (hx : a.eval x = .pointer (some ⟨B, 0, none⟩)) (k : wpList Try.prog ops Q rest (a.put dst (mdl L)) w) :
    wpList Try.prog ops Q ({ dst := dst, op := .load 41 x, type := ty, pos := pos, after := after, guard := none } :: rest) a w :=
  wpList_load_mid rfl 41 x rfl B 0 hx (vals L) _ h.range Try.underlying41 rfl (by rw [size24, vals_length, hL]) k

theorem wpl_load24g (hw : Region.wanted { dst := dst, op := .load 41 x, type := ty, pos := pos, after := after, guard := some g } (yielded ops a.tmps) = true) (h : Holds w B L) (hL : L.length = 16) (hx : a.eval x = .pointer (some ⟨B, 0, none⟩)) (k : wpList Try.prog ops Q rest (a.put dst (mdl L)) w) :
    wpList Try.prog ops Q ({ dst := dst, op := .load 41 x, type := ty, pos := pos, after := after, guard := some g } :: rest) a w :=
  BigFrame.wpList_want hw fun _ hK => wp_load_mid 41 x rfl B 0 hx (vals L) _ h.range Try.underlying41 rfl (by rw [size24, vals_length, hL]) (hK _ _ k)

theorem wpl_load22 (hM : (L.drop o).take 8 = M) (h : Holds w B L) (hL : o + 8 ≤ L.length) (hx : a.eval x = .pointer (some ⟨B, o, none⟩)) (k : wpList Try.prog ops Q rest (a.put dst (mdl M)) w) :
    wpList Try.prog ops Q ({ dst := dst, op := .load 39 x, type := ty, pos := pos, after := after, guard := none } :: rest) a w :=
  wpList_load_mid rfl 39 x rfl B o hx (vals M) _ (hM ▸ h.part o 8 hL) Try.underlying39 rfl (by rw [size22, vals_length, ← hM]; simp; omega) k

theorem wpl_load22g (hw : Region.wanted { dst := dst, op := .load 39 x, type := ty, pos := pos, after := after, guard := some g } (yielded ops a.tmps) = true) (hM : (L.drop o).take 8 = M) (h : Holds w B L) (hL : o + 8 ≤ L.length) (hx : a.eval x = .pointer (some ⟨B, o, none⟩)) (k : wpList Try.prog ops Q rest (a.put dst (mdl M)) w) :
    wpList Try.prog ops Q ({ dst := dst, op := .load 39 x, type := ty, pos := pos, after := after, guard := some g } :: rest) a w :=
  BigFrame.wpList_want hw fun _ hK => wp_load_mid 39 x rfl B o hx (vals M) _ (hM ▸ h.part o 8 hL) Try.underlying39 rfl (by rw [size22, vals_length, ← hM]; simp; omega) (hK _ _ k)

theorem wpl_store24 (h : Holds w B L) (hL : L.length = 16) (hM : M.length = 16) (hx : a.eval x = .pointer (some ⟨B, 0, none⟩)) (hy : a.eval y = mdl M) (k : wpList Try.prog ops Q rest (a.put dst undef) (w.setCells B 0 (vals M))) :
    wpList Try.prog ops Q ({ dst := dst, op := .store 41 x y, type := ty, pos := pos, after := after, guard := none } :: rest) a w :=
  wpList_store_mid rfl 41 x y rfl B 0 (vals M).toArray hx hy (by rw [size_vals, hM]; exact h.there 0 16 (by omega)) (by rw [size24, size_vals, hM]) (vals_one M) k

/-- A variable that is filled, the world under a letter. -/
theorem wpl_store24w {w0 : World} (b : Bel w0 w) (h : Holds w B L) (hB : w0.heap.size ≤ B) (hL : L.length = 16) (hM : M.length = 16) (hx : a.eval x = .pointer (some ⟨B, 0, none⟩)) (hy : a.eval y = mdl M)
    (k : ∀ w', Hid (Holds w' B M) → Hid (Bel w0 w') → Hid (∀ (C : Nat) (K : List Int), C ≠ B → Holds w C K → Holds w' C K) → wpList Try.prog ops Q rest (a.put dst undef) w') :
    wpList Try.prog ops Q ({ dst := dst, op := .store 41 x y, type := ty, pos := pos, after := after, guard := none } :: rest) a w :=
  wpl_store24 h hL hM hx hy (k _ (holds_all h M (by omega)) (Bel.setCells hB _ _ b) (fun C K hC hK => Holds.others hC _ _ hK))

theorem wpl_store24n (hL : L.length = 16) (hM : M.length = 16) (hx : a.eval x = .pointer (some ⟨w.heap.size, 0, none⟩)) (hy : a.eval y = mdl M) (k : wpList Try.prog ops Q rest (a.put dst undef) (w.alloc (.cells (vals M).toArray 41))) :
    wpList Try.prog ops Q ({ dst := dst, op := .store 41 x y, type := ty, pos := pos, after := after, guard := none } :: rest) a (w.alloc (.cells (vals L).toArray 41)) :=
  wpList_plain rfl fun _ hK => by
    unfold Oper.wp execOp
    simp only [hx, hy, Sem.run_bind, store24n hL hM, Result.andThen_ok]
    exact hK _ _ k

theorem wpl_build24 (k : wpList Try.prog ops Q rest (a.put dst (mdl zeros16)) w) :
    wpList Try.prog ops Q ({ dst := dst, op := .build 41 #[], type := ty, pos := pos, after := after, guard := none } :: rest) a w :=
  wpList_plain rfl fun _ hK => by
    unfold Oper.wp execOp
    simp only [List.map_toArray, List.map_nil, Sem.run_bind, build24 w, Result.andThen_ok]
    exact hK _ _ k

theorem wpl_build24g (hw : Region.wanted { dst := dst, op := .build 41 #[], type := ty, pos := pos, after := after, guard := some g } (yielded ops a.tmps) = true) (k : wpList Try.prog ops Q rest (a.put dst (mdl zeros16)) w) :
    wpList Try.prog ops Q ({ dst := dst, op := .build 41 #[], type := ty, pos := pos, after := after, guard := some g } :: rest) a w :=
  BigFrame.wpList_want hw fun _ hK => by
    unfold Oper.wp execOp
    simp only [List.map_toArray, List.map_nil, Sem.run_bind, build24 w, Result.andThen_ok]
    exact hK _ _ k
end

section
variable {ops : Array Oper} {rest : List Oper} {dst : Option Tmp} {a : Act} {w : World} {ty : TypeId} {pos : String} {after : Array Edge} {x y : Operand} {B : Nat} {L M : List Int} {Q : Act → Prop} {g : Nat × Bool}

theorem quiet_load24 (h : Holds w B L) (hL : L.length = 16) (hx : a.eval x = .pointer (some ⟨B, 0, none⟩))
    (k : wpQuiet Try.prog ops (fun w' => ∃ p : Regrown, w' = grow (redrawn w p.d) p.os) Q rest (a.put dst (mdl L))) :
    wpQuiet Try.prog ops (fun w' => ∃ p : Regrown, w' = grow (redrawn w p.d) p.os) Q ({ dst := dst, op := .load 41 x, type := ty, pos := pos, after := after, guard := none } :: rest) a :=
  wpQuiet_step fun K hK => by
    rw [if_pos (show Region.wanted { dst := dst, op := .load 41 x, type := ty, pos := pos, after := after, guard := none } (yielded ops a.tmps) = true by simp [Region.wanted])]
    refine ⟨mdl L, fun w' hw => ?_, hK _ k⟩
    obtain ⟨p, rfl⟩ := hw
    unfold Oper.quietAt execOp
    simp only [hx, Sem.run_bind, load24 (h.regrown p.d p.os) hL, Result.andThen_ok]
    exact ⟨rfl, rfl⟩

theorem quiet_load24g (hw : Region.wanted { dst := dst, op := .load 41 x, type := ty, pos := pos, after := after, guard := some g } (yielded ops a.tmps) = true) (h : Holds w B L) (hL : L.length = 16) (hx : a.eval x = .pointer (some ⟨B, 0, none⟩))
    (k : wpQuiet Try.prog ops (fun w' => ∃ p : Regrown, w' = grow (redrawn w p.d) p.os) Q rest (a.put dst (mdl L))) :
    wpQuiet Try.prog ops (fun w' => ∃ p : Regrown, w' = grow (redrawn w p.d) p.os) Q ({ dst := dst, op := .load 41 x, type := ty, pos := pos, after := after, guard := some g } :: rest) a :=
  wpQuiet_step fun K hK => by
    rw [if_pos hw]
    refine ⟨mdl L, fun w' hw => ?_, hK _ k⟩
    obtain ⟨p, rfl⟩ := hw
    unfold Oper.quietAt execOp
    simp only [hx, Sem.run_bind, load24 (h.regrown p.d p.os) hL, Result.andThen_ok]
    exact ⟨rfl, rfl⟩
end

theorem results_lms2 {fn : Func} {t u : Tmp} (hf : fn.results = #[.cell t 41, .tmp u]) {tmps : Array Value} {b : Nat} {w : World} {L : List Int} {v : Value} (ht : tmps[t]?.getD undef = .pointer (some ⟨b, 0, none⟩)) (hv : tmps[u]?.getD undef = v)
    (h : Holds w b L) (hL : L.length = 16) : (results fn tmps).run Try.prog w = .ok (.tuple #[mdl L, v]) w := by
  have := run_loadVar_mid (P := Try.prog) w b 0 41 (vals L) _ h.range Try.underlying41 rfl (by rw [size24, vals_length, hL])
  simp [results, hf, ht, hv, this, Sem.run_bind, asAddr]

/-- A line against another. -/
theorem eq_in24 (L M : List Int) (hL : L.length = 16) (hM : M.length = 16) (w : World) :
    (Op.equalIn 10000 41 (mdl L) (mdl M)).run Try.prog w = .ok (decide (L = M)) w := by
  have g : (Op.equalIn 9999 39 (mdl ((L.drop 0).take 8)) (mdl ((M.drop 0).take 8))).run Try.prog w = .ok _ w := eq_row 39 8 9997 Try.underlying39 ((L.drop 0).take 8) ((M.drop 0).take 8) (by simp; omega) (by simp; omega) w
  have k : (Op.equalIn 9999 39 (mdl ((L.drop 8).take 8)) (mdl ((M.drop 8).take 8))).run Try.prog w = .ok _ w := eq_row 39 8 9997 Try.underlying39 ((L.drop 8).take 8) ((M.drop 8).take 8) (by simp; omega) (by simp; omega) w
  have g1 := part_row 39 8 Try.isAgg39 Try.sizeOf39 L 0 w
  have g2 := part_row 39 8 Try.isAgg39 Try.sizeOf39 M 0 w
  have k1 := part_row 39 8 Try.isAgg39 Try.sizeOf39 L 8 w
  have k2 := part_row 39 8 Try.isAgg39 Try.sizeOf39 M 8 w
  have s : ∀ (X : List Int), X.length = 16 → X = (X.drop 0).take 8 ++ (X.drop 8).take 8 := fun X hX => by
    have e1 := List.take_append_drop 8 X
    have e3 : (X.drop 8).take 8 = X.drop 8 := List.take_of_length_le (by simp; omega)
    rw [List.drop_zero, e3]
    exact e1.symm
  have ft : Try.prog.fieldsOf 41 = #[{ name := "Weights", type := 39, offset := 0, embedded := false, tag := "", pkgPath := "", byteOffset := 0 }, { name := "History", type := 39, offset := 8, embedded := false, tag := "", pkgPath := "", byteOffset := 64 }] := by kernel_rfl
  rw [run_equalIn_struct w 9999 41 _ _ (by rw [ft]; exact Try.underlying41) (by kernel_rfl)]
  rw [ft]
  have e : decide (L = M) = (decide ((L.drop 0).take 8 = (M.drop 0).take 8) && decide ((L.drop 8).take 8 = (M.drop 8).take 8)) := by
    by_cases e : L = M
    · subst e; simp
    · rw [decide_eq_false e]
      by_cases e1 : (L.drop 0).take 8 = (M.drop 0).take 8
      · by_cases e2 : (L.drop 8).take 8 = (M.drop 8).take 8
        · exact absurd ((s L hL).trans ((by rw [e1, e2] : _ = _).trans (s M hM).symm)) e
        · rw [decide_eq_false e2]; simp
      · rw [decide_eq_false e1]; simp
  rw [e]
  show (Op.eqFields 9999 (vals L).toArray (vals M).toArray [{ name := "Weights", type := 39, offset := 0, embedded := false, tag := "", pkgPath := "", byteOffset := 0 }, { name := "History", type := 39, offset := 8, embedded := false, tag := "", pkgPath := "", byteOffset := 64 }]).run Try.prog w = _
  simp only [Op.eqFields, Sem.run_bind]
  rw [if_pos (by decide), if_pos (by decide)]
  generalize decide ((L.drop 0).take 8 = (M.drop 0).take 8) = p at *
  generalize decide ((L.drop 8).take 8 = (M.drop 8).take 8) = q at *
  simp only [Sem.run_bind, g1, g2, g, Result.andThen_ok]
  cases p
  · simp
  · simp only [Bool.not_true, Bool.false_eq_true, if_false, Sem.run_bind, k1, k2, k, Result.andThen_ok]
    cases q <;> simp

theorem eq_24 (L M : List Int) (hL : L.length = 16) (hM : M.length = 16) (w : World) :
    (binOp .eql 41 (mdl L) (mdl M)).run Try.prog w = .ok (.bool (decide (L = M))) w := by
  rw [run_eql_struct, eq_in24 L M hL hM]; rfl

end Go.Proofs.Ytamefddgpdhccaa.Lin
