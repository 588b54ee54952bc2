/-
  The model's values: loads, stores, new variables, values that are built, two that are held against each other. No condition.
-/
import Derived.Test.YtnldnkcfeclmpaaDoorNRow
import Derived.Test.YtnldnkcfeclmpaaDoorGLaw
namespace Go.Proofs.YtnldnkcfeclmpaaDoor.Mod
open Go.RowKit Go.Sort
set_option linter.unusedVariables false
set_option linter.unusedSimpArgs false

def zeros : List Int := List.replicate 195 0
def zeros8 : List Int := List.replicate 198 0
theorem zeros_len : zeros.length = 195 := List.length_replicate
theorem zeros8_len : zeros8.length = 198 := List.length_replicate
theorem info26 : (Tryd.prog.info? 26).map (fun i => (i.zero, i.size)) = some (some (mdl zeros), 195) := by kernel_rfl
theorem info47 : (Tryd.prog.info? 47).map (fun i => (i.zero, i.size)) = some (some (mdl zeros8), 198) := by kernel_rfl
theorem zero26 (w : World) : (zeroValue 26).run Tryd.prog w = .ok (mdl zeros) w := (zero_of_info info26).1 w
theorem zero47 (w : World) : (zeroValue 47).run Tryd.prog w = .ok (mdl zeros8) w := (zero_of_info info47).1 w
theorem size26 : (Tryd.prog.info? 26).map (·.size) = some 195 := (zero_of_info info26).2
theorem size47 : (Tryd.prog.info? 47).map (·.size) = some 198 := (zero_of_info info47).2

/-- A model out of a block that begins with it. -/
theorem load26 {w : World} {B : Nat} {L : List Int} (h : Holds w B L) (hn : 195 ≤ L.length) :
    (Instr.loadAt 26 (.pointer (some ⟨B, 0, none⟩))).run Tryd.prog w = .ok (mdl (L.take 195)) w := by
  have h2 := h.part 0 195 (by omega)
  rw [List.drop_zero] at h2
  exact run_loadAt_mid w B 0 26 (vals (L.take 195)) _ h2 Tryd.underlying26 rfl (by rw [size26, vals_length]; simp; omega)

theorem load26' {w : World} {B : Nat} {L : List Int} (h : Holds w B L) (hn : L.length = 195) :
    (Instr.loadAt 26 (.pointer (some ⟨B, 0, none⟩))).run Tryd.prog w = .ok (mdl L) w := by
  have := load26 h (by omega)
  rwa [List.take_of_length_le (by omega)] at this

theorem store26 {w : World} {B : Nat} {L M : List Int} (h : Holds w B L) (hL : L.length = 195) (hM : M.length = 195) :
    (Instr.storeAt 26 (.pointer (some ⟨B, 0, none⟩)) (mdl M)).run Tryd.prog w = .ok () (w.setCells B 0 (vals M)) := by
  have hs : (vals M).toArray.size = 195 := by simp [vals_length, hM]
  have := run_storeAt_mid (P := Tryd.prog) w B 0 26 (vals M).toArray (by rw [hs]; exact h.there 0 195 (by omega)) (by rw [size26, hs]) (vals_one M)
  simpa using this

theorem store26n {w : World} {L M : List Int} (hL : L.length = 195) (hM : M.length = 195) :
    (Instr.storeAt 26 (.pointer (some ⟨w.heap.size, 0, none⟩)) (mdl M)).run Tryd.prog (w.alloc (.cells (vals L).toArray 26)) = .ok () (w.alloc (.cells (vals M).toArray 26)) :=
  run_storeAt_new w 26 _ _ (by rw [size26]; simp [vals_length, hM]) (by simp [vals_length, hL, hM]) (vals_one M)

theorem store47n {w : World} {L M : List Int} (hL : L.length = 198) (hM : M.length = 198) :
    (Instr.storeAt 47 (.pointer (some ⟨w.heap.size, 0, none⟩)) (mdl M)).run Tryd.prog (w.alloc (.cells (vals L).toArray 47)) = .ok () (w.alloc (.cells (vals M).toArray 47)) :=
  run_storeAt_new w 47 _ _ (by rw [size47]; simp [vals_length, hM]) (by simp [vals_length, hL, hM]) (vals_one M)

/-! The same as the walk meets them, at the list of a region's operations. -/
section
variable {ops : Array Oper} {rest : List Oper} {dst : Option Tmp} {a : Act} {w : World} {Q : Exit → Act → World → Prop} {ty : TypeId} {pos : String} {after : Array Edge} {x y : Operand} {B : Nat} {L M : List Int}

theorem wpl_load26 (h : Holds w B L) (hL : 195 ≤ L.length) (hx : a.eval x = .pointer (some ⟨B, 0, none⟩)) (k : wpList Tryd.prog ops Q rest (a.put dst (mdl (L.take 195))) w) :
    wpList Tryd.prog ops Q ({ dst := dst, op := .load 26 x, type := ty, pos := pos, after := after, guard := none } :: rest) a w :=
  wpList_load_mid rfl 26 x rfl B 0 hx (vals (L.take 195)) _ (by have h2 := h.part 0 195 (by omega); rwa [List.drop_zero] at h2) Tryd.underlying26 rfl (by rw [size26, vals_length]; simp; omega) k

theorem wpl_load26' (h : Holds w B L) (hL : L.length = 195) (hx : a.eval x = .pointer (some ⟨B, 0, none⟩)) (k : wpList Tryd.prog ops Q rest (a.put dst (mdl L)) w) :
    wpList Tryd.prog ops Q ({ dst := dst, op := .load 26 x, type := ty, pos := pos, after := after, guard := none } :: rest) a w :=
  wpl_load26 h (by omega) hx (by rwa [List.take_of_length_le (by omega)])

theorem wpl_load26g {g : Nat × Bool} (hw : Region.wanted { dst := dst, op := .load 26 x, type := ty, pos := pos, after := after, guard := some g } (yielded ops a.tmps) = true) (h : Holds w B L) (hL : 195 ≤ L.length) (hx : a.eval x = .pointer (some ⟨B, 0, none⟩)) (k : wpList Tryd.prog ops Q rest (a.put dst (mdl (L.take 195))) w) :
    wpList Tryd.prog ops Q ({ dst := dst, op := .load 26 x, type := ty, pos := pos, after := after, guard := some g } :: rest) a w :=
  BigFrame.wpList_want hw fun _ hK => wp_load_mid 26 x rfl B 0 hx (vals (L.take 195)) _ (by have h2 := h.part 0 195 (by omega); rwa [List.drop_zero] at h2) Tryd.underlying26 rfl (by rw [size26, vals_length]; simp; omega) (hK _ _ k)

theorem wpl_store26 (h : Holds w B L) (hL : L.length = 195) (hM : M.length = 195) (hx : a.eval x = .pointer (some ⟨B, 0, none⟩)) (hy : a.eval y = mdl M) (k : wpList Tryd.prog ops Q rest (a.put dst undef) (w.setCells B 0 (vals M))) :
    wpList Tryd.prog ops Q ({ dst := dst, op := .store 26 x y, type := ty, pos := pos, after := after, guard := none } :: rest) a w :=
  wpList_store_mid rfl 26 x y rfl B 0 (vals M).toArray hx hy (by rw [size_vals, hM]; exact h.there 0 195 (by omega)) (by rw [size26, size_vals, hM]) (vals_one M) k

theorem wpl_store47 (h : Holds w B L) (hL : L.length = 198) (hM : M.length = 198) (hx : a.eval x = .pointer (some ⟨B, 0, none⟩)) (hy : a.eval y = mdl M) (k : wpList Tryd.prog ops Q rest (a.put dst undef) (w.setCells B 0 (vals M))) :
    wpList Tryd.prog ops Q ({ dst := dst, op := .store 47 x y, type := ty, pos := pos, after := after, guard := none } :: rest) a w :=
  wpList_store_mid rfl 47 x y rfl B 0 (vals M).toArray hx hy (by rw [size_vals, hM]; exact h.there 0 198 (by omega)) (by rw [size47, size_vals, hM]) (vals_one M) k
end

theorem view_put (L : List Int) (hL : L.length = 195) (a b c : Int) : put (put zeros8 0 L) 195 [a, b, c] = L ++ [a, b, c] := by
  have e : zeros8 = [] ++ List.replicate 195 0 ++ List.replicate 3 0 := by decide +kernel
  have h1 := put_mid L [] (List.replicate 195 0) (List.replicate 3 0) (by rw [List.length_replicate, hL])
  have h2 := put_mid [a, b, c] L (List.replicate 3 0) [] rfl
  rw [List.length_nil] at h1
  rw [e, h1]
  rw [hL] at h2
  simpa using h2

/-- A view is built of a model and a context. -/
theorem build47 (L : List Int) (hL : L.length = 195) (a b c : Int) (w : World) :
    (Instr.build 47 #[(0, mdl L), (1, .agg #[.int .i64 a, .int .i64 b, .int .i64 c])]).run Tryd.prog w = .ok (mdl (L ++ [a, b, c])) w := by
  have e3 : (.agg #[.int .i64 a, .int .i64 b, .int .i64 c] : Value) = mdl [a, b, c] := rfl
  have hf : Instr.fill (fun x => [(0, 195), (195, 3)][x]?) (vals zeros8).toArray [(0, mdl L), (1, .agg #[.int .i64 a, .int .i64 b, .int .i64 c])] = some (vals (L ++ [a, b, c])).toArray := by
    rw [e3, fill_one (off := 0) (size := 195) rfl (by rw [hL]) (by rw [zeros8_len]; decide), fill_one (off := 195) (size := 3) rfl rfl (by rw [put_length, zeros8_len]; decide), view_put L hL]
    rfl
  unfold Instr.build
  simp only [Sem.run_bind, zero47, Result.andThen_ok, run_underlying Tryd.underlying47, Value.cells]
  simp [Tryd.sizeOf26, Tryd.sizeOf24, hf]

theorem build26 (w : World) : (Instr.build 26 #[]).run Tryd.prog w = .ok (mdl zeros) w := by
  unfold Instr.build
  simp only [Sem.run_bind, zero26, Result.andThen_ok, run_underlying Tryd.underlying26, Value.cells]
  simp [Tryd.sizeOf23, Tryd.sizeOf24, Instr.fill]

/-- A model of weights alone. -/
theorem build26w (a b c : Int) (w : World) : (Instr.build 26 #[(1, .agg #[.int .i64 a, .int .i64 b, .int .i64 c])]).run Tryd.prog w = .ok (mdl (List.replicate 192 0 ++ [a, b, c])) w := by
  have e3 : (.agg #[.int .i64 a, .int .i64 b, .int .i64 c] : Value) = mdl [a, b, c] := rfl
  have hp : put zeros 192 [a, b, c] = List.replicate 192 0 ++ [a, b, c] := by
    have e : zeros = List.replicate 192 0 ++ List.replicate 3 0 ++ [] := by decide +kernel
    have h2 := put_mid [a, b, c] (List.replicate 192 0) (List.replicate 3 0) [] rfl
    rw [List.length_replicate] at h2
    rw [e, h2, List.append_nil]
  have hf : Instr.fill (fun x => [(0, 192), (192, 3)][x]?) (vals zeros).toArray [(1, .agg #[.int .i64 a, .int .i64 b, .int .i64 c])] = some (vals (List.replicate 192 0 ++ [a, b, c])).toArray := by
    rw [e3, fill_one (off := 192) (size := 3) rfl rfl (by rw [zeros_len]; decide), hp]
    rfl
  unfold Instr.build
  simp only [Sem.run_bind, zero26, Result.andThen_ok, run_underlying Tryd.underlying26, Value.cells]
  generalize List.replicate 192 0 ++ [a, b, c] = M at *
  simp [Tryd.sizeOf23, Tryd.sizeOf24, hf]

theorem wpl_build47 {ops : Array Oper} {rest : List Oper} {dst : Option Tmp} {a : Act} {w : World} {Q : Exit → Act → World → Prop} {ty : TypeId} {pos : String} {after : Array Edge} {x y : Operand} {L : List Int} {p q r : Int}
    (hL : L.length = 195) (hx : a.eval x = mdl L) (hy : a.eval y = .agg #[.int .i64 p, .int .i64 q, .int .i64 r]) (k : wpList Tryd.prog ops Q rest (a.put dst (mdl (L ++ [p, q, r]))) w) :
    wpList Tryd.prog ops Q ({ dst := dst, op := .build 47 #[(0, x), (1, y)], type := ty, pos := pos, after := after, guard := none } :: rest) a w :=
  wpList_plain rfl fun _ hK => by
    unfold Oper.wp execOp
    simp only [List.map_toArray, List.map_cons, List.map_nil, hx, hy, Sem.run_bind, build47 L hL p q r w, Result.andThen_ok]
    exact hK _ _ k

theorem wpl_build26 {ops : Array Oper} {rest : List Oper} {dst : Option Tmp} {a : Act} {w : World} {Q : Exit → Act → World → Prop} {ty : TypeId} {pos : String} {after : Array Edge}
    (k : wpList Tryd.prog ops Q rest (a.put dst (mdl zeros)) w) :
    wpList Tryd.prog ops Q ({ dst := dst, op := .build 26 #[], type := ty, pos := pos, after := after, guard := none } :: rest) a w :=
  wpList_plain rfl fun _ hK => by
    unfold Oper.wp execOp
    simp only [List.map_toArray, List.map_nil, Sem.run_bind, build26 w, Result.andThen_ok]
    exact hK _ _ k

/-! Two models held against each other. -/
set_option maxRecDepth 20000 in
/-- Three rows against three others. -/
theorem eq_grid (d : Nat) (L M : List Int) (hL : L.length = 192) (hM : M.length = 192) (w : World) :
    (Op.equalIn (d + 3) 23 (mdl L) (mdl M)).run Tryd.prog w = .ok (decide (L = M)) w := by
  rw [run_equalIn_array (i := Tryd.prog.types[22]!) w (d + 2) _ _ Tryd.underlying23 (by kernel_rfl)]
  have hc : Tryd.prog.cellsOf 22 = 64 := by kernel_rfl
  rw [hc]
  rw [eqItems_all w (fun i => mdl ((L.drop (i * 64)).take 64)) (fun i => mdl ((M.drop (i * 64)).take 64)) (fun i => decide ((L.drop (i * 64)).take 64 = (M.drop (i * 64)).take 64))]
  · congr 1
    by_cases e : L = M
    · subst e; simp
    · rw [decide_eq_false e]
      rw [List.all_eq_false]
      refine Classical.byContradiction fun hn => e ?_
      have g : ∀ i, i < 3 → (L.drop (i * 64)).take 64 = (M.drop (i * 64)).take 64 := fun i hi =>
        of_decide_eq_true (Classical.byContradiction fun q => hn ⟨i, by simpa using hi, q⟩)
      have s : ∀ (X : List Int), X.length = 192 → X = (X.drop (0 * 64)).take 64 ++ ((X.drop (1 * 64)).take 64 ++ (X.drop (2 * 64)).take 64) := fun X hX => by
        have e1 := List.take_append_drop 64 X
        have e2 := List.take_append_drop 64 (X.drop 64)
        rw [List.drop_drop] at e2
        have e3 : (X.drop 128).take 64 = X.drop 128 := List.take_of_length_le (by simp; omega)
        show X = (X.drop 0).take 64 ++ ((X.drop 64).take 64 ++ (X.drop 128).take 64)
        rw [List.drop_zero, e3]
        exact e1.symm.trans (congrArg (X.take 64 ++ ·) e2.symm)
      rw [s L hL, s M hM, g 0 (by decide), g 1 (by decide), g 2 (by decide)]
  · intro i hi
    have hi' : i < 3 := by simpa using hi
    exact ⟨part_row 22 64 Tryd.isAgg22 Tryd.sizeOf22 L (i * 64) w, part_row 22 64 Tryd.isAgg22 Tryd.sizeOf22 M (i * 64) w,
      eq_row 22 64 d Tryd.underlying22 _ _ (by simp; omega) (by simp; omega) w⟩

/-- A model against another. -/
theorem eq_in26 (L M : List Int) (hL : L.length = 195) (hM : M.length = 195) (w : World) :
    (Op.equalIn 10000 26 (mdl L) (mdl M)).run Tryd.prog w = .ok (decide (L = M)) w := by
  have g : (Op.equalIn 9999 23 (mdl ((L.drop 0).take 192)) (mdl ((M.drop 0).take 192))).run Tryd.prog w = .ok _ w := eq_grid 9996 ((L.drop 0).take 192) ((M.drop 0).take 192) (by simp; omega) (by simp; omega) w
  have k : (Op.equalIn 9999 24 (mdl ((L.drop 192).take 3)) (mdl ((M.drop 192).take 3))).run Tryd.prog w = .ok _ w := eq_row 24 3 9997 Tryd.underlying24 ((L.drop 192).take 3) ((M.drop 192).take 3) (by simp; omega) (by simp; omega) w
  have g1 := part_row 23 192 Tryd.isAgg23 Tryd.sizeOf23 L 0 w
  have g2 := part_row 23 192 Tryd.isAgg23 Tryd.sizeOf23 M 0 w
  have k1 := part_row 24 3 Tryd.isAgg24 Tryd.sizeOf24 L 192 w
  have k2 := part_row 24 3 Tryd.isAgg24 Tryd.sizeOf24 M 192 w
  have s : ∀ (X : List Int), X.length = 195 → X = (X.drop 0).take 192 ++ (X.drop 192).take 3 := fun X hX => by
    have e1 := List.take_append_drop 192 X
    have e3 : (X.drop 192).take 3 = X.drop 192 := List.take_of_length_le (by simp; omega)
    rw [List.drop_zero, e3]
    exact e1.symm
  have ft : Tryd.prog.fieldsOf 26 = #[{ name := "Counts", type := 23, offset := 0, embedded := false, tag := "", pkgPath := "", byteOffset := 0 }, { name := "Weights", type := 24, offset := 192, embedded := false, tag := "", pkgPath := "", byteOffset := 1536 }] := by kernel_rfl
  rw [run_equalIn_struct w 9999 26 _ _ (by rw [ft]; exact Tryd.underlying26) (by kernel_rfl)]
  rw [ft]
  have e : decide (L = M) = (decide ((L.drop 0).take 192 = (M.drop 0).take 192) && decide ((L.drop 192).take 3 = (M.drop 192).take 3)) := by
    by_cases e : L = M
    · subst e; simp
    · rw [decide_eq_false e]
      by_cases e1 : (L.drop 0).take 192 = (M.drop 0).take 192
      · by_cases e2 : (L.drop 192).take 3 = (M.drop 192).take 3
        · exact absurd ((s L hL).trans ((by rw [e1, e2] : _ = _).trans (s M hM).symm)) e
        · rw [decide_eq_false e2]; simp
      · rw [decide_eq_false e1]; simp
  rw [e]
  show (Op.eqFields 9999 (vals L).toArray (vals M).toArray [{ name := "Counts", type := 23, offset := 0, embedded := false, tag := "", pkgPath := "", byteOffset := 0 }, { name := "Weights", type := 24, offset := 192, embedded := false, tag := "", pkgPath := "", byteOffset := 1536 }]).run Tryd.prog w = _
  simp only [Op.eqFields, Sem.run_bind]
  rw [if_pos (by decide), if_pos (by decide)]
  generalize decide ((L.drop 0).take 192 = (M.drop 0).take 192) = p at *
  generalize decide ((L.drop 192).take 3 = (M.drop 192).take 3) = q at *
  simp only [Sem.run_bind, g1, g2, g, Result.andThen_ok]
  cases p
  · simp
  · simp only [Bool.not_true, Bool.false_eq_true, if_false, Sem.run_bind, k1, k2, k, Result.andThen_ok]
    cases q <;> simp

theorem eq_26 (L M : List Int) (hL : L.length = 195) (hM : M.length = 195) (w : World) :
    (binOp .eql 26 (mdl L) (mdl M)).run Tryd.prog w = .ok (.bool (decide (L = M))) w := by
  rw [run_eql_struct, eq_in26 L M hL hM]; rfl

end Go.Proofs.YtnldnkcfeclmpaaDoor.Mod
