/-
  The model's values: loads, stores, new variables, values that are built, two that are held against each other. No condition.
-/
import Derived.Test.YtoldedbfoechlaaGreatDoorNRow
namespace Go.Proofs.YtoldedbfoechlaaGreatDoor.Mod
open Go.RowKit Go.Sort
set_option linter.unusedVariables false
set_option linter.unusedSimpArgs false

/-- Ints as a value. -/
abbrev mdl (L : List Int) : Value := .agg (vals L).toArray
def zeros : List Int := List.replicate 195 0
def zeros8 : List Int := List.replicate 198 0
theorem zeros_len : zeros.length = 195 := List.length_replicate
theorem zeros8_len : zeros8.length = 198 := List.length_replicate
theorem size_vals (L : List Int) : (vals L).toArray.size = L.length := by rw [List.size_toArray, vals_length]

theorem info26 : (Tryz.prog.info? 46).map (fun i => (i.zero, i.size)) = some (some (mdl zeros), 195) := by kernel_rfl
theorem info47 : (Tryz.prog.info? 120).map (fun i => (i.zero, i.size)) = some (some (mdl zeros8), 198) := by kernel_rfl
theorem zero26 (w : World) : (zeroValue 46).run Tryz.prog w = .ok (mdl zeros) w := (zero_of_info info26).1 w
theorem zero47 (w : World) : (zeroValue 120).run Tryz.prog w = .ok (mdl zeros8) w := (zero_of_info info47).1 w
theorem size26 : (Tryz.prog.info? 46).map (·.size) = some 195 := (zero_of_info info26).2
theorem size47 : (Tryz.prog.info? 120).map (·.size) = some 198 := (zero_of_info info47).2

/-- A model out of a block that begins with it. -/
theorem load26 {w : World} {B : Nat} {L : List Int} (h : Holds w B L) (hn : 195 ≤ L.length) :
    (Instr.loadAt 46 (.pointer (some ⟨B, 0, none⟩))).run Tryz.prog w = .ok (mdl (L.take 195)) w := by
  have h2 := h.part 0 195 (by omega)
  rw [List.drop_zero] at h2
  exact run_loadAt_mid w B 0 46 (vals (L.take 195)) _ h2 Tryz.underlying46 rfl (by rw [size26, vals_length]; simp; omega)

theorem load26' {w : World} {B : Nat} {L : List Int} (h : Holds w B L) (hn : L.length = 195) :
    (Instr.loadAt 46 (.pointer (some ⟨B, 0, none⟩))).run Tryz.prog w = .ok (mdl L) w := by
  have := load26 h (by omega)
  rwa [List.take_of_length_le (by omega)] at this

theorem store26 {w : World} {B : Nat} {L M : List Int} (h : Holds w B L) (hL : L.length = 195) (hM : M.length = 195) :
    (Instr.storeAt 46 (.pointer (some ⟨B, 0, none⟩)) (mdl M)).run Tryz.prog w = .ok () (w.setCells B 0 (vals M)) := by
  have hs : (vals M).toArray.size = 195 := by simp [vals_length, hM]
  have := run_storeAt_mid (P := Tryz.prog) w B 0 46 (vals M).toArray (by rw [hs]; exact h.there 0 195 (by omega)) (by rw [size26, hs]) (vals_one M)
  simpa using this

theorem store26n {w : World} {L M : List Int} (hL : L.length = 195) (hM : M.length = 195) :
    (Instr.storeAt 46 (.pointer (some ⟨w.heap.size, 0, none⟩)) (mdl M)).run Tryz.prog (w.alloc (.cells (vals L).toArray 46)) = .ok () (w.alloc (.cells (vals M).toArray 46)) :=
  run_storeAt_new w 46 _ _ (by rw [size26]; simp [vals_length, hM]) (by simp [vals_length, hL, hM]) (vals_one M)

theorem store47n {w : World} {L M : List Int} (hL : L.length = 198) (hM : M.length = 198) :
    (Instr.storeAt 120 (.pointer (some ⟨w.heap.size, 0, none⟩)) (mdl M)).run Tryz.prog (w.alloc (.cells (vals L).toArray 120)) = .ok () (w.alloc (.cells (vals M).toArray 120)) :=
  run_storeAt_new w 120 _ _ (by rw [size47]; simp [vals_length, hM]) (by simp [vals_length, hL, hM]) (vals_one M)

/-! The same as the walk meets them, at the list of a region's operations. -/
section
variable {ops : Array Oper} {rest : List Oper} {dst : Option Tmp} {a : Act} {w : World} {Q : Exit → Act → World → Prop} {ty : TypeId} {pos : String} {after : Array Edge} {x y : Operand} {B : Nat} {L M : List Int}

theorem wpl_load26 (h : Holds w B L) (hL : 195 ≤ L.length) (hx : a.eval x = .pointer (some ⟨B, 0, none⟩)) (k : wpList Tryz.prog ops Q rest (a.put dst (mdl (L.take 195))) w) :
    wpList Tryz.prog ops Q ({ dst := dst, op := .load 46 x, type := ty, pos := pos, after := after, guard := none } :: rest) a w :=
  wpList_load_mid rfl 46 x rfl B 0 hx (vals (L.take 195)) _ (by have h2 := h.part 0 195 (by omega); rwa [List.drop_zero] at h2) Tryz.underlying46 rfl (by rw [size26, vals_length]; simp; omega) k

theorem wpl_load26' (h : Holds w B L) (hL : L.length = 195) (hx : a.eval x = .pointer (some ⟨B, 0, none⟩)) (k : wpList Tryz.prog ops Q rest (a.put dst (mdl L)) w) :
    wpList Tryz.prog ops Q ({ dst := dst, op := .load 46 x, type := ty, pos := pos, after := after, guard := none } :: rest) a w :=
  wpl_load26 h (by omega) hx (by rwa [List.take_of_length_le (by omega)])

theorem wpl_load26g {g : Nat × Bool} (hw : Region.wanted { dst := dst, op := .load 46 x, type := ty, pos := pos, after := after, guard := some g } (yielded ops a.tmps) = true) (h : Holds w B L) (hL : 195 ≤ L.length) (hx : a.eval x = .pointer (some ⟨B, 0, none⟩)) (k : wpList Tryz.prog ops Q rest (a.put dst (mdl (L.take 195))) w) :
    wpList Tryz.prog ops Q ({ dst := dst, op := .load 46 x, type := ty, pos := pos, after := after, guard := some g } :: rest) a w :=
  BigFrame.wpList_want hw fun _ hK => wp_load_mid 46 x rfl B 0 hx (vals (L.take 195)) _ (by have h2 := h.part 0 195 (by omega); rwa [List.drop_zero] at h2) Tryz.underlying46 rfl (by rw [size26, vals_length]; simp; omega) (hK _ _ k)

theorem wpl_store26 (h : Holds w B L) (hL : L.length = 195) (hM : M.length = 195) (hx : a.eval x = .pointer (some ⟨B, 0, none⟩)) (hy : a.eval y = mdl M) (k : wpList Tryz.prog ops Q rest (a.put dst undef) (w.setCells B 0 (vals M))) :
    wpList Tryz.prog ops Q ({ dst := dst, op := .store 46 x y, type := ty, pos := pos, after := after, guard := none } :: rest) a w :=
  wpList_store_mid rfl 46 x y rfl B 0 (vals M).toArray hx hy (by rw [size_vals, hM]; exact h.there 0 195 (by omega)) (by rw [size26, size_vals, hM]) (vals_one M) k

theorem wpl_store47 (h : Holds w B L) (hL : L.length = 198) (hM : M.length = 198) (hx : a.eval x = .pointer (some ⟨B, 0, none⟩)) (hy : a.eval y = mdl M) (k : wpList Tryz.prog ops Q rest (a.put dst undef) (w.setCells B 0 (vals M))) :
    wpList Tryz.prog ops Q ({ dst := dst, op := .store 120 x y, type := ty, pos := pos, after := after, guard := none } :: rest) a w :=
  wpList_store_mid rfl 120 x y rfl B 0 (vals M).toArray hx hy (by rw [size_vals, hM]; exact h.there 0 198 (by omega)) (by rw [size47, size_vals, hM]) (vals_one M) k
end

theorem fold_put : ∀ (X L : List Int) (off k : Nat), ((vals X).zipIdx k).foldl (fun (cs : Array Value) (p : Value × Nat) => cs.setIfInBounds (off + p.2) p.1) (vals L).toArray = (vals (put L (off + k) X)).toArray
  | [], _, _, _ => rfl
  | x :: r, L, off, k => by
    have e : (vals L).toArray.setIfInBounds (off + k) (.int .i64 x) = (vals (L.set (off + k) x)).toArray := by simp [vals, List.map_set]
    have := fold_put r (L.set (off + k) x) off (k + 1)
    simp only [vals, List.map_cons, List.zipIdx_cons, List.foldl_cons] at this e ⊢
    rw [e, this]
    rfl

theorem fold_put0 (X L : List Int) (off : Nat) : (vals X).toArray.zipIdx.foldl (fun (cs : Array Value) (x : Value × Nat) => match x with | (c, j) => cs.setIfInBounds (off + j) c) (vals L).toArray = (vals (put L off X)).toArray := by
  have h := fold_put X L off 0
  rw [Nat.add_zero] at h
  rw [← h, ← Array.foldl_toList]
  simp

theorem put_mid : ∀ (M P Q R : List Int), Q.length = M.length → put (P ++ Q ++ R) P.length M = P ++ M ++ R
  | [], P, Q, R, h => by
    have : Q = [] := List.length_eq_zero_iff.1 h
    subst this
    rfl
  | x :: r, P, q :: Q, R, h => by
    have e : (P ++ q :: Q ++ R).set P.length x = (P ++ [x]) ++ Q ++ R := by simp
    rw [put, e]
    have := put_mid r (P ++ [x]) Q R (by simpa using h)
    rw [List.length_append] at this
    simp only [List.length_cons, List.length_nil, Nat.zero_add] at this
    rw [this]
    simp

theorem view_put (L : List Int) (hL : L.length = 195) (a b c : Int) : put (put zeros8 0 L) 195 [a, b, c] = L ++ [a, b, c] := by
  have e : zeros8 = [] ++ List.replicate 195 0 ++ List.replicate 3 0 := by decide +kernel
  have h1 := put_mid L [] (List.replicate 195 0) (List.replicate 3 0) (by rw [List.length_replicate, hL])
  have h2 := put_mid [a, b, c] L (List.replicate 3 0) [] rfl
  rw [List.length_nil] at h1
  rw [e, h1]
  rw [hL] at h2
  simpa using h2

theorem fill_one {place : Nat → Option (Nat × Nat)} {L X : List Int} {i off size : Nat} {rest : List (Nat × Value)} (hp : place i = some (off, size)) (hs : X.length = size) (ho : off + size ≤ L.length) :
    Instr.fill place (vals L).toArray ((i, mdl X) :: rest) = Instr.fill place (vals (put L off X)).toArray rest := by
  have h1 : ((mdl X).cells.size ≠ size || off + (mdl X).cells.size > (vals L).toArray.size) = false := by
    have e : (mdl X).cells.size = size := (size_vals X).trans hs
    rw [e, size_vals L]
    simp; omega
  rw [Instr.fill, hp]
  show (if ((mdl X).cells.size ≠ size || off + (mdl X).cells.size > (vals L).toArray.size) = true then none else Instr.fill place ((vals X).toArray.zipIdx.foldl _ (vals L).toArray) rest) = _
  rw [h1, if_neg (by decide), fold_put0]

/-- A view is built of a model and a context. -/
theorem build47 (L : List Int) (hL : L.length = 195) (a b c : Int) (w : World) :
    (Instr.build 120 #[(0, mdl L), (1, .agg #[.int .i64 a, .int .i64 b, .int .i64 c])]).run Tryz.prog w = .ok (mdl (L ++ [a, b, c])) w := by
  have e3 : (.agg #[.int .i64 a, .int .i64 b, .int .i64 c] : Value) = mdl [a, b, c] := rfl
  have hf : Instr.fill (fun x => [(0, 195), (195, 3)][x]?) (vals zeros8).toArray [(0, mdl L), (1, .agg #[.int .i64 a, .int .i64 b, .int .i64 c])] = some (vals (L ++ [a, b, c])).toArray := by
    rw [e3, fill_one (off := 0) (size := 195) rfl (by rw [hL]) (by rw [zeros8_len]; decide), fill_one (off := 195) (size := 3) rfl rfl (by rw [put_length, zeros8_len]; decide), view_put L hL]
    rfl
  unfold Instr.build
  simp only [Sem.run_bind, zero47, Result.andThen_ok, run_underlying Tryz.underlying120, Value.cells]
  simp [Tryz.sizeOf46, Tryz.sizeOf44, hf]

theorem build26 (w : World) : (Instr.build 46 #[]).run Tryz.prog w = .ok (mdl zeros) w := by
  unfold Instr.build
  simp only [Sem.run_bind, zero26, Result.andThen_ok, run_underlying Tryz.underlying46, Value.cells]
  simp [Tryz.sizeOf43, Tryz.sizeOf44, Instr.fill]

/-- A model of weights alone. -/
theorem build26w (a b c : Int) (w : World) : (Instr.build 46 #[(1, .agg #[.int .i64 a, .int .i64 b, .int .i64 c])]).run Tryz.prog w = .ok (mdl (List.replicate 192 0 ++ [a, b, c])) w := by
  have e3 : (.agg #[.int .i64 a, .int .i64 b, .int .i64 c] : Value) = mdl [a, b, c] := rfl
  have hp : put zeros 192 [a, b, c] = List.replicate 192 0 ++ [a, b, c] := by
    have e : zeros = List.replicate 192 0 ++ List.replicate 3 0 ++ [] := by decide +kernel
    have h2 := put_mid [a, b, c] (List.replicate 192 0) (List.replicate 3 0) [] rfl
    rw [List.length_replicate] at h2
    rw [e, h2, List.append_nil]
  have hf : Instr.fill (fun x => [(0, 192), (192, 3)][x]?) (vals zeros).toArray [(1, .agg #[.int .i64 a, .int .i64 b, .int .i64 c])] = some (vals (List.replicate 192 0 ++ [a, b, c])).toArray := by
    rw [e3, fill_one (off := 192) (size := 3) rfl rfl (by rw [zeros_len]; decide), hp]
    rfl
  unfold Instr.build
  simp only [Sem.run_bind, zero26, Result.andThen_ok, run_underlying Tryz.underlying46, Value.cells]
  generalize List.replicate 192 0 ++ [a, b, c] = M at *
  simp [Tryz.sizeOf43, Tryz.sizeOf44, hf]

theorem wpl_build47 {ops : Array Oper} {rest : List Oper} {dst : Option Tmp} {a : Act} {w : World} {Q : Exit → Act → World → Prop} {ty : TypeId} {pos : String} {after : Array Edge} {x y : Operand} {L : List Int} {p q r : Int}
    (hL : L.length = 195) (hx : a.eval x = mdl L) (hy : a.eval y = .agg #[.int .i64 p, .int .i64 q, .int .i64 r]) (k : wpList Tryz.prog ops Q rest (a.put dst (mdl (L ++ [p, q, r]))) w) :
    wpList Tryz.prog ops Q ({ dst := dst, op := .build 120 #[(0, x), (1, y)], type := ty, pos := pos, after := after, guard := none } :: rest) a w :=
  wpList_plain rfl fun _ hK => by
    unfold Oper.wp execOp
    simp only [List.map_toArray, List.map_cons, List.map_nil, hx, hy, Sem.run_bind, build47 L hL p q r w, Result.andThen_ok]
    exact hK _ _ k

theorem wpl_build26 {ops : Array Oper} {rest : List Oper} {dst : Option Tmp} {a : Act} {w : World} {Q : Exit → Act → World → Prop} {ty : TypeId} {pos : String} {after : Array Edge}
    (k : wpList Tryz.prog ops Q rest (a.put dst (mdl zeros)) w) :
    wpList Tryz.prog ops Q ({ dst := dst, op := .build 46 #[], type := ty, pos := pos, after := after, guard := none } :: rest) a w :=
  wpList_plain rfl fun _ hK => by
    unfold Oper.wp execOp
    simp only [List.map_toArray, List.map_nil, Sem.run_bind, build26 w, Result.andThen_ok]
    exact hK _ _ k

/-! Two models held against each other. -/
theorem eqItems_all {d n : Nat} {e : TypeId} {xs ys : Array Value} (w : World) (f g : Nat → Value) (r : Nat → Bool) : ∀ (is : List Nat),
    (∀ i ∈ is, (part e xs (i * n)).run Tryz.prog w = .ok (f i) w ∧ (part e ys (i * n)).run Tryz.prog w = .ok (g i) w ∧ (Op.equalIn d e (f i) (g i)).run Tryz.prog w = .ok (r i) w) →
    (Op.eqItems d e n xs ys is).run Tryz.prog w = .ok (is.all r) w
  | [], _ => by simp [Op.eqItems]
  | i :: is, h => by
    obtain ⟨h1, h2, h3⟩ := h i (by simp)
    have ih := eqItems_all w f g r is (fun j hj => h j (by simp [hj]))
    simp only [Op.eqItems, Sem.run_bind, h1, h2, h3, Result.andThen_ok, List.all_cons]
    cases r i
    · simp
    · simpa using ih

theorem part_int (L : List Int) (k : Nat) (hk : k < L.length) (w : World) : (part 3 (vals L).toArray k).run Tryz.prog w = .ok (.int .i64 (L.getD k 0)) w :=
  run_part_plain w (by kernel_rfl) (by simpa using vals_get L k hk)

set_option maxRecDepth 20000 in
/-- A row of ints against another. -/
theorem eq_row (t : TypeId) (n d : Nat) (hu : Tryz.prog.underlying t = some (.array n 3)) (L M : List Int) (hL : L.length = n) (hM : M.length = n) (w : World) :
    (Op.equalIn (d + 2) t (mdl L) (mdl M)).run Tryz.prog w = .ok (decide (L = M)) w := by
  rw [run_equalIn_array (i := Tryz.prog.types[3]!) w (d + 1) _ _ hu (by kernel_rfl)]
  have hc : Tryz.prog.cellsOf 3 = 1 := by kernel_rfl
  rw [hc]
  rw [eqItems_all w (fun i => .int .i64 (L.getD i 0)) (fun i => .int .i64 (M.getD i 0)) (fun i => L.getD i 0 == M.getD i 0)]
  · congr 1
    by_cases e : L = M
    · subst e; simp
    · rw [decide_eq_false e]
      rw [List.all_eq_false]
      refine Classical.byContradiction fun hn => e ?_
      refine List.ext_getElem (by omega) fun k h1 h2 => ?_
      have hk : k ∈ List.range n := by simp; omega
      have h3 : (L.getD k 0 == M.getD k 0) = true := Classical.byContradiction fun q => hn ⟨k, hk, q⟩
      have h4 := eq_of_beq h3
      rw [List.getD_eq_getElem?_getD, List.getD_eq_getElem?_getD, List.getElem?_eq_getElem h1, List.getElem?_eq_getElem h2] at h4
      exact h4
  · intro i hi
    have hi' : i < n := by simpa using hi
    rw [Nat.mul_one]
    exact ⟨part_int L i (by omega) w, part_int M i (by omega) w, run_equalIn_int w d 3 .i64 .i64 _ _ Tryz.underlying3⟩

theorem part_row (t : TypeId) (n : Nat) (ha : ∀ w, (isAgg t).run Tryz.prog w = .ok true w) (hs : ∀ w, (sizeOf t).run Tryz.prog w = .ok n w) (L : List Int) (k : Nat) (w : World) :
    (part t (vals L).toArray k).run Tryz.prog w = .ok (mdl ((L.drop k).take n)) w := by
  unfold part
  simp only [Sem.run_bind, ha, hs, Result.andThen_ok, if_true]
  simp [vals, List.map_drop, List.map_take, List.extract_eq_take_drop]

set_option maxRecDepth 20000 in
/-- Three rows against three others. -/
theorem eq_grid (d : Nat) (L M : List Int) (hL : L.length = 192) (hM : M.length = 192) (w : World) :
    (Op.equalIn (d + 3) 43 (mdl L) (mdl M)).run Tryz.prog w = .ok (decide (L = M)) w := by
  rw [run_equalIn_array (i := Tryz.prog.types[42]!) w (d + 2) _ _ Tryz.underlying43 (by kernel_rfl)]
  have hc : Tryz.prog.cellsOf 42 = 64 := by kernel_rfl
  rw [hc]
  rw [eqItems_all w (fun i => mdl ((L.drop (i * 64)).take 64)) (fun i => mdl ((M.drop (i * 64)).take 64)) (fun i => decide ((L.drop (i * 64)).take 64 = (M.drop (i * 64)).take 64))]
  · congr 1
    by_cases e : L = M
    · subst e; simp
    · rw [decide_eq_false e]
      rw [List.all_eq_false]
      refine Classical.byContradiction fun hn => e ?_
      have g : ∀ i, i < 3 → (L.drop (i * 64)).take 64 = (M.drop (i * 64)).take 64 := fun i hi =>
        of_decide_eq_true (Classical.byContradiction fun q => hn ⟨i, by simpa using hi, q⟩)
      have s : ∀ (X : List Int), X.length = 192 → X = (X.drop (0 * 64)).take 64 ++ ((X.drop (1 * 64)).take 64 ++ (X.drop (2 * 64)).take 64) := fun X hX => by
        have e1 := List.take_append_drop 64 X
        have e2 := List.take_append_drop 64 (X.drop 64)
        rw [List.drop_drop] at e2
        have e3 : (X.drop 128).take 64 = X.drop 128 := List.take_of_length_le (by simp; omega)
        show X = (X.drop 0).take 64 ++ ((X.drop 64).take 64 ++ (X.drop 128).take 64)
        rw [List.drop_zero, e3]
        exact e1.symm.trans (congrArg (X.take 64 ++ ·) e2.symm)
      rw [s L hL, s M hM, g 0 (by decide), g 1 (by decide), g 2 (by decide)]
  · intro i hi
    have hi' : i < 3 := by simpa using hi
    exact ⟨part_row 42 64 Tryz.isAgg42 Tryz.sizeOf42 L (i * 64) w, part_row 42 64 Tryz.isAgg42 Tryz.sizeOf42 M (i * 64) w,
      eq_row 42 64 d Tryz.underlying42 _ _ (by simp; omega) (by simp; omega) w⟩

/-- A model against another. -/
theorem eq_in26 (L M : List Int) (hL : L.length = 195) (hM : M.length = 195) (w : World) :
    (Op.equalIn 10000 46 (mdl L) (mdl M)).run Tryz.prog w = .ok (decide (L = M)) w := by
  have g : (Op.equalIn 9999 43 (mdl ((L.drop 0).take 192)) (mdl ((M.drop 0).take 192))).run Tryz.prog w = .ok _ w := eq_grid 9996 ((L.drop 0).take 192) ((M.drop 0).take 192) (by simp; omega) (by simp; omega) w
  have k : (Op.equalIn 9999 44 (mdl ((L.drop 192).take 3)) (mdl ((M.drop 192).take 3))).run Tryz.prog w = .ok _ w := eq_row 44 3 9997 Tryz.underlying44 ((L.drop 192).take 3) ((M.drop 192).take 3) (by simp; omega) (by simp; omega) w
  have g1 := part_row 43 192 Tryz.isAgg43 Tryz.sizeOf43 L 0 w
  have g2 := part_row 43 192 Tryz.isAgg43 Tryz.sizeOf43 M 0 w
  have k1 := part_row 44 3 Tryz.isAgg44 Tryz.sizeOf44 L 192 w
  have k2 := part_row 44 3 Tryz.isAgg44 Tryz.sizeOf44 M 192 w
  have s : ∀ (X : List Int), X.length = 195 → X = (X.drop 0).take 192 ++ (X.drop 192).take 3 := fun X hX => by
    have e1 := List.take_append_drop 192 X
    have e3 : (X.drop 192).take 3 = X.drop 192 := List.take_of_length_le (by simp; omega)
    rw [List.drop_zero, e3]
    exact e1.symm
  have ft : Tryz.prog.fieldsOf 46 = #[{ name := "Counts", type := 43, offset := 0, embedded := false, tag := "", pkgPath := "", byteOffset := 0 }, { name := "Weights", type := 44, offset := 192, embedded := false, tag := "", pkgPath := "", byteOffset := 1536 }] := by kernel_rfl
  rw [run_equalIn_struct w 9999 46 _ _ (by rw [ft]; exact Tryz.underlying46) (by kernel_rfl)]
  rw [ft]
  have e : decide (L = M) = (decide ((L.drop 0).take 192 = (M.drop 0).take 192) && decide ((L.drop 192).take 3 = (M.drop 192).take 3)) := by
    by_cases e : L = M
    · subst e; simp
    · rw [decide_eq_false e]
      by_cases e1 : (L.drop 0).take 192 = (M.drop 0).take 192
      · by_cases e2 : (L.drop 192).take 3 = (M.drop 192).take 3
        · exact absurd ((s L hL).trans ((by rw [e1, e2] : _ = _).trans (s M hM).symm)) e
        · rw [decide_eq_false e2]; simp
      · rw [decide_eq_false e1]; simp
  rw [e]
  show (Op.eqFields 9999 (vals L).toArray (vals M).toArray [{ name := "Counts", type := 43, offset := 0, embedded := false, tag := "", pkgPath := "", byteOffset := 0 }, { name := "Weights", type := 44, offset := 192, embedded := false, tag := "", pkgPath := "", byteOffset := 1536 }]).run Tryz.prog w = _
  simp only [Op.eqFields, Sem.run_bind]
  rw [if_pos (by decide), if_pos (by decide)]
  generalize decide ((L.drop 0).take 192 = (M.drop 0).take 192) = p at *
  generalize decide ((L.drop 192).take 3 = (M.drop 192).take 3) = q at *
  simp only [Sem.run_bind, g1, g2, g, Result.andThen_ok]
  cases p
  · simp
  · simp only [Bool.not_true, Bool.false_eq_true, if_false, Sem.run_bind, k1, k2, k, Result.andThen_ok]
    cases q <;> simp

theorem eq_26 (L M : List Int) (hL : L.length = 195) (hM : M.length = 195) (w : World) :
    (binOp .eql 46 (mdl L) (mdl M)).run Tryz.prog w = .ok (.bool (decide (L = M))) w := by
  rw [run_eql_struct, eq_in26 L M hL hM]; rfl

end Go.Proofs.YtoldedbfoechlaaGreatDoor.Mod
