/-
  The model's values: loads, stores, new variables, values that are built, two that are held against each other. No condition.
  The contracts of package count and of the reference's answers for it: New, Next and P of any ints, as P7.1 has them. No condition.
  The contract of model.New and of the reference's NewModel. No condition.
  The contracts of slices.IndexFunc and slices.ContainsFunc over the two tests of package model, of May and of a view's may. Condition: the package's table is laid as its text lays it.
  The contracts of model.May and of a view's may. Condition: the package's table is laid as its text lays it.
-/
import Derived.Test.YtocnlefpbcnlmaaGreatDoorPk4
import Derived.Test.YtocnlefpbcnlmaaGreatDoorPk1
import Derived.Test.YtocnlefpbcnlmaaGreatDoorRows
import Derived.WalkLawsBesides
import Derived.WalkSpells
import Derived.ProofKit

namespace Go.Proofs.YtocnlefpbcnlmaaGreatDoor.Mod
open Go.RowKit Go.Sort
set_option linter.unusedVariables false
set_option linter.unusedSimpArgs false

def zeros : List Int := List.replicate 195 0
def zeros8 : List Int := List.replicate 198 0
theorem zeros_len : zeros.length = 195 := List.length_replicate
theorem zeros8_len : zeros8.length = 198 := List.length_replicate
theorem info26 : (Tryz.prog.info? 46).map (fun i => (i.zero, i.size)) = some (some (mdl zeros), 195) := by kernel_rfl
theorem info47 : (Tryz.prog.info? 120).map (fun i => (i.zero, i.size)) = some (some (mdl zeros8), 198) := by kernel_rfl
theorem zero26 (w : World) : (zeroValue 46).run Tryz.prog w = .ok (mdl zeros) w := (zero_of_info info26).1 w
theorem zero47 (w : World) : (zeroValue 120).run Tryz.prog w = .ok (mdl zeros8) w := (zero_of_info info47).1 w
theorem size26 : (Tryz.prog.info? 46).map (·.size) = some 195 := (zero_of_info info26).2
theorem size47 : (Tryz.prog.info? 120).map (·.size) = some 198 := (zero_of_info info47).2

/-- A model out of a block that begins with it. -/
theorem load26 {w : World} {B : Nat} {L : List Int} (h : Holds w B L) (hn : 195 ≤ L.length) :
    (Instr.loadAt 46 (.pointer (some ⟨B, 0, none⟩))).run Tryz.prog w = .ok (mdl (L.take 195)) w := by
  have h2 := h.part 0 195 (by omega)
  rw [List.drop_zero] at h2
  exact run_loadAt_mid w B 0 46 (vals (L.take 195)) _ h2 Tryz.underlying46 rfl (by rw [size26, vals_length]; simp; omega)

theorem load26' {w : World} {B : Nat} {L : List Int} (h : Holds w B L) (hn : L.length = 195) :
    (Instr.loadAt 46 (.pointer (some ⟨B, 0, none⟩))).run Tryz.prog w = .ok (mdl L) w := by
  have := load26 h (by omega)
  rwa [List.take_of_length_le (by omega)] at this

theorem store26 {w : World} {B : Nat} {L M : List Int} (h : Holds w B L) (hL : L.length = 195) (hM : M.length = 195) :
    (Instr.storeAt 46 (.pointer (some ⟨B, 0, none⟩)) (mdl M)).run Tryz.prog w = .ok () (w.setCells B 0 (vals M)) := by
  have hs : (vals M).toArray.size = 195 := by simp [vals_length, hM]
  have := run_storeAt_mid (P := Tryz.prog) w B 0 46 (vals M).toArray (by rw [hs]; exact h.there 0 195 (by omega)) (by rw [size26, hs]) (vals_one M)
  simpa using this

theorem store26n {w : World} {L M : List Int} (hL : L.length = 195) (hM : M.length = 195) :
    (Instr.storeAt 46 (.pointer (some ⟨w.heap.size, 0, none⟩)) (mdl M)).run Tryz.prog (w.alloc (.cells (vals L).toArray 46)) = .ok () (w.alloc (.cells (vals M).toArray 46)) :=
  run_storeAt_new w 46 _ _ (by rw [size26]; simp [vals_length, hM]) (by simp [vals_length, hL, hM]) (vals_one M)

theorem store47n {w : World} {L M : List Int} (hL : L.length = 198) (hM : M.length = 198) :
    (Instr.storeAt 120 (.pointer (some ⟨w.heap.size, 0, none⟩)) (mdl M)).run Tryz.prog (w.alloc (.cells (vals L).toArray 120)) = .ok () (w.alloc (.cells (vals M).toArray 120)) :=
  run_storeAt_new w 120 _ _ (by rw [size47]; simp [vals_length, hM]) (by simp [vals_length, hL, hM]) (vals_one M)

/-! The same as the walk meets them, at the list of a region's operations. -/
section
variable {ops : Array Oper} {rest : List Oper} {dst : Option Tmp} {a : Act} {w : World} {Q : Exit → Act → World → Prop} {ty : TypeId} {pos : String} {after : Array Edge} {x y : Operand} {B : Nat} {L M : List Int}

theorem wpl_load26 (h : Holds w B L) (hL : 195 ≤ L.length) (hx : a.eval x = .pointer (some ⟨B, 0, none⟩)) (k : wpList Tryz.prog ops Q rest (a.put dst (mdl (L.take 195))) w) :
    wpList Tryz.prog ops Q ({ dst := dst, op := .load 46 x, type := ty, pos := pos, after := after, guard := none } :: rest) a w :=
  wpList_load_mid rfl 46 x rfl B 0 hx (vals (L.take 195)) _ (by have h2 := h.part 0 195 (by omega); rwa [List.drop_zero] at h2) Tryz.underlying46 rfl (by rw [size26, vals_length]; simp; omega) k

theorem wpl_load26' (h : Holds w B L) (hL : L.length = 195) (hx : a.eval x = .pointer (some ⟨B, 0, none⟩)) (k : wpList Tryz.prog ops Q rest (a.put dst (mdl L)) w) :
    wpList Tryz.prog ops Q ({ dst := dst, op := .load 46 x, type := ty, pos := pos, after := after, guard := none } :: rest) a w :=
  wpl_load26 h (by omega) hx (by rwa [List.take_of_length_le (by omega)])

theorem wpl_load26g {g : Nat × Bool} (hw : Region.wanted { dst := dst, op := .load 46 x, type := ty, pos := pos, after := after, guard := some g } (yielded ops a.tmps) = true) (h : Holds w B L) (hL : 195 ≤ L.length) (hx : a.eval x = .pointer (some ⟨B, 0, none⟩)) (k : wpList Tryz.prog ops Q rest (a.put dst (mdl (L.take 195))) w) :
    wpList Tryz.prog ops Q ({ dst := dst, op := .load 46 x, type := ty, pos := pos, after := after, guard := some g } :: rest) a w :=
  BigFrame.wpList_want hw fun _ hK => wp_load_mid 46 x rfl B 0 hx (vals (L.take 195)) _ (by have h2 := h.part 0 195 (by omega); rwa [List.drop_zero] at h2) Tryz.underlying46 rfl (by rw [size26, vals_length]; simp; omega) (hK _ _ k)

theorem wpl_store26 (h : Holds w B L) (hL : L.length = 195) (hM : M.length = 195) (hx : a.eval x = .pointer (some ⟨B, 0, none⟩)) (hy : a.eval y = mdl M) (k : wpList Tryz.prog ops Q rest (a.put dst undef) (w.setCells B 0 (vals M))) :
    wpList Tryz.prog ops Q ({ dst := dst, op := .store 46 x y, type := ty, pos := pos, after := after, guard := none } :: rest) a w :=
  wpList_store_mid rfl 46 x y rfl B 0 (vals M).toArray hx hy (by rw [size_vals, hM]; exact h.there 0 195 (by omega)) (by rw [size26, size_vals, hM]) (vals_one M) k

theorem wpl_store47 (h : Holds w B L) (hL : L.length = 198) (hM : M.length = 198) (hx : a.eval x = .pointer (some ⟨B, 0, none⟩)) (hy : a.eval y = mdl M) (k : wpList Tryz.prog ops Q rest (a.put dst undef) (w.setCells B 0 (vals M))) :
    wpList Tryz.prog ops Q ({ dst := dst, op := .store 120 x y, type := ty, pos := pos, after := after, guard := none } :: rest) a w :=
  wpList_store_mid rfl 120 x y rfl B 0 (vals M).toArray hx hy (by rw [size_vals, hM]; exact h.there 0 198 (by omega)) (by rw [size47, size_vals, hM]) (vals_one M) k
end

theorem view_put (L : List Int) (hL : L.length = 195) (a b c : Int) : put (put zeros8 0 L) 195 [a, b, c] = L ++ [a, b, c] := by
  have e : zeros8 = [] ++ List.replicate 195 0 ++ List.replicate 3 0 := by decide +kernel
  have h1 := put_mid L [] (List.replicate 195 0) (List.replicate 3 0) (by rw [List.length_replicate, hL])
  have h2 := put_mid [a, b, c] L (List.replicate 3 0) [] rfl
  rw [List.length_nil] at h1
  rw [e, h1]
  rw [hL] at h2
  simpa using h2

/-- A view is built of a model and a context. -/
theorem build47 (L : List Int) (hL : L.length = 195) (a b c : Int) (w : World) :
    (Instr.build 120 #[(0, mdl L), (1, .agg #[.int .i64 a, .int .i64 b, .int .i64 c])]).run Tryz.prog w = .ok (mdl (L ++ [a, b, c])) w := by
  have e3 : (.agg #[.int .i64 a, .int .i64 b, .int .i64 c] : Value) = mdl [a, b, c] := rfl
  have hf : Instr.fill (fun x => [(0, 195), (195, 3)][x]?) (vals zeros8).toArray [(0, mdl L), (1, .agg #[.int .i64 a, .int .i64 b, .int .i64 c])] = some (vals (L ++ [a, b, c])).toArray := by
    rw [e3, fill_one (off := 0) (size := 195) rfl (by rw [hL]) (by rw [zeros8_len]; decide), fill_one (off := 195) (size := 3) rfl rfl (by rw [put_length, zeros8_len]; decide), view_put L hL]
    rfl
  unfold Instr.build
  simp only [Sem.run_bind, zero47, Result.andThen_ok, run_underlying Tryz.underlying120, Value.cells]
  simp [Tryz.sizeOf46, Tryz.sizeOf44, hf]

theorem build26 (w : World) : (Instr.build 46 #[]).run Tryz.prog w = .ok (mdl zeros) w := by
  unfold Instr.build
  simp only [Sem.run_bind, zero26, Result.andThen_ok, run_underlying Tryz.underlying46, Value.cells]
  simp [Tryz.sizeOf43, Tryz.sizeOf44, Instr.fill]

/-- A model of weights alone. -/
theorem build26w (a b c : Int) (w : World) : (Instr.build 46 #[(1, .agg #[.int .i64 a, .int .i64 b, .int .i64 c])]).run Tryz.prog w = .ok (mdl (List.replicate 192 0 ++ [a, b, c])) w := by
  have e3 : (.agg #[.int .i64 a, .int .i64 b, .int .i64 c] : Value) = mdl [a, b, c] := rfl
  have hp : put zeros 192 [a, b, c] = List.replicate 192 0 ++ [a, b, c] := by
    have e : zeros = List.replicate 192 0 ++ List.replicate 3 0 ++ [] := by decide +kernel
    have h2 := put_mid [a, b, c] (List.replicate 192 0) (List.replicate 3 0) [] rfl
    rw [List.length_replicate] at h2
    rw [e, h2, List.append_nil]
  have hf : Instr.fill (fun x => [(0, 192), (192, 3)][x]?) (vals zeros).toArray [(1, .agg #[.int .i64 a, .int .i64 b, .int .i64 c])] = some (vals (List.replicate 192 0 ++ [a, b, c])).toArray := by
    rw [e3, fill_one (off := 192) (size := 3) rfl rfl (by rw [zeros_len]; decide), hp]
    rfl
  unfold Instr.build
  simp only [Sem.run_bind, zero26, Result.andThen_ok, run_underlying Tryz.underlying46, Value.cells]
  generalize List.replicate 192 0 ++ [a, b, c] = M at *
  simp [Tryz.sizeOf43, Tryz.sizeOf44, hf]

theorem wpl_build47 {ops : Array Oper} {rest : List Oper} {dst : Option Tmp} {a : Act} {w : World} {Q : Exit → Act → World → Prop} {ty : TypeId} {pos : String} {after : Array Edge} {x y : Operand} {L : List Int} {p q r : Int}
    (hL : L.length = 195) (hx : a.eval x = mdl L) (hy : a.eval y = .agg #[.int .i64 p, .int .i64 q, .int .i64 r]) (k : wpList Tryz.prog ops Q rest (a.put dst (mdl (L ++ [p, q, r]))) w) :
    wpList Tryz.prog ops Q ({ dst := dst, op := .build 120 #[(0, x), (1, y)], type := ty, pos := pos, after := after, guard := none } :: rest) a w :=
  wpList_plain rfl fun _ hK => by
    unfold Oper.wp execOp
    simp only [List.map_toArray, List.map_cons, List.map_nil, hx, hy, Sem.run_bind, build47 L hL p q r w, Result.andThen_ok]
    exact hK _ _ k

theorem wpl_build26 {ops : Array Oper} {rest : List Oper} {dst : Option Tmp} {a : Act} {w : World} {Q : Exit → Act → World → Prop} {ty : TypeId} {pos : String} {after : Array Edge}
    (k : wpList Tryz.prog ops Q rest (a.put dst (mdl zeros)) w) :
    wpList Tryz.prog ops Q ({ dst := dst, op := .build 46 #[], type := ty, pos := pos, after := after, guard := none } :: rest) a w :=
  wpList_plain rfl fun _ hK => by
    unfold Oper.wp execOp
    simp only [List.map_toArray, List.map_nil, Sem.run_bind, build26 w, Result.andThen_ok]
    exact hK _ _ k

/-! Two models held against each other. -/
set_option maxRecDepth 20000 in
/-- Three rows against three others. -/
theorem eq_grid (d : Nat) (L M : List Int) (hL : L.length = 192) (hM : M.length = 192) (w : World) :
    (Op.equalIn (d + 3) 43 (mdl L) (mdl M)).run Tryz.prog w = .ok (decide (L = M)) w := by
  rw [run_equalIn_array (i := Tryz.prog.types[42]!) w (d + 2) _ _ Tryz.underlying43 (by kernel_rfl)]
  have hc : Tryz.prog.cellsOf 42 = 64 := by kernel_rfl
  rw [hc]
  rw [eqItems_all w (fun i => mdl ((L.drop (i * 64)).take 64)) (fun i => mdl ((M.drop (i * 64)).take 64)) (fun i => decide ((L.drop (i * 64)).take 64 = (M.drop (i * 64)).take 64))]
  · congr 1
    by_cases e : L = M
    · subst e; simp
    · rw [decide_eq_false e]
      rw [List.all_eq_false]
      refine Classical.byContradiction fun hn => e ?_
      have g : ∀ i, i < 3 → (L.drop (i * 64)).take 64 = (M.drop (i * 64)).take 64 := fun i hi =>
        of_decide_eq_true (Classical.byContradiction fun q => hn ⟨i, by simpa using hi, q⟩)
      have s : ∀ (X : List Int), X.length = 192 → X = (X.drop (0 * 64)).take 64 ++ ((X.drop (1 * 64)).take 64 ++ (X.drop (2 * 64)).take 64) := fun X hX => by
        have e1 := List.take_append_drop 64 X
        have e2 := List.take_append_drop 64 (X.drop 64)
        rw [List.drop_drop] at e2
        have e3 : (X.drop 128).take 64 = X.drop 128 := List.take_of_length_le (by simp; omega)
        show X = (X.drop 0).take 64 ++ ((X.drop 64).take 64 ++ (X.drop 128).take 64)
        rw [List.drop_zero, e3]
        exact e1.symm.trans (congrArg (X.take 64 ++ ·) e2.symm)
      rw [s L hL, s M hM, g 0 (by decide), g 1 (by decide), g 2 (by decide)]
  · intro i hi
    have hi' : i < 3 := by simpa using hi
    exact ⟨part_row 42 64 Tryz.isAgg42 Tryz.sizeOf42 L (i * 64) w, part_row 42 64 Tryz.isAgg42 Tryz.sizeOf42 M (i * 64) w,
      eq_row 42 64 d Tryz.underlying42 _ _ (by simp; omega) (by simp; omega) w⟩

/-- A model against another. -/
theorem eq_in26 (L M : List Int) (hL : L.length = 195) (hM : M.length = 195) (w : World) :
    (Op.equalIn 10000 46 (mdl L) (mdl M)).run Tryz.prog w = .ok (decide (L = M)) w := by
  have g : (Op.equalIn 9999 43 (mdl ((L.drop 0).take 192)) (mdl ((M.drop 0).take 192))).run Tryz.prog w = .ok _ w := eq_grid 9996 ((L.drop 0).take 192) ((M.drop 0).take 192) (by simp; omega) (by simp; omega) w
  have k : (Op.equalIn 9999 44 (mdl ((L.drop 192).take 3)) (mdl ((M.drop 192).take 3))).run Tryz.prog w = .ok _ w := eq_row 44 3 9997 Tryz.underlying44 ((L.drop 192).take 3) ((M.drop 192).take 3) (by simp; omega) (by simp; omega) w
  have g1 := part_row 43 192 Tryz.isAgg43 Tryz.sizeOf43 L 0 w
  have g2 := part_row 43 192 Tryz.isAgg43 Tryz.sizeOf43 M 0 w
  have k1 := part_row 44 3 Tryz.isAgg44 Tryz.sizeOf44 L 192 w
  have k2 := part_row 44 3 Tryz.isAgg44 Tryz.sizeOf44 M 192 w
  have s : ∀ (X : List Int), X.length = 195 → X = (X.drop 0).take 192 ++ (X.drop 192).take 3 := fun X hX => by
    have e1 := List.take_append_drop 192 X
    have e3 : (X.drop 192).take 3 = X.drop 192 := List.take_of_length_le (by simp; omega)
    rw [List.drop_zero, e3]
    exact e1.symm
  have ft : Tryz.prog.fieldsOf 46 = #[{ name := "Counts", type := 43, offset := 0, embedded := false, tag := "", pkgPath := "", byteOffset := 0 }, { name := "Weights", type := 44, offset := 192, embedded := false, tag := "", pkgPath := "", byteOffset := 1536 }] := by kernel_rfl
  rw [run_equalIn_struct w 9999 46 _ _ (by rw [ft]; exact Tryz.underlying46) (by kernel_rfl)]
  rw [ft]
  have e : decide (L = M) = (decide ((L.drop 0).take 192 = (M.drop 0).take 192) && decide ((L.drop 192).take 3 = (M.drop 192).take 3)) := by
    by_cases e : L = M
    · subst e; simp
    · rw [decide_eq_false e]
      by_cases e1 : (L.drop 0).take 192 = (M.drop 0).take 192
      · by_cases e2 : (L.drop 192).take 3 = (M.drop 192).take 3
        · exact absurd ((s L hL).trans ((by rw [e1, e2] : _ = _).trans (s M hM).symm)) e
        · rw [decide_eq_false e2]; simp
      · rw [decide_eq_false e1]; simp
  rw [e]
  show (Op.eqFields 9999 (vals L).toArray (vals M).toArray [{ name := "Counts", type := 43, offset := 0, embedded := false, tag := "", pkgPath := "", byteOffset := 0 }, { name := "Weights", type := 44, offset := 192, embedded := false, tag := "", pkgPath := "", byteOffset := 1536 }]).run Tryz.prog w = _
  simp only [Op.eqFields, Sem.run_bind]
  rw [if_pos (by decide), if_pos (by decide)]
  generalize decide ((L.drop 0).take 192 = (M.drop 0).take 192) = p at *
  generalize decide ((L.drop 192).take 3 = (M.drop 192).take 3) = q at *
  simp only [Sem.run_bind, g1, g2, g, Result.andThen_ok]
  cases p
  · simp
  · simp only [Bool.not_true, Bool.false_eq_true, if_false, Sem.run_bind, k1, k2, k, Result.andThen_ok]
    cases q <;> simp

theorem eq_26 (L M : List Int) (hL : L.length = 195) (hM : M.length = 195) (w : World) :
    (binOp .eql 46 (mdl L) (mdl M)).run Tryz.prog w = .ok (.bool (decide (L = M))) w := by
  rw [run_eql_struct, eq_in26 L M hL hM]; rfl

end Go.Proofs.YtocnlefpbcnlmaaGreatDoor.Mod

namespace Go.Proofs.YtocnlefpbcnlmaaGreatDoor.Cnt
open Go.RowKit Go.Proofs.YtocnlefpbcnlmaaGreatDoor.Num
set_option linter.unusedVariables false

/-- May it be a counter; is it a bit? -/
def cntB (c : Int) : Bool := decide (0 ≤ c ∧ c ≤ 65535)
def bitB (b : Int) : Bool := decide (b = 0 ∨ b = 1)

/-- What Next answers, for what may be. -/
def step (c b : Int) : Int := if b = 1 then c + (65535 - c) / 16 else c - c / 16

/-- What Next answers. -/
def nextAns (c b : Int) : Value := if cntB c = true ∧ bitB b = true then .tuple #[.int .i64 (step c b), .int .i64 0] else .tuple #[.int .i64 0, .int .i64 700]

/-- What P answers. -/
def chance (c : Int) : Int := if c / 16 ≤ 1 then 1 else c / 16
def pAns (c : Int) : Value := if cntB c = true then .tuple #[.int .i64 (chance c), .int .i64 0] else .tuple #[.int .i64 0, .int .i64 700]

theorem num_ok (n : Int) (w : World) :
    Calls Tryz.prog 10 #[.int .i64 n] w fun e w' => e = .returned (.int .i64 n) ∧ w' = w := by
  go_enter Tryz.func10, Tryz.ntmps10
  go_wp2
  go_ret
  exact ⟨rfl, rfl⟩

theorem new_ok (w : World) :
    Calls Tryz.prog 69 #[] w fun e w' => e = .returned (.int .i64 32768) ∧ w' = w := by
  go_enter Tryz.func69, Tryz.ntmps69
  go_wp2
  go_ret
  exact ⟨rfl, rfl⟩

set_option maxHeartbeats 400000 in
theorem isCounter_ok (c : Int) (w : World) :
    Calls Tryz.prog 112 #[.int .i64 c] w fun e w' => e = .returned (.bool (cntB c)) ∧ w' = w := by
  by_cases h0 : 0 ≤ c
  · have e : cntB c = decide (c ≤ 65535) := by unfold cntB; simp [h0]
    rw [e]
    go_enter Tryz.func112, Tryz.ntmps112
    go_wp2
    go_ret
    exact ⟨rfl, rfl⟩
  · have e : cntB c = false := decide_eq_false fun k => h0 k.1
    rw [e]
    have h3 : decide (0 ≤ c) = false := decide_eq_false h0
    go_enter Tryz.func112, Tryz.ntmps112
    go_wp2
    go_ret
    exact ⟨rfl, rfl⟩

set_option maxHeartbeats 400000 in
theorem isBit_ok (b : Int) (w : World) :
    Calls Tryz.prog 113 #[.int .i64 b] w fun e w' => e = .returned (.bool (bitB b)) ∧ w' = w := by
  by_cases h0 : b = 0
  · subst h0
    go_enter Tryz.func113, Tryz.ntmps113
    go_wp2
    go_ret
    exact ⟨rfl, rfl⟩
  · by_cases h1 : b = 1
    · subst h1
      go_enter Tryz.func113, Tryz.ntmps113
      go_wp2
      go_ret
      exact ⟨rfl, rfl⟩
    · have e0 : (b == 0) = false := by simpa using h0
      have e1 : (b == 1) = false := by simpa using h1
      have e : bitB b = false := decide_eq_false fun k => k.elim h0 h1
      rw [e]
      clear h0 h1 e
      go_enter Tryz.func113, Tryz.ntmps113
      go_wp2
      go_ret
      exact ⟨rfl, rfl⟩

theorem cntB_of {c : Int} (h : cntB c = true) : 0 ≤ c ∧ c ≤ 65535 := of_decide_eq_true h
theorem bitB_of {b : Int} (h : bitB b = true) : b = 0 ∨ b = 1 := of_decide_eq_true h

set_option maxHeartbeats 800000 in
/-- Next, of any two ints. -/
theorem next_ok (c b : Int) (w : World) :
    Calls Tryz.prog 81 #[.int .i64 c, .int .i64 b] w fun e w' => e = .returned (nextAns c b) ∧ w' = w := by
  by_cases hc : cntB c = true
  · by_cases hb : bitB b = true
    · have e : nextAns c b = .tuple #[.int .i64 (step c b), .int .i64 0] := if_pos ⟨hc, hb⟩
      rw [e]
      obtain ⟨c0, c1⟩ := cntB_of hc
      have q1 : (65535 - c).tdiv 16 = (65535 - c) / 16 := Int.tdiv_eq_ediv_of_nonneg (by omega)
      have q0 : c.tdiv 16 = c / 16 := Int.tdiv_eq_ediv_of_nonneg (by omega)
      rcases bitB_of hb with rfl | rfl
      · have e2 : step c 0 = c - c / 16 := if_neg (by decide)
        rw [e2]
        go_enter Tryz.func81, Tryz.ntmps81
        go_wp2_with fail
        refine (isCounter_ok c _).mono ?_
        rw [hc]
        rintro e w1 ⟨rfl, rfl⟩
        go_wp2_with fail
        refine (isBit_ok 0 _).mono ?_
        rw [hb]
        rintro e w1 ⟨rfl, rfl⟩
        go_wp2
        go_ret2
        exact ⟨rfl, rfl⟩
      · have e2 : step c 1 = c + (65535 - c) / 16 := if_pos rfl
        rw [e2]
        go_enter Tryz.func81, Tryz.ntmps81
        go_wp2_with fail
        refine (isCounter_ok c _).mono ?_
        rw [hc]
        rintro e w1 ⟨rfl, rfl⟩
        go_wp2_with fail
        refine (isBit_ok 1 _).mono ?_
        rw [hb]
        rintro e w1 ⟨rfl, rfl⟩
        go_wp2
        go_ret2
        exact ⟨rfl, rfl⟩
    · have e : nextAns c b = .tuple #[.int .i64 0, .int .i64 700] := if_neg fun k => hb k.2
      rw [e]
      have hb' : bitB b = false := by simpa using hb
      go_enter Tryz.func81, Tryz.ntmps81
      go_wp2_with fail
      refine (isCounter_ok c _).mono ?_
      rw [hc]
      rintro e w1 ⟨rfl, rfl⟩
      go_wp2_with fail
      refine (isBit_ok b _).mono ?_
      rw [hb']
      rintro e w1 ⟨rfl, rfl⟩
      go_wp2
      go_ret2
      exact ⟨rfl, rfl⟩
  · have e : nextAns c b = .tuple #[.int .i64 0, .int .i64 700] := if_neg fun k => hc k.1
    rw [e]
    have hc' : cntB c = false := by simpa using hc
    go_enter Tryz.func81, Tryz.ntmps81
    go_wp2_with fail
    refine (isCounter_ok c _).mono ?_
    rw [hc']
    rintro e w1 ⟨rfl, rfl⟩
    go_wp2
    go_ret2
    exact ⟨rfl, rfl⟩

set_option maxHeartbeats 800000 in
/-- P, of any int. -/
theorem p_ok (c : Int) (w : World) :
    Calls Tryz.prog 107 #[.int .i64 c] w fun e w' => e = .returned (pAns c) ∧ w' = w := by
  by_cases hc : cntB c = true
  · have e : pAns c = .tuple #[.int .i64 (chance c), .int .i64 0] := if_pos hc
    rw [e]
    obtain ⟨c0, c1⟩ := cntB_of hc
    have q0 : c.tdiv 16 = c / 16 := Int.tdiv_eq_ediv_of_nonneg (by omega)
    unfold chance
    by_cases h1 : c / 16 ≤ 1
    · rw [if_pos h1]
      go_enter Tryz.func107, Tryz.ntmps107
      go_wp2_with fail
      refine (isCounter_ok c _).mono ?_
      rw [hc]
      rintro e w1 ⟨rfl, rfl⟩
      go_wp2
      go_ret2
      exact ⟨rfl, rfl⟩
    · rw [if_neg h1]
      go_enter Tryz.func107, Tryz.ntmps107
      go_wp2_with fail
      refine (isCounter_ok c _).mono ?_
      rw [hc]
      rintro e w1 ⟨rfl, rfl⟩
      go_wp2
      go_ret2
      exact ⟨rfl, rfl⟩
  · have e : pAns c = .tuple #[.int .i64 0, .int .i64 700] := if_neg hc
    rw [e]
    have hc' : cntB c = false := by simpa using hc
    go_enter Tryz.func107, Tryz.ntmps107
    go_wp2_with fail
    refine (isCounter_ok c _).mono ?_
    rw [hc']
    rintro e w1 ⟨rfl, rfl⟩
    go_wp2
    go_ret2
    exact ⟨rfl, rfl⟩

end Go.Proofs.YtocnlefpbcnlmaaGreatDoor.Cnt

namespace Go.Proofs.YtocnlefpbcnlmaaGreatDoor.Mod
open Go.RowKit Go.Sort
set_option linter.unusedVariables false
set_option linter.unusedSimpArgs false

/-- A model that has seen no bit. -/
def newM : List Int := List.replicate 192 32768 ++ [22000, 22000, 22000]

/-- What is laid of it so far: m counters, k weights. -/
def newF (m k i : Nat) : Int := if i < m then 32768 else if 192 ≤ i ∧ i < 192 + k then 22000 else 0
def newL (m k : Nat) : List Int := (List.range 195).map (newF m k)
theorem newL_len (m k : Nat) : (newL m k).length = 195 := by rw [newL, List.length_map, List.length_range]
theorem newL_0 : newL 0 0 = zeros := by decide +kernel
theorem newL_all : newL 192 3 = newM := by decide +kernel
theorem newM_len : newM.length = 195 := by decide +kernel

theorem newL_count (m k : Nat) (h : m < 192) : (newL m k).set m 32768 = newL (m + 1) k :=
  tab_set _ _ _ _ _ (by unfold newF; rw [if_pos (by omega)]) (fun i hi => by unfold newF; by_cases h1 : i < m <;> simp [h1] <;> omega)
theorem newL_weight (m k : Nat) (h : m ≤ 192) (hk : k < 3) : (newL m k).set (192 + k) 22000 = newL m (k + 1) :=
  tab_set _ _ _ _ _ (by unfold newF; rw [if_neg (by omega), if_pos (by omega)]) (fun i hi => by
    unfold newF
    by_cases h1 : i < m
    · simp [h1]
    · by_cases h2 : 192 ≤ i ∧ i < 192 + k
      · rw [if_neg h1, if_neg h1, if_pos h2, if_pos (by omega)]
      · rw [if_neg h1, if_neg h1, if_neg h2, if_neg (by omega)])

theorem results_model {fn : Func} {t : Tmp} (hf : fn.results = #[.cell t 46]) {tmps : Array Value} {b : Nat} {w : World} {L : List Int} (ht : tmps[t]?.getD undef = .pointer (some ⟨b, 0, none⟩))
    (h : Holds w b L) (hL : L.length = 195) : (results fn tmps).run Tryz.prog w = .ok (mdl L) w := by
  have h3 := h.range
  have := run_loadVar_mid (P := Tryz.prog) w b 0 46 (vals L) _ h3 Tryz.underlying46 rfl (by rw [size26, vals_length, hL])
  simp [results, hf, ht, this, Sem.run_bind, asAddr]

set_option maxHeartbeats 1000000 in
theorem new_ok (w : World) :
    Calls Tryz.prog 42 #[] w fun e w' => e = .returned (mdl newM) ∧ Bel w w' := by
  have z := zero26
  have zl := zeros_len
  have ZZ : Hid (zeros = newL 0 0) := newL_0.symm
  generalize zeros = Z at *
  have NA : Hid (newL 192 3 = newM) := newL_all
  have NL : Hid (newM.length = 195) := newM_len
  generalize newM = M at *
  go_enter Tryz.func42, Tryz.ntmps42
  go_wp2_with fail
  go_loopw [4] (fun i wr => ∃ k : Nat, k ≤ 3 ∧ i = .int .i64 (k : Int) ∧ Holds wr (w.heap.size + 1) (newL (k * 64) k) ∧ Holds wr w.heap.size Z ∧ Bel w wr) (fun i _ => 3 - (intOf i).toNat)
  case atStart =>
    refine ⟨0, by omega, rfl, ?_, (holds_new w Z 46).bel ((Bel.refl _).alloc _), ((Bel.refl _).alloc _).alloc _⟩
    have h := holds_new (w.alloc (.cells (vals Z).toArray 46)) Z 46
    rw [World.size_alloc] at h
    have e := ZZ.out
    rwa [← e]
  case round =>
    obtain ⟨k, hk, rfl, h1, h0, hb⟩ := hrel
    have H1 : Hid (Holds wr (w.heap.size + 1) (newL (k * 64) k)) := h1
    have H0 : Hid (Holds wr w.heap.size Z) := h0
    have HB : Hid (Bel w wr) := hb
    clear h1 h0 hb
    by_cases hlt : k < 3
    · have hd : decide ((k : Int) < 3) = true := decide_eq_true (by omega)
      have c1 := H1.out.cell (192 + k) (by rw [newL_len]; omega)
      have f1 := H1.out.free (192 + k) (by rw [newL_len]; omega)
      generalize (newL (k * 64) k).getD (192 + k) 0 = old at *
      go_wp2_with fail
      go_loopw [10] (fun i wx => ∃ j : Nat, j ≤ 64 ∧ i = .int .i64 (j : Int) ∧ Holds wx (w.heap.size + 1) (newL (k * 64 + j) (k + 1)) ∧ Holds wx w.heap.size Z ∧ Bel w wx) (fun i _ => 64 - (intOf i).toNat)
      case atStart =>
        refine ⟨0, by omega, rfl, ?_, H0.out.other _ _ (by omega) _, HB.out.setCell (by simp) _⟩
        have h := H1.out.set (192 + k) (by rw [newL_len]; omega) 22000
        rwa [newL_weight (k * 64) k (by omega) hlt] at h
      case round =>
        clear c1 f1 H1 H0 HB
        obtain ⟨j, hj, rfl, h1, h0, hb⟩ := hrel
        have H1 : Hid (Holds wr (w.heap.size + 1) (newL (k * 64 + j) (k + 1))) := h1
        have H0 : Hid (Holds wr w.heap.size Z) := h0
        have HB : Hid (Bel w wr) := hb
        clear h1 h0 hb
        by_cases hjt : j < 64
        · have hd2 : decide ((j : Int) < 64) = true := decide_eq_true (by omega)
          have c1 := H1.out.cell (k * 64 + j) (by rw [newL_len]; omega)
          have f1 := H1.out.free (k * 64 + j) (by rw [newL_len]; omega)
          generalize (newL (k * 64 + j) (k + 1)).getD (k * 64 + j) 0 = old at *
          have h := H1.out.set (k * 64 + j) (by rw [newL_len]; omega) 32768
          rw [newL_count _ _ (by omega)] at h
          have H2 : Hid (Holds (wr.setCell ⟨w.heap.size + 1, k * 64 + j, none⟩ (.int .i64 32768)) (w.heap.size + 1) (newL (k * 64 + j + 1) (k + 1))) := h
          clear h
          go_wp2_with fail
          go_region_with (first
            | (go_at_call 69; (with_reducible refine (Cnt.new_ok _).mono ?_); rintro e w9 ⟨rfl, rfl⟩))
          all_goals go_wp2
          all_goals go_roundw
          all_goals first
            | exact ⟨j + 1, by omega, by go_num, H2.out.drew, (H0.out.other _ _ (by omega) _).drew, (HB.out.setCell (by simp) _).drew⟩
            | (simp [intOf]; omega)
        · obtain rfl : j = 64 := by omega
          go_wp2
          go_roundw
          case rel => exact ⟨k + 1, by omega, by go_num, by rw [show (k + 1) * 64 = k * 64 + 64 by omega]; exact H1.out, H0.out, HB.out⟩
          case measure => simp [intOf]; omega
    · obtain rfl : k = 3 := by omega
      have h1 : Holds wr (w.heap.size + 1) (newL 192 3) := H1.out
      have na := NA.out
      rw [na] at h1
      have R0 : Hid (Holds (wr.setCells w.heap.size 0 (vals M)) w.heap.size M) := holds_all H0.out M (zl.trans NL.out.symm)
      have HB2 : Hid (Bel w (wr.setCells w.heap.size 0 (vals M))) := Bel.setCells (Nat.le_refl _) _ _ HB.out
      have H2 : Hid (Holds wr (w.heap.size + 1) M) := h1
      clear h1 na H1 HB
      go_wp2_with (first | (with_reducible refine wpl_load26' H2.out NL.out rfl ?_) | (with_reducible refine wpl_store26 H0.out zl NL.out rfl rfl ?_))
      refine bodyPost_ret (v := mdl M) (results_model Tryz.results42 rfl R0.out NL.out) rfl ⟨rfl, HB2.out⟩

end Go.Proofs.YtocnlefpbcnlmaaGreatDoor.Mod

namespace Go.Proofs.YtocnlefpbcnlmaaGreatDoor.Mod
open Go.RowKit Go.Sort
set_option linter.unusedVariables false
set_option linter.unusedSimpArgs false

/-- Is it no counter; is it no place? -/
def noCnt (c : Int) : Bool := !Cnt.cntB c
def noPlace (i : Int) : Bool := decide (i < 0 ∨ 64 ≤ i)

set_option maxHeartbeats 400000 in
theorem noCnt_ok (c : Int) (w : World) :
    Calls Tryz.prog 118 #[.int .i64 c] w fun e w' => e = .returned (.bool (noCnt c)) ∧ w' = w := by
  have q := Cnt.p_ok c
  by_cases h : Cnt.cntB c = true
  · have e : noCnt c = false := by unfold noCnt; rw [h]; rfl
    have e2 : Cnt.pAns c = .tuple #[.int .i64 (Cnt.chance c), .int .i64 0] := if_pos h
    rw [e]
    rw [e2] at q
    have Q : Hid (∀ w, Calls Tryz.prog 107 #[.int .i64 c] w fun e w' => e = .returned (.tuple #[.int .i64 (Cnt.chance c), .int .i64 0]) ∧ w' = w) := q
    clear q e2 h e
    generalize Cnt.chance c = y at *
    go_enter Tryz.func118, Tryz.ntmps118
    go_wp2_with fail
    refine (Q.out _).mono ?_
    rintro e w1 ⟨rfl, rfl⟩
    go_wp2
    go_ret
    exact ⟨rfl, rfl⟩
  · have h' : Cnt.cntB c = false := by simpa using h
    have e : noCnt c = true := by unfold noCnt; rw [h']; rfl
    have e2 : Cnt.pAns c = .tuple #[.int .i64 0, .int .i64 700] := if_neg h
    rw [e]
    rw [e2] at q
    have Q : Hid (∀ w, Calls Tryz.prog 107 #[.int .i64 c] w fun e w' => e = .returned (.tuple #[.int .i64 0, .int .i64 700]) ∧ w' = w) := q
    clear q e2 h e h'
    go_enter Tryz.func118, Tryz.ntmps118
    go_wp2_with fail
    refine (Q.out _).mono ?_
    rintro e w1 ⟨rfl, rfl⟩
    go_wp2
    go_ret
    exact ⟨rfl, rfl⟩

set_option maxHeartbeats 400000 in
theorem noPlace_ok (i : Int) (w : World) :
    Calls Tryz.prog 103 #[.int .i64 i] w fun e w' => e = .returned (.bool (noPlace i)) ∧ w' = w := by
  by_cases h : i < 0
  · have e : noPlace i = true := decide_eq_true (.inl h)
    rw [e]
    have h3 : decide (i < 0) = true := decide_eq_true h
    go_enter Tryz.func103, Tryz.ntmps103
    go_wp2
    go_ret
    exact ⟨rfl, rfl⟩
  · have e : noPlace i = decide (64 ≤ i) := by unfold noPlace; simp [h]
    rw [e]
    have h3 : decide (i < 0) = false := decide_eq_false h
    go_enter Tryz.func103, Tryz.ntmps103
    go_wp2
    go_ret
    exact ⟨rfl, rfl⟩

set_option maxHeartbeats 1000000 in
theorem index_noCnt (n : Nat) (hn : n ≤ 64) (o B : Nat) (f : Nat → Int) (w : World) (cs : ∀ j, j < n → w.cell? ⟨B, o + j, none⟩ = some (.int .i64 (f j))) :
    Calls Tryz.prog 41 #[.slice (some ⟨B, o, none⟩) n n, .func (.func 118) #[] #[]] w fun e w' => (∃ r : Int, e = .returned (.int .i64 r) ∧ decide (0 ≤ r) = anyOf noCnt f n) ∧ w' = w := by
  have P : Hid (∀ x w, Calls Tryz.prog 118 #[.int .i64 x] w fun e w' => e = .returned (.bool (noCnt x)) ∧ w' = w) := noCnt_ok
  have CS : Hid (∀ j, j < n → w.cell? ⟨B, o + j, none⟩ = some (.int .i64 (f j))) := cs
  clear cs
  go_enter Tryz.func41, Tryz.ntmps41
  go_wp2_with fail
  go_loopw [8] (fun i wr => ∃ j : Nat, j ≤ n ∧ i = .int .i64 (j : Int) ∧ Hid (∀ i, i < j → noCnt (f i) = false) ∧ wr = w) (fun i _ => n - (intOf i).toNat)
  case atStart => exact ⟨0, by omega, rfl, (fun i hi => by omega : ∀ i, i < 0 → noCnt (f i) = false), rfl⟩
  case round =>
    obtain ⟨j, hj, rfl, HN, rfl⟩ := hrel
    by_cases hlt : j < n
    · have hc := CS.out j hlt
      have hd : decide ((j : Int) < (n : Int)) = true := decide_eq_true (by omega)
      obtain ⟨x, hx⟩ : ∃ x, f j = x := ⟨_, rfl⟩
      rw [hx] at hc
      cases hp : noCnt x
      · have HN2 : Hid (∀ i, i < j + 1 → noCnt (f i) = false) := fun i hi => by
          rcases Nat.lt_or_ge i j with h | h
          · exact HN.out i h
          · obtain rfl : i = j := by omega
            rw [hx]; exact hp
        have PP := P.out x
        rw [hp] at PP
        have PQ : Hid (∀ w, Calls Tryz.prog 118 #[.int .i64 x] w fun e w' => e = .returned (.bool false) ∧ w' = w) := PP
        clear PP hx hp HN
        go_wp2_with fail
        refine (PQ.out _).mono ?_
        rintro e w1 ⟨rfl, rfl⟩
        go_wp2
        go_roundw
        case rel => exact ⟨j + 1, by omega, by go_num, HN2, by trivial⟩
        case measure => simp [intOf]; omega
      · have HA : Hid (anyOf noCnt f n = true) := anyOf_yes j hlt (by rw [hx]; exact hp)
        have PP := P.out x
        rw [hp] at PP
        have PQ : Hid (∀ w, Calls Tryz.prog 118 #[.int .i64 x] w fun e w' => e = .returned (.bool true) ∧ w' = w) := PP
        clear PP hx hp HN
        go_wp2_with fail
        refine (PQ.out _).mono ?_
        rintro e w1 ⟨rfl, rfl⟩
        go_wp2
        go_ret
        exact ⟨⟨_, rfl, by rw [HA.out]; exact decide_eq_true (by omega)⟩, rfl⟩
    · have hd : decide ((j : Int) < (n : Int)) = false := decide_eq_false (by omega)
      have HA : Hid (anyOf noCnt f n = false) := anyOf_no fun i hi => HN.out i (by omega)
      clear HN
      go_wp2
      go_ret
      exact ⟨⟨_, rfl, by rw [HA.out]; decide⟩, rfl⟩

set_option maxHeartbeats 400000 in
theorem contains_noCnt (n : Nat) (hn : n ≤ 64) (o B : Nat) (f : Nat → Int) (w : World) (cs : ∀ j, j < n → w.cell? ⟨B, o + j, none⟩ = some (.int .i64 (f j))) :
    Calls Tryz.prog 16 #[.slice (some ⟨B, o, none⟩) n n, .func (.func 118) #[] #[]] w fun e w' => e = .returned (.bool (anyOf noCnt f n)) ∧ w' = w := by
  have I := index_noCnt n hn o B f w cs
  generalize anyOf noCnt f n = k at *
  clear cs
  have I2 : Hid (Calls Tryz.prog 41 #[.slice (some ⟨B, o, none⟩) n n, .func (.func 118) #[] #[]] w fun e w' => (∃ r : Int, e = .returned (.int .i64 r) ∧ decide (0 ≤ r) = k) ∧ w' = w) := I
  clear I
  go_enter Tryz.func16, Tryz.ntmps16
  go_wp2_with fail
  refine (I2.out).mono ?_
  rintro e w1 ⟨⟨r, rfl, hr⟩, rfl⟩
  subst hr
  go_wp2
  go_ret
  exact ⟨rfl, rfl⟩

set_option maxHeartbeats 1000000 in
theorem index_noPlace (n : Nat) (hn : n ≤ 64) (o B : Nat) (f : Nat → Int) (w : World) (cs : ∀ j, j < n → w.cell? ⟨B, o + j, none⟩ = some (.int .i64 (f j))) :
    Calls Tryz.prog 41 #[.slice (some ⟨B, o, none⟩) n n, .func (.func 103) #[] #[]] w fun e w' => (∃ r : Int, e = .returned (.int .i64 r) ∧ decide (0 ≤ r) = anyOf noPlace f n) ∧ w' = w := by
  have P : Hid (∀ x w, Calls Tryz.prog 103 #[.int .i64 x] w fun e w' => e = .returned (.bool (noPlace x)) ∧ w' = w) := noPlace_ok
  have CS : Hid (∀ j, j < n → w.cell? ⟨B, o + j, none⟩ = some (.int .i64 (f j))) := cs
  clear cs
  go_enter Tryz.func41, Tryz.ntmps41
  go_wp2_with fail
  go_loopw [8] (fun i wr => ∃ j : Nat, j ≤ n ∧ i = .int .i64 (j : Int) ∧ Hid (∀ i, i < j → noPlace (f i) = false) ∧ wr = w) (fun i _ => n - (intOf i).toNat)
  case atStart => exact ⟨0, by omega, rfl, (fun i hi => by omega : ∀ i, i < 0 → noPlace (f i) = false), rfl⟩
  case round =>
    obtain ⟨j, hj, rfl, HN, rfl⟩ := hrel
    by_cases hlt : j < n
    · have hc := CS.out j hlt
      have hd : decide ((j : Int) < (n : Int)) = true := decide_eq_true (by omega)
      obtain ⟨x, hx⟩ : ∃ x, f j = x := ⟨_, rfl⟩
      rw [hx] at hc
      cases hp : noPlace x
      · have HN2 : Hid (∀ i, i < j + 1 → noPlace (f i) = false) := fun i hi => by
          rcases Nat.lt_or_ge i j with h | h
          · exact HN.out i h
          · obtain rfl : i = j := by omega
            rw [hx]; exact hp
        have PP := P.out x
        rw [hp] at PP
        have PQ : Hid (∀ w, Calls Tryz.prog 103 #[.int .i64 x] w fun e w' => e = .returned (.bool false) ∧ w' = w) := PP
        clear PP hx hp HN
        go_wp2_with fail
        refine (PQ.out _).mono ?_
        rintro e w1 ⟨rfl, rfl⟩
        go_wp2
        go_roundw
        case rel => exact ⟨j + 1, by omega, by go_num, HN2, by trivial⟩
        case measure => simp [intOf]; omega
      · have HA : Hid (anyOf noPlace f n = true) := anyOf_yes j hlt (by rw [hx]; exact hp)
        have PP := P.out x
        rw [hp] at PP
        have PQ : Hid (∀ w, Calls Tryz.prog 103 #[.int .i64 x] w fun e w' => e = .returned (.bool true) ∧ w' = w) := PP
        clear PP hx hp HN
        go_wp2_with fail
        refine (PQ.out _).mono ?_
        rintro e w1 ⟨rfl, rfl⟩
        go_wp2
        go_ret
        exact ⟨⟨_, rfl, by rw [HA.out]; exact decide_eq_true (by omega)⟩, rfl⟩
    · have hd : decide ((j : Int) < (n : Int)) = false := decide_eq_false (by omega)
      have HA : Hid (anyOf noPlace f n = false) := anyOf_no fun i hi => HN.out i (by omega)
      clear HN
      go_wp2
      go_ret
      exact ⟨⟨_, rfl, by rw [HA.out]; decide⟩, rfl⟩

set_option maxHeartbeats 400000 in
theorem contains_noPlace (n : Nat) (hn : n ≤ 64) (o B : Nat) (f : Nat → Int) (w : World) (cs : ∀ j, j < n → w.cell? ⟨B, o + j, none⟩ = some (.int .i64 (f j))) :
    Calls Tryz.prog 16 #[.slice (some ⟨B, o, none⟩) n n, .func (.func 103) #[] #[]] w fun e w' => e = .returned (.bool (anyOf noPlace f n)) ∧ w' = w := by
  have I := index_noPlace n hn o B f w cs
  generalize anyOf noPlace f n = k at *
  clear cs
  have I2 : Hid (Calls Tryz.prog 41 #[.slice (some ⟨B, o, none⟩) n n, .func (.func 103) #[] #[]] w fun e w' => (∃ r : Int, e = .returned (.int .i64 r) ∧ decide (0 ≤ r) = k) ∧ w' = w) := I
  clear I
  go_enter Tryz.func16, Tryz.ntmps16
  go_wp2_with fail
  refine (I2.out).mono ?_
  rintro e w1 ⟨⟨r, rfl, hr⟩, rfl⟩
  subst hr
  go_wp2
  go_ret
  exact ⟨rfl, rfl⟩

end Go.Proofs.YtocnlefpbcnlmaaGreatDoor.Mod

namespace Go.Proofs.YtocnlefpbcnlmaaGreatDoor.Mod
open Go.RowKit Go.Sort
set_option linter.unusedVariables false
set_option linter.unusedSimpArgs false

/-- Is there one in the row from o on that is no counter? -/
def rowBad (L : List Int) (o : Nat) : Bool := anyOf noCnt (fun j => L.getD (o + j) 0) 64
def wtsB (L : List Int) : Bool := Mix.mayB (L.getD 192 0) (L.getD 193 0) (L.getD 194 0) 0 0 0
/-- May it be a model? -/
def mayM (L : List Int) : Bool := !rowBad L 0 && (!rowBad L 64 && (!rowBad L 128 && wtsB L))
/-- May it be a context? -/
def ctxB (a b c : Int) : Bool := !(noPlace a || noPlace b || noPlace c)

theorem mayM_row {L : List Int} (h : mayM L = true) (o : Nat) (ho : o = 0 ∨ o = 64 ∨ o = 128) (j : Nat) (hj : j < 64) : 0 ≤ L.getD (o + j) 0 ∧ L.getD (o + j) 0 ≤ 65535 := by
  have hb : rowBad L o = false := by
    simp only [mayM, Bool.and_eq_true, Bool.not_eq_true'] at h
    rcases ho with rfl | rfl | rfl
    · exact h.1
    · exact h.2.1
    · exact h.2.2.1
  have := anyOf_false hb j hj
  simp only [noCnt, Bool.not_eq_false'] at this
  exact Cnt.cntB_of this

theorem mayM_wts {L : List Int} (h : mayM L = true) : Mix.May (L.getD 192 0) (L.getD 193 0) (L.getD 194 0) 0 0 0 := by
  simp only [mayM, Bool.and_eq_true, Bool.not_eq_true'] at h
  exact (Mix.mayB_iff _ _ _ _ _ _).1 h.2.2.2

theorem ctxB_of {a b c : Int} (h : ctxB a b c = true) : (0 ≤ a ∧ a < 64) ∧ (0 ≤ b ∧ b < 64) ∧ 0 ≤ c ∧ c < 64 := by
  simp only [ctxB, noPlace, Bool.not_eq_true', Bool.or_eq_false_iff, decide_eq_false_iff_not] at h
  omega

theorem dot_any (a b c : Int) (w : World) (T : Str.Tab w) :
    Calls Tryz.prog 76 #[.agg #[.int .i64 a, .int .i64 b, .int .i64 c], .agg #[.int .i64 0, .int .i64 0, .int .i64 0]] w fun e w' => (∃ y n, e = .returned (.tuple #[.int .i64 y, .int .i64 n]) ∧ (n == 0) = Mix.mayB a b c 0 0 0) ∧ Bel w w' := by
  by_cases h : Mix.May a b c 0 0 0
  · exact (Mix.dot_yes a b c 0 0 0 h w T).mono fun _ _ k => ⟨⟨_, _, k.1, by rw [Mix.mayB_yes h]; rfl⟩, k.2.b⟩
  · exact (Mix.dot_no a b c 0 0 0 h w).mono fun _ _ k => ⟨⟨_, _, k.1, by rw [Mix.mayB_no h]; rfl⟩, k.2.b⟩

set_option maxHeartbeats 2000000 in
theorem may_ok (L : List Int) (hL : L.length = 195) (w : World) (T : Str.Tab w) :
    Calls Tryz.prog 104 #[mdl L] w fun e w' => e = .returned (.bool (mayM L)) ∧ Bel w w' := by
  have TT : Hid (Str.Tab w) := T
  have C : Hid (∀ (o B : Nat) (w : World), Holds w B L → (o = 0 ∨ o = 64 ∨ o = 128) → Calls Tryz.prog 16 #[.slice (some ⟨B, o, none⟩) 64 64, .func (.func 118) #[] #[]] w fun e w' => e = .returned (.bool (rowBad L o)) ∧ w' = w) :=
    fun o B w h ho => contains_noCnt 64 (Nat.le_refl _) o B (fun j => L.getD (o + j) 0) w (fun j hj => h.cell (o + j) (by omega))
  have NL : Hid (L.length = 195) := hL
  have D : Hid (∀ (w : World), Str.Tab w → Calls Tryz.prog 76 #[.agg #[.int .i64 (L.getD 192 0), .int .i64 (L.getD 193 0), .int .i64 (L.getD 194 0)], .agg #[.int .i64 0, .int .i64 0, .int .i64 0]] w fun e w' => (∃ y n, e = .returned (.tuple #[.int .i64 y, .int .i64 n]) ∧ (n == 0) = wtsB L) ∧ Bel w w') := dot_any _ _ _
  clear T hL
  unfold mayM
  cases hb0 : rowBad L 0
  · cases hb1 : rowBad L 64
    · cases hb2 : rowBad L 128
      · simp only [Bool.not_false, Bool.true_and]
        generalize wtsB L = q at *
        go_enter Tryz.func104, Tryz.ntmps104
        go_wp2_with fail
        have h0 := holds_new w L 46
        have b0 := (Bel.refl w).alloc (.cells (vals L).toArray 46)
        generalize w.alloc (.cells (vals L).toArray 46) = W at *
        have HW : Hid (Holds W w.heap.size L) := h0
        have BW : Hid (Bel w W) := b0
        have c0 := h0.cell 192 (by rw [NL.out]; decide)
        have c1 := h0.cell 193 (by rw [NL.out]; decide)
        have c2 := h0.cell 194 (by rw [NL.out]; decide)
        clear h0 b0
        have DD := D
        generalize L.getD 192 0 = x0 at *
        generalize L.getD 193 0 = x1 at *
        generalize L.getD 194 0 = x2 at *
        refine wp_loop_rounds 4 ?_
        rw [rounds_succ]
        go_wp2_with fail
        refine (C.out 0 w.heap.size _ HW.out (by decide)).mono ?_
        rw [hb0]
        rintro e w1 ⟨rfl, rfl⟩
        go_wp2_with fail
        rw [rounds_succ]
        go_wp2_with fail
        refine (C.out 64 w.heap.size _ HW.out (by decide)).mono ?_
        rw [hb1]
        rintro e w1 ⟨rfl, rfl⟩
        go_wp2_with fail
        rw [rounds_succ]
        go_wp2_with fail
        refine (C.out 128 w.heap.size _ HW.out (by decide)).mono ?_
        rw [hb2]
        rintro e w1 ⟨rfl, rfl⟩
        go_wp2_with fail
        rw [rounds_succ]
        go_wp2_with fail
        refine (DD.out _ (tab_bel TT.out BW.out)).mono ?_
        rintro e w1 ⟨⟨y, n, rfl, hn⟩, b⟩
        have B1 : Hid (Bel w w1) := BW.out.trans b
        clear b c0 c1 c2 DD D C HW BW
        subst hn
        go_wp2
        go_ret
        exact ⟨rfl, B1.out⟩
      · simp only [Bool.not_false, Bool.not_true, Bool.true_and, Bool.false_and]
        go_enter Tryz.func104, Tryz.ntmps104
        go_wp2_with fail
        have h0 := holds_new w L 46
        have b0 := (Bel.refl w).alloc (.cells (vals L).toArray 46)
        generalize w.alloc (.cells (vals L).toArray 46) = W at *
        have HW : Hid (Holds W w.heap.size L) := h0
        have BW : Hid (Bel w W) := b0
        clear h0 b0
        refine wp_loop_rounds 3 ?_
        rw [rounds_succ]
        go_wp2_with fail
        refine (C.out 0 w.heap.size _ HW.out (by decide)).mono ?_
        rw [hb0]
        rintro e w1 ⟨rfl, rfl⟩
        go_wp2_with fail
        rw [rounds_succ]
        go_wp2_with fail
        refine (C.out 64 w.heap.size _ HW.out (by decide)).mono ?_
        rw [hb1]
        rintro e w1 ⟨rfl, rfl⟩
        go_wp2_with fail
        rw [rounds_succ]
        go_wp2_with fail
        refine (C.out 128 w.heap.size _ HW.out (by decide)).mono ?_
        rw [hb2]
        rintro e w1 ⟨rfl, rfl⟩
        go_wp2_with fail
        go_ret
        exact ⟨rfl, BW.out⟩
    · simp only [Bool.not_false, Bool.not_true, Bool.true_and, Bool.false_and]
      go_enter Tryz.func104, Tryz.ntmps104
      go_wp2_with fail
      have h0 := holds_new w L 46
      have b0 := (Bel.refl w).alloc (.cells (vals L).toArray 46)
      generalize w.alloc (.cells (vals L).toArray 46) = W at *
      have HW : Hid (Holds W w.heap.size L) := h0
      have BW : Hid (Bel w W) := b0
      clear h0 b0
      refine wp_loop_rounds 2 ?_
      rw [rounds_succ]
      go_wp2_with fail
      refine (C.out 0 w.heap.size _ HW.out (by decide)).mono ?_
      rw [hb0]
      rintro e w1 ⟨rfl, rfl⟩
      go_wp2_with fail
      rw [rounds_succ]
      go_wp2_with fail
      refine (C.out 64 w.heap.size _ HW.out (by decide)).mono ?_
      rw [hb1]
      rintro e w1 ⟨rfl, rfl⟩
      go_wp2_with fail
      go_ret
      exact ⟨rfl, BW.out⟩
  · simp only [Bool.not_true, Bool.false_and]
    go_enter Tryz.func104, Tryz.ntmps104
    go_wp2_with fail
    have h0 := holds_new w L 46
    have b0 := (Bel.refl w).alloc (.cells (vals L).toArray 46)
    generalize w.alloc (.cells (vals L).toArray 46) = W at *
    have HW : Hid (Holds W w.heap.size L) := h0
    have BW : Hid (Bel w W) := b0
    clear h0 b0
    refine wp_loop_rounds 1 ?_
    rw [rounds_succ]
    go_wp2_with fail
    refine (C.out 0 w.heap.size _ HW.out (by decide)).mono ?_
    rw [hb0]
    rintro e w1 ⟨rfl, rfl⟩
    go_wp2_with fail
    go_ret
    exact ⟨rfl, BW.out⟩

theorem any3 (a b c : Int) (f : Nat → Int) (h0 : f 0 = a) (h1 : f 1 = b) (h2 : f 2 = c) : anyOf noPlace f 3 = (noPlace a || noPlace b || noPlace c) := by
  subst h0 h1 h2
  simp [anyOf, List.range_succ, Bool.or_assoc]

set_option maxHeartbeats 2000000 in
theorem view_ok (L : List Int) (hL : L.length = 195) (a b c : Int) (B : Nat) (w : World) (T : Str.Tab w) (h : Holds w B (L ++ [a, b, c])) :
    Calls Tryz.prog 75 #[.pointer (some ⟨B, 0, none⟩)] w fun e w' => e = .returned (.bool (ctxB a b c && mayM L)) ∧ Bel w w' := by
  have TT : Hid (Str.Tab w) := T
  have HH : Hid (Holds w B (L ++ [a, b, c])) := h
  have NV : Hid (195 ≤ (L ++ [a, b, c]).length) := show 195 ≤ (L ++ [a, b, c]).length by simp; omega
  have tk : (L ++ [a, b, c]).take 195 = L := by rw [← hL]; exact List.take_left
  have C : Calls Tryz.prog 16 #[.slice (some ⟨B, 195, none⟩) 3 3, .func (.func 103) #[] #[]] w fun e w' => e = .returned (.bool (noPlace a || noPlace b || noPlace c)) ∧ w' = w := by
    have g := contains_noPlace 3 (by decide) 195 B (fun j => (L ++ [a, b, c]).getD (195 + j) 0) w (fun j hj => h.cell (195 + j) (by simp; omega))
    rwa [any3 a b c _ (by simp [List.getD_eq_getElem?_getD, List.getElem?_append_right, hL]) (by simp [List.getD_eq_getElem?_getD, List.getElem?_append_right, hL]) (by simp [List.getD_eq_getElem?_getD, List.getElem?_append_right, hL])] at g
  have M : Hid (∀ (w : World), Str.Tab w → Calls Tryz.prog 104 #[mdl ((L ++ [a, b, c]).take 195)] w fun e w' => e = .returned (.bool (mayM L)) ∧ Bel w w') := by
    rw [tk]; exact may_ok L hL
  have CC : Hid (Calls Tryz.prog 16 #[.slice (some ⟨B, 195, none⟩) 3 3, .func (.func 103) #[] #[]] w fun e w' => e = .returned (.bool (noPlace a || noPlace b || noPlace c)) ∧ w' = w) := C
  clear T h tk hL C
  generalize L ++ [a, b, c] = V at *
  unfold ctxB
  cases hp : (noPlace a || noPlace b || noPlace c)
  · simp only [Bool.not_false, Bool.true_and]
    generalize mayM L = m at *
    go_enter Tryz.func75, Tryz.ntmps75
    go_wp2_with fail
    refine CC.out.mono ?_
    rw [hp]
    rintro e w1 ⟨rfl, rfl⟩
    go_wp2_with ((with_reducible refine wpl_load26g ?hw HH.out NV.out ?hx ?hk); (case hw => rfl); (case hx => rfl))
    refine (M.out _ TT.out).mono ?_
    rintro e w2 ⟨rfl, b2⟩
    go_wp2
    go_ret
    exact ⟨rfl, b2⟩
  · simp only [Bool.not_true, Bool.false_and]
    go_enter Tryz.func75, Tryz.ntmps75
    go_wp2_with fail
    refine CC.out.mono ?_
    rw [hp]
    rintro e w1 ⟨rfl, rfl⟩
    go_wp2
    go_ret
    exact ⟨rfl, Bel.refl _⟩

end Go.Proofs.YtocnlefpbcnlmaaGreatDoor.Mod
