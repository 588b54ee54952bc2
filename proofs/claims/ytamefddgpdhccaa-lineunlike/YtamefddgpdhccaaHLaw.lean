/-
  A chain's values: values that are built of nothing, of a last sample alone, of three parts; two that are held against each other. No condition.
-/
import Derived.Test.YtamefddgpdhccaaHNum
import Derived.Test.YtamefddgpdhccaaGVal
import Derived.Test.YtamefddgpdhccaaLLaw
namespace Go.Proofs.Ytamefddgpdhccaa.Chn
open Go.RowKit Go.Sort Go.Proofs.Ytamefddgpdhccaa.Mod Go.Proofs.Ytamefddgpdhccaa.Lin
set_option linter.unusedVariables false
set_option linter.unusedSimpArgs false

theorem info26 : (Try.prog.info? 43).map (fun i => (i.zero, i.size)) = some (some (mdl zeros33), 33) := by kernel_rfl
theorem zero26 (w : World) : (zeroValue 43).run Try.prog w = .ok (mdl zeros33) w := (zero_of_info info26).1 w
theorem wide22 : Wide 39 8 := ⟨⟨_, Try.underlying39, rfl⟩, size22⟩
theorem wide24 : Wide 41 16 := ⟨⟨_, Try.underlying41, rfl⟩, size24⟩
theorem wide26 : Wide 43 33 := ⟨⟨_, Try.underlying43, rfl⟩, (zero_of_info info26).2⟩

theorem fill_int {place : Nat → Option (Nat × Nat)} {L : List Int} {i off : Nat} {x : Int} {rest : List (Nat × Value)} (hp : place i = some (off, 1)) (ho : off + 1 ≤ L.length) :
    Instr.fill place (vals L).toArray ((i, .int .i64 x) :: rest) = Instr.fill place (vals (put L off [x])).toArray rest :=
  fill_one (X := [x]) hp rfl ho

theorem build26 (w : World) : (Instr.build 43 #[]).run Try.prog w = .ok (mdl zeros33) w := by
  unfold Instr.build
  simp only [Sem.run_bind, zero26, Result.andThen_ok, run_underlying Try.underlying43, Value.cells]
  simp [Try.sizeOf3, Try.sizeOf41, Instr.fill]

/-- A chain of a last sample alone. -/
def alone (x : Int) : List Int := put zeros33 0 [x]
theorem alone_len (x : Int) : (alone x).length = 33 := by rw [alone, put_length, zeros33_len]

theorem build26q (x : Int) (w : World) : (Instr.build 43 #[(0, .int .i64 x)]).run Try.prog w = .ok (mdl (alone x)) w := by
  have hf : Instr.fill (fun x => [(0, 1), (1, 16), (17, 16)][x]?) (vals zeros33).toArray [(0, .int .i64 x)] = some (vals (alone x)).toArray := by
    rw [fill_int (off := 0) rfl (by rw [zeros33_len]; decide)]
    rfl
  unfold Instr.build
  simp only [Sem.run_bind, zero26, Result.andThen_ok, run_underlying Try.underlying43, Value.cells]
  generalize alone x = M at *
  simp [Try.sizeOf3, Try.sizeOf41, hf]

theorem put_parts (x : Int) (A B : List Int) (hA : A.length = 16) (hB : B.length = 16) : put (put (put zeros33 0 [x]) 1 A) 17 B = join x A B := by
  have e0 : put zeros33 0 [x] = ([x] : List Int) ++ List.replicate 16 0 ++ List.replicate 16 0 := rfl
  have e1 := put_mid A [x] (List.replicate 16 0) (List.replicate 16 0) (by simp [hA])
  have e2 := put_mid B ([x] ++ A) (List.replicate 16 0) [] (by simp [hB])
  rw [e0]
  rw [show ([x] : List Int).length = 1 from rfl] at e1
  rw [e1]
  rw [show ([x] ++ A).length = 17 by simp [hA]] at e2
  rw [List.append_nil] at e2
  rw [e2]
  simp [join]

/-- A chain of its three parts. -/
theorem build26p (x : Int) (A B : List Int) (hA : A.length = 16) (hB : B.length = 16) (w : World) : (Instr.build 43 #[(0, .int .i64 x), (1, mdl A), (2, mdl B)]).run Try.prog w = .ok (mdl (join x A B)) w := by
  have hf : Instr.fill (fun x => [(0, 1), (1, 16), (17, 16)][x]?) (vals zeros33).toArray [(0, .int .i64 x), (1, mdl A), (2, mdl B)] = some (vals (join x A B)).toArray := by
    rw [fill_int (off := 0) rfl (by rw [zeros33_len]; decide), fill_one (off := 1) (size := 16) rfl hA (by rw [put_length, zeros33_len]; decide), fill_one (off := 17) (size := 16) rfl hB (by rw [put_length, put_length, zeros33_len]; decide), put_parts x A B hA hB]
    rfl
  unfold Instr.build
  simp only [Sem.run_bind, zero26, Result.andThen_ok, run_underlying Try.underlying43, Value.cells]
  generalize join x A B = M at *
  simp [Try.sizeOf3, Try.sizeOf41, hf]

section
variable {ops : Array Oper} {rest : List Oper} {dst : Option Tmp} {a : Act} {w : World} {Q : Exit → Act → World → Prop} {ty : TypeId} {pos : String} {after : Array Edge} {x y z : Operand} {g : Nat × Bool} {v : Int} {A B M : List Int}

theorem wpl_build26 (k : wpList Try.prog ops Q rest (a.put dst (mdl zeros33)) w) :
    wpList Try.prog ops Q ({ dst := dst, op := .build 43 #[], type := ty, pos := pos, after := after, guard := none } :: rest) a w :=
  wpList_plain rfl fun _ hK => by
    unfold Oper.wp execOp
    simp only [List.map_toArray, List.map_nil, Sem.run_bind, build26 w, Result.andThen_ok]
    exact hK _ _ k

theorem wpl_build26g (hw : Region.wanted { dst := dst, op := .build 43 #[], type := ty, pos := pos, after := after, guard := some g } (yielded ops a.tmps) = true) (k : wpList Try.prog ops Q rest (a.put dst (mdl zeros33)) w) :
    wpList Try.prog ops Q ({ dst := dst, op := .build 43 #[], type := ty, pos := pos, after := after, guard := some g } :: rest) a w :=
  BigFrame.wpList_want hw fun _ hK => by
    unfold Oper.wp execOp
    simp only [List.map_toArray, List.map_nil, Sem.run_bind, build26 w, Result.andThen_ok]
    exact hK _ _ k

theorem wpl_build26q (hM : alone v = M) (hx : a.eval x = .int .i64 v) (k : wpList Try.prog ops Q rest (a.put dst (mdl M)) w) :
    wpList Try.prog ops Q ({ dst := dst, op := .build 43 #[(0, x)], type := ty, pos := pos, after := after, guard := none } :: rest) a w :=
  wpList_plain rfl fun _ hK => by
    unfold Oper.wp execOp
    simp only [List.map_toArray, List.map_cons, List.map_nil, hx, Sem.run_bind, build26q, hM, Result.andThen_ok]
    exact hK _ _ k

theorem wpl_build26p (hM : join v A B = M) (hA : A.length = 16) (hB : B.length = 16) (hx : a.eval x = .int .i64 v) (hy : a.eval y = mdl A) (hz : a.eval z = mdl B) (k : wpList Try.prog ops Q rest (a.put dst (mdl M)) w) :
    wpList Try.prog ops Q ({ dst := dst, op := .build 43 #[(0, x), (1, y), (2, z)], type := ty, pos := pos, after := after, guard := none } :: rest) a w :=
  wpList_plain rfl fun _ hK => by
    unfold Oper.wp execOp
    simp only [List.map_toArray, List.map_cons, List.map_nil, hx, hy, hz, Sem.run_bind, build26p v A B hA hB, hM, Result.andThen_ok]
    exact hK _ _ k

theorem wpl_build26pg (hw : Region.wanted { dst := dst, op := .build 43 #[(0, x), (1, y), (2, z)], type := ty, pos := pos, after := after, guard := some g } (yielded ops a.tmps) = true) (hM : join v A B = M) (hA : A.length = 16) (hB : B.length = 16) (hx : a.eval x = .int .i64 v) (hy : a.eval y = mdl A) (hz : a.eval z = mdl B) (k : wpList Try.prog ops Q rest (a.put dst (mdl M)) w) :
    wpList Try.prog ops Q ({ dst := dst, op := .build 43 #[(0, x), (1, y), (2, z)], type := ty, pos := pos, after := after, guard := some g } :: rest) a w :=
  BigFrame.wpList_want hw fun _ hK => by
    unfold Oper.wp execOp
    simp only [List.map_toArray, List.map_cons, List.map_nil, hx, hy, hz, Sem.run_bind, build26p v A B hA hB, hM, Result.andThen_ok]
    exact hK _ _ k
end

theorem results_chain2 {fn : Func} {t u : Tmp} (hf : fn.results = #[.cell t 43, .tmp u]) {tmps : Array Value} {b : Nat} {w : World} {L : List Int} {v : Value} (ht : tmps[t]?.getD undef = .pointer (some ⟨b, 0, none⟩)) (hv : tmps[u]?.getD undef = v)
    (h : Holds w b L) (hL : L.length = 33) : (results fn tmps).run Try.prog w = .ok (.tuple #[mdl L, v]) w := by
  have := run_loadVar_mid (P := Try.prog) w b 0 43 (vals L) _ h.range Try.underlying43 rfl (by rw [wide26.size, vals_length, hL])
  simp [results, hf, ht, hv, this, Sem.run_bind, asAddr]

/-- A line against another, at any depth. -/
theorem eq_in24d (d : Nat) (L M : List Int) (hL : L.length = 16) (hM : M.length = 16) (w : World) :
    (Op.equalIn (d + 3) 41 (mdl L) (mdl M)).run Try.prog w = .ok (decide (L = M)) w := by
  have g : (Op.equalIn (d + 2) 39 (mdl ((L.drop 0).take 8)) (mdl ((M.drop 0).take 8))).run Try.prog w = .ok _ w := eq_row 39 8 d Try.underlying39 ((L.drop 0).take 8) ((M.drop 0).take 8) (by simp; omega) (by simp; omega) w
  have k : (Op.equalIn (d + 2) 39 (mdl ((L.drop 8).take 8)) (mdl ((M.drop 8).take 8))).run Try.prog w = .ok _ w := eq_row 39 8 d Try.underlying39 ((L.drop 8).take 8) ((M.drop 8).take 8) (by simp; omega) (by simp; omega) w
  have g1 := part_row 39 8 Try.isAgg39 Try.sizeOf39 L 0 w
  have g2 := part_row 39 8 Try.isAgg39 Try.sizeOf39 M 0 w
  have k1 := part_row 39 8 Try.isAgg39 Try.sizeOf39 L 8 w
  have k2 := part_row 39 8 Try.isAgg39 Try.sizeOf39 M 8 w
  have s : ∀ (X : List Int), X.length = 16 → X = (X.drop 0).take 8 ++ (X.drop 8).take 8 := fun X hX => by
    have e1 := List.take_append_drop 8 X
    have e3 : (X.drop 8).take 8 = X.drop 8 := List.take_of_length_le (by simp; omega)
    rw [List.drop_zero, e3]
    exact e1.symm
  have ft : Try.prog.fieldsOf 41 = #[{ name := "Weights", type := 39, offset := 0, embedded := false, tag := "", pkgPath := "", byteOffset := 0 }, { name := "History", type := 39, offset := 8, embedded := false, tag := "", pkgPath := "", byteOffset := 64 }] := by kernel_rfl
  rw [run_equalIn_struct w (d + 2) 41 _ _ (by rw [ft]; exact Try.underlying41) (by kernel_rfl)]
  rw [ft]
  have e : decide (L = M) = (decide ((L.drop 0).take 8 = (M.drop 0).take 8) && decide ((L.drop 8).take 8 = (M.drop 8).take 8)) := by
    by_cases e : L = M
    · subst e; simp
    · rw [decide_eq_false e]
      by_cases e1 : (L.drop 0).take 8 = (M.drop 0).take 8
      · by_cases e2 : (L.drop 8).take 8 = (M.drop 8).take 8
        · exact absurd ((s L hL).trans ((by rw [e1, e2] : _ = _).trans (s M hM).symm)) e
        · rw [decide_eq_false e2]; simp
      · rw [decide_eq_false e1]; simp
  rw [e]
  show (Op.eqFields (d + 2) (vals L).toArray (vals M).toArray [{ name := "Weights", type := 39, offset := 0, embedded := false, tag := "", pkgPath := "", byteOffset := 0 }, { name := "History", type := 39, offset := 8, embedded := false, tag := "", pkgPath := "", byteOffset := 64 }]).run Try.prog w = _
  simp only [Op.eqFields, Sem.run_bind]
  rw [if_pos (by decide), if_pos (by decide)]
  generalize decide ((L.drop 0).take 8 = (M.drop 0).take 8) = p at *
  generalize decide ((L.drop 8).take 8 = (M.drop 8).take 8) = q at *
  simp only [Sem.run_bind, g1, g2, g, Result.andThen_ok]
  cases p
  · simp
  · simp only [Bool.not_true, Bool.false_eq_true, if_false, Sem.run_bind, k1, k2, k, Result.andThen_ok]
    cases q <;> simp

/-- A chain against another. -/
theorem eq_in26 (L M : List Int) (hL : L.length = 33) (hM : M.length = 33) (w : World) :
    (Op.equalIn 10000 43 (mdl L) (mdl M)).run Try.prog w = .ok (decide (L = M)) w := by
  have i : (Op.equalIn 9999 3 (.int .i64 (L.getD 0 0)) (.int .i64 (M.getD 0 0))).run Try.prog w = .ok (L.getD 0 0 == M.getD 0 0) w := run_equalIn_int w 9998 3 .i64 .i64 _ _ Try.underlying3
  have g : (Op.equalIn 9999 41 (mdl (partA L)) (mdl (partA M))).run Try.prog w = .ok _ w := eq_in24d 9996 (partA L) (partA M) (partA_len hL) (partA_len hM) w
  have k : (Op.equalIn 9999 41 (mdl (partB L)) (mdl (partB M))).run Try.prog w = .ok _ w := eq_in24d 9996 (partB L) (partB M) (partB_len hL) (partB_len hM) w
  have i1 := part_int L 0 (by omega) w
  have i2 := part_int M 0 (by omega) w
  have g1 : (part 41 (vals L).toArray 1).run Try.prog w = .ok (mdl (partA L)) w := part_row 41 16 Try.isAgg41 Try.sizeOf41 L 1 w
  have g2 : (part 41 (vals M).toArray 1).run Try.prog w = .ok (mdl (partA M)) w := part_row 41 16 Try.isAgg41 Try.sizeOf41 M 1 w
  have k1 : (part 41 (vals L).toArray 17).run Try.prog w = .ok (mdl (partB L)) w := part_row 41 16 Try.isAgg41 Try.sizeOf41 L 17 w
  have k2 : (part 41 (vals M).toArray 17).run Try.prog w = .ok (mdl (partB M)) w := part_row 41 16 Try.isAgg41 Try.sizeOf41 M 17 w
  have ft : Try.prog.fieldsOf 43 = #[{ name := "Last", type := 3, offset := 0, embedded := false, tag := "", pkgPath := "", byteOffset := 0 }, { name := "A", type := 41, offset := 1, embedded := false, tag := "", pkgPath := "", byteOffset := 8 }, { name := "B", type := 41, offset := 17, embedded := false, tag := "", pkgPath := "", byteOffset := 136 }] := by kernel_rfl
  rw [run_equalIn_struct w 9999 43 _ _ (by rw [ft]; exact Try.underlying43) (by kernel_rfl)]
  rw [ft]
  have e : decide (L = M) = ((L.getD 0 0 == M.getD 0 0) && (decide (partA L = partA M) && decide (partB L = partB M))) := by
    by_cases e : L = M
    · subst e; simp
    · rw [decide_eq_false e]
      by_cases e0 : L.getD 0 0 = M.getD 0 0
      · by_cases e1 : partA L = partA M
        · by_cases e2 : partB L = partB M
          · exact absurd ((join_parts hL).symm.trans ((by rw [e0, e1, e2] : _ = _).trans (join_parts hM))) e
          · rw [decide_eq_false e2]; simp
        · rw [decide_eq_false e1]; simp
      · rw [beq_eq_false_iff_ne.2 e0]; simp
  rw [e]
  show (Op.eqFields 9999 (vals L).toArray (vals M).toArray [{ name := "Last", type := 3, offset := 0, embedded := false, tag := "", pkgPath := "", byteOffset := 0 }, { name := "A", type := 41, offset := 1, embedded := false, tag := "", pkgPath := "", byteOffset := 8 }, { name := "B", type := 41, offset := 17, embedded := false, tag := "", pkgPath := "", byteOffset := 136 }]).run Try.prog w = _
  simp only [Op.eqFields, Sem.run_bind]
  rw [if_pos (by decide), if_pos (by decide), if_pos (by decide)]
  generalize (L.getD 0 0 == M.getD 0 0) = o at *
  generalize decide (partA L = partA M) = p at *
  generalize decide (partB L = partB M) = q at *
  simp only [Sem.run_bind, i1, i2, i, Result.andThen_ok]
  cases o
  · simp
  · simp only [Bool.not_true, Bool.false_eq_true, if_false, Sem.run_bind, g1, g2, g, Result.andThen_ok]
    cases p
    · simp
    · simp only [Bool.not_true, Bool.false_eq_true, if_false, Sem.run_bind, k1, k2, k, Result.andThen_ok]
      cases q <;> simp

theorem eq_26 (L M : List Int) (hL : L.length = 33) (hM : M.length = 33) (w : World) :
    (binOp .eql 43 (mdl L) (mdl M)).run Try.prog w = .ok (.bool (decide (L = M))) w := by
  rw [run_eql_struct, eq_in26 L M hL hM]; rfl

end Go.Proofs.Ytamefddgpdhccaa.Chn
