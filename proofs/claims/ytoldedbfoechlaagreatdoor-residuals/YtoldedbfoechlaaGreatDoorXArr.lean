/-
  Arrays of three ints: as a call's first answer, and two of them held against each other. No condition.
-/
import Derived.Test.YtoldedbfoechlaaGreatDoorGRow
import Derived.Test.YtoldedbfoechlaaGreatDoorRows
import Derived.ProofKit
import Derived.ChangeKeysEq
namespace Go.Proofs.YtoldedbfoechlaaGreatDoor.Ctx
open Go.RowKit Go.Proofs.YtoldedbfoechlaaGreatDoor.Mod
set_option linter.unusedVariables false
set_option linter.unusedSimpArgs false

theorem results_arr2 {fn : Func} {t u : Tmp} (hf : fn.results = #[.cell t 44, .tmp u]) {tmps : Array Value} {b : Nat} {w : World} {x y z v : Value} (ht : tmps[t]?.getD undef = .pointer (some ⟨b, 0, none⟩)) (hv : tmps[u]?.getD undef = v)
    (c0 : w.cell? ⟨b, 0, none⟩ = some x) (c1 : w.cell? ⟨b, 1, none⟩ = some y) (c2 : w.cell? ⟨b, 2, none⟩ = some z) : (results fn tmps).run Tryz.prog w = .ok (.tuple #[.agg #[x, y, z], v]) w := by
  simp [results, hf, ht, hv, go_sem, c0, c1, c2]

theorem eq_in (a b c a' b' c' : Int) (w : World) : (Op.equalIn 10000 44 (.agg #[.int .i64 a, .int .i64 b, .int .i64 c]) (.agg #[.int .i64 a', .int .i64 b', .int .i64 c'])).run Tryz.prog w = .ok (a == a' && (b == b' && c == c')) w := by
  rw [run_equalIn_array (i := Tryz.prog.types[3]!) w 9999 _ _ Tryz.underlying44 (by kernel_rfl)]
  have hc : Tryz.prog.cellsOf 3 = 1 := by kernel_rfl
  rw [hc]
  show (Op.eqItems (9998 + 1) 3 1 _ _ [0, 1, 2]).run Tryz.prog w = _
  have hk : Tryz.prog.plainKey 3 = true := by kernel_rfl
  have q : ∀ (x y : Int), (Op.equalIn (9998 + 1) 3 (.int .i64 x) (.int .i64 y)).run Tryz.prog w = .ok (x == y) w := fun x y => run_equalIn_int w 9998 3 .i64 .i64 x y Tryz.underlying3
  have p0 : ∀ (x y z : Int), (part 3 #[.int .i64 x, .int .i64 y, .int .i64 z] (0 * 1)).run Tryz.prog w = .ok (.int .i64 x) w := fun x y z => run_part_plain w hk rfl
  have p1 : ∀ (x y z : Int), (part 3 #[.int .i64 x, .int .i64 y, .int .i64 z] (1 * 1)).run Tryz.prog w = .ok (.int .i64 y) w := fun x y z => run_part_plain w hk rfl
  have p2 : ∀ (x y z : Int), (part 3 #[.int .i64 x, .int .i64 y, .int .i64 z] (2 * 1)).run Tryz.prog w = .ok (.int .i64 z) w := fun x y z => run_part_plain w hk rfl
  cases ha : a == a' <;> cases hb : b == b' <;> cases hcc : c == c' <;> simp only [Op.eqItems, Sem.run_bind, p0, p1, p2, q, ha, hb, hcc, Result.andThen_ok, Bool.not_true, Bool.not_false, Bool.false_eq_true, if_true, if_false, Sem.run_pure, Bool.true_and, Bool.false_and, Bool.and_false, Bool.and_true]

theorem eq_arr (a b c a' b' c' : Int) (w : World) : (binOp .eql 44 (.agg #[.int .i64 a, .int .i64 b, .int .i64 c]) (.agg #[.int .i64 a', .int .i64 b', .int .i64 c'])).run Tryz.prog w = .ok (.bool (a == a' && (b == b' && c == c'))) w := by
  rw [run_eql_struct, eq_in]; rfl

/-- Two that are one. -/
theorem eq_same (a b c : Int) (w : World) : (binOp .eql 44 (.agg #[.int .i64 a, .int .i64 b, .int .i64 c]) (.agg #[.int .i64 a, .int .i64 b, .int .i64 c])).run Tryz.prog w = .ok (.bool true) w := by
  rw [eq_arr]; simp
theorem eq_in_same (a b c : Int) (w : World) : (Op.equalIn 10000 44 (.agg #[.int .i64 a, .int .i64 b, .int .i64 c]) (.agg #[.int .i64 a, .int .i64 b, .int .i64 c])).run Tryz.prog w = .ok true w := by
  rw [eq_in]; simp
/-- Two whose last ones are unlike. -/
theorem eq_other (a b c a' b' c' : Int) (h : c ≠ c') (w : World) : (binOp .eql 44 (.agg #[.int .i64 a, .int .i64 b, .int .i64 c]) (.agg #[.int .i64 a', .int .i64 b', .int .i64 c'])).run Tryz.prog w = .ok (.bool false) w := by
  rw [eq_arr]; simp [h]
theorem eq_in_other (a b c a' b' c' : Int) (h : c ≠ c') (w : World) : (Op.equalIn 10000 44 (.agg #[.int .i64 a, .int .i64 b, .int .i64 c]) (.agg #[.int .i64 a', .int .i64 b', .int .i64 c'])).run Tryz.prog w = .ok false w := by
  rw [eq_in]; simp [h]

end Go.Proofs.YtoldedbfoechlaaGreatDoor.Ctx
