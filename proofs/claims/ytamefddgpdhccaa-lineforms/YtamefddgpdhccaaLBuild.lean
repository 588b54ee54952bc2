/-
  Lines that are built of their parts. No condition.
-/
import Derived.Test.YtamefddgpdhccaaLLaw
namespace Go.Proofs.Ytamefddgpdhccaa.Lin
open Go.RowKit Go.Sort Go.Proofs.Ytamefddgpdhccaa.Mod
set_option linter.unusedVariables false
set_option linter.unusedSimpArgs false

/-- A line of eight weights and eight numbers. -/
theorem build24p (p0 p1 p2 p3 p4 p5 p6 p7 q0 q1 q2 q3 q4 q5 q6 q7 : Int) (w : World) : (Instr.build 41 #[(0, .agg #[.int .i64 p0, .int .i64 p1, .int .i64 p2, .int .i64 p3, .int .i64 p4, .int .i64 p5, .int .i64 p6, .int .i64 p7]), (1, .agg #[.int .i64 q0, .int .i64 q1, .int .i64 q2, .int .i64 q3, .int .i64 q4, .int .i64 q5, .int .i64 q6, .int .i64 q7])]).run Try.prog w = .ok (mdl [p0, p1, p2, p3, p4, p5, p6, p7, q0, q1, q2, q3, q4, q5, q6, q7]) w := by
  have hf : Instr.fill (fun x => [(0, 8), (8, 8)][x]?) (vals zeros16).toArray [(0, .agg #[.int .i64 p0, .int .i64 p1, .int .i64 p2, .int .i64 p3, .int .i64 p4, .int .i64 p5, .int .i64 p6, .int .i64 p7]), (1, .agg #[.int .i64 q0, .int .i64 q1, .int .i64 q2, .int .i64 q3, .int .i64 q4, .int .i64 q5, .int .i64 q6, .int .i64 q7])] = some (vals [p0, p1, p2, p3, p4, p5, p6, p7, q0, q1, q2, q3, q4, q5, q6, q7]).toArray := by
    show Instr.fill _ _ [(0, mdl [p0, p1, p2, p3, p4, p5, p6, p7]), (1, mdl [q0, q1, q2, q3, q4, q5, q6, q7])] = _
    rw [fill_one (off := 0) (size := 8) rfl rfl (by rw [zeros16_len]; decide), fill_one (off := 8) (size := 8) rfl rfl (by rw [put_length, zeros16_len]; decide)]
    rfl
  unfold Instr.build
  simp only [Sem.run_bind, zero24, Result.andThen_ok, run_underlying Try.underlying41, Value.cells]
  generalize [p0, p1, p2, p3, p4, p5, p6, p7, q0, q1, q2, q3, q4, q5, q6, q7] = M at *
  simp [Try.sizeOf39, hf]

/-- A line of eight weights alone. -/
theorem build24q (p0 p1 p2 p3 p4 p5 p6 p7 : Int) (w : World) : (Instr.build 41 #[(0, .agg #[.int .i64 p0, .int .i64 p1, .int .i64 p2, .int .i64 p3, .int .i64 p4, .int .i64 p5, .int .i64 p6, .int .i64 p7])]).run Try.prog w = .ok (mdl [p0, p1, p2, p3, p4, p5, p6, p7, 0, 0, 0, 0, 0, 0, 0, 0]) w := by
  have hf : Instr.fill (fun x => [(0, 8), (8, 8)][x]?) (vals zeros16).toArray [(0, .agg #[.int .i64 p0, .int .i64 p1, .int .i64 p2, .int .i64 p3, .int .i64 p4, .int .i64 p5, .int .i64 p6, .int .i64 p7])] = some (vals [p0, p1, p2, p3, p4, p5, p6, p7, 0, 0, 0, 0, 0, 0, 0, 0]).toArray := by
    show Instr.fill _ _ [(0, mdl [p0, p1, p2, p3, p4, p5, p6, p7])] = _
    rw [fill_one (off := 0) (size := 8) rfl rfl (by rw [zeros16_len]; decide)]
    rfl
  unfold Instr.build
  simp only [Sem.run_bind, zero24, Result.andThen_ok, run_underlying Try.underlying41, Value.cells]
  generalize [p0, p1, p2, p3, p4, p5, p6, p7, 0, 0, 0, 0, 0, 0, 0, 0] = M at *
  simp [Try.sizeOf39, hf]

section
variable {ops : Array Oper} {rest : List Oper} {dst : Option Tmp} {a : Act} {w : World} {Q : Exit → Act → World → Prop} {ty : TypeId} {pos : String} {after : Array Edge} {x y : Operand} {M : List Int} {g : Nat × Bool} {p0 p1 p2 p3 p4 p5 p6 p7 q0 q1 q2 q3 q4 q5 q6 q7 : Int}

theorem wpl_build24p (hM : [p0, p1, p2, p3, p4, p5, p6, p7, q0, q1, q2, q3, q4, q5, q6, q7] = M) (hx : a.eval x = .agg #[.int .i64 p0, .int .i64 p1, .int .i64 p2, .int .i64 p3, .int .i64 p4, .int .i64 p5, .int .i64 p6, .int .i64 p7]) (hy : a.eval y = .agg #[.int .i64 q0, .int .i64 q1, .int .i64 q2, .int .i64 q3, .int .i64 q4, .int .i64 q5, .int .i64 q6, .int .i64 q7]) (k : wpList Try.prog ops Q rest (a.put dst (mdl M)) w) :
    wpList Try.prog ops Q ({ dst := dst, op := .build 41 #[(0, x), (1, y)], type := ty, pos := pos, after := after, guard := none } :: rest) a w :=
  wpList_plain rfl fun _ hK => by
    unfold Oper.wp execOp
    simp only [List.map_toArray, List.map_cons, List.map_nil, hx, hy, Sem.run_bind, build24p, hM, Result.andThen_ok]
    exact hK _ _ k

theorem wpl_build24pg (hw : Region.wanted { dst := dst, op := .build 41 #[(0, x), (1, y)], type := ty, pos := pos, after := after, guard := some g } (yielded ops a.tmps) = true) (hM : [p0, p1, p2, p3, p4, p5, p6, p7, q0, q1, q2, q3, q4, q5, q6, q7] = M) (hx : a.eval x = .agg #[.int .i64 p0, .int .i64 p1, .int .i64 p2, .int .i64 p3, .int .i64 p4, .int .i64 p5, .int .i64 p6, .int .i64 p7]) (hy : a.eval y = .agg #[.int .i64 q0, .int .i64 q1, .int .i64 q2, .int .i64 q3, .int .i64 q4, .int .i64 q5, .int .i64 q6, .int .i64 q7]) (k : wpList Try.prog ops Q rest (a.put dst (mdl M)) w) :
    wpList Try.prog ops Q ({ dst := dst, op := .build 41 #[(0, x), (1, y)], type := ty, pos := pos, after := after, guard := some g } :: rest) a w :=
  BigFrame.wpList_want hw fun _ hK => by
    unfold Oper.wp execOp
    simp only [List.map_toArray, List.map_cons, List.map_nil, hx, hy, Sem.run_bind, build24p, hM, Result.andThen_ok]
    exact hK _ _ k

theorem wpl_build24q (hM : [p0, p1, p2, p3, p4, p5, p6, p7, 0, 0, 0, 0, 0, 0, 0, 0] = M) (hx : a.eval x = .agg #[.int .i64 p0, .int .i64 p1, .int .i64 p2, .int .i64 p3, .int .i64 p4, .int .i64 p5, .int .i64 p6, .int .i64 p7]) (k : wpList Try.prog ops Q rest (a.put dst (mdl M)) w) :
    wpList Try.prog ops Q ({ dst := dst, op := .build 41 #[(0, x)], type := ty, pos := pos, after := after, guard := none } :: rest) a w :=
  wpList_plain rfl fun _ hK => by
    unfold Oper.wp execOp
    simp only [List.map_toArray, List.map_cons, List.map_nil, hx, Sem.run_bind, build24q, hM, Result.andThen_ok]
    exact hK _ _ k
end

end Go.Proofs.Ytamefddgpdhccaa.Lin
