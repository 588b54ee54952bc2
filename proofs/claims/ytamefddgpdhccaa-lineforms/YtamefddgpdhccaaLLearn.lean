/-
  The contract of lms.Learn. No condition.
-/
import Derived.Test.YtamefddgpdhccaaLGuess
import Derived.Deep.RegionLaw
import Derived.Deep.CutRange
import Derived.Laws.CopyOwn
import Derived.Laws.IdiomCopy
namespace Go.Proofs.Ytamefddgpdhccaa.Lin
open Go.RowKit Go.Sort Go.Proofs.Ytamefddgpdhccaa.Mod
set_option linter.unusedVariables false
set_option linter.unusedSimpArgs false

set_option maxHeartbeats 1000000 in
theorem learn_no (L : List Int) (hL : L.length = 16) (x : Int) (hm : mayL L = false) (w : World) :
    Calls Try.prog 36 #[mdl L, .int .i64 x] w fun e w' => e = .returned (.tuple #[mdl zeros16, .int .i64 1400]) ∧ Bel w w' := by
  have NL : Hid (L.length = 16) := hL
  have NZ : Hid (zeros16.length = 16) := zeros16_len
  have z := zero24
  have G : Hid (∀ w, Calls Try.prog 35 #[mdl L] w fun e w' => e = .returned (.tuple #[.int .i64 0, .int .i64 1400]) ∧ Bel w w') := guess_no L hL hm
  have H1 : Hid (Holds ((w.alloc (.cells (vals L).toArray 41)).alloc (.cells (vals zeros16).toArray 41)) w.heap.size L) := (holds_new w L 41).bel ((Bel.refl _).alloc _)
  have R1 : Hid (Holds ((w.alloc (.cells (vals L).toArray 41)).alloc (.cells (vals zeros16).toArray 41)) (w.heap.size + 1) zeros16) := holds_at (by simp) zeros16 41
  clear hm hL
  go_enter Try.func36, Try.ntmps36
  go_wp2_with (first | (with_reducible refine wpl_load24 H1.out NL.out rfl ?_))
  refine (G.out _).mono ?_
  rintro e w1 ⟨rfl, b⟩
  have B1 : Hid (Bel w w1) := (((Bel.refl w).alloc _).alloc _).trans b
  have R2 : Hid (Holds w1 (w.heap.size + 1) zeros16) := R1.out.bel b
  clear b R1 H1
  go_wp2_with (first
    | (with_reducible refine wpl_build24 ?_)
    | (with_reducible refine wpl_store24 R2.out NZ.out NZ.out rfl rfl ?_))
  have R3 := holds_all R2.out zeros16 rfl
  exact bodyPost_ret (v := .tuple #[mdl zeros16, .int .i64 1400]) (results_lms2 Try.results36 rfl rfl R3 NZ.out) rfl ⟨rfl, Bel.setCells (by omega) _ _ B1.out⟩

set_option maxHeartbeats 1000000 in
theorem learn_far (L : List Int) (hL : L.length = 16) (x : Int) (hm : mayL L = true) (hx : passed 4194304 x = true) (w : World) :
    Calls Try.prog 36 #[mdl L, .int .i64 x] w fun e w' => e = .returned (.tuple #[mdl zeros16, .int .i64 1400]) ∧ Bel w w' := by
  have NL : Hid (L.length = 16) := hL
  have NZ : Hid (zeros16.length = 16) := zeros16_len
  have z := zero24
  have G : Hid (∀ w, Calls Try.prog 35 #[mdl L] w fun e w' => e = .returned (.tuple #[.int .i64 (guess L), .int .i64 0]) ∧ Bel w w') := guess_yes L hL hm
  have P : Hid (∀ w, Calls Try.prog 24 #[.int .i64 4194304, .int .i64 x] w fun e w' => e = .returned (.bool true) ∧ w' = w) := fun w => hx ▸ passed_ok 4194304 x (by decide) (by decide) w
  have H1 : Hid (Holds ((w.alloc (.cells (vals L).toArray 41)).alloc (.cells (vals zeros16).toArray 41)) w.heap.size L) := (holds_new w L 41).bel ((Bel.refl _).alloc _)
  have R1 : Hid (Holds ((w.alloc (.cells (vals L).toArray 41)).alloc (.cells (vals zeros16).toArray 41)) (w.heap.size + 1) zeros16) := holds_at (by simp) zeros16 41
  generalize guess L = g at *
  clear hm hL hx
  go_enter Try.func36, Try.ntmps36
  go_wp2_with (first | (with_reducible refine wpl_load24 H1.out NL.out rfl ?_))
  refine (G.out _).mono ?_
  rintro e w1 ⟨rfl, b⟩
  have B1 : Hid (Bel w w1) := (((Bel.refl w).alloc _).alloc _).trans b
  have R2 : Hid (Holds w1 (w.heap.size + 1) zeros16) := R1.out.bel b
  clear b R1 H1
  go_wp2_with fail
  refine (P.out _).mono ?_
  rintro e w2 ⟨rfl, rfl⟩
  go_wp2_with (first
    | (with_reducible refine wpl_build24 ?_)
    | (with_reducible refine wpl_store24 R2.out NZ.out NZ.out rfl rfl ?_))
  have R3 := holds_all R2.out zeros16 rfl
  exact bodyPost_ret (v := .tuple #[mdl zeros16, .int .i64 1400]) (results_lms2 Try.results36 rfl rfl R3 NZ.out) rfl ⟨rfl, Bel.setCells (by omega) _ _ B1.out⟩

/-- 'copy' as one step of a region that draws: all is read before anything is written. -/
theorem step_copy_cells {P : Program} {ops : Array Oper} {o : Oper} {a : Act} {w : World} {K : Act → World → Prop} {Q : Exit → Act → World → Prop} {E : Prop} (hgd : o.guard = none) (d s : Operand) (dT sT : TypeId)
    (ho : o.op = .call { callee := .builtin .copy, args := #[d, s], argTypes := #[dT, sT] }) (elem : TypeId) (hu : P.underlying dT = some (.slice elem)) (hsz : (P.info? elem).map (·.size) = some 1)
    (b off : Nat) (sp : Addr) (dLen dCap sLen sCap : Nat) (hd : a.eval d = .slice (some ⟨b, off, none⟩) dLen dCap) (hs : a.eval s = .slice (some sp) sLen sCap)
    (cs : List Value) (hn : cs.length = Nat.min sLen dLen)
    (hsrc : ∀ j v, cs[j]? = some v → w.cell? (sp.add j) = some v) (hc : ∀ j, j < cs.length → (w.cell? ⟨b, off + j, none⟩).isSome = true) (hf : ∀ j, j < cs.length → w.frozen? ⟨b, off + j, none⟩ = false) (h1 : ∀ v ∈ cs, v.oneCell' = true)
    (h : K (a.put o.dst (goInt cs.length)) (w.setCells b off cs)) :
    if Region.wanted o (yielded ops a.tmps) = true then Oper.wp P o a w K Q else E := by
  have hw : Region.wanted o (yielded ops a.tmps) = true := by simp [Region.wanted, hgd]
  rw [if_pos hw]
  have hrun := run_copy_cells (P := P) w dT sT o.type elem b off dLen dCap sp sLen sCap cs hu hsz hn hsrc hc hf h1
  unfold Oper.wp
  simp [execOp, ho, resolve, invoke, builtin, hd, hs, hrun, Result.andThen]
  exact h

end Go.Proofs.Ytamefddgpdhccaa.Lin
