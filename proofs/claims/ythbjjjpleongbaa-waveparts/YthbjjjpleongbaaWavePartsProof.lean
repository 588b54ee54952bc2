/-
  WaveParts answers true for every file's parts and every int: parts that do not make the same file are none; its arguments read afterwards as before. No condition.
-/
import Derived.Test.YthbjjjpleongbaaRows
import Derived.Test.YthbjjjpleongbaaWavePartsProg
import Derived.Test.YthbjjjpleongbaaWvFrame
import Derived.WalkKit
import Derived.ProofKit
import Derived.SizedLaws
import Derived.OpenShut
import Derived.ShutString
namespace Go.Proofs.Ythbjjjpleongbaa.waveParts
open Go.ChangeShapes Go.WideShapes Go.ChangeAt Go.RowKit
open Go.ChangeMaps (open_string shut_string)
set_option linter.unusedVariables false

theorem own : ownKnob Try.prog.godebug = none := by kernel_rfl

theorem walk (xc0 xb0 : Int) (xh0 xd0 xt0 : ByteArray) (a1 : Int) (wc0 : (Lit.int .i64 xc0).wf = true) (wb0 : (Lit.int .i64 xb0).wf = true) (wh0 : xh0.size ≤ 140737488351232) (wd0 : xd0.size ≤ 140737488351232) (wt0 : xt0.size ≤ 140737488351232) (w1 : (Lit.int .i64 a1).wf = true) (w : World) :
    Calls Try.prog 6 #[.agg #[.int .i64 xc0, .int .i64 xb0, .string xh0, .string xd0, .string xt0], .int .i64 a1] w fun e w' => e = .returned (.bool true) ∧ Below w.heap.size w w' := by
  exact Wav.waveparts_walk Wav.prog (xc0, xb0, xh0.data.toList, xd0.data.toList, xt0.data.toList) wh0 wd0 wt0 a1 w

set_option maxRecDepth 100000 in
theorem lifted (os : Os) (started : os.Started) (H : Type) (enc : TypeId × Value → H) :
    ReturnsInHanded {} Try.checked os 6 .any (Rows.wavePartsSpec.pre6 enc Try.prog Try.f6 Rows.wavePartsRow.domain false) (Rows.wavePartsSpec.post enc Try.prog Try.f6 false true false false) := by
  refine returnsInHanded_of_change_sized (C := Try.checked) own started (by kernel_rfl) Try.func6
    (ChangeSpec.witness6 (enc := enc) (C := Try.checked) false ⟨#[], #[.agg #[.int .i64 0, .int .i64 0, .string ByteArray.empty, .string ByteArray.empty, .string ByteArray.empty], .int .i64 0], []⟩ 8 (by kernel_rfl) (by kernel_rfl) (by kernel_rfl) (by kernel_rfl)) ?_
  intro W base args ds gs before hval0 hW hcnd hsz0 _
  have hsz : (DataW.weightsEach Try.prog (Try.f6.params.toList ++ Rows.wavePartsSpec.plain.varTypes Try.prog) (ds ++ gs)).all (· ≤ reachBytes) = true := hsz0
  have hval : ∀ (j : Nat) t v, Try.f6.params[j]? = some t → args[j]? = some v → Value.okWide Try.prog W .any base t v := hval0
  have hW' := hW
  obtain ⟨p, q, hA0, hV, rfl, hfz, hnd⟩ := hW
  have hA : DataW.TrodAll enc Try.prog W 0 (fun _ => true) true Try.f6.params.toList args.toList ds p := hA0
  rw [Try.params6] at hA hval hsz
  obtain ⟨v0, vs0, d0, ds0, p0, q0, hargs, rfl, rfl, h0, r0⟩ := trodAll_cons hA
  obtain ⟨v1, vs1, d1, ds1, p1, q1, rfl, rfl, rfl, h1, r1⟩ := trodAll_cons r0
  obtain ⟨rfl, rfl, rfl⟩ := trodAll_nil r1
  obtain rfl : args = #[v0, v1] := by cases args; simp_all
  obtain ⟨rfl, rfl⟩ := trodVars_none hV
  obtain ⟨xc0, xb0, xh0, xd0, xt0, rfl, rfl, rfl, wc0, wb0, wh0, wd0, wt0⟩ := Wvf.open_wave (hval 0 25 v0 rfl rfl) h0
  obtain ⟨a1, rfl, rfl, rfl, w1⟩ := open_int Try.underlying3 (hval 1 3 v1 rfl rfl) h1
  obtain ⟨sh0, sd0, st0⟩ := Wvf.sized_wave hsz (j := 0) rfl rfl
  clear hA0 hval0 hsz hsz0
  simp only [List.append_nil] at hW'
  refine (walk xc0 xb0 xh0 xd0 xt0 a1 wc0 wb0 sh0 sd0 st0 w1 W).mono fun e W' ⟨he, hg⟩ => ?_
  subst he
  exact ⟨_, rfl, _, _, _, [], _, [], hW', (trodAll_cons_mk (shut_bool Try.underlying4 _) trodAll_mk0), (trodAll_cons_mk (Wvf.shut_wave wc0 wb0 wh0 wd0 wt0) (trodAll_cons_mk (shut_int Try.underlying3 w1) trodAll_mk0)), rfl, hg.frame _, fun h => by cases h⟩

theorem over : Rows.wavePartsRow.holds Try.pinned (OpenSpec.ofChange Rows.wavePartsSpec) :=
  OpenClaim.holds_of_wide 6 Try.f6 rfl rfl rfl rfl rfl rfl rfl ⟨rfl, rfl, rfl, rfl, rfl⟩ rfl rfl rfl rfl rfl (by kernel_rfl) Try.func6 (by kernel_rfl)
    (of_decide_eq_true (by kernel_rfl)) (by unfold Func.isWrapper; first | (rw [if_pos (by decide +kernel)]; kernel_rfl) | (rw [if_neg (by decide +kernel)]; exact ⟨rfl, rfl⟩))
    (fun os started H enc _ => lifted os started H enc)

/-- The statement. -/
theorem proved : Rows.WavePartsSaid :=
  over
end Go.Proofs.Ythbjjjpleongbaa.waveParts
namespace Go.Proofs.Ythbjjjpleongbaa
/-- WaveParts answers true for every file's parts and every int: parts that do not make the same file are none; its arguments read afterwards as before. No condition. -/
theorem waveParts_holds : Rows.WavePartsSaid := waveParts.proved
#print axioms waveParts_holds
end Go.Proofs.Ythbjjjpleongbaa
