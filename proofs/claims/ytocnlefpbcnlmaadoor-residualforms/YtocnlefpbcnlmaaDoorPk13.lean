/-
  The contracts of residual's small functions: isNoResidual, slices.ContainsFunc over it, isWhole, newLearner. No condition.
  The contracts of the two steps that number is handed: put (a coder's) and take (a decoder's). Condition: what lies in the variable that each is bound to.
  The contract of number, of whichever step it is handed. Conditions: the package's table is laid as its text lays it; what the step does.
-/
import Derived.Test.YtocnlefpbcnlmaaDoorPk11
import Derived.Test.YtocnlefpbcnlmaaDoorPk12
import Derived.Test.YtocnlefpbcnlmaaDoorPk9
import Derived.Test.YtocnlefpbcnlmaaDoorPk7
import Derived.Deep.RegionWith
import Derived.Deep.CutRange

namespace Go.Proofs.YtocnlefpbcnlmaaDoor.Res
open Go.RowKit Go.Proofs.YtocnlefpbcnlmaaDoor.Mod
set_option linter.unusedVariables false
set_option linter.unusedSimpArgs false

def noRes (x : Int) : Bool := decide (¬ (-16777216 ≤ x ∧ x ≤ 16777216))
def AllFit (L : List Int) : Prop := ∀ k, k < L.length → Fits (L.getD k 0)

theorem put_fits (x : Int) (h : Fits x) (w : World) :
    Calls Tryd.prog 18 #[.int .i64 x] w fun e w' => e = .returned (.tuple #[.int .i64 ((folded x : Nat) : Int), .int .i64 0]) ∧ w' = w := by
  obtain ⟨h1, h2⟩ := h
  rcases Int.lt_or_le x 0 with h0 | h0
  · exact Fld.put_neg x _ h0 h1 (by unfold folded; rw [if_pos h0]; omega) w
  · exact Fld.put_pos x _ h0 h2 (by unfold folded; rw [if_neg (by omega)]; omega) w

set_option maxHeartbeats 400000 in
theorem noRes_ok (x : Int) (w : World) :
    Calls Tryd.prog 15 #[.int .i64 x] w fun e w' => e = .returned (.bool (noRes x)) ∧ w' = w := by
  by_cases h : Fits x
  · have P := put_fits x h w
    rw [show noRes x = false from decide_eq_false (fun q => q h)]
    generalize ((folded x : Nat) : Int) = y at P
    clear h
    go_enter Tryd.func15, Tryd.ntmps15
    go_wp2_with fail
    refine P.mono ?_
    rintro e w1 ⟨rfl, rfl⟩
    go_wp2
    go_ret
    exact ⟨rfl, rfl⟩
  · have P := Fld.put_no x (by unfold Fits at h; omega) w
    rw [show noRes x = true from decide_eq_true h]
    clear h
    go_enter Tryd.func15, Tryd.ntmps15
    go_wp2_with fail
    refine P.mono ?_
    rintro e w1 ⟨rfl, rfl⟩
    go_wp2
    go_ret
    exact ⟨rfl, rfl⟩

theorem noRes_no {x : Int} (h : noRes x = false) : Fits x := by
  unfold noRes at h
  have := of_decide_eq_false h
  unfold Fits
  omega

set_option maxHeartbeats 1000000 in
/-- Where none is bad none is found; else one is. -/
theorem indexF_ok (ao : Option Addr) (L : List Int) (n cap : Nat) (hn : n = L.length) (hx : n ≤ 256) (r : Bool) (hr : r = true ↔ ¬ AllFit L) (w : World) (hA : Slc w ao L) :
    Calls Tryd.prog 26 #[.slice ao n cap, .func (.func 15) #[] #[]] w fun e w' => (∃ q : Int, e = .returned (.int .i64 q) ∧ decide (0 ≤ q) = r) ∧ w' = w := by
  have P : Hid (∀ x w, Calls Tryd.prog 15 #[.int .i64 x] w fun e w' => e = .returned (.bool (noRes x)) ∧ w' = w) := noRes_ok
  have HA : Hid (Slc w ao L) := hA
  have HN : Hid (n = L.length) := hn
  have HR : Hid (r = true ↔ ¬ AllFit L) := hr
  clear hA hn hr
  go_enter Tryd.func26, Tryd.ntmps26
  go_wp2_with fail
  go_loopw [8] (fun i wr => ∃ j : Nat, j ≤ n ∧ i = .int .i64 (j : Int) ∧ Hid (∀ i, i < j → noRes (L.getD i 0) = false) ∧ wr = w) (fun i _ => n - (intOf i).toNat)
  case atStart => exact ⟨0, by omega, rfl, (fun i hi => by omega : ∀ i, i < 0 → noRes (L.getD i 0) = false), rfl⟩
  case round =>
    obtain ⟨j, hj, rfl, HB, hw⟩ := hrel
    replace hw := hw.symm
    subst hw
    by_cases hlt : j < n
    · obtain ⟨x, rfl, hc⟩ := HA.out j (HN.out ▸ hlt)
      have hd : decide ((j : Int) < (n : Int)) = true := decide_eq_true (by omega)
      obtain ⟨p, hp⟩ : ∃ p, L.getD j 0 = p := ⟨_, rfl⟩
      rw [hp] at hc
      cases hq : noRes p
      · have HB2 : Hid (∀ i, i < j + 1 → noRes (L.getD i 0) = false) := fun i hi => by
          rcases Nat.lt_or_ge i j with h | h
          · exact HB.out i h
          · obtain rfl : i = j := by omega
            rw [hp]; exact hq
        have PP := P.out p
        rw [hq] at PP
        have PQ : Hid (∀ w, Calls Tryd.prog 15 #[.int .i64 p] w fun e w' => e = .returned (.bool false) ∧ w' = w) := PP
        clear PP hp hq HB
        go_wp2_with fail
        refine (PQ.out _).mono ?_
        rintro e w1 ⟨rfl, h2⟩
        replace h2 := h2.symm
        subst h2
        go_wp2
        go_roundw
        case rel => exact ⟨j + 1, by omega, by go_num, HB2, by first | rfl | trivial⟩
        case measure => simp [intOf]; omega
      · obtain rfl : r = true := HR.out.2 fun h => by
          have h1 := h j (HN.out ▸ hlt)
          rw [hp] at h1
          have hq2 : decide (¬ (-16777216 ≤ p ∧ p ≤ 16777216)) = true := hq
          have hq3 := of_decide_eq_true hq2
          exact hq3 h1
        have PP := P.out p
        rw [hq] at PP
        have PQ : Hid (∀ w, Calls Tryd.prog 15 #[.int .i64 p] w fun e w' => e = .returned (.bool true) ∧ w' = w) := PP
        clear PP hp hq HB
        go_wp2_with fail
        refine (PQ.out _).mono ?_
        rintro e w1 ⟨rfl, h2⟩
        replace h2 := h2.symm
        subst h2
        go_wp2
        go_ret
        exact ⟨⟨_, rfl, decide_eq_true (by omega)⟩, rfl⟩
    · have hd : decide ((j : Int) < (n : Int)) = false := decide_eq_false (by omega)
      obtain rfl : r = false := by
        cases hr : r
        · rfl
        · exact absurd (fun k hk => noRes_no (HB.out k (by have := HN.out; omega))) (HR.out.1 hr)
      clear HB
      go_wp2
      go_ret
      exact ⟨⟨_, rfl, by decide⟩, rfl⟩

set_option maxHeartbeats 400000 in
theorem contains_ok (ao : Option Addr) (L : List Int) (n cap : Nat) (hn : n = L.length) (hx : n ≤ 256) (r : Bool) (hr : r = true ↔ ¬ AllFit L) (w : World) (hA : Slc w ao L) :
    Calls Tryd.prog 14 #[.slice ao n cap, .func (.func 15) #[] #[]] w fun e w' => e = .returned (.bool r) ∧ w' = w := by
  have I : Hid (Calls Tryd.prog 26 #[.slice ao n cap, .func (.func 15) #[] #[]] w fun e w' => (∃ q : Int, e = .returned (.int .i64 q) ∧ decide (0 ≤ q) = r) ∧ w' = w) := indexF_ok ao L n cap hn hx r hr w hA
  clear hA hn hr
  go_enter Tryd.func14, Tryd.ntmps14
  go_wp2_with fail
  refine (I.out).mono ?_
  rintro e w1 ⟨⟨q, rfl, hq⟩, h2⟩
  replace h2 := h2.symm
  subst h2
  subst hq
  go_wp2
  go_ret
  exact ⟨rfl, rfl⟩

set_option maxHeartbeats 1000000 in
/-- slices.Index of 0, of bits. -/
theorem index64_ok (ao : Option Addr) (L : List Int) (n cap : Nat) (hn : n = L.length) (hx : n ≤ 64) (hb : Ctx.Bits01 L) (r : Int) (hr : r = if Ctx.has0 L then (Gam.ones L : Int) else -1) (w : World) (hA : Slc w ao L) :
    Calls Tryd.prog 43 #[.slice ao n cap, .int .i64 0] w fun e w' => e = .returned (.int .i64 r) ∧ w' = w := by
  have HA : Hid (Slc w ao L) := hA
  have HN : Hid (n = L.length) := hn
  have HR : Hid (r = if Ctx.has0 L then (Gam.ones L : Int) else -1) := hr
  have HT : Hid (Ctx.Bits01 L) := hb
  clear hA hn hr hb
  go_enter Tryd.func43, Tryd.ntmps43
  go_wp2_with fail
  go_loopw [8] (fun i wr => ∃ j : Nat, j ≤ n ∧ i = .int .i64 (j : Int) ∧ Hid (∀ i, i < j → L.getD i 0 ≠ 0) ∧ wr = w) (fun i _ => n - (intOf i).toNat)
  case atStart => exact ⟨0, by omega, rfl, (fun i hi => by omega : ∀ i, i < 0 → L.getD i 0 ≠ 0), rfl⟩
  case round =>
    obtain ⟨j, hj, rfl, HB, hw⟩ := hrel
    replace hw := hw.symm
    subst hw
    by_cases hlt : j < n
    · obtain ⟨x, rfl, hc⟩ := HA.out j (HN.out ▸ hlt)
      have hd : decide ((j : Int) < (n : Int)) = true := decide_eq_true (by omega)
      by_cases he : L.getD j 0 = 0
      · obtain rfl : r = (j : Int) := by
          have e := Ctx.first0 HT.out j (HN.out ▸ hlt) he HB.out
          rw [HR.out, e, Ctx.has0, decide_eq_true (by rw [e]; exact HN.out ▸ hlt), if_pos rfl]
        rw [he] at hc
        clear he HB HR
        go_wp2
        go_ret
        exact ⟨rfl, rfl⟩
      · have HB2 : Hid (∀ i, i < j + 1 → L.getD i 0 ≠ 0) := fun i hi => by
          rcases Nat.lt_or_ge i j with h | h
          · exact HB.out i h
          · obtain rfl : i = j := by omega
            exact he
        generalize L.getD j 0 = p at *
        have hb : ((0 : Int) == p) = false := by simp; omega
        clear HB
        go_wp2
        go_roundw
        case rel => exact ⟨j + 1, by omega, by go_num, HB2, by first | rfl | trivial⟩
        case measure => simp [intOf]; omega
    · have hd : decide ((j : Int) < (n : Int)) = false := decide_eq_false (by omega)
      obtain rfl : r = -1 := by
        have e := Ctx.no0 HT.out fun i hi => HB.out i (by have := HN.out; omega)
        rw [HR.out, Ctx.has0, decide_eq_false (by omega), if_neg (by decide)]
      clear HB
      go_wp2
      go_ret
      exact ⟨rfl, rfl⟩

set_option maxHeartbeats 1000000 in
theorem isWhole_ok (ao : Option Addr) (L : List Int) (n cap : Nat) (hn : n = L.length) (hx : n ≤ 64) (hb : Ctx.Bits01 L) (w : World) (hA : Slc w ao L) :
    Calls Tryd.prog 30 #[.slice ao n cap] w fun e w' => e = .returned (.bool (whole L)) ∧ w' = w := by
  have I := index64_ok ao L n cap hn hx hb _ rfl w hA
  have ol := Gam.ones_le L
  unfold whole
  cases h0 : Ctx.has0 L
  · rw [h0] at I
    simp only [Bool.false_eq_true, if_false] at I
    clear hA hb ol h0 hn
    go_enter Tryd.func30, Tryd.ntmps30
    go_wp2_with fail
    refine I.mono ?_
    rintro e w1 ⟨rfl, rfl⟩
    go_wp2
    go_ret
    exact ⟨by simp, rfl⟩
  · rw [h0] at I
    simp only [if_true] at I
    rw [Bool.true_and, ← hn]
    obtain ⟨k, hk⟩ : ∃ k, Gam.ones L = k := ⟨_, rfl⟩
    rw [hk] at I ol ⊢
    have hd : (decide ((n : Int) = 2 * (k : Int) + 1)) = decide (n = 2 * k + 1) := decide_eq_decide.2 (by omega)
    have HD : Hid ((decide ((n : Int) = 2 * (k : Int) + 1)) = decide (n = 2 * k + 1)) := hd
    have k64 : k ≤ 64 := by omega
    clear hA hb hk h0 hd hn ol
    go_enter Tryd.func30, Tryd.ntmps30
    go_wp2_with fail
    refine I.mono ?_
    rintro e w1 ⟨rfl, rfl⟩
    go_wp2
    all_goals go_ret
    all_goals (refine ⟨?_, rfl⟩; rw [← HD.out]; exact congrArg (fun v => Ending.returned (.bool v)) (Bool.beq_eq_decide_eq _ _))

/-- A learner's cells. -/
def zeros6 : List Int := List.replicate 196 0
theorem zeros6_len : zeros6.length = 196 := List.length_replicate
theorem info48 : (Tryd.prog.info? 48).map (fun i => (i.zero, i.size)) = some (some (mdl zeros6), 196) := by kernel_rfl
theorem zero48 (w : World) : (zeroValue 48).run Tryd.prog w = .ok (mdl zeros6) w := (zero_of_info info48).1 w
theorem size48 : (Tryd.prog.info? 48).map (·.size) = some 196 := (zero_of_info info48).2

theorem lrn_put (L : List Int) (hL : L.length = 195) : put zeros6 0 L = L ++ [0] := by
  have e : zeros6 = [] ++ List.replicate 195 0 ++ [0] := by decide +kernel
  have h1 := put_mid L [] (List.replicate 195 0) [0] (by rw [List.length_replicate, hL])
  rw [List.length_nil] at h1
  rw [e, h1]
  rfl

/-- A learner is built of a model. -/
theorem build48 (L : List Int) (hL : L.length = 195) (w : World) : (Instr.build 48 #[(0, mdl L)]).run Tryd.prog w = .ok (mdl (L ++ [0])) w := by
  have hf : Instr.fill (fun x => [(0, 195), (195, 1)][x]?) (vals zeros6).toArray [(0, mdl L)] = some (vals (L ++ [0])).toArray := by
    rw [fill_one (off := 0) (size := 195) rfl (by rw [hL]) (by rw [zeros6_len]; decide), lrn_put L hL]
    rfl
  unfold Instr.build
  simp only [Sem.run_bind, zero48, Result.andThen_ok, run_underlying Tryd.underlying48, Value.cells]
  simp [Tryd.sizeOf46, Tryd.sizeOf3, hf]

section
variable {ops : Array Oper} {rest : List Oper} {dst : Option Tmp} {a : Act} {w : World} {Q : Exit → Act → World → Prop} {ty : TypeId} {pos : String} {after : Array Edge} {x y : Operand} {B : Nat} {L M : List Int}

theorem wpl_build48 (hL : L.length = 195) (hx : a.eval x = mdl L) (k : wpList Tryd.prog ops Q rest (a.put dst (mdl (L ++ [0]))) w) :
    wpList Tryd.prog ops Q ({ dst := dst, op := .build 48 #[(0, x)], type := ty, pos := pos, after := after, guard := none } :: rest) a w :=
  wpList_plain rfl fun _ hK => by
    unfold Oper.wp execOp
    simp only [List.map_toArray, List.map_cons, List.map_nil, hx, Sem.run_bind, build48 L hL w, Result.andThen_ok]
    exact hK _ _ k

theorem wpl_store48 (h : Holds w B L) (hL : L.length = 196) (hM : M.length = 196) (hx : a.eval x = .pointer (some ⟨B, 0, none⟩)) (hy : a.eval y = mdl M) (k : wpList Tryd.prog ops Q rest (a.put dst undef) (w.setCells B 0 (vals M))) :
    wpList Tryd.prog ops Q ({ dst := dst, op := .store 48 x y, type := ty, pos := pos, after := after, guard := none } :: rest) a w :=
  wpList_store_mid rfl 48 x y rfl B 0 (vals M).toArray hx hy (by rw [size_vals, hM]; exact h.there 0 196 (by omega)) (by rw [size48, size_vals, hM]) (vals_one M) k

/-- A model is stored into a learner. -/
theorem wpl_store46 (h : Holds w B L) (hL : L.length = 196) (hM : M.length = 195) (hx : a.eval x = .pointer (some ⟨B, 0, none⟩)) (hy : a.eval y = mdl M) (k : wpList Tryd.prog ops Q rest (a.put dst undef) (w.setCells B 0 (vals M))) :
    wpList Tryd.prog ops Q ({ dst := dst, op := .store 46 x y, type := ty, pos := pos, after := after, guard := none } :: rest) a w :=
  wpList_store_mid rfl 46 x y rfl B 0 (vals M).toArray hx hy (by rw [size_vals, hM]; exact h.there 0 195 (by omega)) (by rw [size26, size_vals, hM]) (vals_one M) k
end

theorem results_learner {fn : Func} {t : Tmp} (hf : fn.results = #[.cell t 48]) {tmps : Array Value} {b : Nat} {w : World} {L : List Int} (ht : tmps[t]?.getD undef = .pointer (some ⟨b, 0, none⟩))
    (h : Holds w b L) (hL : L.length = 196) : (results fn tmps).run Tryd.prog w = .ok (mdl L) w := by
  have h3 := h.range
  have := run_loadVar_mid (P := Tryd.prog) w b 0 48 (vals L) _ h3 Tryd.underlying48 rfl (by rw [size48, vals_length, hL])
  simp [results, hf, ht, this, Sem.run_bind, asAddr]

/-- The model of a learner is another. -/
theorem holds_model {w : World} {B : Nat} {L : List Int} {b : Int} (h : Holds w B (L ++ [b])) (hL : L.length = 195) (M : List Int) (hM : M.length = 195) : Holds (w.setCells B 0 (vals M)) B (M ++ [b]) := by
  have := Holds.put M h 0 (by rw [List.length_append, hL, hM]; simp)
  have e := put_mid M [] L [b] (by rw [hL, hM])
  rw [List.length_nil] at e
  rw [show L ++ [b] = [] ++ L ++ [b] by simp, e] at this
  simpa using this

set_option maxHeartbeats 1000000 in
theorem newLearner_ok (w : World) :
    Calls Tryd.prog 16 #[] w fun e w' => e = .returned (mdl (newM ++ [0])) ∧ Bel w w' := by
  have z := zero48
  have Z6 : Hid (zeros6.length = 196) := zeros6_len
  have NL : Hid (newM.length = 195) := newM_len
  have NQ : Hid (∀ w, Calls Tryd.prog 27 #[] w fun e w' => e = .returned (mdl newM) ∧ Bel w w') := new_ok
  generalize newM = M at *
  generalize zeros6 = Z at *
  have ml : (M ++ [0]).length = 196 := by rw [List.length_append, NL.out]; rfl
  have ML : Hid ((M ++ [0]).length = 196) := ml
  clear ml
  go_enter Tryd.func16, Tryd.ntmps16
  go_wp2_with fail
  refine (NQ.out _).mono ?_
  rintro e w1 ⟨rfl, b1⟩
  have H1 : Hid (Holds w1 w.heap.size Z) := (holds_new w Z 48).bel b1
  have B1 : Hid (Bel w w1) := ((Bel.refl w).alloc _).trans b1
  clear b1
  have R0 : Hid (Holds (w1.setCells w.heap.size 0 (vals (M ++ [0]))) w.heap.size (M ++ [0])) := holds_all H1.out _ (Z6.out.trans ML.out.symm)
  have B2 : Hid (Bel w (w1.setCells w.heap.size 0 (vals (M ++ [0])))) := Bel.setCells (Nat.le_refl _) _ _ B1.out
  go_wp2_with (first | (with_reducible refine wpl_build48 NL.out rfl ?_) | (with_reducible refine wpl_store48 H1.out Z6.out ML.out rfl rfl ?_))
  refine bodyPost_ret (v := mdl (M ++ [0])) (results_learner Tryd.results16 rfl R0.out ML.out) rfl ⟨rfl, B2.out⟩

end Go.Proofs.YtocnlefpbcnlmaaDoor.Res

namespace Go.Proofs.YtocnlefpbcnlmaaDoor.Res
open Go.RowKit Go.Proofs.YtocnlefpbcnlmaaDoor.Mod
set_option linter.unusedVariables false
set_option linter.unusedSimpArgs false

/-- A putter's variable: the coder, and the bits that are not coded yet, in a block below N that is not Q. -/
structure PutSt (N Q P : Nat) (w : World) (s : Cod × List Int) : Prop where
  c0 : w.cell? ⟨P, 0, none⟩ = some (.int .i64 s.1.l)
  c1 : w.cell? ⟨P, 1, none⟩ = some (.int .i64 s.1.h)
  c2 : w.cell? ⟨P, 2, none⟩ = some (.string ⟨s.1.o.toArray⟩)
  f0 : w.frozen? ⟨P, 0, none⟩ = false
  f1 : w.frozen? ⟨P, 1, none⟩ = false
  f2 : w.frozen? ⟨P, 2, none⟩ = false
  f3 : w.frozen? ⟨P, 3, none⟩ = false
  bits : ∃ ao n cap, w.cell? ⟨P, 3, none⟩ = some (.slice ao n cap) ∧ n = s.2.length ∧ n ≤ cap ∧ cap ≤ maxLen ∧ Slc w ao s.2 ∧ ∀ x, ao = some x → x.block ≠ P ∧ x.block ≠ Q ∧ x.block < N

theorem PutSt.keep {N Q P : Nat} {w w' : World} {s : Cod × List Int} (h : PutSt N Q P w s) (hP : P < N) (hQ : P ≠ Q) (hB : ∀ k, k < N → k ≠ Q → w'.heap[k]? = w.heap[k]?) : PutSt N Q P w' s := by
  have kc : ∀ i, w'.cell? ⟨P, i, none⟩ = w.cell? ⟨P, i, none⟩ := fun i => World.cell?_of_block (w := w) (hB P hP hQ)
  have kf : ∀ i, w'.frozen? ⟨P, i, none⟩ = w.frozen? ⟨P, i, none⟩ := fun i => World.frozen?_of_block (w := w) (hB P hP hQ)
  obtain ⟨c0, c1, c2, f0, f1, f2, f3, ao, n, cap, h1, h2, h3, h4, h5, h6⟩ := h
  refine ⟨by rw [kc]; exact c0, by rw [kc]; exact c1, by rw [kc]; exact c2, by rw [kf]; exact f0, by rw [kf]; exact f1, by rw [kf]; exact f2, by rw [kf]; exact f3, ao, n, cap, by rw [kc]; exact h1, h2, h3, h4, fun k hk => ?_, h6⟩
  obtain ⟨x, hx, hc⟩ := h5 k hk
  obtain ⟨_, q2, q3⟩ := h6 x hx
  refine ⟨x, hx, ?_⟩
  rw [World.cell?_of_block (w := w) (hB _ (by rw [add_block]; exact q3) (by rw [add_block]; exact q2))]
  exact hc

theorem other_cell {w : World} {P i j : Nat} {u v : Value} (h : i ≠ j) (c : w.cell? ⟨P, j, none⟩ = some v) : (w.setCell ⟨P, i, none⟩ u).cell? ⟨P, j, none⟩ = some v := by
  rw [World.cell?_setCell_other (h := by intro q; injection q with _ q2 _; exact h q2)]; exact c
theorem slc_put1 {w : World} {P i : Nat} {v : Value} {ao : Option Addr} {L : List Int} (h : Slc w ao L) (hb : ∀ x, ao = some x → x.block ≠ P) : Slc (w.setCell ⟨P, i, none⟩ v) ao L := fun k hk => by
  obtain ⟨x, hx, hc⟩ := h k hk
  refine ⟨x, hx, ?_⟩
  rw [World.cell?_setCell_other (h := by intro q; have := congrArg Addr.block q; rw [add_block] at this; exact hb x hx this.symm)]
  exact hc
theorem slc_put3 {w : World} {P : Nat} {x y z : Value} {o : Obj} {ao : Option Addr} {L : List Int} (h : Slc w ao L) (hb : ∀ x, ao = some x → x.block ≠ P) : Slc ((((w.setCell ⟨P, 0, none⟩ x).setCell ⟨P, 1, none⟩ y).setCell ⟨P, 2, none⟩ z).alloc o) ao L :=
  (slc_put1 (slc_put1 (slc_put1 h hb) hb) hb).bel ((Bel.refl _).alloc _)
theorem same_cell {w : World} {a : Addr} {u v : Value} (c : w.cell? a = some u) : (w.setCell a v).cell? a = some v := (World.cell?_setCell_same _ _ (h := c) _)
/-- Three cells are written, and a block is made. -/
theorem made_put {N Q P : Nat} {w : World} {l h : Int} {os : List UInt8} {r : List Int} {u0 u1 u2 : Value} {o : Obj} {ao : Option Addr} {n cap : Nat} (c0 : w.cell? ⟨P, 0, none⟩ = some u0) (c1 : w.cell? ⟨P, 1, none⟩ = some u1) (c2 : w.cell? ⟨P, 2, none⟩ = some u2)
    (f0 : w.frozen? ⟨P, 0, none⟩ = false) (f1 : w.frozen? ⟨P, 1, none⟩ = false) (f2 : w.frozen? ⟨P, 2, none⟩ = false) (f3 : w.frozen? ⟨P, 3, none⟩ = false) (c3 : w.cell? ⟨P, 3, none⟩ = some (.slice ao n cap))
    (hn : n = r.length) (hc : n ≤ cap) (hm : cap ≤ maxLen) (hs : Slc w ao r) (hb : ∀ x, ao = some x → x.block ≠ P ∧ x.block ≠ Q ∧ x.block < N) :
    PutSt N Q P ((((w.setCell ⟨P, 0, none⟩ (.int .i64 l)).setCell ⟨P, 1, none⟩ (.int .i64 h)).setCell ⟨P, 2, none⟩ (.string ⟨os.toArray⟩)).alloc o) (⟨l, h, os⟩, r) ∧
    Exc (fun k => k = P) w ((((w.setCell ⟨P, 0, none⟩ (.int .i64 l)).setCell ⟨P, 1, none⟩ (.int .i64 h)).setCell ⟨P, 2, none⟩ (.string ⟨os.toArray⟩)).alloc o) := by
  have fz : ∀ i, w.frozen? ⟨P, i, none⟩ = false → (((w.setCell ⟨P, 0, none⟩ (.int .i64 l)).setCell ⟨P, 1, none⟩ (.int .i64 h)).setCell ⟨P, 2, none⟩ (.string ⟨os.toArray⟩)).frozen? ⟨P, i, none⟩ = false := fun i hf => by
    rw [World.frozen?_setCell, World.frozen?_setCell, World.frozen?_setCell]; exact hf
  have B := (Bel.refl (((w.setCell ⟨P, 0, none⟩ (.int .i64 l)).setCell ⟨P, 1, none⟩ (.int .i64 h)).setCell ⟨P, 2, none⟩ (.string ⟨os.toArray⟩))).alloc o
  have e0 := other_cell (u := .string ⟨os.toArray⟩) (by decide : 2 ≠ 0) (other_cell (u := .int .i64 h) (by decide : 1 ≠ 0) (same_cell (v := .int .i64 l) c0))
  have e1 := other_cell (u := .string ⟨os.toArray⟩) (by decide : 2 ≠ 1) (same_cell (v := .int .i64 h) (other_cell (u := .int .i64 l) (by decide : 0 ≠ 1) c1))
  have e2 := same_cell (v := .string ⟨os.toArray⟩) (other_cell (u := .int .i64 h) (by decide : 1 ≠ 2) (other_cell (u := .int .i64 l) (by decide : 0 ≠ 2) c2))
  have e3 := other_cell (u := .string ⟨os.toArray⟩) (by decide : 2 ≠ 3) (other_cell (u := .int .i64 h) (by decide : 1 ≠ 3) (other_cell (u := .int .i64 l) (by decide : 0 ≠ 3) c3))
  refine ⟨⟨B.keep e0, B.keep e1, B.keep e2, B.free e0 (fz 0 f0), B.free e1 (fz 1 f1), B.free e2 (fz 2 f2), B.free e3 (fz 3 f3), ao, n, cap, B.keep e3, hn, hc, hm, slc_put3 hs (fun x hx => (hb x hx).1), hb⟩, ?_⟩
  exact ((((Exc.refl (fun k => k = P) w).setCell (a := ⟨P, 0, none⟩) (fun _ => rfl) _).setCell (a := ⟨P, 1, none⟩) (fun _ => rfl) _).setCell (a := ⟨P, 2, none⟩) (fun _ => rfl) _).alloc _

set_option maxHeartbeats 2000000 in
theorem put_ok (N Q P : Nat) (c : Cod) (x : Int) (r : List Int) (p : Int) (hb : Coder.Between c.l c.h) (hq : c.o.length ≤ 60000) (hx : x = 0 ∨ x = 1) (hp : 1 ≤ p ∧ p ≤ 4095) (w : World) (h : PutSt N Q P w (c, x :: r)) :
    Calls Tryd.prog 21 #[.pointer (some ⟨P, 0, none⟩), .int .i64 p] w fun e w' => e = .returned (.tuple #[.int .i64 x, .int .i64 0]) ∧ PutSt N Q P w' (codS c x p, r) ∧ Exc (fun k => k = P) w w' := by
  have C := Coder.bit_ok c.l c.h x p ⟨c.o.toArray⟩ (by rw [Deco.mk_size]; unfold maxLen; omega)
  rw [cod_is hb hq hx hp] at C
  obtain ⟨d0, d1, d2, g0, g1, g2, g3, ao, n, cap, d3, hn, hcap, hmax, hs, hblk⟩ := h
  have e0 := hs 0 (by simp)
  obtain ⟨a, rfl, hc⟩ := e0
  rw [show (x :: r).getD 0 0 = x from rfl] at hc
  simp only [List.length_cons] at hn
  obtain ⟨m, rfl⟩ : ∃ m, n = m + 1 := ⟨n - 1, by omega⟩
  obtain ⟨q1, q2, q3⟩ := hblk a rfl
  have pl := block_lt_of_cell d0
  have HR : Hid (Slc w (some (a.add 1)) r ∧ m = r.length ∧ a.block ≠ P ∧ a.block ≠ Q ∧ a.block < N) := ⟨fun k hk => ⟨_, rfl, by
    obtain ⟨y, hy, hc⟩ := hs (k + 1) (by simpa using hk)
    obtain rfl : a = y := Option.some.inj hy
    have e : (a.add 1).add k = a.add (k + 1) := by
      unfold Addr.add
      by_cases h : k = 0
      · simp [h]
      · simp [h]; omega
    rw [e, hc]
    simp⟩, by omega, q1, q2, q3⟩
  have CC : Hid (∀ w, Calls Tryd.prog 34 #[.agg #[.int .i64 c.l, .int .i64 c.h, .string ⟨c.o.toArray⟩], .int .i64 x, .int .i64 p] w fun e w' => e = .returned (.tuple #[.agg #[.int .i64 (codS c x p).l, .int .i64 (codS c x p).h, .string ⟨(codS c x p).o.toArray⟩], .int .i64 0]) ∧ Bel w w') := C
  clear C hn hs hblk q1 q2 q3 hb hq hx
  unfold maxLen at hmax
  obtain ⟨l, h, o⟩ := c
  generalize codS ⟨l, h, o⟩ x p = c' at *
  obtain ⟨l', h', o'⟩ := c'
  simp only at d0 d1 d2
  rw [show a.add 0 = a from by unfold Addr.add; simp] at hc
  by_cases hc1 : cap = 1
  · subst hc1
    obtain rfl : m = 0 := by omega
    have hr0 : r = [] := List.eq_nil_of_length_eq_zero HR.out.2.1.symm
    subst hr0
    have D0 : Hid ((w.setCell ⟨P, 3, none⟩ (.slice (some a) 0 0)).cell? ⟨P, 0, none⟩ = some (.int .i64 l)) := other_cell (by decide) d0
    have D1 : Hid ((w.setCell ⟨P, 3, none⟩ (.slice (some a) 0 0)).cell? ⟨P, 1, none⟩ = some (.int .i64 h)) := other_cell (by decide) d1
    have D2 : Hid ((w.setCell ⟨P, 3, none⟩ (.slice (some a) 0 0)).cell? ⟨P, 2, none⟩ = some (.string ⟨o.toArray⟩)) := other_cell (by decide) d2
    have D3 : Hid ((w.setCell ⟨P, 3, none⟩ (.slice (some a) 0 0)).cell? ⟨P, 3, none⟩ = some (.slice (some a) 0 0)) := same_cell d3
    have S3 : Hid (Slc (w.setCell ⟨P, 3, none⟩ (.slice (some a) 0 0)) ((some a)) []) := slc_nil _ _
    have FF : Hid (∀ i, (w.setCell ⟨P, 3, none⟩ (.slice (some a) 0 0)).frozen? ⟨P, i, none⟩ = w.frozen? ⟨P, i, none⟩) := fun i => World.frozen?_setCell _ _ _ _
    have X0 : Hid (Exc (fun k => k = P) w (w.setCell ⟨P, 3, none⟩ (.slice (some a) 0 0))) := (Exc.refl (fun k => k = P) w).setCell (a := ⟨P, 3, none⟩) (fun _ => rfl) _
    have G : Hid (w.frozen? ⟨P, 0, none⟩ = false ∧ w.frozen? ⟨P, 1, none⟩ = false ∧ w.frozen? ⟨P, 2, none⟩ = false ∧ w.frozen? ⟨P, 3, none⟩ = false) := ⟨g0, g1, g2, g3⟩
    go_enter Tryd.func21, Tryd.ntmps21
    go_wp2_with fail
    generalize w.setCell ⟨P, 3, none⟩ (.slice (some a) 0 0) = W at *
    refine (CC.out _).mono ?_
    rintro e w1 ⟨rfl, b1⟩
    have k0 := b1.keep D0.out
    have k1 := b1.keep D1.out
    have k2 := b1.keep D2.out
    have v0 := b1.free D0.out ((FF.out 0).trans G.out.1)
    have v1 := b1.free D1.out ((FF.out 1).trans G.out.2.1)
    have v2 := b1.free D2.out ((FF.out 2).trans G.out.2.2.1)
    have K3 : Hid (w1.cell? ⟨P, 3, none⟩ = some (.slice (some a) 0 0) ∧ w1.frozen? ⟨P, 3, none⟩ = false) := ⟨b1.keep D3.out, b1.free D3.out ((FF.out 3).trans G.out.2.2.2)⟩
    have S4 : Hid (Slc w1 ((some a)) []) := S3.out.bel b1
    have X1 : Hid (Exc (fun k => k = P) w w1) := X0.out.bel b1
    have PL : Hid (P < w1.heap.size) := block_lt_of_cell k0
    have pl1 : P < w1.heap.size := PL.out
    clear b1 D0 D1 D2 D3 S3 FF X0 d0 d1 d2 d3 g0 g1 g2 g3
    go_wp2
    go_ret2
    have MP := made_put (N := N) (Q := Q) (l := l') (h := h') (os := o') (o := .cells #[.int .i64 l', .int .i64 h', .string ⟨o'.toArray⟩] 37) k0 k1 k2 v0 v1 v2 K3.out.2 K3.out.1 HR.out.2.1 (by omega) (by unfold maxLen; omega) S4.out (fun y hy => by obtain rfl := Option.some.inj hy; exact HR.out.2.2)
    exact ⟨rfl, MP.1, X1.out.trans MP.2 (fun _ _ h => h)⟩
  · have hc2 : 1 < cap := by omega
    have D0 : Hid ((w.setCell ⟨P, 3, none⟩ (.slice (some ⟨a.block, a.off + 1, none⟩) m (cap - 1))).cell? ⟨P, 0, none⟩ = some (.int .i64 l)) := other_cell (by decide) d0
    have D1 : Hid ((w.setCell ⟨P, 3, none⟩ (.slice (some ⟨a.block, a.off + 1, none⟩) m (cap - 1))).cell? ⟨P, 1, none⟩ = some (.int .i64 h)) := other_cell (by decide) d1
    have D2 : Hid ((w.setCell ⟨P, 3, none⟩ (.slice (some ⟨a.block, a.off + 1, none⟩) m (cap - 1))).cell? ⟨P, 2, none⟩ = some (.string ⟨o.toArray⟩)) := other_cell (by decide) d2
    have D3 : Hid ((w.setCell ⟨P, 3, none⟩ (.slice (some ⟨a.block, a.off + 1, none⟩) m (cap - 1))).cell? ⟨P, 3, none⟩ = some (.slice (some ⟨a.block, a.off + 1, none⟩) m (cap - 1))) := same_cell d3
    have S3 : Hid (Slc (w.setCell ⟨P, 3, none⟩ (.slice (some ⟨a.block, a.off + 1, none⟩) m (cap - 1))) (some ⟨a.block, a.off + 1, none⟩) r) := slc_put1 (by have := HR.out.1; rwa [show a.add 1 = ⟨a.block, a.off + 1, none⟩ from by unfold Addr.add; simp] at this) (fun y hy => by obtain rfl := Option.some.inj hy; exact HR.out.2.2.1)
    have FF : Hid (∀ i, (w.setCell ⟨P, 3, none⟩ (.slice (some ⟨a.block, a.off + 1, none⟩) m (cap - 1))).frozen? ⟨P, i, none⟩ = w.frozen? ⟨P, i, none⟩) := fun i => World.frozen?_setCell _ _ _ _
    have X0 : Hid (Exc (fun k => k = P) w (w.setCell ⟨P, 3, none⟩ (.slice (some ⟨a.block, a.off + 1, none⟩) m (cap - 1)))) := (Exc.refl (fun k => k = P) w).setCell (a := ⟨P, 3, none⟩) (fun _ => rfl) _
    have G : Hid (w.frozen? ⟨P, 0, none⟩ = false ∧ w.frozen? ⟨P, 1, none⟩ = false ∧ w.frozen? ⟨P, 2, none⟩ = false ∧ w.frozen? ⟨P, 3, none⟩ = false) := ⟨g0, g1, g2, g3⟩
    go_enter Tryd.func21, Tryd.ntmps21
    go_wp2_with fail
    generalize w.setCell ⟨P, 3, none⟩ (.slice (some ⟨a.block, a.off + 1, none⟩) m (cap - 1)) = W at *
    refine (CC.out _).mono ?_
    rintro e w1 ⟨rfl, b1⟩
    have k0 := b1.keep D0.out
    have k1 := b1.keep D1.out
    have k2 := b1.keep D2.out
    have v0 := b1.free D0.out ((FF.out 0).trans G.out.1)
    have v1 := b1.free D1.out ((FF.out 1).trans G.out.2.1)
    have v2 := b1.free D2.out ((FF.out 2).trans G.out.2.2.1)
    have K3 : Hid (w1.cell? ⟨P, 3, none⟩ = some (.slice (some ⟨a.block, a.off + 1, none⟩) m (cap - 1)) ∧ w1.frozen? ⟨P, 3, none⟩ = false) := ⟨b1.keep D3.out, b1.free D3.out ((FF.out 3).trans G.out.2.2.2)⟩
    have S4 : Hid (Slc w1 (some ⟨a.block, a.off + 1, none⟩) r) := S3.out.bel b1
    have X1 : Hid (Exc (fun k => k = P) w w1) := X0.out.bel b1
    have PL : Hid (P < w1.heap.size) := block_lt_of_cell k0
    have pl1 : P < w1.heap.size := PL.out
    clear b1 D0 D1 D2 D3 S3 FF X0 d0 d1 d2 d3 g0 g1 g2 g3
    go_wp2
    go_ret2
    have MP := made_put (N := N) (Q := Q) (l := l') (h := h') (os := o') (o := .cells #[.int .i64 l', .int .i64 h', .string ⟨o'.toArray⟩] 37) k0 k1 k2 v0 v1 v2 K3.out.2 K3.out.1 HR.out.2.1 (by omega) (by unfold maxLen; omega) S4.out (fun y hy => by obtain rfl := Option.some.inj hy; exact HR.out.2.2)
    exact ⟨rfl, MP.1, X1.out.trans MP.2 (fun _ _ h => h)⟩

/-- A taker's variable: the decoder of t at a coder's place. -/
structure TakeSt (P : Nat) (t : ByteArray) (w : World) (c : Cod) : Prop where
  c0 : w.cell? ⟨P, 0, none⟩ = some (.int .i64 c.l)
  c1 : w.cell? ⟨P, 1, none⟩ = some (.int .i64 c.h)
  c2 : w.cell? ⟨P, 2, none⟩ = some (.int .i64 (Coder.win t c.o.length))
  c3 : w.cell? ⟨P, 3, none⟩ = some (.string t)
  c4 : w.cell? ⟨P, 4, none⟩ = some (.int .i64 ((c.o.length + 4 : Nat) : Int))
  f : ∀ i, i < 5 → w.frozen? ⟨P, i, none⟩ = false

theorem TakeSt.keep {N Q P : Nat} {t : ByteArray} {w w' : World} {c : Cod} (h : TakeSt P t w c) (hP : P < N) (hQ : P ≠ Q) (hB : ∀ k, k < N → k ≠ Q → w'.heap[k]? = w.heap[k]?) : TakeSt P t w' c := by
  have kc : ∀ i, w'.cell? ⟨P, i, none⟩ = w.cell? ⟨P, i, none⟩ := fun i => World.cell?_of_block (w := w) (hB P hP hQ)
  have kf : ∀ i, w'.frozen? ⟨P, i, none⟩ = w.frozen? ⟨P, i, none⟩ := fun i => World.frozen?_of_block (w := w) (hB P hP hQ)
  obtain ⟨c0, c1, c2, c3, c4, f⟩ := h
  exact ⟨by rw [kc]; exact c0, by rw [kc]; exact c1, by rw [kc]; exact c2, by rw [kc]; exact c3, by rw [kc]; exact c4, fun i hi => by rw [kf]; exact f i hi⟩

/-- Five cells are written, and a block is made. -/
theorem made_take {P : Nat} {w : World} {x0 x1 x2 x3 x4 u0 u1 u2 u3 u4 : Value} {o : Obj} (c0 : w.cell? ⟨P, 0, none⟩ = some u0) (c1 : w.cell? ⟨P, 1, none⟩ = some u1) (c2 : w.cell? ⟨P, 2, none⟩ = some u2) (c3 : w.cell? ⟨P, 3, none⟩ = some u3) (c4 : w.cell? ⟨P, 4, none⟩ = some u4)
    (f : ∀ i, i < 5 → w.frozen? ⟨P, i, none⟩ = false) (w' : World) (hw : w' = ((((((w.setCell ⟨P, 0, none⟩ x0).setCell ⟨P, 1, none⟩ x1).setCell ⟨P, 2, none⟩ x2).setCell ⟨P, 3, none⟩ x3).setCell ⟨P, 4, none⟩ x4).alloc o)) :
    w'.cell? ⟨P, 0, none⟩ = some x0 ∧ w'.cell? ⟨P, 1, none⟩ = some x1 ∧ w'.cell? ⟨P, 2, none⟩ = some x2 ∧ w'.cell? ⟨P, 3, none⟩ = some x3 ∧ w'.cell? ⟨P, 4, none⟩ = some x4 ∧ (∀ i, i < 5 → w'.frozen? ⟨P, i, none⟩ = false) ∧ Exc (fun k => k = P) w w' := by
  obtain ⟨W, hW⟩ : ∃ W, W = (((((w.setCell ⟨P, 0, none⟩ x0).setCell ⟨P, 1, none⟩ x1).setCell ⟨P, 2, none⟩ x2).setCell ⟨P, 3, none⟩ x3).setCell ⟨P, 4, none⟩ x4) := ⟨_, rfl⟩
  have fz : ∀ i, W.frozen? ⟨P, i, none⟩ = w.frozen? ⟨P, i, none⟩ := fun i => by
    rw [hW, World.frozen?_setCell, World.frozen?_setCell, World.frozen?_setCell, World.frozen?_setCell, World.frozen?_setCell]
  rw [← hW] at hw
  subst hw
  have B := (Bel.refl W).alloc o
  have e0 : W.cell? ⟨P, 0, none⟩ = some x0 := hW ▸ other_cell (by decide : 4 ≠ 0) (other_cell (by decide : 3 ≠ 0) (other_cell (by decide : 2 ≠ 0) (other_cell (by decide : 1 ≠ 0) (same_cell c0))))
  have e1 : W.cell? ⟨P, 1, none⟩ = some x1 := hW ▸ other_cell (by decide : 4 ≠ 1) (other_cell (by decide : 3 ≠ 1) (other_cell (by decide : 2 ≠ 1) (same_cell (other_cell (by decide : 0 ≠ 1) c1))))
  have e2 : W.cell? ⟨P, 2, none⟩ = some x2 := hW ▸ other_cell (by decide : 4 ≠ 2) (other_cell (by decide : 3 ≠ 2) (same_cell (other_cell (by decide : 1 ≠ 2) (other_cell (by decide : 0 ≠ 2) c2))))
  have e3 : W.cell? ⟨P, 3, none⟩ = some x3 := hW ▸ other_cell (by decide : 4 ≠ 3) (same_cell (other_cell (by decide : 2 ≠ 3) (other_cell (by decide : 1 ≠ 3) (other_cell (by decide : 0 ≠ 3) c3))))
  have e4 : W.cell? ⟨P, 4, none⟩ = some x4 := hW ▸ same_cell (other_cell (by decide : 3 ≠ 4) (other_cell (by decide : 2 ≠ 4) (other_cell (by decide : 1 ≠ 4) (other_cell (by decide : 0 ≠ 4) c4))))
  refine ⟨B.keep e0, B.keep e1, B.keep e2, B.keep e3, B.keep e4, fun i hi => ?_, ?_⟩
  · match i, hi with
    | 0, _ => exact B.free e0 ((fz 0).trans (f 0 (by decide)))
    | 1, _ => exact B.free e1 ((fz 1).trans (f 1 (by decide)))
    | 2, _ => exact B.free e2 ((fz 2).trans (f 2 (by decide)))
    | 3, _ => exact B.free e3 ((fz 3).trans (f 3 (by decide)))
    | 4, _ => exact B.free e4 ((fz 4).trans (f 4 (by decide)))
  · subst hW
    exact ((((((Exc.refl (fun k => k = P) w).setCell (a := ⟨P, 0, none⟩) (fun _ => rfl) _).setCell (a := ⟨P, 1, none⟩) (fun _ => rfl) _).setCell (a := ⟨P, 2, none⟩) (fun _ => rfl) _).setCell (a := ⟨P, 3, none⟩) (fun _ => rfl) _).setCell (a := ⟨P, 4, none⟩) (fun _ => rfl) _).alloc _

set_option maxHeartbeats 2000000 in
theorem take_ok (P : Nat) (t : ByteArray) (c : Cod) (p : Int) (hb : Coder.Between c.l c.h) (hs : t.size ≤ 65536) (hq : c.o.length ≤ 60000) (hp : 1 ≤ p ∧ p ≤ 4095) (hi : In t c) (w : World) (h : TakeSt P t w c) :
    Calls Tryd.prog 37 #[.pointer (some ⟨P, 0, none⟩), .int .i64 p] w fun e w' => e = .returned (.tuple #[.int .i64 (bitT t c p), .int .i64 0]) ∧ TakeSt P t w' (codS c (bitT t c p) p) ∧ Exc (fun k => k = P) w w' := by
  have C := Deco.bit_ok c.l c.h (Coder.win t c.o.length) p t ((c.o.length + 4 : Nat) : Int) (by unfold maxLen; omega)
  rw [dec_is hb hs hq hp hi] at C
  obtain ⟨d0, d1, d2, d3, d4, f⟩ := h
  have F : Hid (∀ i, i < 5 → w.frozen? ⟨P, i, none⟩ = false) := f
  clear f hb hs hq hi
  have mk : ∀ (w : World) (c : Cod), (w.cell? ⟨P, 0, none⟩ = some (.int .i64 c.l) ∧ w.cell? ⟨P, 1, none⟩ = some (.int .i64 c.h) ∧ w.cell? ⟨P, 2, none⟩ = some (.int .i64 (Coder.win t c.o.length)) ∧ w.cell? ⟨P, 3, none⟩ = some (.string t) ∧ w.cell? ⟨P, 4, none⟩ = some (.int .i64 ((c.o.length + 4 : Nat) : Int)) ∧ (∀ i, i < 5 → w.frozen? ⟨P, i, none⟩ = false)) → TakeSt P t w c := fun w c q => ⟨q.1, q.2.1, q.2.2.1, q.2.2.2.1, q.2.2.2.2.1, q.2.2.2.2.2⟩
  have MK : Hid (∀ (w : World), (w.cell? ⟨P, 0, none⟩ = some (.int .i64 (codS c (bitT t c p) p).l) ∧ w.cell? ⟨P, 1, none⟩ = some (.int .i64 (codS c (bitT t c p) p).h) ∧ w.cell? ⟨P, 2, none⟩ = some (.int .i64 (Coder.win t (codS c (bitT t c p) p).o.length)) ∧ w.cell? ⟨P, 3, none⟩ = some (.string t) ∧ w.cell? ⟨P, 4, none⟩ = some (.int .i64 (((codS c (bitT t c p) p).o.length + 4 : Nat) : Int)) ∧ (∀ i, i < 5 → w.frozen? ⟨P, i, none⟩ = false)) → TakeSt P t w (codS c (bitT t c p) p)) := fun w => mk w _
  have CC : Hid (∀ w, Calls Tryd.prog 64 #[.agg #[.int .i64 c.l, .int .i64 c.h, .int .i64 (Coder.win t c.o.length), .string t, .int .i64 ((c.o.length + 4 : Nat) : Int)], .int .i64 p] w fun e w' => e = .returned (.tuple #[.agg #[.int .i64 (codS c (bitT t c p) p).l, .int .i64 (codS c (bitT t c p) p).h, .int .i64 (Coder.win t (codS c (bitT t c p) p).o.length), .string t, .int .i64 (((codS c (bitT t c p) p).o.length + 4 : Nat) : Int)], .int .i64 (bitT t c p), .int .i64 0]) ∧ Bel w w') := C
  clear C mk
  generalize codS c (bitT t c p) p = c' at *
  generalize bitT t c p = y at *
  generalize Coder.win t c.o.length = n0 at *
  generalize ((c.o.length + 4 : Nat) : Int) = q0 at *
  generalize Coder.win t c'.o.length = n1 at *
  generalize ((c'.o.length + 4 : Nat) : Int) = q1 at *
  generalize c'.l = l' at *
  generalize c'.h = h' at *
  generalize c.l = l at *
  generalize c.h = h at *
  go_enter Tryd.func37, Tryd.ntmps37
  go_wp2_with fail
  refine (CC.out _).mono ?_
  rintro e w1 ⟨rfl, b1⟩
  have k0 := b1.keep d0
  have k1 := b1.keep d1
  have k2 := b1.keep d2
  have k3 := b1.keep d3
  have k4 := b1.keep d4
  have v0 := b1.free d0 (F.out 0 (by decide))
  have v1 := b1.free d1 (F.out 1 (by decide))
  have v2 := b1.free d2 (F.out 2 (by decide))
  have v3 := b1.free d3 (F.out 3 (by decide))
  have v4 := b1.free d4 (F.out 4 (by decide))
  have VV : Hid (∀ i, i < 5 → w1.frozen? ⟨P, i, none⟩ = false) := fun i hi => match i, hi with | 0, _ => v0 | 1, _ => v1 | 2, _ => v2 | 3, _ => v3 | 4, _ => v4
  have X1 : Hid (Exc (fun k => k = P) w w1) := Exc.of_bel b1
  have pl1 : P < w1.heap.size := block_lt_of_cell k0
  clear b1 d0 d1 d2 d3 d4
  go_wp2
  go_ret2
  have MP := made_take (x0 := .int .i64 l') (x1 := .int .i64 h') (x2 := .int .i64 n1) (x3 := .string t) (x4 := .int .i64 q1) (o := .cells #[.int .i64 l', .int .i64 h', .int .i64 n1, .string t, .int .i64 q1] 78) k0 k1 k2 k3 k4 VV.out _ rfl
  exact ⟨rfl, MK.out _ ⟨MP.1, MP.2.1, MP.2.2.1, MP.2.2.2.1, MP.2.2.2.2.1, MP.2.2.2.2.2.1⟩, X1.out.trans MP.2.2.2.2.2.2 (fun _ _ h => h)⟩

end Go.Proofs.YtocnlefpbcnlmaaDoor.Res

namespace Go.Proofs.YtocnlefpbcnlmaaDoor.Res
open Go.RowKit Go.Sort Go.Proofs.YtocnlefpbcnlmaaDoor.Mod Go.Proofs.YtocnlefpbcnlmaaDoor.Ints
set_option linter.unusedVariables false
set_option linter.unusedSimpArgs false

def lenOf : Value → Nat
  | .slice _ n _ => n
  | _ => 0

/-- What the way through a number's bits ends in. -/
def Ends {σ : Type} (N Lb P : Nat) (St : World → σ → Prop) (Inv : σ → List Int → Prop) (w' : World) (e : Ending) : Option (List Int × σ × List Int) → Prop
  | none => e = .returned (.tuple #[.slice none 0 0, .bool false])
  | some (M, t, bs) => (∃ ao cap, e = .returned (.tuple #[.slice ao bs.length cap, .bool true]) ∧ bs.length ≤ cap ∧ cap ≤ maxLen ∧ Slc w' ao bs ∧ ∀ x, ao = some x → N ≤ x.block) ∧
      Holds w' Lb (M ++ [((bs.length / 2 : Nat) : Int)]) ∧ St w' t ∧ M.length = 195 ∧ mayM M = true ∧ Inv t bs ∧ whole bs = true ∧ Ctx.Bits01 bs ∧ bs.length ≤ 64

/-- What holds at a round's beginning. -/
structure Way {σ : Type} (N Lb P : Nat) (St : World → σ → Prop) (Inv : σ → List Int → Prop) (nxt : σ → Int → Int × σ) (R : Option (List Int × σ × List Int)) (b : Int) (w wr : World) (M : List Int) (t : σ) (bs : List Int) (v : Value) : Prop where
  run : run nxt (65 - bs.length) M b t bs = R
  len : M.length = 195
  may : mayM M = true
  b01 : Ctx.Bits01 bs
  inv : Inv t bs
  mem : Holds wr Lb (M ++ [b])
  st : St wr t
  row : wr.ownsRow N 3 1 v bs.length (vals bs)
  exc : Exc (fun k => k = Lb ∨ k = P) w wr

section
variable {ops : Array Oper} {rest : List Oper} {dst : Option Tmp} {a : Act} {w : World} {ty : TypeId} {pos : String} {after : Array Edge} {x : Operand} {B : Nat} {M X : List Int}
/-- A learner's model, and a context, in a region that reads. -/
theorem quiet_load46 {Q : Act → Prop} (h : Holds w B (M ++ X)) (hM : M.length = 195) (hx : a.eval x = .pointer (some ⟨B, 0, none⟩))
    (k : wpQuiet Tryd.prog ops (fun w' => ∃ p : Regrown, w' = grow (redrawn w p.d) p.os) Q rest (a.put dst (mdl M))) :
    wpQuiet Tryd.prog ops (fun w' => ∃ p : Regrown, w' = grow (redrawn w p.d) p.os) Q ({ dst := dst, op := .load 46 x, type := ty, pos := pos, after := after, guard := none } :: rest) a :=
  quiet_load26 (holds_front h) hM hx k
end

theorem store46 {w : World} {B : Nat} {L M : List Int} {b : Int} (h : Holds w B (L ++ [b])) (hM : M.length = 195) (hL : L.length = 195) :
    (storeVar 46 ⟨B, 0, none⟩ (mdl M)).run Tryd.prog w = .ok () (w.setCells B 0 (vals M)) := by
  have hs : (vals M).toArray.size = 195 := by simp [vals_length, hM]
  have := run_storeVar_mid (P := Tryd.prog) w B 0 46 (vals M).toArray (by rw [hs]; exact h.there 0 195 (by rw [List.length_append, hL]; simp)) (by rw [size26, hs]) (vals_one M)
  simpa using this

theorem fuel {σ : Type} (nxt : σ → Int → Int × σ) (n : Nat) (hn : n ≤ 64) (M : List Int) (b : Int) (t : σ) (bs : List Int) : run nxt (65 - n) M b t bs = if whole bs then some (M, t, bs) else if 63 < bs.length then none else
      run nxt (64 - n) (lrn M b bs (nxt t (pOf M b bs)).1) b (nxt t (pOf M b bs)).2 (bs ++ [(nxt t (pOf M b bs)).1]) := by
  rw [show 65 - n = (64 - n) + 1 by omega, run]

theorem row_block {w : World} {N n m cap : Nat} {ao : Option Addr} {xs : List Value} (h : w.ownsRow N 3 1 (.slice ao n cap) m xs) : ∀ x, ao = some x → N ≤ x.block := fun x hx => by
  rcases h.2 with ⟨q, _⟩ | ⟨g, c, cur, q, hb, _⟩
  · injection q with q1 _ _; rw [hx] at q1; cases q1
  · injection q with q1 _ _; rw [hx] at q1; obtain rfl := Option.some.inj q1; exact hb

theorem set_last {M : List Int} (hM : M.length = 195) (b x : Int) : (M ++ [b]).set 195 x = M ++ [x] := by
  rw [List.set_append_right _ _ (by omega)]; simp [hM]
theorem get_last {M : List Int} (hM : M.length = 195) (b : Int) : (M ++ [b]).getD 195 0 = b := by
  simp [List.getD_eq_getElem?_getD, List.getElem?_append_right, hM]

end Go.Proofs.YtocnlefpbcnlmaaDoor.Res
