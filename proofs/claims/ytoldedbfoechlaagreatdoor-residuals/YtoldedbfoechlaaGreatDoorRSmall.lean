/-
  The contracts of residual's small functions: isNoResidual, slices.ContainsFunc over it, isWhole, newLearner. No condition.
-/
import Derived.Test.YtoldedbfoechlaaGreatDoorRNum
import Derived.Test.YtoldedbfoechlaaGreatDoorRExc
import Derived.Test.YtoldedbfoechlaaGreatDoorXOf
import Derived.Test.YtoldedbfoechlaaGreatDoorFFold
namespace Go.Proofs.YtoldedbfoechlaaGreatDoor.Res
open Go.RowKit Go.Proofs.YtoldedbfoechlaaGreatDoor.Mod
set_option linter.unusedVariables false
set_option linter.unusedSimpArgs false

def noRes (x : Int) : Bool := decide (¬ (-16777216 ≤ x ∧ x ≤ 16777216))
def AllFit (L : List Int) : Prop := ∀ k, k < L.length → Fits (L.getD k 0)

theorem put_fits (x : Int) (h : Fits x) (w : World) :
    Calls Tryz.prog 20 #[.int .i64 x] w fun e w' => e = .returned (.tuple #[.int .i64 ((folded x : Nat) : Int), .int .i64 0]) ∧ w' = w := by
  obtain ⟨h1, h2⟩ := h
  rcases Int.lt_or_le x 0 with h0 | h0
  · exact Fld.put_neg x _ h0 h1 (by unfold folded; rw [if_pos h0]; omega) w
  · exact Fld.put_pos x _ h0 h2 (by unfold folded; rw [if_neg (by omega)]; omega) w

set_option maxHeartbeats 400000 in
theorem noRes_ok (x : Int) (w : World) :
    Calls Tryz.prog 17 #[.int .i64 x] w fun e w' => e = .returned (.bool (noRes x)) ∧ w' = w := by
  by_cases h : Fits x
  · have P := put_fits x h w
    rw [show noRes x = false from decide_eq_false (fun q => q h)]
    generalize ((folded x : Nat) : Int) = y at P
    clear h
    go_enter Tryz.func17, Tryz.ntmps17
    go_wp2_with fail
    refine P.mono ?_
    rintro e w1 ⟨rfl, rfl⟩
    go_wp2
    go_ret
    exact ⟨rfl, rfl⟩
  · have P := Fld.put_no x (by unfold Fits at h; omega) w
    rw [show noRes x = true from decide_eq_true h]
    clear h
    go_enter Tryz.func17, Tryz.ntmps17
    go_wp2_with fail
    refine P.mono ?_
    rintro e w1 ⟨rfl, rfl⟩
    go_wp2
    go_ret
    exact ⟨rfl, rfl⟩

theorem noRes_no {x : Int} (h : noRes x = false) : Fits x := by
  unfold noRes at h
  have := of_decide_eq_false h
  unfold Fits
  omega

set_option maxHeartbeats 1000000 in
/-- Where none is bad none is found; else one is. -/
theorem indexF_ok (ao : Option Addr) (L : List Int) (n cap : Nat) (hn : n = L.length) (hx : n ≤ 256) (r : Bool) (hr : r = true ↔ ¬ AllFit L) (w : World) (hA : Slc w ao L) :
    Calls Tryz.prog 41 #[.slice ao n cap, .func (.func 17) #[] #[]] w fun e w' => (∃ q : Int, e = .returned (.int .i64 q) ∧ decide (0 ≤ q) = r) ∧ w' = w := by
  have P : Hid (∀ x w, Calls Tryz.prog 17 #[.int .i64 x] w fun e w' => e = .returned (.bool (noRes x)) ∧ w' = w) := noRes_ok
  have HA : Hid (Slc w ao L) := hA
  have HN : Hid (n = L.length) := hn
  have HR : Hid (r = true ↔ ¬ AllFit L) := hr
  clear hA hn hr
  go_enter Tryz.func41, Tryz.ntmps41
  go_wp2_with fail
  go_loopw [8] (fun i wr => ∃ j : Nat, j ≤ n ∧ i = .int .i64 (j : Int) ∧ Hid (∀ i, i < j → noRes (L.getD i 0) = false) ∧ wr = w) (fun i _ => n - (intOf i).toNat)
  case atStart => exact ⟨0, by omega, rfl, (fun i hi => by omega : ∀ i, i < 0 → noRes (L.getD i 0) = false), rfl⟩
  case round =>
    obtain ⟨j, hj, rfl, HB, hw⟩ := hrel
    replace hw := hw.symm
    subst hw
    by_cases hlt : j < n
    · obtain ⟨x, rfl, hc⟩ := HA.out j (HN.out ▸ hlt)
      have hd : decide ((j : Int) < (n : Int)) = true := decide_eq_true (by omega)
      obtain ⟨p, hp⟩ : ∃ p, L.getD j 0 = p := ⟨_, rfl⟩
      rw [hp] at hc
      cases hq : noRes p
      · have HB2 : Hid (∀ i, i < j + 1 → noRes (L.getD i 0) = false) := fun i hi => by
          rcases Nat.lt_or_ge i j with h | h
          · exact HB.out i h
          · obtain rfl : i = j := by omega
            rw [hp]; exact hq
        have PP := P.out p
        rw [hq] at PP
        have PQ : Hid (∀ w, Calls Tryz.prog 17 #[.int .i64 p] w fun e w' => e = .returned (.bool false) ∧ w' = w) := PP
        clear PP hp hq HB
        go_wp2_with fail
        refine (PQ.out _).mono ?_
        rintro e w1 ⟨rfl, h2⟩
        replace h2 := h2.symm
        subst h2
        go_wp2
        go_roundw
        case rel => exact ⟨j + 1, by omega, by go_num, HB2, by first | rfl | trivial⟩
        case measure => simp [intOf]; omega
      · obtain rfl : r = true := HR.out.2 fun h => by
          have h1 := h j (HN.out ▸ hlt)
          rw [hp] at h1
          have hq2 : decide (¬ (-16777216 ≤ p ∧ p ≤ 16777216)) = true := hq
          have hq3 := of_decide_eq_true hq2
          exact hq3 h1
        have PP := P.out p
        rw [hq] at PP
        have PQ : Hid (∀ w, Calls Tryz.prog 17 #[.int .i64 p] w fun e w' => e = .returned (.bool true) ∧ w' = w) := PP
        clear PP hp hq HB
        go_wp2_with fail
        refine (PQ.out _).mono ?_
        rintro e w1 ⟨rfl, h2⟩
        replace h2 := h2.symm
        subst h2
        go_wp2
        go_ret
        exact ⟨⟨_, rfl, decide_eq_true (by omega)⟩, rfl⟩
    · have hd : decide ((j : Int) < (n : Int)) = false := decide_eq_false (by omega)
      obtain rfl : r = false := by
        cases hr : r
        · rfl
        · exact absurd (fun k hk => noRes_no (HB.out k (by have := HN.out; omega))) (HR.out.1 hr)
      clear HB
      go_wp2
      go_ret
      exact ⟨⟨_, rfl, by decide⟩, rfl⟩

set_option maxHeartbeats 400000 in
theorem contains_ok (ao : Option Addr) (L : List Int) (n cap : Nat) (hn : n = L.length) (hx : n ≤ 256) (r : Bool) (hr : r = true ↔ ¬ AllFit L) (w : World) (hA : Slc w ao L) :
    Calls Tryz.prog 16 #[.slice ao n cap, .func (.func 17) #[] #[]] w fun e w' => e = .returned (.bool r) ∧ w' = w := by
  have I : Hid (Calls Tryz.prog 41 #[.slice ao n cap, .func (.func 17) #[] #[]] w fun e w' => (∃ q : Int, e = .returned (.int .i64 q) ∧ decide (0 ≤ q) = r) ∧ w' = w) := indexF_ok ao L n cap hn hx r hr w hA
  clear hA hn hr
  go_enter Tryz.func16, Tryz.ntmps16
  go_wp2_with fail
  refine (I.out).mono ?_
  rintro e w1 ⟨⟨q, rfl, hq⟩, h2⟩
  replace h2 := h2.symm
  subst h2
  subst hq
  go_wp2
  go_ret
  exact ⟨rfl, rfl⟩

set_option maxHeartbeats 1000000 in
/-- slices.Index of 0, of bits. -/
theorem index64_ok (ao : Option Addr) (L : List Int) (n cap : Nat) (hn : n = L.length) (hx : n ≤ 64) (hb : Ctx.Bits01 L) (r : Int) (hr : r = if Ctx.has0 L then (Gam.ones L : Int) else -1) (w : World) (hA : Slc w ao L) :
    Calls Tryz.prog 71 #[.slice ao n cap, .int .i64 0] w fun e w' => e = .returned (.int .i64 r) ∧ w' = w := by
  have HA : Hid (Slc w ao L) := hA
  have HN : Hid (n = L.length) := hn
  have HR : Hid (r = if Ctx.has0 L then (Gam.ones L : Int) else -1) := hr
  have HT : Hid (Ctx.Bits01 L) := hb
  clear hA hn hr hb
  go_enter Tryz.func71, Tryz.ntmps71
  go_wp2_with fail
  go_loopw [8] (fun i wr => ∃ j : Nat, j ≤ n ∧ i = .int .i64 (j : Int) ∧ Hid (∀ i, i < j → L.getD i 0 ≠ 0) ∧ wr = w) (fun i _ => n - (intOf i).toNat)
  case atStart => exact ⟨0, by omega, rfl, (fun i hi => by omega : ∀ i, i < 0 → L.getD i 0 ≠ 0), rfl⟩
  case round =>
    obtain ⟨j, hj, rfl, HB, hw⟩ := hrel
    replace hw := hw.symm
    subst hw
    by_cases hlt : j < n
    · obtain ⟨x, rfl, hc⟩ := HA.out j (HN.out ▸ hlt)
      have hd : decide ((j : Int) < (n : Int)) = true := decide_eq_true (by omega)
      by_cases he : L.getD j 0 = 0
      · obtain rfl : r = (j : Int) := by
          have e := Ctx.first0 HT.out j (HN.out ▸ hlt) he HB.out
          rw [HR.out, e, Ctx.has0, decide_eq_true (by rw [e]; exact HN.out ▸ hlt), if_pos rfl]
        rw [he] at hc
        clear he HB HR
        go_wp2
        go_ret
        exact ⟨rfl, rfl⟩
      · have HB2 : Hid (∀ i, i < j + 1 → L.getD i 0 ≠ 0) := fun i hi => by
          rcases Nat.lt_or_ge i j with h | h
          · exact HB.out i h
          · obtain rfl : i = j := by omega
            exact he
        generalize L.getD j 0 = p at *
        have hb : ((0 : Int) == p) = false := by simp; omega
        clear HB
        go_wp2
        go_roundw
        case rel => exact ⟨j + 1, by omega, by go_num, HB2, by first | rfl | trivial⟩
        case measure => simp [intOf]; omega
    · have hd : decide ((j : Int) < (n : Int)) = false := decide_eq_false (by omega)
      obtain rfl : r = -1 := by
        have e := Ctx.no0 HT.out fun i hi => HB.out i (by have := HN.out; omega)
        rw [HR.out, Ctx.has0, decide_eq_false (by omega), if_neg (by decide)]
      clear HB
      go_wp2
      go_ret
      exact ⟨rfl, rfl⟩

set_option maxHeartbeats 1000000 in
theorem isWhole_ok (ao : Option Addr) (L : List Int) (n cap : Nat) (hn : n = L.length) (hx : n ≤ 64) (hb : Ctx.Bits01 L) (w : World) (hA : Slc w ao L) :
    Calls Tryz.prog 45 #[.slice ao n cap] w fun e w' => e = .returned (.bool (whole L)) ∧ w' = w := by
  have I := index64_ok ao L n cap hn hx hb _ rfl w hA
  have ol := Gam.ones_le L
  unfold whole
  cases h0 : Ctx.has0 L
  · rw [h0] at I
    simp only [Bool.false_eq_true, if_false] at I
    clear hA hb ol h0 hn
    go_enter Tryz.func45, Tryz.ntmps45
    go_wp2_with fail
    refine I.mono ?_
    rintro e w1 ⟨rfl, rfl⟩
    go_wp2
    go_ret
    exact ⟨by simp, rfl⟩
  · rw [h0] at I
    simp only [if_true] at I
    rw [Bool.true_and, ← hn]
    obtain ⟨k, hk⟩ : ∃ k, Gam.ones L = k := ⟨_, rfl⟩
    rw [hk] at I ol ⊢
    have hd : (decide ((n : Int) = 2 * (k : Int) + 1)) = decide (n = 2 * k + 1) := decide_eq_decide.2 (by omega)
    have HD : Hid ((decide ((n : Int) = 2 * (k : Int) + 1)) = decide (n = 2 * k + 1)) := hd
    have k64 : k ≤ 64 := by omega
    clear hA hb hk h0 hd hn ol
    go_enter Tryz.func45, Tryz.ntmps45
    go_wp2_with fail
    refine I.mono ?_
    rintro e w1 ⟨rfl, rfl⟩
    go_wp2
    all_goals go_ret
    all_goals (refine ⟨?_, rfl⟩; rw [← HD.out]; exact congrArg (fun v => Ending.returned (.bool v)) (Bool.beq_eq_decide_eq _ _))

/-- A learner's cells. -/
def zeros6 : List Int := List.replicate 196 0
theorem zeros6_len : zeros6.length = 196 := List.length_replicate
theorem info48 : (Tryz.prog.info? 48).map (fun i => (i.zero, i.size)) = some (some (mdl zeros6), 196) := by kernel_rfl
theorem zero48 (w : World) : (zeroValue 48).run Tryz.prog w = .ok (mdl zeros6) w := (zero_of_info info48).1 w
theorem size48 : (Tryz.prog.info? 48).map (·.size) = some 196 := (zero_of_info info48).2

theorem lrn_put (L : List Int) (hL : L.length = 195) : put zeros6 0 L = L ++ [0] := by
  have e : zeros6 = [] ++ List.replicate 195 0 ++ [0] := by decide +kernel
  have h1 := put_mid L [] (List.replicate 195 0) [0] (by rw [List.length_replicate, hL])
  rw [List.length_nil] at h1
  rw [e, h1]
  rfl

/-- A learner is built of a model. -/
theorem build48 (L : List Int) (hL : L.length = 195) (w : World) : (Instr.build 48 #[(0, mdl L)]).run Tryz.prog w = .ok (mdl (L ++ [0])) w := by
  have hf : Instr.fill (fun x => [(0, 195), (195, 1)][x]?) (vals zeros6).toArray [(0, mdl L)] = some (vals (L ++ [0])).toArray := by
    rw [fill_one (off := 0) (size := 195) rfl (by rw [hL]) (by rw [zeros6_len]; decide), lrn_put L hL]
    rfl
  unfold Instr.build
  simp only [Sem.run_bind, zero48, Result.andThen_ok, run_underlying Tryz.underlying48, Value.cells]
  simp [Tryz.sizeOf46, Tryz.sizeOf3, hf]

section
variable {ops : Array Oper} {rest : List Oper} {dst : Option Tmp} {a : Act} {w : World} {Q : Exit → Act → World → Prop} {ty : TypeId} {pos : String} {after : Array Edge} {x y : Operand} {B : Nat} {L M : List Int}

theorem wpl_build48 (hL : L.length = 195) (hx : a.eval x = mdl L) (k : wpList Tryz.prog ops Q rest (a.put dst (mdl (L ++ [0]))) w) :
    wpList Tryz.prog ops Q ({ dst := dst, op := .build 48 #[(0, x)], type := ty, pos := pos, after := after, guard := none } :: rest) a w :=
  wpList_plain rfl fun _ hK => by
    unfold Oper.wp execOp
    simp only [List.map_toArray, List.map_cons, List.map_nil, hx, Sem.run_bind, build48 L hL w, Result.andThen_ok]
    exact hK _ _ k

theorem wpl_store48 (h : Holds w B L) (hL : L.length = 196) (hM : M.length = 196) (hx : a.eval x = .pointer (some ⟨B, 0, none⟩)) (hy : a.eval y = mdl M) (k : wpList Tryz.prog ops Q rest (a.put dst undef) (w.setCells B 0 (vals M))) :
    wpList Tryz.prog ops Q ({ dst := dst, op := .store 48 x y, type := ty, pos := pos, after := after, guard := none } :: rest) a w :=
  wpList_store_mid rfl 48 x y rfl B 0 (vals M).toArray hx hy (by rw [size_vals, hM]; exact h.there 0 196 (by omega)) (by rw [size48, size_vals, hM]) (vals_one M) k

/-- A model is stored into a learner. -/
theorem wpl_store46 (h : Holds w B L) (hL : L.length = 196) (hM : M.length = 195) (hx : a.eval x = .pointer (some ⟨B, 0, none⟩)) (hy : a.eval y = mdl M) (k : wpList Tryz.prog ops Q rest (a.put dst undef) (w.setCells B 0 (vals M))) :
    wpList Tryz.prog ops Q ({ dst := dst, op := .store 46 x y, type := ty, pos := pos, after := after, guard := none } :: rest) a w :=
  wpList_store_mid rfl 46 x y rfl B 0 (vals M).toArray hx hy (by rw [size_vals, hM]; exact h.there 0 195 (by omega)) (by rw [size26, size_vals, hM]) (vals_one M) k
end

theorem results_learner {fn : Func} {t : Tmp} (hf : fn.results = #[.cell t 48]) {tmps : Array Value} {b : Nat} {w : World} {L : List Int} (ht : tmps[t]?.getD undef = .pointer (some ⟨b, 0, none⟩))
    (h : Holds w b L) (hL : L.length = 196) : (results fn tmps).run Tryz.prog w = .ok (mdl L) w := by
  have h3 := h.range
  have := run_loadVar_mid (P := Tryz.prog) w b 0 48 (vals L) _ h3 Tryz.underlying48 rfl (by rw [size48, vals_length, hL])
  simp [results, hf, ht, this, Sem.run_bind, asAddr]

/-- The model of a learner is another. -/
theorem holds_model {w : World} {B : Nat} {L : List Int} {b : Int} (h : Holds w B (L ++ [b])) (hL : L.length = 195) (M : List Int) (hM : M.length = 195) : Holds (w.setCells B 0 (vals M)) B (M ++ [b]) := by
  have := Holds.put M h 0 (by rw [List.length_append, hL, hM]; simp)
  have e := put_mid M [] L [b] (by rw [hL, hM])
  rw [List.length_nil] at e
  rw [show L ++ [b] = [] ++ L ++ [b] by simp, e] at this
  simpa using this

set_option maxHeartbeats 1000000 in
theorem newLearner_ok (w : World) :
    Calls Tryz.prog 18 #[] w fun e w' => e = .returned (mdl (newM ++ [0])) ∧ Bel w w' := by
  have z := zero48
  have Z6 : Hid (zeros6.length = 196) := zeros6_len
  have NL : Hid (newM.length = 195) := newM_len
  have NQ : Hid (∀ w, Calls Tryz.prog 42 #[] w fun e w' => e = .returned (mdl newM) ∧ Bel w w') := new_ok
  generalize newM = M at *
  generalize zeros6 = Z at *
  have ml : (M ++ [0]).length = 196 := by rw [List.length_append, NL.out]; rfl
  have ML : Hid ((M ++ [0]).length = 196) := ml
  clear ml
  go_enter Tryz.func18, Tryz.ntmps18
  go_wp2_with fail
  refine (NQ.out _).mono ?_
  rintro e w1 ⟨rfl, b1⟩
  have H1 : Hid (Holds w1 w.heap.size Z) := (holds_new w Z 48).bel b1
  have B1 : Hid (Bel w w1) := ((Bel.refl w).alloc _).trans b1
  clear b1
  have R0 : Hid (Holds (w1.setCells w.heap.size 0 (vals (M ++ [0]))) w.heap.size (M ++ [0])) := holds_all H1.out _ (Z6.out.trans ML.out.symm)
  have B2 : Hid (Bel w (w1.setCells w.heap.size 0 (vals (M ++ [0])))) := Bel.setCells (Nat.le_refl _) _ _ B1.out
  go_wp2_with (first | (with_reducible refine wpl_build48 NL.out rfl ?_) | (with_reducible refine wpl_store48 H1.out Z6.out ML.out rfl rfl ?_))
  refine bodyPost_ret (v := mdl (M ++ [0])) (results_learner Tryz.results18 rfl R0.out ML.out) rfl ⟨rfl, B2.out⟩

end Go.Proofs.YtoldedbfoechlaaGreatDoor.Res
