/-
  The contracts of the reference's ModelMay and ctxMay: they answer as the program's tests do. No condition.
-/
import Derived.Test.YtnldnkcfeclmpaaDoorNAwake
import Derived.Test.YtnldnkcfeclmpaaDoorNMRefTrain
import Derived.Test.YtnldnkcfeclmpaaDoorURef
namespace Go.Proofs.YtnldnkcfeclmpaaDoor.Mod
open Go.RowKit Go.Sort
set_option linter.unusedVariables false
set_option linter.unusedSimpArgs false

theorem wts_is (L : List Int) : wtsB L = !(Mix.passed 1048576 (L.getD 192 0) || Mix.passed 1048576 (L.getD 193 0) || Mix.passed 1048576 (L.getD 194 0)) := by
  unfold wtsB Mix.mayB
  rw [show Mix.passed 2047 0 = false by decide]
  simp

theorem may_bad {L : List Int} (k : Nat) (hk : k < 192) (h : Cnt.cntB (L.getD k 0) = false) : mayM L = false := by
  cases e : mayM L
  · rfl
  · have := ((may_iff L).1 e).1 k hk
    have h2 := of_decide_eq_false h
    exact absurd this h2

theorem may_good {L : List Int} (h : ∀ k, k < 192 → Cnt.cntB (L.getD k 0) = true) : mayM L = wtsB L := by
  have r : ∀ o, o = 0 ∨ o = 64 ∨ o = 128 → rowBad L o = false := fun o ho => anyOf_no fun i hi => by
    simp only [noCnt, Bool.not_eq_false']
    exact h (o + i) (by omega)
  rw [mayM, r 0 (by omega), r 64 (by omega), r 128 (by omega)]
  rfl

set_option maxHeartbeats 2000000 in
theorem ref_may_ok (L : List Int) (hL : L.length = 195) (w : World) :
    Calls Tryd.prog 14 #[mdl L] w fun e w' => e = .returned (.bool (mayM L)) ∧ Bel w w' := by
  have NL : Hid (L.length = 195) := hL
  have KM : Hid (∀ c w, Calls Tryd.prog 33 #[.int .i64 c] w fun e w' => e = .returned (.bool (Cnt.cntB c)) ∧ w' = w) := Cnt.countMay_ok
  have TM : Hid (∀ w, Calls Tryd.prog 34 #[.agg #[.int .i64 (L.getD 192 0), .int .i64 (L.getD 193 0), .int .i64 (L.getD 194 0)], .int .i64 1048576] w fun e w' => e = .returned (.bool (wtsB L)) ∧ Onto w w') := by
    rw [wts_is]; exact Mix.three_ok 1048576 _ _ _ (by decide) (by decide)
  have MG : Hid ((∀ k, k < 192 → Cnt.cntB (L.getD k 0) = true) → wtsB L = mayM L) := fun h => (may_good h).symm
  have MN : Hid (∀ k, k < 192 → Cnt.cntB (L.getD k 0) = false → mayM L = false) := fun k hk h => may_bad k hk h
  clear hL
  generalize wtsB L = ws at *
  generalize mayM L = m at *
  go_enter Tryd.func14, Tryd.ntmps14
  go_wp2_with fail
  have h0 := holds_new w L 26
  have b0 := (Bel.refl w).alloc (.cells (vals L).toArray 26)
  generalize w.alloc (.cells (vals L).toArray 26) = W at *
  have HW : Hid (Holds W w.heap.size L) := h0
  have BW : Hid (Bel w W) := b0
  clear h0 b0
  go_loopw [3] (fun i wr => ∃ j : Nat, j ≤ 3 ∧ i = .int .i64 (j : Int) ∧ Hid (∀ k, k < j * 64 → Cnt.cntB (L.getD k 0) = true) ∧ wr = W) (fun i _ => 3 - (intOf i).toNat)
  case atStart => exact ⟨0, by omega, rfl, (fun k hk => by omega : ∀ k, k < 0 * 64 → Cnt.cntB (L.getD k 0) = true), rfl⟩
  case round =>
    obtain ⟨i, hi, rfl, HN, rfl⟩ := hrel
    by_cases hlt : i < 3
    · have hd : decide ((i : Int) < 3) = true := decide_eq_true (by omega)
      go_wp2_with fail
      go_loopw [4] (fun q wx => ∃ k : Nat, k ≤ 64 ∧ q = .int .i64 (k : Int) ∧ Hid (∀ n, n < i * 64 + k → Cnt.cntB (L.getD n 0) = true) ∧ wx = wr) (fun q _ => 64 - (intOf q).toNat)
      case atStart => exact ⟨0, by omega, rfl, HN, rfl⟩
      case round =>
        obtain ⟨k, hk, rfl, HM, rfl⟩ := hrel
        clear HN
        by_cases hkt : k < 64
        · have hd2 : decide ((k : Int) < 64) = true := decide_eq_true (by omega)
          have cx := HW.out.cell (i * 64 + k) (by rw [NL.out]; omega)
          cases hp : Cnt.cntB (L.getD (i * 64 + k) 0)
          · have MF : Hid (m = false) := MN.out _ (by omega) hp
            have PP := KM.out (L.getD (i * 64 + k) 0)
            rw [hp] at PP
            have PQ : Hid (∀ w, Calls Tryd.prog 33 #[.int .i64 (L.getD (i * 64 + k) 0)] w fun e w' => e = .returned (.bool false) ∧ w' = w) := PP
            clear PP hp HM
            generalize L.getD (i * 64 + k) 0 = x at *
            go_wp2_with fail
            refine (PQ.out _).mono ?_
            rintro e w1 ⟨rfl, rfl⟩
            go_wp2
            go_ret
            exact ⟨congrArg (fun v => Ending.returned (.bool v)) MF.out.symm, BW.out⟩
          · have HM2 : Hid (∀ n, n < i * 64 + (k + 1) → Cnt.cntB (L.getD n 0) = true) := fun n hn => by
              rcases Nat.lt_or_ge n (i * 64 + k) with h | h
              · exact HM.out n h
              · obtain rfl : n = i * 64 + k := by omega
                exact hp
            have PP := KM.out (L.getD (i * 64 + k) 0)
            rw [hp] at PP
            have PQ : Hid (∀ w, Calls Tryd.prog 33 #[.int .i64 (L.getD (i * 64 + k) 0)] w fun e w' => e = .returned (.bool true) ∧ w' = w) := PP
            clear PP hp HM
            generalize L.getD (i * 64 + k) 0 = x at *
            go_wp2_with fail
            refine (PQ.out _).mono ?_
            rintro e w1 ⟨rfl, rfl⟩
            go_wp2
            go_roundw
            case rel => exact ⟨k + 1, by omega, by go_num, HM2, by trivial⟩
            case measure => simp [intOf]; omega
        · have hd2 : decide ((k : Int) < 64) = false := decide_eq_false (by omega)
          have HN2 : Hid (∀ n, n < (i + 1) * 64 → Cnt.cntB (L.getD n 0) = true) := fun n hn => HM.out n (by omega)
          clear HM
          go_wp2
          go_roundw
          case rel => exact ⟨i + 1, by omega, by go_num, HN2, by trivial⟩
          case measure => simp [intOf]; omega
    · have hd : decide ((i : Int) < 3) = false := decide_eq_false (by omega)
      have ME : Hid (ws = m) := MG.out (fun k hk => HN.out k (by omega))
      have c0 := HW.out.cell 192 (by rw [NL.out]; decide)
      have c1 := HW.out.cell 193 (by rw [NL.out]; decide)
      have c2 := HW.out.cell 194 (by rw [NL.out]; decide)
      clear HN
      generalize L.getD 192 0 = x0 at *
      generalize L.getD 193 0 = x1 at *
      generalize L.getD 194 0 = x2 at *
      go_wp2_with fail
      refine (TM.out _).mono ?_
      rintro e w1 ⟨rfl, o⟩
      have B1 : Hid (Bel w w1) := BW.out.trans o.b
      clear o
      go_wp2
      go_ret
      exact ⟨congrArg (fun v => Ending.returned (.bool v)) ME.out, B1.out⟩

theorem upTo_place (x : Int) (w : World) :
    Calls Tryd.prog 41 #[.int .i64 x, .int .i64 0, .int .i64 63] w fun e w' => e = .returned (.bool (!noPlace x)) ∧ w' = w := by
  by_cases h : x < 0 ∨ 63 < x
  · have e : noPlace x = true := decide_eq_true (by omega)
    rw [e]
    exact Str.upTo_no x 0 63 h w
  · have e : noPlace x = false := decide_eq_false (by omega)
    rw [e]
    exact Str.upTo_yes x 0 63 (by omega) (by omega) w

set_option maxHeartbeats 1000000 in
theorem ref_ctx_ok (a b c : Int) (w : World) :
    Calls Tryd.prog 22 #[.agg #[.int .i64 a, .int .i64 b, .int .i64 c]] w fun e w' => e = .returned (.bool (ctxB a b c)) ∧ Bel w w' := by
  have U : Hid (∀ x w, Calls Tryd.prog 41 #[.int .i64 x, .int .i64 0, .int .i64 63] w fun e w' => e = .returned (.bool (!noPlace x)) ∧ w' = w) := upTo_place
  unfold ctxB
  cases ha : noPlace a
  · cases hb : noPlace b
    · cases hc : noPlace c
      · go_enter Tryd.func22, Tryd.ntmps22
        go_wp2
        refine wp_loop_rounds 4 ?_
        rw [rounds_succ]
        go_wp2_with fail
        refine (U.out a _).mono ?_
        rw [ha]
        rintro e w1 ⟨rfl, rfl⟩
        go_wp2
        rw [rounds_succ]
        go_wp2_with fail
        refine (U.out b _).mono ?_
        rw [hb]
        rintro e w1 ⟨rfl, rfl⟩
        go_wp2
        rw [rounds_succ]
        go_wp2_with fail
        refine (U.out c _).mono ?_
        rw [hc]
        rintro e w1 ⟨rfl, rfl⟩
        go_wp2
        rw [rounds_succ]
        go_wp2
        go_ret
        exact ⟨rfl, (Bel.refl _).alloc _⟩
      · go_enter Tryd.func22, Tryd.ntmps22
        go_wp2
        refine wp_loop_rounds 3 ?_
        rw [rounds_succ]
        go_wp2_with fail
        refine (U.out a _).mono ?_
        rw [ha]
        rintro e w1 ⟨rfl, rfl⟩
        go_wp2
        rw [rounds_succ]
        go_wp2_with fail
        refine (U.out b _).mono ?_
        rw [hb]
        rintro e w1 ⟨rfl, rfl⟩
        go_wp2
        rw [rounds_succ]
        go_wp2_with fail
        refine (U.out c _).mono ?_
        rw [hc]
        rintro e w1 ⟨rfl, rfl⟩
        go_wp2
        go_ret
        exact ⟨rfl, (Bel.refl _).alloc _⟩
    · go_enter Tryd.func22, Tryd.ntmps22
      go_wp2
      refine wp_loop_rounds 2 ?_
      rw [rounds_succ]
      go_wp2_with fail
      refine (U.out a _).mono ?_
      rw [ha]
      rintro e w1 ⟨rfl, rfl⟩
      go_wp2
      rw [rounds_succ]
      go_wp2_with fail
      refine (U.out b _).mono ?_
      rw [hb]
      rintro e w1 ⟨rfl, rfl⟩
      go_wp2
      go_ret
      exact ⟨rfl, (Bel.refl _).alloc _⟩
  · go_enter Tryd.func22, Tryd.ntmps22
    go_wp2
    refine wp_loop_rounds 1 ?_
    rw [rounds_succ]
    go_wp2_with fail
    refine (U.out a _).mono ?_
    rw [ha]
    rintro e w1 ⟨rfl, rfl⟩
    go_wp2
    go_ret
    exact ⟨rfl, (Bel.refl _).alloc _⟩

end Go.Proofs.YtnldnkcfeclmpaaDoor.Mod
