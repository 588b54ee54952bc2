/-
  The contracts of the reference's functions for layer 7: they answer as package count's do. No condition.
  The contracts of the reference's ModelMay and ctxMay: they answer as the program's tests do. No condition.
  The contracts of the reference's inputs and ModelP: they answer as the program's do. No condition but that the model and the context may be.
  The contract of the reference's ModelP: it answers as the program's P does. No condition.
  The contract of the reference's Learn, where something may not be: it answers as the program's does. No condition.
  The contract of the reference's Learn for what may be: it answers as the program's does. No condition.
-/
import Derived.Test.YtocnlefpbcnlmaaGreatDoorPk5
import Derived.Test.YtocnlefpbcnlmaaGreatDoorPk15
import Derived.Test.YtocnlefpbcnlmaaGreatDoorPk16

namespace Go.Proofs.YtocnlefpbcnlmaaGreatDoor.Cnt
open Go.RowKit Go.Proofs.YtocnlefpbcnlmaaGreatDoor.Num
set_option linter.unusedVariables false

set_option maxHeartbeats 400000 in
theorem upTo_ok (c : Int) (w : World) :
    Calls Tryz.prog 51 #[.int .i64 c, .int .i64 0, .int .i64 65535] w fun e w' => e = .returned (.bool (cntB c)) ∧ w' = w := by
  by_cases h0 : 0 ≤ c
  · have e : cntB c = decide (c ≤ 65535) := by unfold cntB; simp [h0]
    rw [e]
    go_enter Tryz.func51, Tryz.ntmps51
    go_wp2
    go_ret
    exact ⟨rfl, rfl⟩
  · have e : cntB c = false := decide_eq_false fun k => h0 k.1
    rw [e]
    have h3 : decide (0 ≤ c) = false := decide_eq_false h0
    go_enter Tryz.func51, Tryz.ntmps51
    go_wp2
    go_ret
    exact ⟨rfl, rfl⟩

theorem countMay_ok (c : Int) (w : World) :
    Calls Tryz.prog 90 #[.int .i64 c] w fun e w' => e = .returned (.bool (cntB c)) ∧ w' = w := by
  go_enter Tryz.func90, Tryz.ntmps90
  go_wp2_with fail
  refine (upTo_ok c _).mono ?_
  rintro e w1 ⟨rfl, rfl⟩
  go_wp2
  go_ret
  exact ⟨rfl, rfl⟩

set_option maxHeartbeats 400000 in
theorem bitMay_ok (b : Int) (w : World) :
    Calls Tryz.prog 52 #[.int .i64 b] w fun e w' => e = .returned (.bool (bitB b)) ∧ w' = w := by
  by_cases h0 : b = 0
  · subst h0
    go_enter Tryz.func52, Tryz.ntmps52
    go_wp2
    go_ret
    exact ⟨rfl, rfl⟩
  · by_cases h1 : b = 1
    · subst h1
      go_enter Tryz.func52, Tryz.ntmps52
      go_wp2
      go_ret
      exact ⟨rfl, rfl⟩
    · have e0 : (b == 0) = false := by simpa using h0
      have e1 : (b == 1) = false := by simpa using h1
      have e : bitB b = false := decide_eq_false fun k => k.elim h0 h1
      rw [e]
      clear h0 h1 e
      go_enter Tryz.func52, Tryz.ntmps52
      go_wp2
      go_ret
      exact ⟨rfl, rfl⟩

set_option maxHeartbeats 800000 in
theorem rnext_ok (c b : Int) (w : World) :
    Calls Tryz.prog 62 #[.int .i64 c, .int .i64 b] w fun e w' => e = .returned (nextAns c b) ∧ w' = w := by
  by_cases hc : cntB c = true
  · by_cases hb : bitB b = true
    · have e : nextAns c b = .tuple #[.int .i64 (step c b), .int .i64 0] := if_pos ⟨hc, hb⟩
      rw [e]
      obtain ⟨c0, c1⟩ := cntB_of hc
      have q1 : (65535 - c).tdiv 16 = (65535 - c) / 16 := Int.tdiv_eq_ediv_of_nonneg (by omega)
      have q0 : c.tdiv 16 = c / 16 := Int.tdiv_eq_ediv_of_nonneg (by omega)
      rcases bitB_of hb with rfl | rfl
      · have e2 : step c 0 = c - c / 16 := if_neg (by decide)
        rw [e2]
        go_enter Tryz.func62, Tryz.ntmps62
        go_wp2_with fail
        refine (countMay_ok c _).mono ?_
        rw [hc]
        rintro e w1 ⟨rfl, rfl⟩
        go_wp2_with fail
        refine (bitMay_ok 0 _).mono ?_
        rw [hb]
        rintro e w1 ⟨rfl, rfl⟩
        go_wp2
        go_ret2
        exact ⟨rfl, rfl⟩
      · have e2 : step c 1 = c + (65535 - c) / 16 := if_pos rfl
        rw [e2]
        go_enter Tryz.func62, Tryz.ntmps62
        go_wp2_with fail
        refine (countMay_ok c _).mono ?_
        rw [hc]
        rintro e w1 ⟨rfl, rfl⟩
        go_wp2_with fail
        refine (bitMay_ok 1 _).mono ?_
        rw [hb]
        rintro e w1 ⟨rfl, rfl⟩
        go_wp2
        go_ret2
        exact ⟨rfl, rfl⟩
    · have e : nextAns c b = .tuple #[.int .i64 0, .int .i64 700] := if_neg fun k => hb k.2
      rw [e]
      have hb' : bitB b = false := by simpa using hb
      go_enter Tryz.func62, Tryz.ntmps62
      go_wp2_with fail
      refine (countMay_ok c _).mono ?_
      rw [hc]
      rintro e w1 ⟨rfl, rfl⟩
      go_wp2_with fail
      refine (bitMay_ok b _).mono ?_
      rw [hb']
      rintro e w1 ⟨rfl, rfl⟩
      go_wp2
      go_ret2
      exact ⟨rfl, rfl⟩
  · have e : nextAns c b = .tuple #[.int .i64 0, .int .i64 700] := if_neg fun k => hc k.1
    rw [e]
    have hc' : cntB c = false := by simpa using hc
    go_enter Tryz.func62, Tryz.ntmps62
    go_wp2_with fail
    refine (countMay_ok c _).mono ?_
    rw [hc']
    rintro e w1 ⟨rfl, rfl⟩
    go_wp2
    go_ret2
    exact ⟨rfl, rfl⟩

set_option maxHeartbeats 400000 in
theorem within_ok (q y : Int) (h0 : 0 ≤ q) (h1 : q ≤ 4095) (hy : (if q ≤ 1 then 1 else q) = y) (w : World) :
    Calls Tryz.prog 92 #[.int .i64 q, .int .i64 1, .int .i64 4095] w fun e w' => e = .returned (.int .i64 y) ∧ w' = w := by
  by_cases h2 : q ≤ 1
  · rw [if_pos h2] at hy
    subst hy
    go_enter Tryz.func92, Tryz.ntmps92
    go_wp2
    go_ret
    exact ⟨rfl, rfl⟩
  · rw [if_neg h2] at hy
    subst hy
    by_cases h3 : q = 4095
    · subst h3
      go_enter Tryz.func92, Tryz.ntmps92
      go_wp2
      go_ret
      exact ⟨rfl, rfl⟩
    · have h4 : q < 4095 := by omega
      clear h3 h1
      go_enter Tryz.func92, Tryz.ntmps92
      go_wp2
      go_ret
      exact ⟨rfl, rfl⟩

set_option maxHeartbeats 800000 in
theorem rp_ok (c : Int) (w : World) :
    Calls Tryz.prog 94 #[.int .i64 c] w fun e w' => e = .returned (pAns c) ∧ w' = w := by
  by_cases hc : cntB c = true
  · have e : pAns c = .tuple #[.int .i64 (chance c), .int .i64 0] := if_pos hc
    rw [e]
    obtain ⟨c0, c1⟩ := cntB_of hc
    have q0 : c.tdiv 16 = c / 16 := Int.tdiv_eq_ediv_of_nonneg (by omega)
    have hy := within_ok (c / 16) (chance c) (by omega) (by omega) rfl
    generalize chance c = y at *
    go_enter Tryz.func94, Tryz.ntmps94
    go_wp2_with fail
    refine (countMay_ok c _).mono ?_
    rw [hc]
    rintro e w1 ⟨rfl, rfl⟩
    go_wp2_with fail
    refine (hy _).mono ?_
    rintro e w1 ⟨rfl, rfl⟩
    go_wp2
    go_ret2
    exact ⟨rfl, rfl⟩
  · have e : pAns c = .tuple #[.int .i64 0, .int .i64 700] := if_neg hc
    rw [e]
    have hc' : cntB c = false := by simpa using hc
    go_enter Tryz.func94, Tryz.ntmps94
    go_wp2_with fail
    refine (countMay_ok c _).mono ?_
    rw [hc']
    rintro e w1 ⟨rfl, rfl⟩
    go_wp2
    go_ret2
    exact ⟨rfl, rfl⟩

end Go.Proofs.YtocnlefpbcnlmaaGreatDoor.Cnt

namespace Go.Proofs.YtocnlefpbcnlmaaGreatDoor.Mod
open Go.RowKit Go.Sort
set_option linter.unusedVariables false
set_option linter.unusedSimpArgs false

theorem wts_is (L : List Int) : wtsB L = !(Mix.passed 1048576 (L.getD 192 0) || Mix.passed 1048576 (L.getD 193 0) || Mix.passed 1048576 (L.getD 194 0)) := by
  unfold wtsB Mix.mayB
  rw [show Mix.passed 2047 0 = false by decide]
  simp

theorem may_bad {L : List Int} (k : Nat) (hk : k < 192) (h : Cnt.cntB (L.getD k 0) = false) : mayM L = false := by
  cases e : mayM L
  · rfl
  · have := ((may_iff L).1 e).1 k hk
    have h2 := of_decide_eq_false h
    exact absurd this h2

theorem may_good {L : List Int} (h : ∀ k, k < 192 → Cnt.cntB (L.getD k 0) = true) : mayM L = wtsB L := by
  have r : ∀ o, o = 0 ∨ o = 64 ∨ o = 128 → rowBad L o = false := fun o ho => anyOf_no fun i hi => by
    simp only [noCnt, Bool.not_eq_false']
    exact h (o + i) (by omega)
  rw [mayM, r 0 (by omega), r 64 (by omega), r 128 (by omega)]
  rfl

set_option maxHeartbeats 2000000 in
theorem ref_may_ok (L : List Int) (hL : L.length = 195) (w : World) :
    Calls Tryz.prog 53 #[mdl L] w fun e w' => e = .returned (.bool (mayM L)) ∧ Bel w w' := by
  have NL : Hid (L.length = 195) := hL
  have KM : Hid (∀ c w, Calls Tryz.prog 90 #[.int .i64 c] w fun e w' => e = .returned (.bool (Cnt.cntB c)) ∧ w' = w) := Cnt.countMay_ok
  have TM : Hid (∀ w, Calls Tryz.prog 91 #[.agg #[.int .i64 (L.getD 192 0), .int .i64 (L.getD 193 0), .int .i64 (L.getD 194 0)], .int .i64 1048576] w fun e w' => e = .returned (.bool (wtsB L)) ∧ Onto w w') := by
    rw [wts_is]; exact Mix.three_ok 1048576 _ _ _ (by decide) (by decide)
  have MG : Hid ((∀ k, k < 192 → Cnt.cntB (L.getD k 0) = true) → wtsB L = mayM L) := fun h => (may_good h).symm
  have MN : Hid (∀ k, k < 192 → Cnt.cntB (L.getD k 0) = false → mayM L = false) := fun k hk h => may_bad k hk h
  clear hL
  generalize wtsB L = ws at *
  generalize mayM L = m at *
  go_enter Tryz.func53, Tryz.ntmps53
  go_wp2_with fail
  have h0 := holds_new w L 46
  have b0 := (Bel.refl w).alloc (.cells (vals L).toArray 46)
  generalize w.alloc (.cells (vals L).toArray 46) = W at *
  have HW : Hid (Holds W w.heap.size L) := h0
  have BW : Hid (Bel w W) := b0
  clear h0 b0
  go_loopw [3] (fun i wr => ∃ j : Nat, j ≤ 3 ∧ i = .int .i64 (j : Int) ∧ Hid (∀ k, k < j * 64 → Cnt.cntB (L.getD k 0) = true) ∧ wr = W) (fun i _ => 3 - (intOf i).toNat)
  case atStart => exact ⟨0, by omega, rfl, (fun k hk => by omega : ∀ k, k < 0 * 64 → Cnt.cntB (L.getD k 0) = true), rfl⟩
  case round =>
    obtain ⟨i, hi, rfl, HN, rfl⟩ := hrel
    by_cases hlt : i < 3
    · have hd : decide ((i : Int) < 3) = true := decide_eq_true (by omega)
      go_wp2_with fail
      go_loopw [4] (fun q wx => ∃ k : Nat, k ≤ 64 ∧ q = .int .i64 (k : Int) ∧ Hid (∀ n, n < i * 64 + k → Cnt.cntB (L.getD n 0) = true) ∧ wx = wr) (fun q _ => 64 - (intOf q).toNat)
      case atStart => exact ⟨0, by omega, rfl, HN, rfl⟩
      case round =>
        obtain ⟨k, hk, rfl, HM, rfl⟩ := hrel
        clear HN
        by_cases hkt : k < 64
        · have hd2 : decide ((k : Int) < 64) = true := decide_eq_true (by omega)
          have cx := HW.out.cell (i * 64 + k) (by rw [NL.out]; omega)
          cases hp : Cnt.cntB (L.getD (i * 64 + k) 0)
          · have MF : Hid (m = false) := MN.out _ (by omega) hp
            have PP := KM.out (L.getD (i * 64 + k) 0)
            rw [hp] at PP
            have PQ : Hid (∀ w, Calls Tryz.prog 90 #[.int .i64 (L.getD (i * 64 + k) 0)] w fun e w' => e = .returned (.bool false) ∧ w' = w) := PP
            clear PP hp HM
            generalize L.getD (i * 64 + k) 0 = x at *
            go_wp2_with fail
            refine (PQ.out _).mono ?_
            rintro e w1 ⟨rfl, rfl⟩
            go_wp2
            go_ret
            exact ⟨congrArg (fun v => Ending.returned (.bool v)) MF.out.symm, BW.out⟩
          · have HM2 : Hid (∀ n, n < i * 64 + (k + 1) → Cnt.cntB (L.getD n 0) = true) := fun n hn => by
              rcases Nat.lt_or_ge n (i * 64 + k) with h | h
              · exact HM.out n h
              · obtain rfl : n = i * 64 + k := by omega
                exact hp
            have PP := KM.out (L.getD (i * 64 + k) 0)
            rw [hp] at PP
            have PQ : Hid (∀ w, Calls Tryz.prog 90 #[.int .i64 (L.getD (i * 64 + k) 0)] w fun e w' => e = .returned (.bool true) ∧ w' = w) := PP
            clear PP hp HM
            generalize L.getD (i * 64 + k) 0 = x at *
            go_wp2_with fail
            refine (PQ.out _).mono ?_
            rintro e w1 ⟨rfl, rfl⟩
            go_wp2
            go_roundw
            case rel => exact ⟨k + 1, by omega, by go_num, HM2, by trivial⟩
            case measure => simp [intOf]; omega
        · have hd2 : decide ((k : Int) < 64) = false := decide_eq_false (by omega)
          have HN2 : Hid (∀ n, n < (i + 1) * 64 → Cnt.cntB (L.getD n 0) = true) := fun n hn => HM.out n (by omega)
          clear HM
          go_wp2
          go_roundw
          case rel => exact ⟨i + 1, by omega, by go_num, HN2, by trivial⟩
          case measure => simp [intOf]; omega
    · have hd : decide ((i : Int) < 3) = false := decide_eq_false (by omega)
      have ME : Hid (ws = m) := MG.out (fun k hk => HN.out k (by omega))
      have c0 := HW.out.cell 192 (by rw [NL.out]; decide)
      have c1 := HW.out.cell 193 (by rw [NL.out]; decide)
      have c2 := HW.out.cell 194 (by rw [NL.out]; decide)
      clear HN
      generalize L.getD 192 0 = x0 at *
      generalize L.getD 193 0 = x1 at *
      generalize L.getD 194 0 = x2 at *
      go_wp2_with fail
      refine (TM.out _).mono ?_
      rintro e w1 ⟨rfl, o⟩
      have B1 : Hid (Bel w w1) := BW.out.trans o.b
      clear o
      go_wp2
      go_ret
      exact ⟨congrArg (fun v => Ending.returned (.bool v)) ME.out, B1.out⟩

theorem upTo_place (x : Int) (w : World) :
    Calls Tryz.prog 51 #[.int .i64 x, .int .i64 0, .int .i64 63] w fun e w' => e = .returned (.bool (!noPlace x)) ∧ w' = w := by
  by_cases h : x < 0 ∨ 63 < x
  · have e : noPlace x = true := decide_eq_true (by omega)
    rw [e]
    exact Str.upTo_no x 0 63 h w
  · have e : noPlace x = false := decide_eq_false (by omega)
    rw [e]
    exact Str.upTo_yes x 0 63 (by omega) (by omega) w

set_option maxHeartbeats 1000000 in
theorem ref_ctx_ok (a b c : Int) (w : World) :
    Calls Tryz.prog 54 #[.agg #[.int .i64 a, .int .i64 b, .int .i64 c]] w fun e w' => e = .returned (.bool (ctxB a b c)) ∧ Bel w w' := by
  have U : Hid (∀ x w, Calls Tryz.prog 51 #[.int .i64 x, .int .i64 0, .int .i64 63] w fun e w' => e = .returned (.bool (!noPlace x)) ∧ w' = w) := upTo_place
  unfold ctxB
  cases ha : noPlace a
  · cases hb : noPlace b
    · cases hc : noPlace c
      · go_enter Tryz.func54, Tryz.ntmps54
        go_wp2
        refine wp_loop_rounds 4 ?_
        rw [rounds_succ]
        go_wp2_with fail
        refine (U.out a _).mono ?_
        rw [ha]
        rintro e w1 ⟨rfl, rfl⟩
        go_wp2
        rw [rounds_succ]
        go_wp2_with fail
        refine (U.out b _).mono ?_
        rw [hb]
        rintro e w1 ⟨rfl, rfl⟩
        go_wp2
        rw [rounds_succ]
        go_wp2_with fail
        refine (U.out c _).mono ?_
        rw [hc]
        rintro e w1 ⟨rfl, rfl⟩
        go_wp2
        rw [rounds_succ]
        go_wp2
        go_ret
        exact ⟨rfl, (Bel.refl _).alloc _⟩
      · go_enter Tryz.func54, Tryz.ntmps54
        go_wp2
        refine wp_loop_rounds 3 ?_
        rw [rounds_succ]
        go_wp2_with fail
        refine (U.out a _).mono ?_
        rw [ha]
        rintro e w1 ⟨rfl, rfl⟩
        go_wp2
        rw [rounds_succ]
        go_wp2_with fail
        refine (U.out b _).mono ?_
        rw [hb]
        rintro e w1 ⟨rfl, rfl⟩
        go_wp2
        rw [rounds_succ]
        go_wp2_with fail
        refine (U.out c _).mono ?_
        rw [hc]
        rintro e w1 ⟨rfl, rfl⟩
        go_wp2
        go_ret
        exact ⟨rfl, (Bel.refl _).alloc _⟩
    · go_enter Tryz.func54, Tryz.ntmps54
      go_wp2
      refine wp_loop_rounds 2 ?_
      rw [rounds_succ]
      go_wp2_with fail
      refine (U.out a _).mono ?_
      rw [ha]
      rintro e w1 ⟨rfl, rfl⟩
      go_wp2
      rw [rounds_succ]
      go_wp2_with fail
      refine (U.out b _).mono ?_
      rw [hb]
      rintro e w1 ⟨rfl, rfl⟩
      go_wp2
      go_ret
      exact ⟨rfl, (Bel.refl _).alloc _⟩
  · go_enter Tryz.func54, Tryz.ntmps54
    go_wp2
    refine wp_loop_rounds 1 ?_
    rw [rounds_succ]
    go_wp2_with fail
    refine (U.out a _).mono ?_
    rw [ha]
    rintro e w1 ⟨rfl, rfl⟩
    go_wp2
    go_ret
    exact ⟨rfl, (Bel.refl _).alloc _⟩

end Go.Proofs.YtocnlefpbcnlmaaGreatDoor.Mod

namespace Go.Proofs.YtocnlefpbcnlmaaGreatDoor.Mod
open Go.RowKit Go.Sort
set_option linter.unusedVariables false
set_option linter.unusedSimpArgs false

set_option maxHeartbeats 4000000 in
theorem ref_in_ok (L : List Int) (hL : L.length = 195) (a b c : Nat) (ha : a < 64) (hb : b < 64) (hc : c < 64) (hm : mayM L = true) (w : World) :
    Calls Tryz.prog 56 #[mdl L, .agg #[.int .i64 (a : Int), .int .i64 (b : Int), .int .i64 (c : Int)]] w fun e w' => e = .returned (.agg #[.int .i64 (inp (L.getD a 0)), .int .i64 (inp (L.getD (64 + b) 0)), .int .i64 (inp (L.getD (128 + c) 0))]) ∧ Bel w w' := by
  have NL : Hid (L.length = 195) := hL
  have rg := ((may_iff L).1 hm).1
  have cp : ∀ x : Int, 0 ≤ x ∧ x ≤ 65535 → ∀ w, Calls Tryz.prog 94 #[.int .i64 x] w fun e w' => e = .returned (.tuple #[.int .i64 (Cnt.chance x), .int .i64 0]) ∧ w' = w := fun x hx w => by
    have e : Cnt.pAns x = .tuple #[.int .i64 (Cnt.chance x), .int .i64 0] := if_pos (decide_eq_true hx)
    have := Cnt.rp_ok x w
    rwa [e] at this
  have sp : ∀ x : Int, 0 ≤ x ∧ x ≤ 65535 → ∀ w, Calls Tryz.prog 95 #[.int .i64 (Cnt.chance x)] w fun e w' => e = .returned (.tuple #[.int .i64 (inp x), .int .i64 0]) ∧ Onto w w' := fun x hx w =>
    Str.ref_stretch (Cnt.chance x) (chance_range x hx.1 hx.2).1 (chance_range x hx.1 hx.2).2 w
  have P0 : Hid (∀ w, Calls Tryz.prog 94 #[.int .i64 (L.getD (a) 0)] w fun e w' => e = .returned (.tuple #[.int .i64 (Cnt.chance (L.getD (a) 0)), .int .i64 0]) ∧ w' = w) := cp _ (rg _ (by omega))
  have S0 : Hid (∀ w, Calls Tryz.prog 95 #[.int .i64 (Cnt.chance (L.getD (a) 0))] w fun e w' => e = .returned (.tuple #[.int .i64 (inp (L.getD (a) 0)), .int .i64 0]) ∧ Onto w w') := sp _ (rg _ (by omega))
  have D0 : Hid (∀ (W : World) (Bk : Nat), Holds W Bk L → W.cell? ⟨Bk, a, none⟩ = some (.int .i64 (L.getD (a) 0))) := fun W Bk h => h.cell _ (by rw [hL]; omega)
  have P1 : Hid (∀ w, Calls Tryz.prog 94 #[.int .i64 (L.getD (64 + b) 0)] w fun e w' => e = .returned (.tuple #[.int .i64 (Cnt.chance (L.getD (64 + b) 0)), .int .i64 0]) ∧ w' = w) := cp _ (rg _ (by omega))
  have S1 : Hid (∀ w, Calls Tryz.prog 95 #[.int .i64 (Cnt.chance (L.getD (64 + b) 0))] w fun e w' => e = .returned (.tuple #[.int .i64 (inp (L.getD (64 + b) 0)), .int .i64 0]) ∧ Onto w w') := sp _ (rg _ (by omega))
  have D1 : Hid (∀ (W : World) (Bk : Nat), Holds W Bk L → W.cell? ⟨Bk, 64 + b, none⟩ = some (.int .i64 (L.getD (64 + b) 0))) := fun W Bk h => h.cell _ (by rw [hL]; omega)
  have P2 : Hid (∀ w, Calls Tryz.prog 94 #[.int .i64 (L.getD (128 + c) 0)] w fun e w' => e = .returned (.tuple #[.int .i64 (Cnt.chance (L.getD (128 + c) 0)), .int .i64 0]) ∧ w' = w) := cp _ (rg _ (by omega))
  have S2 : Hid (∀ w, Calls Tryz.prog 95 #[.int .i64 (Cnt.chance (L.getD (128 + c) 0))] w fun e w' => e = .returned (.tuple #[.int .i64 (inp (L.getD (128 + c) 0)), .int .i64 0]) ∧ Onto w w') := sp _ (rg _ (by omega))
  have D2 : Hid (∀ (W : World) (Bk : Nat), Holds W Bk L → W.cell? ⟨Bk, 128 + c, none⟩ = some (.int .i64 (L.getD (128 + c) 0))) := fun W Bk h => h.cell _ (by rw [hL]; omega)
  clear hL hm rg cp sp
  generalize inp (L.getD (a) 0) = x at *
  generalize Cnt.chance (L.getD (a) 0) = px at *
  generalize L.getD (a) 0 = qx at *
  generalize inp (L.getD (64 + b) 0) = y at *
  generalize Cnt.chance (L.getD (64 + b) 0) = py at *
  generalize L.getD (64 + b) 0 = qy at *
  generalize inp (L.getD (128 + c) 0) = z at *
  generalize Cnt.chance (L.getD (128 + c) 0) = pz at *
  generalize L.getD (128 + c) 0 = qz at *
  go_enter Tryz.func56, Tryz.ntmps56
  go_wp2_with fail
  have h0 : Holds ((((w.alloc (.cells (vals L).toArray 46)).alloc (.cells #[.int .i64 (a : Int), .int .i64 (b : Int), .int .i64 (c : Int)] 44)).alloc (.cells #[.int .i64 0, .int .i64 0, .int .i64 0] 44)).alloc (.cells #[.int .i64 0, .int .i64 0, .int .i64 0] 44)) w.heap.size L := (holds_new w L 46).bel ((((Bel.refl _).alloc _).alloc _).alloc _)
  have h1 : Holds ((((w.alloc (.cells (vals L).toArray 46)).alloc (.cells #[.int .i64 (a : Int), .int .i64 (b : Int), .int .i64 (c : Int)] 44)).alloc (.cells #[.int .i64 0, .int .i64 0, .int .i64 0] 44)).alloc (.cells #[.int .i64 0, .int .i64 0, .int .i64 0] 44)) (w.heap.size + 1) [(a : Int), (b : Int), (c : Int)] := (holds_at (by simp) [(a : Int), (b : Int), (c : Int)] 44).bel (((Bel.refl _).alloc _).alloc _)
  have h2 : Holds ((((w.alloc (.cells (vals L).toArray 46)).alloc (.cells #[.int .i64 (a : Int), .int .i64 (b : Int), .int .i64 (c : Int)] 44)).alloc (.cells #[.int .i64 0, .int .i64 0, .int .i64 0] 44)).alloc (.cells #[.int .i64 0, .int .i64 0, .int .i64 0] 44)) (w.heap.size + 2) [0, 0, 0] := (holds_at (by simp) [0, 0, 0] 44).bel ((Bel.refl _).alloc _)
  have h3 : Holds ((((w.alloc (.cells (vals L).toArray 46)).alloc (.cells #[.int .i64 (a : Int), .int .i64 (b : Int), .int .i64 (c : Int)] 44)).alloc (.cells #[.int .i64 0, .int .i64 0, .int .i64 0] 44)).alloc (.cells #[.int .i64 0, .int .i64 0, .int .i64 0] 44)) (w.heap.size + 3) [0, 0, 0] := holds_at (by simp) [0, 0, 0] 44
  have b0 : Bel w ((((w.alloc (.cells (vals L).toArray 46)).alloc (.cells #[.int .i64 (a : Int), .int .i64 (b : Int), .int .i64 (c : Int)] 44)).alloc (.cells #[.int .i64 0, .int .i64 0, .int .i64 0] 44)).alloc (.cells #[.int .i64 0, .int .i64 0, .int .i64 0] 44)) := ((((Bel.refl _).alloc _).alloc _).alloc _).alloc _
  generalize (((w.alloc (.cells (vals L).toArray 46)).alloc (.cells #[.int .i64 (a : Int), .int .i64 (b : Int), .int .i64 (c : Int)] 44)).alloc (.cells #[.int .i64 0, .int .i64 0, .int .i64 0] 44)).alloc (.cells #[.int .i64 0, .int .i64 0, .int .i64 0] 44) = W at *
  have M0 : Hid (Holds W w.heap.size L) := h0
  have C0 : Hid (Holds W (w.heap.size + 1) [(a : Int), (b : Int), (c : Int)]) := h1
  have R0 : Hid (Holds W (w.heap.size + 2) [0, 0, 0]) := h2
  have X0 : Hid (Holds W (w.heap.size + 3) [0, 0, 0]) := h3
  have B0 : Hid (Bel w W) := b0
  clear h0 h1 h2 h3 b0
  refine wp_loop_rounds 4 ?_
  have m := M0.out
  have cc := C0.out
  have rr := R0.out
  have xx := X0.out
  have bb := B0.out
  have MM : Hid (Holds W w.heap.size L) := m
  have CC : Hid (Holds W (w.heap.size + 1) [(a : Int), (b : Int), (c : Int)]) := cc
  have RR : Hid (Holds W (w.heap.size + 2) [0, 0, 0]) := rr
  have XX : Hid (Holds W (w.heap.size + 3) [0, 0, 0]) := xx
  have BB : Hid (Bel w W) := bb
  have k0 := D0.out _ _ m
  have k1 : W.cell? ⟨w.heap.size + 1, 0, none⟩ = some (.int .i64 (a : Int)) := cc.cell 0 (by simp)
  clear m cc rr xx bb M0 C0 R0 X0 B0
  rw [rounds_succ]
  go_wp2
  go_quiet (first | (go_at_call 94; with_reducible exact Calls.quiet_of_same (P0.out _)))
  go_wp2_with fail
  refine (S0.out _).mono ?_
  rintro e w1 ⟨rfl, o⟩
  have bo : Bel W w1 := ((Bel.refl _).drewN _).trans o.b
  have M1 : Hid (Holds w1 w.heap.size L) := MM.out.bel bo
  have C1 : Hid (Holds w1 (w.heap.size + 1) [(a : Int), (b : Int), (c : Int)]) := CC.out.bel bo
  have R1 : Hid (Holds w1 (w.heap.size + 2) [0, 0, 0]) := RR.out.bel bo
  have X1 : Hid (Holds w1 (w.heap.size + 3) [0, 0, 0]) := XX.out.bel bo
  have B1 : Hid (Bel w w1) := BB.out.trans bo
  have cx : w1.cell? ⟨w.heap.size + 3, 0, none⟩ = some (.int .i64 0) := X1.out.cell 0 (by simp)
  have fx : w1.frozen? ⟨w.heap.size + 3, 0, none⟩ = false := X1.out.free 0 (by simp)
  clear k0 k1 bo o MM CC RR XX BB
  go_wp2_with fail
  clear cx fx
  have m := M1.out.other (w.heap.size + 3) 0 (by omega) (.int .i64 x)
  have cc := C1.out.other (w.heap.size + 3) 0 (by omega) (.int .i64 x)
  have rr := R1.out.other (w.heap.size + 3) 0 (by omega) (.int .i64 x)
  have xx := X1.out.set 0 (by simp) x
  have bb := Bel.setCell (a := ⟨w.heap.size + 3, 0, none⟩) B1.out (by simp) (.int .i64 x)
  generalize w1.setCell ⟨w.heap.size + 3, 0, none⟩ (.int .i64 x) = V1 at *
  have MM : Hid (Holds V1 w.heap.size L) := m
  have CC : Hid (Holds V1 (w.heap.size + 1) [(a : Int), (b : Int), (c : Int)]) := cc
  have RR : Hid (Holds V1 (w.heap.size + 2) [0, 0, 0]) := rr
  have XX : Hid (Holds V1 (w.heap.size + 3) [x, 0, 0]) := xx
  have BB : Hid (Bel w V1) := bb
  have k0 := D1.out _ _ m
  have k1 : V1.cell? ⟨w.heap.size + 1, 1, none⟩ = some (.int .i64 (b : Int)) := cc.cell 1 (by simp)
  clear m cc rr xx bb M1 C1 R1 X1 B1
  rw [rounds_succ]
  go_wp2
  go_quiet (first | (go_at_call 94; with_reducible exact Calls.quiet_of_same (P1.out _)))
  go_wp2_with fail
  refine (S1.out _).mono ?_
  rintro e w2 ⟨rfl, o⟩
  have bo : Bel V1 w2 := ((Bel.refl _).drewN _).trans o.b
  have M2 : Hid (Holds w2 w.heap.size L) := MM.out.bel bo
  have C2 : Hid (Holds w2 (w.heap.size + 1) [(a : Int), (b : Int), (c : Int)]) := CC.out.bel bo
  have R2 : Hid (Holds w2 (w.heap.size + 2) [0, 0, 0]) := RR.out.bel bo
  have X2 : Hid (Holds w2 (w.heap.size + 3) [x, 0, 0]) := XX.out.bel bo
  have B2 : Hid (Bel w w2) := BB.out.trans bo
  have cx : w2.cell? ⟨w.heap.size + 3, 1, none⟩ = some (.int .i64 0) := X2.out.cell 1 (by simp)
  have fx : w2.frozen? ⟨w.heap.size + 3, 1, none⟩ = false := X2.out.free 1 (by simp)
  clear k0 k1 bo o MM CC RR XX BB
  go_wp2_with fail
  clear cx fx
  have m := M2.out.other (w.heap.size + 3) 1 (by omega) (.int .i64 y)
  have cc := C2.out.other (w.heap.size + 3) 1 (by omega) (.int .i64 y)
  have rr := R2.out.other (w.heap.size + 3) 1 (by omega) (.int .i64 y)
  have xx := X2.out.set 1 (by simp) y
  have bb := Bel.setCell (a := ⟨w.heap.size + 3, 1, none⟩) B2.out (by simp) (.int .i64 y)
  generalize w2.setCell ⟨w.heap.size + 3, 1, none⟩ (.int .i64 y) = V2 at *
  have MM : Hid (Holds V2 w.heap.size L) := m
  have CC : Hid (Holds V2 (w.heap.size + 1) [(a : Int), (b : Int), (c : Int)]) := cc
  have RR : Hid (Holds V2 (w.heap.size + 2) [0, 0, 0]) := rr
  have XX : Hid (Holds V2 (w.heap.size + 3) [x, y, 0]) := xx
  have BB : Hid (Bel w V2) := bb
  have k0 := D2.out _ _ m
  have k1 : V2.cell? ⟨w.heap.size + 1, 2, none⟩ = some (.int .i64 (c : Int)) := cc.cell 2 (by simp)
  clear m cc rr xx bb M2 C2 R2 X2 B2
  rw [rounds_succ]
  go_wp2
  go_quiet (first | (go_at_call 94; with_reducible exact Calls.quiet_of_same (P2.out _)))
  go_wp2_with fail
  refine (S2.out _).mono ?_
  rintro e w3 ⟨rfl, o⟩
  have bo : Bel V2 w3 := ((Bel.refl _).drewN _).trans o.b
  have M3 : Hid (Holds w3 w.heap.size L) := MM.out.bel bo
  have C3 : Hid (Holds w3 (w.heap.size + 1) [(a : Int), (b : Int), (c : Int)]) := CC.out.bel bo
  have R3 : Hid (Holds w3 (w.heap.size + 2) [0, 0, 0]) := RR.out.bel bo
  have X3 : Hid (Holds w3 (w.heap.size + 3) [x, y, 0]) := XX.out.bel bo
  have B3 : Hid (Bel w w3) := BB.out.trans bo
  have cx : w3.cell? ⟨w.heap.size + 3, 2, none⟩ = some (.int .i64 0) := X3.out.cell 2 (by simp)
  have fx : w3.frozen? ⟨w.heap.size + 3, 2, none⟩ = false := X3.out.free 2 (by simp)
  clear k0 k1 bo o MM CC RR XX BB
  go_wp2_with fail
  clear cx fx
  have HS : Hid (Holds (w3.setCell ⟨w.heap.size + 3, 2, none⟩ (.int .i64 z)) (w.heap.size + 3) [x, y, z]) := X3.out.set 2 (by simp) z
  have HR : Hid (Holds (w3.setCell ⟨w.heap.size + 3, 2, none⟩ (.int .i64 z)) (w.heap.size + 2) [0, 0, 0]) := R3.out.other _ _ (by omega) _
  have HB : Hid (Bel w (w3.setCell ⟨w.heap.size + 3, 2, none⟩ (.int .i64 z))) := B3.out.setCell (by simp) _
  clear X3 R3 B3 M3 C3 P0 P1 P2 S0 S1 S2 D0 D1 D2
  generalize w3.setCell ⟨w.heap.size + 3, 2, none⟩ (.int .i64 z) = W3 at *
  have c0 : W3.cell? ⟨w.heap.size + 3, 0, none⟩ = some (.int .i64 x) := HS.out.cell 0 (by simp)
  have c1 : W3.cell? ⟨w.heap.size + 3, 1, none⟩ = some (.int .i64 y) := HS.out.cell 1 (by simp)
  have c2 : W3.cell? ⟨w.heap.size + 3, 2, none⟩ = some (.int .i64 z) := HS.out.cell 2 (by simp)
  have d0 : W3.cell? ⟨w.heap.size + 2, 0, none⟩ = some (.int .i64 0) := HR.out.cell 0 (by simp)
  have d1 : W3.cell? ⟨w.heap.size + 2, 1, none⟩ = some (.int .i64 0) := HR.out.cell 1 (by simp)
  have d2 : W3.cell? ⟨w.heap.size + 2, 2, none⟩ = some (.int .i64 0) := HR.out.cell 2 (by simp)
  have f0 : W3.frozen? ⟨w.heap.size + 2, 0, none⟩ = false := HR.out.free 0 (by simp)
  have f1 : W3.frozen? ⟨w.heap.size + 2, 1, none⟩ = false := HR.out.free 1 (by simp)
  have f2 : W3.frozen? ⟨w.heap.size + 2, 2, none⟩ = false := HR.out.free 2 (by simp)
  rw [rounds_succ]
  go_wp2
  refine bodyPost_ret (v := .agg #[.int .i64 x, .int .i64 y, .int .i64 z]) (results_three Tryz.results56 rfl (all3 HR.out)) rfl ⟨rfl, ?_⟩
  exact ((HB.out.setCell (Nat.le_add_right _ 2) _).setCell (Nat.le_add_right _ 2) _).setCell (Nat.le_add_right _ 2) _

end Go.Proofs.YtocnlefpbcnlmaaGreatDoor.Mod

namespace Go.Proofs.YtocnlefpbcnlmaaGreatDoor.Mod
open Go.RowKit Go.Sort
set_option linter.unusedVariables false
set_option linter.unusedSimpArgs false

set_option maxHeartbeats 1000000 in
theorem ref_p_may (L : List Int) (hL : L.length = 195) (a b c : Int) (no : mayM L = false) (w : World) :
    Calls Tryz.prog 30 #[mdl L, .agg #[.int .i64 a, .int .i64 b, .int .i64 c]] w fun e w' => e = .returned (.tuple #[.int .i64 0, .int .i64 900]) ∧ Bel w w' := by
  have NL : Hid (L.length = 195) := hL
  have MM : Hid (∀ w, Calls Tryz.prog 53 #[mdl L] w fun e w' => e = .returned (.bool false) ∧ Bel w w') := no ▸ ref_may_ok L hL
  have M0 : Hid (Holds ((w.alloc (.cells (vals L).toArray 46)).alloc (.cells #[.int .i64 a, .int .i64 b, .int .i64 c] 44)) w.heap.size L) := (holds_new w L 46).bel ((Bel.refl _).alloc _)
  have C0 : Hid (Holds ((w.alloc (.cells (vals L).toArray 46)).alloc (.cells #[.int .i64 a, .int .i64 b, .int .i64 c] 44)) (w.heap.size + 1) [a, b, c]) := holds_at (by simp) [a, b, c] 44
  have B0 : Hid (Bel w ((w.alloc (.cells (vals L).toArray 46)).alloc (.cells #[.int .i64 a, .int .i64 b, .int .i64 c] 44))) := ((Bel.refl _).alloc _).alloc _
  clear hL
  go_enter Tryz.func30, Tryz.ntmps30
  go_wp2_with (first | (with_reducible refine wpl_load26' M0.out NL.out rfl ?_))
  refine (MM.out _).mono ?_
  rintro e w1 ⟨rfl, b1⟩
  have M1 : Hid (Holds w1 w.heap.size L) := M0.out.bel b1
  have C1 : Hid (Holds w1 (w.heap.size + 1) [a, b, c]) := C0.out.bel b1
  have B1 : Hid (Bel w w1) := B0.out.trans b1
  clear b1 M0 C0 B0
  go_wp2
  go_ret2
  exact ⟨rfl, B1.out⟩

set_option maxHeartbeats 1000000 in
theorem ref_p_ctx (L : List Int) (hL : L.length = 195) (a b c : Int) (yes : mayM L = true) (no : ctxB a b c = false) (w : World) :
    Calls Tryz.prog 30 #[mdl L, .agg #[.int .i64 a, .int .i64 b, .int .i64 c]] w fun e w' => e = .returned (.tuple #[.int .i64 0, .int .i64 900]) ∧ Bel w w' := by
  have NL : Hid (L.length = 195) := hL
  have MM : Hid (∀ w, Calls Tryz.prog 53 #[mdl L] w fun e w' => e = .returned (.bool true) ∧ Bel w w') := yes ▸ ref_may_ok L hL
  have CM : Hid (∀ w, Calls Tryz.prog 54 #[.agg #[.int .i64 a, .int .i64 b, .int .i64 c]] w fun e w' => e = .returned (.bool false) ∧ Bel w w') := no ▸ ref_ctx_ok a b c
  have M0 : Hid (Holds ((w.alloc (.cells (vals L).toArray 46)).alloc (.cells #[.int .i64 a, .int .i64 b, .int .i64 c] 44)) w.heap.size L) := (holds_new w L 46).bel ((Bel.refl _).alloc _)
  have C0 : Hid (Holds ((w.alloc (.cells (vals L).toArray 46)).alloc (.cells #[.int .i64 a, .int .i64 b, .int .i64 c] 44)) (w.heap.size + 1) [a, b, c]) := holds_at (by simp) [a, b, c] 44
  have B0 : Hid (Bel w ((w.alloc (.cells (vals L).toArray 46)).alloc (.cells #[.int .i64 a, .int .i64 b, .int .i64 c] 44))) := ((Bel.refl _).alloc _).alloc _
  clear hL
  go_enter Tryz.func30, Tryz.ntmps30
  go_wp2_with (first | (with_reducible refine wpl_load26' M0.out NL.out rfl ?_))
  refine (MM.out _).mono ?_
  rintro e w1 ⟨rfl, b1⟩
  have M1 : Hid (Holds w1 w.heap.size L) := M0.out.bel b1
  have C1 : Hid (Holds w1 (w.heap.size + 1) [a, b, c]) := C0.out.bel b1
  have B1 : Hid (Bel w w1) := B0.out.trans b1
  clear b1 M0 C0 B0
  have k0 : w1.cell? ⟨w.heap.size + 1, 0, none⟩ = some (.int .i64 a) := C1.out.cell 0 (by simp)
  have k1 : w1.cell? ⟨w.heap.size + 1, 1, none⟩ = some (.int .i64 b) := C1.out.cell 1 (by simp)
  have k2 : w1.cell? ⟨w.heap.size + 1, 2, none⟩ = some (.int .i64 c) := C1.out.cell 2 (by simp)
  go_wp2_with fail
  refine (CM.out _).mono ?_
  rintro e w2 ⟨rfl, b2⟩
  have B2 : Hid (Bel w w2) := B1.out.trans b2
  clear b2 k0 k1 k2
  go_wp2
  go_ret2
  exact ⟨rfl, B2.out⟩

set_option maxHeartbeats 2000000 in
theorem ref_p_yes (L : List Int) (hL : L.length = 195) (a b c : Nat) (ha : a < 64) (hb : b < 64) (hc : c < 64) (hm : mayM L = true) (w : World) :
    Calls Tryz.prog 30 #[mdl L, .agg #[.int .i64 (a : Int), .int .i64 (b : Int), .int .i64 (c : Int)]] w fun e w' => e = .returned (.tuple #[.int .i64 (tell L a b c), .int .i64 0]) ∧ Bel w w' := by
  have NL : Hid (L.length = 195) := hL
  have MM : Hid (∀ w, Calls Tryz.prog 53 #[mdl L] w fun e w' => e = .returned (.bool true) ∧ Bel w w') := hm ▸ ref_may_ok L hL
  have CM : Hid (∀ w, Calls Tryz.prog 54 #[.agg #[.int .i64 (a : Int), .int .i64 (b : Int), .int .i64 (c : Int)]] w fun e w' => e = .returned (.bool true) ∧ Bel w w') := ctx_yes ha hb hc ▸ ref_ctx_ok (a : Int) (b : Int) (c : Int)
  have IN : Hid (∀ w, Calls Tryz.prog 56 #[mdl L, .agg #[.int .i64 (a : Int), .int .i64 (b : Int), .int .i64 (c : Int)]] w fun e w' => e = .returned (.agg #[.int .i64 (inp (L.getD a 0)), .int .i64 (inp (L.getD (64 + b) 0)), .int .i64 (inp (L.getD (128 + c) 0))]) ∧ Bel w w') := ref_in_ok L hL a b c ha hb hc hm
  have DD : Hid (∀ w, Calls Tryz.prog 55 #[.agg #[.int .i64 (L.getD 192 0), .int .i64 (L.getD 193 0), .int .i64 (L.getD 194 0)], .agg #[.int .i64 (inp (L.getD a 0)), .int .i64 (inp (L.getD (64 + b) 0)), .int .i64 (inp (L.getD (128 + c) 0))]] w fun e w' => e = .returned (.tuple #[.int .i64 (tell L a b c), .int .i64 0]) ∧ Bel w w') := fun w => (Mix.ref_dot_yes _ _ _ _ _ _ (may_in (mayM_wts hm) _ _ _) w).mono fun _ _ k => ⟨k.1, k.2.b⟩
  clear hm ha hb hc
  generalize tell L a b c = p at *
  generalize inp (L.getD a 0) = x at *
  generalize inp (L.getD (64 + b) 0) = y at *
  generalize inp (L.getD (128 + c) 0) = u at *
  have M0 : Hid (Holds ((w.alloc (.cells (vals L).toArray 46)).alloc (.cells #[.int .i64 (a : Int), .int .i64 (b : Int), .int .i64 (c : Int)] 44)) w.heap.size L) := (holds_new w L 46).bel ((Bel.refl _).alloc _)
  have C0 : Hid (Holds ((w.alloc (.cells (vals L).toArray 46)).alloc (.cells #[.int .i64 (a : Int), .int .i64 (b : Int), .int .i64 (c : Int)] 44)) (w.heap.size + 1) [(a : Int), (b : Int), (c : Int)]) := holds_at (by simp) [(a : Int), (b : Int), (c : Int)] 44
  have B0 : Hid (Bel w ((w.alloc (.cells (vals L).toArray 46)).alloc (.cells #[.int .i64 (a : Int), .int .i64 (b : Int), .int .i64 (c : Int)] 44))) := ((Bel.refl _).alloc _).alloc _
  clear hL
  go_enter Tryz.func30, Tryz.ntmps30
  go_wp2_with (first | (with_reducible refine wpl_load26' M0.out NL.out rfl ?_))
  refine (MM.out _).mono ?_
  rintro e w1 ⟨rfl, b1⟩
  have M1 : Hid (Holds w1 w.heap.size L) := M0.out.bel b1
  have C1 : Hid (Holds w1 (w.heap.size + 1) [(a : Int), (b : Int), (c : Int)]) := C0.out.bel b1
  have B1 : Hid (Bel w w1) := B0.out.trans b1
  clear b1 M0 C0 B0
  have k0 : w1.cell? ⟨w.heap.size + 1, 0, none⟩ = some (.int .i64 (a : Int)) := C1.out.cell 0 (by simp)
  have k1 : w1.cell? ⟨w.heap.size + 1, 1, none⟩ = some (.int .i64 (b : Int)) := C1.out.cell 1 (by simp)
  have k2 : w1.cell? ⟨w.heap.size + 1, 2, none⟩ = some (.int .i64 (c : Int)) := C1.out.cell 2 (by simp)
  go_wp2_with fail
  refine (CM.out _).mono ?_
  rintro e w2 ⟨rfl, b2⟩
  have B2 : Hid (Bel w w2) := B1.out.trans b2
  have M2 : Hid (Holds w2 w.heap.size L) := M1.out.bel b2
  have j0 := cell_regrown (b2.keep k0)
  have j1 := cell_regrown (b2.keep k1)
  have j2 := cell_regrown (b2.keep k2)
  have l0 := cell_regrown (M2.out.cell 192 (by rw [NL.out]; decide))
  have l1 := cell_regrown (M2.out.cell 193 (by rw [NL.out]; decide))
  have l2 := cell_regrown (M2.out.cell 194 (by rw [NL.out]; decide))
  clear b2 k0 k1 k2 M1 C1 B1 MM CM
  generalize L.getD 192 0 = x0 at *
  generalize L.getD 193 0 = x1 at *
  generalize L.getD 194 0 = x2 at *
  go_wp2_with fail
  refine wp_region_quiet_below (by kernel_rfl) (by kernel_rfl) ?_
  repeat (first
    | (with_reducible refine quiet_load26 M2.out NL.out rfl ?_)
    | quiet_step (first
      | (go_at_call 56; with_reducible exact Calls.regrown_of (IN.out _))
      | (go_at_call 55; with_reducible exact Calls.regrown_of (DD.out _))))
  refine wpQuiet_nil ?_
  intro _ hw'
  obtain ⟨⟨dq, osq⟩, hw''⟩ := hw'
  subst hw''
  go_wp2
  go_ret2
  exact ⟨rfl, B2.out.trans (below_regrown w2 dq osq)⟩

end Go.Proofs.YtocnlefpbcnlmaaGreatDoor.Mod

namespace Go.Proofs.YtocnlefpbcnlmaaGreatDoor.Mod
open Go.RowKit Go.Sort
set_option linter.unusedVariables false
set_option linter.unusedSimpArgs false

set_option maxHeartbeats 1000000 in
theorem ref_learn_may (L : List Int) (hL : L.length = 195) (a b c bit : Int) (no : mayM L = false) (w : World) :
    Calls Tryz.prog 32 #[mdl L, .agg #[.int .i64 a, .int .i64 b, .int .i64 c], .int .i64 bit] w fun e w' => e = .returned (.tuple #[mdl zeros, .int .i64 900]) ∧ Bel w w' := by
  have NL : Hid (L.length = 195) := hL
  have MM : Hid (∀ w, Calls Tryz.prog 53 #[mdl L] w fun e w' => e = .returned (.bool false) ∧ Bel w w') := no ▸ ref_may_ok L hL
  have M0 : Hid (Holds (((w.alloc (.cells (vals L).toArray 46)).alloc (.cells #[.int .i64 a, .int .i64 b, .int .i64 c] 44)).alloc (.cells (vals zeros).toArray 46)) w.heap.size L) := (holds_new w L 46).bel (((Bel.refl _).alloc _).alloc _)
  have C0 : Hid (Holds (((w.alloc (.cells (vals L).toArray 46)).alloc (.cells #[.int .i64 a, .int .i64 b, .int .i64 c] 44)).alloc (.cells (vals zeros).toArray 46)) (w.heap.size + 1) [a, b, c]) := (holds_at (by simp) [a, b, c] 44).bel ((Bel.refl _).alloc _)
  have R0 : Hid (Holds (((w.alloc (.cells (vals L).toArray 46)).alloc (.cells #[.int .i64 a, .int .i64 b, .int .i64 c] 44)).alloc (.cells (vals zeros).toArray 46)) (w.heap.size + 2) zeros) := holds_at (by simp) zeros 46
  have B0 : Hid (Bel w (((w.alloc (.cells (vals L).toArray 46)).alloc (.cells #[.int .i64 a, .int .i64 b, .int .i64 c] 44)).alloc (.cells (vals zeros).toArray 46))) := (((Bel.refl _).alloc _).alloc _).alloc _
  have ZL : Hid (zeros.length = 195) := zeros_len
  have zz := zero26
  clear hL
  go_enter Tryz.func32, Tryz.ntmps32
  go_wp2_with (first | (with_reducible refine wpl_load26' M0.out NL.out rfl ?_))
  refine (MM.out _).mono ?_
  rintro e w1 ⟨rfl, b1⟩
  have M1 : Hid (Holds w1 w.heap.size L) := M0.out.bel b1
  have C1 : Hid (Holds w1 (w.heap.size + 1) [a, b, c]) := C0.out.bel b1
  have R1 : Hid (Holds w1 (w.heap.size + 2) zeros) := R0.out.bel b1
  have B1 : Hid (Bel w w1) := B0.out.trans b1
  clear b1 M0 C0 B0 R0
  go_wp2_with (first
    | (with_reducible refine wpl_build26 ?_)
    | (with_reducible refine wpl_store26 R1.out ZL.out ZL.out rfl rfl ?_))
  exact bodyPost_ret (v := .tuple #[mdl zeros, .int .i64 900]) (results_model2 Tryz.results32 rfl rfl (holds_all R1.out zeros rfl) ZL.out) rfl ⟨rfl, Bel.setCells (by omega) _ _ B1.out⟩

set_option maxHeartbeats 1000000 in
theorem ref_learn_ctx (L : List Int) (hL : L.length = 195) (a b c bit : Int) (yes : mayM L = true) (no : ctxB a b c = false) (w : World) :
    Calls Tryz.prog 32 #[mdl L, .agg #[.int .i64 a, .int .i64 b, .int .i64 c], .int .i64 bit] w fun e w' => e = .returned (.tuple #[mdl zeros, .int .i64 900]) ∧ Bel w w' := by
  have NL : Hid (L.length = 195) := hL
  have MM : Hid (∀ w, Calls Tryz.prog 53 #[mdl L] w fun e w' => e = .returned (.bool true) ∧ Bel w w') := yes ▸ ref_may_ok L hL
  have CM : Hid (∀ w, Calls Tryz.prog 54 #[.agg #[.int .i64 a, .int .i64 b, .int .i64 c]] w fun e w' => e = .returned (.bool false) ∧ Bel w w') := no ▸ ref_ctx_ok a b c
  have M0 : Hid (Holds (((w.alloc (.cells (vals L).toArray 46)).alloc (.cells #[.int .i64 a, .int .i64 b, .int .i64 c] 44)).alloc (.cells (vals zeros).toArray 46)) w.heap.size L) := (holds_new w L 46).bel (((Bel.refl _).alloc _).alloc _)
  have C0 : Hid (Holds (((w.alloc (.cells (vals L).toArray 46)).alloc (.cells #[.int .i64 a, .int .i64 b, .int .i64 c] 44)).alloc (.cells (vals zeros).toArray 46)) (w.heap.size + 1) [a, b, c]) := (holds_at (by simp) [a, b, c] 44).bel ((Bel.refl _).alloc _)
  have R0 : Hid (Holds (((w.alloc (.cells (vals L).toArray 46)).alloc (.cells #[.int .i64 a, .int .i64 b, .int .i64 c] 44)).alloc (.cells (vals zeros).toArray 46)) (w.heap.size + 2) zeros) := holds_at (by simp) zeros 46
  have B0 : Hid (Bel w (((w.alloc (.cells (vals L).toArray 46)).alloc (.cells #[.int .i64 a, .int .i64 b, .int .i64 c] 44)).alloc (.cells (vals zeros).toArray 46))) := (((Bel.refl _).alloc _).alloc _).alloc _
  have ZL : Hid (zeros.length = 195) := zeros_len
  have zz := zero26
  clear hL
  go_enter Tryz.func32, Tryz.ntmps32
  go_wp2_with (first | (with_reducible refine wpl_load26' M0.out NL.out rfl ?_))
  refine (MM.out _).mono ?_
  rintro e w1 ⟨rfl, b1⟩
  have M1 : Hid (Holds w1 w.heap.size L) := M0.out.bel b1
  have C1 : Hid (Holds w1 (w.heap.size + 1) [a, b, c]) := C0.out.bel b1
  have R1 : Hid (Holds w1 (w.heap.size + 2) zeros) := R0.out.bel b1
  have B1 : Hid (Bel w w1) := B0.out.trans b1
  clear b1 M0 C0 B0 R0
  have k0 : w1.cell? ⟨w.heap.size + 1, 0, none⟩ = some (.int .i64 a) := C1.out.cell 0 (by simp)
  have k1 : w1.cell? ⟨w.heap.size + 1, 1, none⟩ = some (.int .i64 b) := C1.out.cell 1 (by simp)
  have k2 : w1.cell? ⟨w.heap.size + 1, 2, none⟩ = some (.int .i64 c) := C1.out.cell 2 (by simp)
  go_wp2_with fail
  refine (CM.out _).mono ?_
  rintro e w2 ⟨rfl, b2⟩
  have B2 : Hid (Bel w w2) := B1.out.trans b2
  have R2 : Hid (Holds w2 (w.heap.size + 2) zeros) := R1.out.bel b2
  clear b2 k0 k1 k2 B1 R1
  go_wp2_with (first
    | (with_reducible refine wpl_build26 ?_)
    | (with_reducible refine wpl_store26 R2.out ZL.out ZL.out rfl rfl ?_))
  exact bodyPost_ret (v := .tuple #[mdl zeros, .int .i64 900]) (results_model2 Tryz.results32 rfl rfl (holds_all R2.out zeros rfl) ZL.out) rfl ⟨rfl, Bel.setCells (by omega) _ _ B2.out⟩

set_option maxHeartbeats 1000000 in
theorem ref_learn_bit (L : List Int) (hL : L.length = 195) (a b c bit : Int) (yes : mayM L = true) (yes2 : ctxB a b c = true) (no : Cnt.bitB bit = false) (w : World) :
    Calls Tryz.prog 32 #[mdl L, .agg #[.int .i64 a, .int .i64 b, .int .i64 c], .int .i64 bit] w fun e w' => e = .returned (.tuple #[mdl zeros, .int .i64 900]) ∧ Bel w w' := by
  have NL : Hid (L.length = 195) := hL
  have MM : Hid (∀ w, Calls Tryz.prog 53 #[mdl L] w fun e w' => e = .returned (.bool true) ∧ Bel w w') := yes ▸ ref_may_ok L hL
  have CM : Hid (∀ w, Calls Tryz.prog 54 #[.agg #[.int .i64 a, .int .i64 b, .int .i64 c]] w fun e w' => e = .returned (.bool true) ∧ Bel w w') := yes2 ▸ ref_ctx_ok a b c
  have BM : Hid (∀ w, Calls Tryz.prog 52 #[.int .i64 bit] w fun e w' => e = .returned (.bool false) ∧ w' = w) := no ▸ Cnt.bitMay_ok bit
  have M0 : Hid (Holds (((w.alloc (.cells (vals L).toArray 46)).alloc (.cells #[.int .i64 a, .int .i64 b, .int .i64 c] 44)).alloc (.cells (vals zeros).toArray 46)) w.heap.size L) := (holds_new w L 46).bel (((Bel.refl _).alloc _).alloc _)
  have C0 : Hid (Holds (((w.alloc (.cells (vals L).toArray 46)).alloc (.cells #[.int .i64 a, .int .i64 b, .int .i64 c] 44)).alloc (.cells (vals zeros).toArray 46)) (w.heap.size + 1) [a, b, c]) := (holds_at (by simp) [a, b, c] 44).bel ((Bel.refl _).alloc _)
  have R0 : Hid (Holds (((w.alloc (.cells (vals L).toArray 46)).alloc (.cells #[.int .i64 a, .int .i64 b, .int .i64 c] 44)).alloc (.cells (vals zeros).toArray 46)) (w.heap.size + 2) zeros) := holds_at (by simp) zeros 46
  have B0 : Hid (Bel w (((w.alloc (.cells (vals L).toArray 46)).alloc (.cells #[.int .i64 a, .int .i64 b, .int .i64 c] 44)).alloc (.cells (vals zeros).toArray 46))) := (((Bel.refl _).alloc _).alloc _).alloc _
  have ZL : Hid (zeros.length = 195) := zeros_len
  have zz := zero26
  clear hL
  go_enter Tryz.func32, Tryz.ntmps32
  go_wp2_with (first | (with_reducible refine wpl_load26' M0.out NL.out rfl ?_))
  refine (MM.out _).mono ?_
  rintro e w1 ⟨rfl, b1⟩
  have M1 : Hid (Holds w1 w.heap.size L) := M0.out.bel b1
  have C1 : Hid (Holds w1 (w.heap.size + 1) [a, b, c]) := C0.out.bel b1
  have R1 : Hid (Holds w1 (w.heap.size + 2) zeros) := R0.out.bel b1
  have B1 : Hid (Bel w w1) := B0.out.trans b1
  clear b1 M0 C0 B0 R0
  have k0 : w1.cell? ⟨w.heap.size + 1, 0, none⟩ = some (.int .i64 a) := C1.out.cell 0 (by simp)
  have k1 : w1.cell? ⟨w.heap.size + 1, 1, none⟩ = some (.int .i64 b) := C1.out.cell 1 (by simp)
  have k2 : w1.cell? ⟨w.heap.size + 1, 2, none⟩ = some (.int .i64 c) := C1.out.cell 2 (by simp)
  go_wp2_with fail
  refine (CM.out _).mono ?_
  rintro e w2 ⟨rfl, b2⟩
  have B2 : Hid (Bel w w2) := B1.out.trans b2
  have R2 : Hid (Holds w2 (w.heap.size + 2) zeros) := R1.out.bel b2
  clear b2 k0 k1 k2 B1 R1
  go_wp2_with fail
  refine (BM.out _).mono ?_
  rintro e w2 ⟨rfl, rfl⟩
  go_wp2_with (first
    | (with_reducible refine wpl_build26 ?_)
    | (with_reducible refine wpl_store26 R2.out ZL.out ZL.out rfl rfl ?_))
  exact bodyPost_ret (v := .tuple #[mdl zeros, .int .i64 900]) (results_model2 Tryz.results32 rfl rfl (holds_all R2.out zeros rfl) ZL.out) rfl ⟨rfl, Bel.setCells (by omega) _ _ B2.out⟩

end Go.Proofs.YtocnlefpbcnlmaaGreatDoor.Mod

namespace Go.Proofs.YtocnlefpbcnlmaaGreatDoor.Mod
open Go.RowKit Go.Sort
set_option linter.unusedVariables false
set_option linter.unusedSimpArgs false

set_option maxRecDepth 20000 in
set_option maxHeartbeats 4000000 in
theorem ref_learn_yes (L : List Int) (hL : L.length = 195) (a b c : Nat) (ha : a < 64) (hb : b < 64) (hc : c < 64) (bit : Int) (hbit : Cnt.bitB bit = true) (hm : mayM L = true) (w : World) :
    Calls Tryz.prog 32 #[mdl L, .agg #[.int .i64 (a : Int), .int .i64 (b : Int), .int .i64 (c : Int)], .int .i64 bit] w fun e w' => e = .returned (.tuple #[mdl (learn L a b c bit), .int .i64 0]) ∧ Bel w w' := by
  have NL : Hid (L.length = 195) := hL
  have MM : Hid (∀ w, Calls Tryz.prog 53 #[mdl L] w fun e w' => e = .returned (.bool true) ∧ Bel w w') := hm ▸ ref_may_ok L hL
  have CM : Hid (∀ w, Calls Tryz.prog 54 #[.agg #[.int .i64 (a : Int), .int .i64 (b : Int), .int .i64 (c : Int)]] w fun e w' => e = .returned (.bool true) ∧ Bel w w') := ctx_yes ha hb hc ▸ ref_ctx_ok (a : Int) (b : Int) (c : Int)
  have BM : Hid (∀ w, Calls Tryz.prog 52 #[.int .i64 bit] w fun e w' => e = .returned (.bool true) ∧ w' = w) := hbit ▸ Cnt.bitMay_ok bit
  have IN : Hid (∀ w, Calls Tryz.prog 56 #[mdl L, .agg #[.int .i64 (a : Int), .int .i64 (b : Int), .int .i64 (c : Int)]] w fun e w' => e = .returned (.agg #[.int .i64 (inp (L.getD a 0)), .int .i64 (inp (L.getD (64 + b) 0)), .int .i64 (inp (L.getD (128 + c) 0))]) ∧ Bel w w') := ref_in_ok L hL a b c ha hb hc hm
  have DD : Hid (∀ (w : World), Calls Tryz.prog 61 #[.agg #[.int .i64 (L.getD 192 0), .int .i64 (L.getD 193 0), .int .i64 (L.getD 194 0)], .agg #[.int .i64 (inp (L.getD a 0)), .int .i64 (inp (L.getD (64 + b) 0)), .int .i64 (inp (L.getD (128 + c) 0))], .int .i64 bit] w fun e w' => e = .returned (.tuple #[.agg #[.int .i64 (trnW L a b c bit (L.getD 192 0) (L.getD a 0)), .int .i64 (trnW L a b c bit (L.getD 193 0) (L.getD (64 + b) 0)), .int .i64 (trnW L a b c bit (L.getD 194 0) (L.getD (128 + c) 0))], .int .i64 0]) ∧ Onto w w') := Mix.ref_train_yes _ _ _ _ _ _ bit (may_in (mayM_wts hm) _ _ _) (Cnt.bitB_of hbit)
  have nx : ∀ (x : Int), 0 ≤ x ∧ x ≤ 65535 → ∀ w, Calls Tryz.prog 62 #[.int .i64 x, .int .i64 bit] w fun e w' => e = .returned (.tuple #[.int .i64 (Cnt.step x bit), .int .i64 0]) ∧ w' = w := fun x hx w => by
    have e : Cnt.nextAns x bit = .tuple #[.int .i64 (Cnt.step x bit), .int .i64 0] := if_pos ⟨decide_eq_true hx, hbit⟩
    have := Cnt.rnext_ok x bit w
    rwa [e] at this
  have r0 := mayM_row hm 0 (.inl rfl) a ha
  rw [Nat.zero_add] at r0
  have X0 : Hid (∀ w, Calls Tryz.prog 62 #[.int .i64 (L.getD a 0), .int .i64 bit] w fun e w' => e = .returned (.tuple #[.int .i64 (Cnt.step (L.getD a 0) bit), .int .i64 0]) ∧ w' = w) := nx _ r0
  have X1 : Hid (∀ w, Calls Tryz.prog 62 #[.int .i64 (L.getD (64 + b) 0), .int .i64 bit] w fun e w' => e = .returned (.tuple #[.int .i64 (Cnt.step (L.getD (64 + b) 0) bit), .int .i64 0]) ∧ w' = w) := nx _ (mayM_row hm 64 (.inr (.inl rfl)) b hb)
  have X2 : Hid (∀ w, Calls Tryz.prog 62 #[.int .i64 (L.getD (128 + c) 0), .int .i64 bit] w fun e w' => e = .returned (.tuple #[.int .i64 (Cnt.step (L.getD (128 + c) 0) bit), .int .i64 0]) ∧ w' = w) := nx _ (mayM_row hm 128 (.inr (.inr rfl)) c hc)
  clear hm hbit nx r0
  obtain ⟨A, hA⟩ : ∃ A, trnW L a b c bit (L.getD 192 0) (L.getD a 0) = A := ⟨_, rfl⟩
  obtain ⟨B, hB⟩ : ∃ B, trnW L a b c bit (L.getD 193 0) (L.getD (64 + b) 0) = B := ⟨_, rfl⟩
  obtain ⟨C, hC⟩ : ∃ C, trnW L a b c bit (L.getD 194 0) (L.getD (128 + c) 0) = C := ⟨_, rfl⟩
  obtain ⟨P0, hP0⟩ : ∃ P, Cnt.step (L.getD a 0) bit = P := ⟨_, rfl⟩
  obtain ⟨P1, hP1⟩ : ∃ P, Cnt.step (L.getD (64 + b) 0) bit = P := ⟨_, rfl⟩
  obtain ⟨P2, hP2⟩ : ∃ P, Cnt.step (L.getD (128 + c) 0) bit = P := ⟨_, rfl⟩
  rw [hA, hB, hC] at DD
  rw [hP0] at X0
  rw [hP1] at X1
  rw [hP2] at X2
  have el : learn L a b c bit = (((setW L A B C).set a P0).set (64 + b) P1).set (128 + c) P2 := by rw [learn, hA, hB, hC, hP0, hP1, hP2]
  rw [el]
  clear el hA hB hC hP0 hP1 hP2
  obtain ⟨L1, hL1⟩ : ∃ M, setW L A B C = M := ⟨_, rfl⟩
  obtain ⟨L2, hL2⟩ : ∃ M, L1.set a P0 = M := ⟨_, rfl⟩
  obtain ⟨L3, hL3⟩ : ∃ M, L2.set (64 + b) P1 = M := ⟨_, rfl⟩
  obtain ⟨L4, hL4⟩ : ∃ M, L3.set (128 + c) P2 = M := ⟨_, rfl⟩
  rw [hL1, hL2, hL3, hL4]
  have n1 : L1.length = 195 := by rw [← hL1, setW_len]; exact hL
  have n2 : L2.length = 195 := by rw [← hL2, List.length_set]; exact n1
  have n3 : L3.length = 195 := by rw [← hL3, List.length_set]; exact n2
  have n4 : L4.length = 195 := by rw [← hL4, List.length_set]; exact n3
  have g1 : ∀ k, k < 192 → L1.getD k 0 = L.getD k 0 := fun k hk => by rw [← hL1, setW, getD_set_ne _ _ _ _ (by omega), getD_set_ne _ _ _ _ (by omega), getD_set_ne _ _ _ _ (by omega)]
  have e1 : L1.getD a 0 = L.getD a 0 := g1 a (by omega)
  have e2 : L2.getD (64 + b) 0 = L.getD (64 + b) 0 := by rw [← hL2, getD_set_ne _ _ _ _ (by omega), g1 _ (by omega)]
  have e3 : L3.getD (128 + c) 0 = L.getD (128 + c) 0 := by rw [← hL3, getD_set_ne _ _ _ _ (by omega), ← hL2, getD_set_ne _ _ _ _ (by omega), g1 _ (by omega)]
  have N4 : Hid (L4.length = 195) := n4
  have S1 : Hid (∀ (w : World) (Bk : Nat), Holds w Bk L → Holds (((w.setCell ⟨Bk, 192, none⟩ (.int .i64 A)).setCell ⟨Bk, 193, none⟩ (.int .i64 B)).setCell ⟨Bk, 194, none⟩ (.int .i64 C)) Bk L1) := fun w Bk h => by
    have := ((h.set 192 (by rw [hL]; decide) A).set 193 (by rw [List.length_set, hL]; decide) B).set 194 (by rw [List.length_set, List.length_set, hL]; decide) C
    rwa [show ((L.set 192 A).set 193 B).set 194 C = L1 from hL1] at this
  have G0 : Hid (∀ (w : World) (Bk : Nat), Holds w Bk L1 → w.cell? ⟨Bk, a, none⟩ = some (.int .i64 (L.getD (a) 0)) ∧ w.frozen? ⟨Bk, a, none⟩ = false ∧ Holds (w.setCell ⟨Bk, a, none⟩ (.int .i64 P0)) Bk L2) := fun w Bk h => by
    have k1 := h.cell (a) (by omega)
    rw [e1] at k1
    have k2 := h.set (a) (by omega) P0
    rw [hL2] at k2
    exact ⟨k1, h.free _ (by omega), k2⟩
  have G1 : Hid (∀ (w : World) (Bk : Nat), Holds w Bk L2 → w.cell? ⟨Bk, 64 + b, none⟩ = some (.int .i64 (L.getD (64 + b) 0)) ∧ w.frozen? ⟨Bk, 64 + b, none⟩ = false ∧ Holds (w.setCell ⟨Bk, 64 + b, none⟩ (.int .i64 P1)) Bk L3) := fun w Bk h => by
    have k1 := h.cell (64 + b) (by omega)
    rw [e2] at k1
    have k2 := h.set (64 + b) (by omega) P1
    rw [hL3] at k2
    exact ⟨k1, h.free _ (by omega), k2⟩
  have G2 : Hid (∀ (w : World) (Bk : Nat), Holds w Bk L3 → w.cell? ⟨Bk, 128 + c, none⟩ = some (.int .i64 (L.getD (128 + c) 0)) ∧ w.frozen? ⟨Bk, 128 + c, none⟩ = false ∧ Holds (w.setCell ⟨Bk, 128 + c, none⟩ (.int .i64 P2)) Bk L4) := fun w Bk h => by
    have k1 := h.cell (128 + c) (by omega)
    rw [e3] at k1
    have k2 := h.set (128 + c) (by omega) P2
    rw [hL4] at k2
    exact ⟨k1, h.free _ (by omega), k2⟩
  clear hL1 hL2 hL3 hL4 n1 n2 n3 n4 g1 e1 e2 e3
  generalize inp (L.getD a 0) = x at *
  generalize inp (L.getD (64 + b) 0) = y at *
  generalize inp (L.getD (128 + c) 0) = u at *
  have M0 : Hid (Holds (((w.alloc (.cells (vals L).toArray 46)).alloc (.cells #[.int .i64 (a : Int), .int .i64 (b : Int), .int .i64 (c : Int)] 44)).alloc (.cells (vals zeros).toArray 46)) w.heap.size L) := (holds_new w L 46).bel (((Bel.refl _).alloc _).alloc _)
  have C0 : Hid (Holds (((w.alloc (.cells (vals L).toArray 46)).alloc (.cells #[.int .i64 (a : Int), .int .i64 (b : Int), .int .i64 (c : Int)] 44)).alloc (.cells (vals zeros).toArray 46)) (w.heap.size + 1) [(a : Int), (b : Int), (c : Int)]) := (holds_at (by simp) [(a : Int), (b : Int), (c : Int)] 44).bel ((Bel.refl _).alloc _)
  have R0 : Hid (Holds (((w.alloc (.cells (vals L).toArray 46)).alloc (.cells #[.int .i64 (a : Int), .int .i64 (b : Int), .int .i64 (c : Int)] 44)).alloc (.cells (vals zeros).toArray 46)) (w.heap.size + 2) zeros) := holds_at (by simp) zeros 46
  have B0 : Hid (Bel w (((w.alloc (.cells (vals L).toArray 46)).alloc (.cells #[.int .i64 (a : Int), .int .i64 (b : Int), .int .i64 (c : Int)] 44)).alloc (.cells (vals zeros).toArray 46))) := (((Bel.refl _).alloc _).alloc _).alloc _
  have ZL : Hid (zeros.length = 195) := zeros_len
  have zz := zero26
  clear hL
  go_enter Tryz.func32, Tryz.ntmps32
  go_wp2_with (first | (with_reducible refine wpl_load26' M0.out NL.out rfl ?_))
  refine (MM.out _).mono ?_
  rintro e w1 ⟨rfl, b1⟩
  have M1 : Hid (Holds w1 w.heap.size L) := M0.out.bel b1
  have C1 : Hid (Holds w1 (w.heap.size + 1) [(a : Int), (b : Int), (c : Int)]) := C0.out.bel b1
  have R1 : Hid (Holds w1 (w.heap.size + 2) zeros) := R0.out.bel b1
  have B1 : Hid (Bel w w1) := B0.out.trans b1
  clear b1 M0 C0 B0 R0
  have k0 : w1.cell? ⟨w.heap.size + 1, 0, none⟩ = some (.int .i64 (a : Int)) := C1.out.cell 0 (by simp)
  have k1 : w1.cell? ⟨w.heap.size + 1, 1, none⟩ = some (.int .i64 (b : Int)) := C1.out.cell 1 (by simp)
  have k2 : w1.cell? ⟨w.heap.size + 1, 2, none⟩ = some (.int .i64 (c : Int)) := C1.out.cell 2 (by simp)
  go_wp2_with fail
  refine (CM.out _).mono ?_
  rintro e w2 ⟨rfl, b2⟩
  have M2 : Hid (Holds w2 w.heap.size L) := M1.out.bel b2
  have C2 : Hid (Holds w2 (w.heap.size + 1) [(a : Int), (b : Int), (c : Int)]) := C1.out.bel b2
  have R2 : Hid (Holds w2 (w.heap.size + 2) zeros) := R1.out.bel b2
  have B2 : Hid (Bel w w2) := B1.out.trans b2
  clear b2 k0 k1 k2 B1 R1 C1 M1
  go_wp2_with fail
  refine (BM.out _).mono ?_
  rintro e w2 ⟨rfl, rfl⟩
  have k0 : w2.cell? ⟨w.heap.size + 1, 0, none⟩ = some (.int .i64 (a : Int)) := C2.out.cell 0 (by simp)
  have k1 : w2.cell? ⟨w.heap.size + 1, 1, none⟩ = some (.int .i64 (b : Int)) := C2.out.cell 1 (by simp)
  have k2 : w2.cell? ⟨w.heap.size + 1, 2, none⟩ = some (.int .i64 (c : Int)) := C2.out.cell 2 (by simp)
  go_wp2_with (first | (with_reducible refine wpl_load26' M2.out NL.out rfl ?_))
  refine (IN.out _).mono ?_
  rintro e w3 ⟨rfl, b3⟩
  have bb3 : Bel w2 (w3.alloc (.cells #[.int .i64 x, .int .i64 y, .int .i64 u] 44)) := Bel.alloc b3 _
  have M3 : Hid (Holds (w3.alloc (.cells #[.int .i64 x, .int .i64 y, .int .i64 u] 44)) w.heap.size L) := M2.out.bel bb3
  have C3 : Hid (Holds (w3.alloc (.cells #[.int .i64 x, .int .i64 y, .int .i64 u] 44)) (w.heap.size + 1) [(a : Int), (b : Int), (c : Int)]) := C2.out.bel bb3
  have R3 : Hid (Holds (w3.alloc (.cells #[.int .i64 x, .int .i64 y, .int .i64 u] 44)) (w.heap.size + 2) zeros) := R2.out.bel bb3
  have B3 : Hid (Bel w (w3.alloc (.cells #[.int .i64 x, .int .i64 y, .int .i64 u] 44))) := B2.out.trans bb3
  have l0 := M3.out.cell 192 (by rw [NL.out]; decide)
  have l1 := M3.out.cell 193 (by rw [NL.out]; decide)
  have l2 := M3.out.cell 194 (by rw [NL.out]; decide)
  clear b3 bb3 k0 k1 k2 B2 R2 C2 M2
  generalize L.getD 192 0 = x0 at *
  generalize L.getD 193 0 = x1 at *
  generalize L.getD 194 0 = x2 at *
  go_wp2_with fail
  refine (DD.out _).mono ?_
  rintro e w4 ⟨rfl, o4⟩
  have M4 : Hid (Holds w4 w.heap.size L) := M3.out.bel o4.b
  have C4 : Hid (Holds w4 (w.heap.size + 1) [(a : Int), (b : Int), (c : Int)]) := C3.out.bel o4.b
  have R4 : Hid (Holds w4 (w.heap.size + 2) zeros) := R3.out.bel o4.b
  have B4 : Hid (Bel w w4) := B3.out.trans o4.b
  have l0 := M4.out.cell 192 (by rw [NL.out]; decide)
  have l1 := M4.out.cell 193 (by rw [NL.out]; decide)
  have l2 := M4.out.cell 194 (by rw [NL.out]; decide)
  have f0 := M4.out.free 192 (by rw [NL.out]; decide)
  have f1 := M4.out.free 193 (by rw [NL.out]; decide)
  have f2 := M4.out.free 194 (by rw [NL.out]; decide)
  have ls : w.heap.size < w4.heap.size := block_lt_of_cell l0
  clear o4 B3 R3 C3 M3
  go_wp2_with fail
  have M5 : Hid (Holds ((((w4.setCell ⟨w.heap.size, 192, none⟩ (.int .i64 A)).setCell ⟨w.heap.size, 193, none⟩ (.int .i64 B)).setCell ⟨w.heap.size, 194, none⟩ (.int .i64 C)).alloc (.cells #[.int .i64 A, .int .i64 B, .int .i64 C] 44)) w.heap.size L1) := (S1.out _ _ M4.out).bel ((Bel.refl _).alloc _)
  have C5 : Hid (Holds ((((w4.setCell ⟨w.heap.size, 192, none⟩ (.int .i64 A)).setCell ⟨w.heap.size, 193, none⟩ (.int .i64 B)).setCell ⟨w.heap.size, 194, none⟩ (.int .i64 C)).alloc (.cells #[.int .i64 A, .int .i64 B, .int .i64 C] 44)) (w.heap.size + 1) [(a : Int), (b : Int), (c : Int)]) := (((C4.out.other _ _ (by omega) _).other _ _ (by omega) _).other _ _ (by omega) _).bel ((Bel.refl _).alloc _)
  have R5 : Hid (Holds ((((w4.setCell ⟨w.heap.size, 192, none⟩ (.int .i64 A)).setCell ⟨w.heap.size, 193, none⟩ (.int .i64 B)).setCell ⟨w.heap.size, 194, none⟩ (.int .i64 C)).alloc (.cells #[.int .i64 A, .int .i64 B, .int .i64 C] 44)) (w.heap.size + 2) zeros) := (((R4.out.other _ _ (by omega) _).other _ _ (by omega) _).other _ _ (by omega) _).bel ((Bel.refl _).alloc _)
  have B5 : Hid (Bel w ((((w4.setCell ⟨w.heap.size, 192, none⟩ (.int .i64 A)).setCell ⟨w.heap.size, 193, none⟩ (.int .i64 B)).setCell ⟨w.heap.size, 194, none⟩ (.int .i64 C)).alloc (.cells #[.int .i64 A, .int .i64 B, .int .i64 C] 44))) := Bel.alloc (((B4.out.setCell (Nat.le_refl _) _).setCell (Nat.le_refl _) _).setCell (Nat.le_refl _) _) _
  clear l0 l1 l2 f0 f1 f2 ls M4 C4 R4 B4 MM CM BM IN DD
  go_loopw [11] (fun q wr => (Holds wr (w.heap.size + 1) [(a : Int), (b : Int), (c : Int)] ∧ Holds wr (w.heap.size + 2) zeros ∧ Bel w wr) ∧ ((q = .int .i64 0 ∧ Holds wr w.heap.size L1) ∨ (q = .int .i64 1 ∧ Holds wr w.heap.size L2) ∨ (q = .int .i64 2 ∧ Holds wr w.heap.size L3) ∨ (q = .int .i64 3 ∧ Holds wr w.heap.size L4))) (fun q _ => 3 - (intOf q).toNat)
  case atStart => exact ⟨⟨C5.out, R5.out, B5.out⟩, .inl ⟨rfl, M5.out⟩⟩
  case round =>
    obtain ⟨⟨cc, rr, bb⟩, hrel⟩ := hrel
    clear M5 C5 R5 B5
    have C6 : Hid (Holds wr (w.heap.size + 1) [(a : Int), (b : Int), (c : Int)]) := cc
    have R6 : Hid (Holds wr (w.heap.size + 2) zeros) := rr
    have B6 : Hid (Bel w wr) := bb
    clear cc rr bb
    rcases hrel with ⟨rfl, h⟩ | ⟨rfl, h⟩ | ⟨rfl, h⟩ | ⟨rfl, h⟩
    · obtain ⟨k0, f0, _⟩ := G0.out _ _ h
      have kc : wr.cell? ⟨w.heap.size + 1, 0, none⟩ = some (.int .i64 (a : Int)) := C6.out.cell 0 (by simp)
      have M6 : Hid (Holds wr w.heap.size L1) := h
      clear h
      generalize L.getD (a) 0 = old at *
      go_wp2
      go_quiet (first | (go_at_call 62; with_reducible exact Calls.quiet_of_same (X0.out _)))
      go_wp2
      go_region
      all_goals go_wp2
      all_goals go_roundw
      all_goals first
        | exact ⟨⟨((C6.out.drewN _).other _ _ (by omega) _), ((R6.out.drewN _).other _ _ (by omega) _), ((B6.out.drewN _).setCell (Nat.le_refl _) _)⟩, .inr (.inl ⟨rfl, (G0.out _ _ (M6.out.drewN _)).2.2⟩)⟩
        | (simp [intOf]; done)
    · obtain ⟨k0, f0, _⟩ := G1.out _ _ h
      have kc : wr.cell? ⟨w.heap.size + 1, 1, none⟩ = some (.int .i64 (b : Int)) := C6.out.cell 1 (by simp)
      have M6 : Hid (Holds wr w.heap.size L2) := h
      clear h
      generalize L.getD (64 + b) 0 = old at *
      go_wp2
      go_quiet (first | (go_at_call 62; with_reducible exact Calls.quiet_of_same (X1.out _)))
      go_wp2
      go_region
      all_goals go_wp2
      all_goals go_roundw
      all_goals first
        | exact ⟨⟨((C6.out.drewN _).other _ _ (by omega) _), ((R6.out.drewN _).other _ _ (by omega) _), ((B6.out.drewN _).setCell (Nat.le_refl _) _)⟩, .inr (.inr (.inl ⟨rfl, (G1.out _ _ (M6.out.drewN _)).2.2⟩))⟩
        | (simp [intOf]; done)
    · obtain ⟨k0, f0, _⟩ := G2.out _ _ h
      have kc : wr.cell? ⟨w.heap.size + 1, 2, none⟩ = some (.int .i64 (c : Int)) := C6.out.cell 2 (by simp)
      have M6 : Hid (Holds wr w.heap.size L3) := h
      clear h
      generalize L.getD (128 + c) 0 = old at *
      go_wp2
      go_quiet (first | (go_at_call 62; with_reducible exact Calls.quiet_of_same (X2.out _)))
      go_wp2
      go_region
      all_goals go_wp2
      all_goals go_roundw
      all_goals first
        | exact ⟨⟨((C6.out.drewN _).other _ _ (by omega) _), ((R6.out.drewN _).other _ _ (by omega) _), ((B6.out.drewN _).setCell (Nat.le_refl _) _)⟩, .inr (.inr (.inr ⟨rfl, (G2.out _ _ (M6.out.drewN _)).2.2⟩))⟩
        | (simp [intOf]; done)
    · have M6 : Hid (Holds wr w.heap.size L4) := h
      have R7 : Hid (Holds (wr.setCells (w.heap.size + 2) 0 (vals L4)) (w.heap.size + 2) L4) := holds_all R6.out L4 (ZL.out.trans N4.out.symm)
      have B7 : Hid (Bel w (wr.setCells (w.heap.size + 2) 0 (vals L4))) := Bel.setCells (by omega) _ _ B6.out
      clear h
      go_wp2_with (first
        | (with_reducible refine wpl_load26' M6.out N4.out rfl ?_)
        | (with_reducible refine wpl_store26 R6.out ZL.out N4.out rfl rfl ?_))
      exact bodyPost_ret (v := .tuple #[mdl L4, .int .i64 0]) (results_model2 Tryz.results32 rfl rfl R7.out N4.out) rfl ⟨rfl, B7.out⟩

end Go.Proofs.YtocnlefpbcnlmaaGreatDoor.Mod
