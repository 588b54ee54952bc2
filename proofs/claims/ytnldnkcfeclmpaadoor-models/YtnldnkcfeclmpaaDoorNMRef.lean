/-
  The contracts of the reference's Dot and of its small functions: they answer as the program's do. No condition but that the numbers are ints.
-/
import Derived.Test.YtnldnkcfeclmpaaDoorNBase
import Derived.Test.YtnldnkcfeclmpaaDoorNRefSq
namespace Go.Proofs.YtnldnkcfeclmpaaDoor.Mix
open Go.RowKit Go.Proofs.YtnldnkcfeclmpaaDoor.Num Go.Proofs.YtnldnkcfeclmpaaDoor.Str
set_option linter.unusedVariables false

set_option maxHeartbeats 400000 in
theorem bitMay_ok (b : Int) (w : World) :
    Calls Tryd.prog 28 #[.int .i64 b] w fun e w' => e = .returned (.bool (bitB b)) ∧ w' = w := by
  by_cases h0 : b = 0
  · subst h0
    go_enter Tryd.func28, Tryd.ntmps28
    go_wp2
    go_ret
    exact ⟨rfl, rfl⟩
  · by_cases h1 : b = 1
    · subst h1
      go_enter Tryd.func28, Tryd.ntmps28
      go_wp2
      go_ret
      exact ⟨rfl, rfl⟩
    · have e0 : (b == 0) = false := by simpa using h0
      have e1 : (b == 1) = false := by simpa using h1
      have e : bitB b = false := decide_eq_false fun k => k.elim h0 h1
      rw [e]
      clear h0 h1 e
      go_enter Tryd.func28, Tryd.ntmps28
      go_wp2
      go_ret
      exact ⟨rfl, rfl⟩

set_option maxHeartbeats 400000 in
theorem within_hold (x : Int) (w : World) :
    Calls Tryd.prog 42 #[.int .i64 x, .int .i64 (-1048576), .int .i64 1048576] w fun e w' => e = .returned (.int .i64 (hold x)) ∧ w' = w := by
  unfold hold
  by_cases h0 : x ≤ -1048576
  · rw [if_pos h0]
    go_enter Tryd.func42, Tryd.ntmps42
    go_wp2
    go_ret
    exact ⟨rfl, rfl⟩
  · rw [if_neg h0]
    by_cases h1 : 1048576 < x
    · rw [if_pos h1]
      go_enter Tryd.func42, Tryd.ntmps42
      go_wp2
      go_ret
      exact ⟨rfl, rfl⟩
    · rw [if_neg h1]
      by_cases h2 : x = 1048576
      · subst h2
        go_enter Tryd.func42, Tryd.ntmps42
        go_wp2
        go_ret
        exact ⟨rfl, rfl⟩
      · have h3 : ¬ 1048576 ≤ x := by omega
        go_enter Tryd.func42, Tryd.ntmps42
        go_wp2
        go_ret
        exact ⟨rfl, rfl⟩

set_option maxHeartbeats 400000 in
theorem within_raise (x : Int) (h : x ≤ 4095) (w : World) :
    Calls Tryd.prog 42 #[.int .i64 x, .int .i64 1, .int .i64 4095] w fun e w' => e = .returned (.int .i64 (raise x)) ∧ w' = w := by
  unfold raise
  by_cases h0 : x ≤ 1
  · rw [if_pos h0]
    have h3 : ¬ 4095 ≤ x := by omega
    go_enter Tryd.func42, Tryd.ntmps42
    go_wp2
    go_ret
    exact ⟨rfl, rfl⟩
  · rw [if_neg h0]
    by_cases h2 : x = 4095
    · subst h2
      go_enter Tryd.func42, Tryd.ntmps42
      go_wp2
      go_ret
      exact ⟨rfl, rfl⟩
    · have h3 : ¬ 4095 ≤ x := by omega
      go_enter Tryd.func42, Tryd.ntmps42
      go_wp2
      go_ret
      exact ⟨rfl, rfl⟩

theorem upTo_is (l x : Int) (w : World) :
    Calls Tryd.prog 41 #[.int .i64 x, .int .i64 (-l), .int .i64 l] w fun e w' => e = .returned (.bool (!passed l x)) ∧ w' = w := by
  by_cases h : x < -l ∨ l < x
  · have e : passed l x = true := decide_eq_true h
    rw [e]
    exact upTo_no x (-l) l h w
  · have e : passed l x = false := decide_eq_false h
    rw [e]
    exact upTo_yes x (-l) l (by omega) (by omega) w

set_option maxHeartbeats 1000000 in
theorem three_ok (l a b c : Int) (hl0 : 0 ≤ l) (hl1 : l ≤ 1048576) (w : World) :
    Calls Tryd.prog 34 #[.agg #[.int .i64 a, .int .i64 b, .int .i64 c], .int .i64 l] w fun e w' => e = .returned (.bool (!(passed l a || passed l b || passed l c))) ∧ Onto w w' := by
  have U : Hid (∀ x w, Calls Tryd.prog 41 #[.int .i64 x, .int .i64 (-l), .int .i64 l] w fun e w' => e = .returned (.bool (!passed l x)) ∧ w' = w) := upTo_is l
  cases ha : passed l a
  · cases hb : passed l b
    · cases hc : passed l c
      · go_enter Tryd.func34, Tryd.ntmps34
        go_wp2
        refine wp_loop_rounds 4 ?_
        rw [rounds_succ]
        go_wp2_with fail
        refine (U.out a _).mono ?_
        rw [ha]
        rintro e w1 ⟨rfl, rfl⟩
        go_wp2
        rw [rounds_succ]
        go_wp2_with fail
        refine (U.out b _).mono ?_
        rw [hb]
        rintro e w1 ⟨rfl, rfl⟩
        go_wp2
        rw [rounds_succ]
        go_wp2_with fail
        refine (U.out c _).mono ?_
        rw [hc]
        rintro e w1 ⟨rfl, rfl⟩
        go_wp2
        rw [rounds_succ]
        go_wp2
        go_ret
        exact ⟨rfl, (Onto.refl _).alloc _ _⟩
      · go_enter Tryd.func34, Tryd.ntmps34
        go_wp2
        refine wp_loop_rounds 3 ?_
        rw [rounds_succ]
        go_wp2_with fail
        refine (U.out a _).mono ?_
        rw [ha]
        rintro e w1 ⟨rfl, rfl⟩
        go_wp2
        rw [rounds_succ]
        go_wp2_with fail
        refine (U.out b _).mono ?_
        rw [hb]
        rintro e w1 ⟨rfl, rfl⟩
        go_wp2
        rw [rounds_succ]
        go_wp2_with fail
        refine (U.out c _).mono ?_
        rw [hc]
        rintro e w1 ⟨rfl, rfl⟩
        go_wp2
        go_ret
        exact ⟨rfl, (Onto.refl _).alloc _ _⟩
    · go_enter Tryd.func34, Tryd.ntmps34
      go_wp2
      refine wp_loop_rounds 2 ?_
      rw [rounds_succ]
      go_wp2_with fail
      refine (U.out a _).mono ?_
      rw [ha]
      rintro e w1 ⟨rfl, rfl⟩
      go_wp2
      rw [rounds_succ]
      go_wp2_with fail
      refine (U.out b _).mono ?_
      rw [hb]
      rintro e w1 ⟨rfl, rfl⟩
      go_wp2
      go_ret
      exact ⟨rfl, (Onto.refl _).alloc _ _⟩
  · go_enter Tryd.func34, Tryd.ntmps34
    go_wp2
    refine wp_loop_rounds 1 ?_
    rw [rounds_succ]
    go_wp2_with fail
    refine (U.out a _).mono ?_
    rw [ha]
    rintro e w1 ⟨rfl, rfl⟩
    go_wp2
    go_ret
    exact ⟨rfl, (Onto.refl _).alloc _ _⟩

theorem may_parts {a b c x y z : Int} (h : mayB a b c x y z = false) :
    (passed 1048576 a || passed 1048576 b || passed 1048576 c) = true ∨ ((passed 1048576 a || passed 1048576 b || passed 1048576 c) = false ∧ (passed 2047 x || passed 2047 y || passed 2047 z) = true) := by
  unfold mayB at h
  revert h
  cases (passed 1048576 a || passed 1048576 b || passed 1048576 c) <;> cases (passed 2047 x || passed 2047 y || passed 2047 z) <;> simp

theorem may_both {a b c x y z : Int} (h : mayB a b c x y z = true) :
    (passed 1048576 a || passed 1048576 b || passed 1048576 c) = false ∧ (passed 2047 x || passed 2047 y || passed 2047 z) = false := by
  unfold mayB at h
  revert h
  cases (passed 1048576 a || passed 1048576 b || passed 1048576 c) <;> cases (passed 2047 x || passed 2047 y || passed 2047 z) <;> simp

set_option maxHeartbeats 1000000 in
theorem ref_dot_no (a b c x y z : Int) (hm : ¬ May a b c x y z) (w : World) :
    Calls Tryd.prog 23 #[.agg #[.int .i64 a, .int .i64 b, .int .i64 c], .agg #[.int .i64 x, .int .i64 y, .int .i64 z]] w fun e w' => e = .returned (.tuple #[.int .i64 0, .int .i64 800]) ∧ Onto w w' := by
  rcases may_parts (mayB_no hm) with h | ⟨h, k⟩
  · have HH : Hid _ := h
    clear hm h
    go_enter Tryd.func23, Tryd.ntmps23
    go_wp2_with fail
    refine (three_ok 1048576 a b c (by decide) (by decide) _).mono ?_
    rw [show (passed 1048576 a || passed 1048576 b || passed 1048576 c) = true from HH.out]
    rintro e w1 ⟨rfl, o⟩
    have O1 : Hid (Onto w w1) := (((Onto.refl w).alloc _ _).alloc _ _).trans o
    clear o
    go_wp2
    go_ret2
    exact ⟨rfl, O1.out⟩
  · have HH : Hid _ := h
    have HK : Hid _ := k
    clear hm h k
    go_enter Tryd.func23, Tryd.ntmps23
    go_wp2_with fail
    refine (three_ok 1048576 a b c (by decide) (by decide) _).mono ?_
    rw [show (passed 1048576 a || passed 1048576 b || passed 1048576 c) = false from HH.out]
    rintro e w1 ⟨rfl, o⟩
    have O1 : Hid (Onto w w1) := (((Onto.refl w).alloc _ _).alloc _ _).trans o
    obtain ⟨⟨ws0, ws1, ws2⟩, xs0, xs1, xs2⟩ := box2 o
    clear o
    go_wp2_with fail
    refine (three_ok 2047 x y z (by decide) (by decide) _).mono ?_
    rw [show (passed 2047 x || passed 2047 y || passed 2047 z) = true from HK.out]
    rintro e w2 ⟨rfl, o⟩
    have O2 : Hid (Onto w w2) := O1.out.trans o
    clear o
    go_wp2
    go_ret2
    exact ⟨rfl, O2.out⟩

set_option maxHeartbeats 2000000 in
theorem ref_dot_yes (a b c x y z : Int) (hm : May a b c x y z) (w : World) :
    Calls Tryd.prog 23 #[.agg #[.int .i64 a, .int .i64 b, .int .i64 c], .agg #[.int .i64 x, .int .i64 y, .int .i64 z]] w fun e w' => e = .returned (.tuple #[.int .i64 (dot a b c x y z), .int .i64 0]) ∧ Onto w w' := by
  obtain ⟨h, k⟩ := may_both (mayB_yes hm)
  have HH : Hid _ := h
  have HK : Hid _ := k
  clear h k
  obtain ⟨⟨a0, a1⟩, ⟨b0, b1⟩, ⟨c0, c1⟩, ⟨x0, x1⟩, ⟨y0, y1⟩, z0, z1⟩ := hm
  obtain ⟨p0, p1⟩ := prod_le a x a0 a1 x0 x1
  obtain ⟨q0, q1⟩ := prod_le b y b0 b1 y0 y1
  obtain ⟨r0, r1⟩ := prod_le c z c0 c1 z0 z1
  obtain ⟨k, hk⟩ : ∃ k, sq ((a * x + b * y + c * z) / 65536) = k := ⟨_, rfl⟩
  have K : Hid (sq ((a * x + b * y + c * z) / 65536) = k) := hk
  have k1 : k ≤ 4095 := hk ▸ (sq_chance _).2
  have D : dot a b c x y z = raise k := by unfold dot sum; rw [hk]
  rw [D]
  clear hk D
  have R : Hid (∀ w, Calls Tryd.prog 42 #[.int .i64 k, .int .i64 1, .int .i64 4095] w fun e w' => e = .returned (.int .i64 (raise k)) ∧ w' = w) := within_raise k k1
  generalize raise k = v at *
  go_enter Tryd.func23, Tryd.ntmps23
  go_wp2_with fail
  refine (three_ok 1048576 a b c (by decide) (by decide) _).mono ?_
  rw [show (passed 1048576 a || passed 1048576 b || passed 1048576 c) = false from HH.out]
  rintro e w1 ⟨rfl, o⟩
  have O1 : Hid (Onto w w1) := (((Onto.refl w).alloc _ _).alloc _ _).trans o
  obtain ⟨⟨ws0, ws1, ws2⟩, xs0, xs1, xs2⟩ := box2 o
  clear o
  go_wp2_with fail
  refine (three_ok 2047 x y z (by decide) (by decide) _).mono ?_
  rw [show (passed 2047 x || passed 2047 y || passed 2047 z) = false from HK.out]
  rintro e w2 ⟨rfl, o⟩
  have O2 : Hid (Onto w w2) := O1.out.trans o
  replace ws0 := o.cell_some ws0
  replace ws1 := o.cell_some ws1
  replace ws2 := o.cell_some ws2
  replace xs0 := o.cell_some xs0
  replace xs1 := o.cell_some xs1
  replace xs2 := o.cell_some xs2
  clear o O1
  go_wp2
  refine wp_loop_rounds 4 ?_
  rw [rounds_succ]
  go_wp2
  go_quiet (fail)
  go_wp2
  rw [rounds_succ]
  go_wp2
  go_quiet (fail)
  go_wp2
  rw [rounds_succ]
  go_wp2
  go_quiet (fail)
  go_wp2
  rw [rounds_succ]
  go_wp2_with fail
  refine (ref_squash_is _ k K.out _).mono ?_
  rintro e w5 ⟨rfl, o⟩
  have O5 : Hid (Onto w w5) := (O2.out.drewN _).trans o
  clear o O2 ws0 ws1 ws2 xs0 xs1 xs2
  go_wp2_with fail
  refine (R.out _).mono ?_
  rintro e w6 ⟨rfl, rfl⟩
  go_wp2
  go_ret2
  exact ⟨rfl, O5.out⟩

end Go.Proofs.YtnldnkcfeclmpaaDoor.Mix
