/-
  The walk of MixMore: it answers true for any arrays and ints. Condition: the package's table is laid as its text lays it.
-/
import Derived.Test.YtnnmldhhofoliaaDoorMAwake
namespace Go.Proofs.YtnnmldhhofoliaaDoor.Mix
open Go.RowKit Go.Proofs.YtnnmldhhofoliaaDoor.Num Go.Proofs.YtnnmldhhofoliaaDoor.Str
set_option linter.unusedVariables false

theorem mval (x n k : Int) (hn : 0 < n) (hn1 : n ≤ 4096) (h : x % 18446744073709551616 % n = k) : wrap64 ((IntKind.u64.wrap x).tmod n) = k := by
  have e : IntKind.u64.wrap x = x % 18446744073709551616 := by simp [IntKind.wrap, IntKind.bits, IntKind.signed]
  have h0 := Int.emod_nonneg (x % 18446744073709551616) (Int.ne_of_gt hn)
  have h1 := Int.emod_lt_of_pos (x % 18446744073709551616) hn
  rw [e, Int.tmod_eq_emod_of_nonneg (by omega), h, wrap64]
  omega

/-- Dot of any arrays answers two ints. -/
theorem dot_some (a b c x y z : Int) (w : World) (T : Tab w) :
    Calls Tryd.prog 9 #[.agg #[.int .i64 a, .int .i64 b, .int .i64 c], .agg #[.int .i64 x, .int .i64 y, .int .i64 z]] w fun e w' => (∃ p k : Int, e = .returned (.tuple #[.int .i64 p, .int .i64 k])) ∧ Onto w w' := by
  by_cases hm : May a b c x y z
  · exact (dot_yes a b c x y z hm w T).mono fun _ _ h => ⟨⟨_, _, h.1⟩, h.2⟩
  · exact (dot_no a b c x y z hm w).mono fun _ _ h => ⟨⟨_, _, h.1⟩, h.2⟩

theorem sum_more (a x V : Int) (h : a ≤ V) : (0 ≤ x → a * x ≤ V * x) ∧ (x ≤ 0 → V * x ≤ a * x) :=
  ⟨fun hx => Int.mul_le_mul_of_nonneg_right h hx, fun hx => Int.mul_le_mul_of_nonpos_right h hx⟩

theorem dot_more0 (a b c x y z U : Int) (h : a ≤ U) : (0 ≤ x → dot a b c x y z ≤ dot U b c x y z) ∧ (x ≤ 0 → dot U b c x y z ≤ dot a b c x y z) := by
  obtain ⟨u, v⟩ := sum_more a x U h
  exact ⟨fun hx => dot_mono (by have := u hx; unfold sum; omega), fun hx => dot_mono (by have := v hx; unfold sum; omega)⟩

set_option maxHeartbeats 2000000 in
theorem more_no0 (a b c x y z n m : Int) (hm : ¬ May a b c x y z) (hk : n % 18446744073709551616 % 3 = 0) (w : World) (T : Tab w) :
    Calls Tryd.prog 6 #[.agg #[.int .i64 a, .int .i64 b, .int .i64 c], .agg #[.int .i64 x, .int .i64 y, .int .i64 z], .int .i64 n, .int .i64 m] w fun e w' => e = .returned (.bool true) ∧ Onto w w' := by
  have TT : Hid (Tab w) := T
  have M : Hid (¬ May a b c x y z) := hm
  have hv := mval n 3 0 (by decide) (by decide) hk
  have ha := and16 m
  have d0 : 0 ≤ m % 65536 := by omega
  have d1 : m % 65536 < 65536 := by omega
  generalize m % 65536 = d at *
  obtain ⟨s, hs⟩ : ∃ s, wrap64 (a + d) = s := ⟨_, rfl⟩
  by_cases hU : 1048576 ≤ s
  · clear T hm hk
    go_enter Tryd.func6, Tryd.ntmps6
    go_wp2_with fail
    refine (awake_true _ (tab_onto TT.out (((Onto.refl w).alloc _ _).alloc _ _))).mono ?_
    rintro e w1 ⟨rfl, o⟩
    have O1 : Hid (Onto w w1) := (((Onto.refl w).alloc _ _).alloc _ _).trans o
    obtain ⟨⟨ws0, ws1, ws2⟩, xs0, xs1, xs2⟩ := box2 o
    clear o
    go_wp2_with fail
    refine (dot_no a b c x y z M.out _).mono ?_
    rintro e w2 ⟨rfl, o⟩
    have O2 : Hid (Onto w w2) := (O1.out).trans o
    replace ws0 := o.cell_some ws0
    replace ws1 := o.cell_some ws1
    replace ws2 := o.cell_some ws2
    replace xs0 := o.cell_some xs0
    replace xs1 := o.cell_some xs1
    replace xs2 := o.cell_some xs2
    clear o O1
    have vw0 := ws0
    have vw1 := ws1
    have vw2 := ws2
    have bb : Onto w2 (w2.alloc (.cells #[.int .i64 a, .int .i64 b, .int .i64 c] 22)) := (Onto.refl _).alloc _ _
    replace ws0 := bb.cell_some ws0
    replace ws1 := bb.cell_some ws1
    replace ws2 := bb.cell_some ws2
    have bf : Onto w2 (w2.alloc (.cells #[.int .i64 1048576, .int .i64 b, .int .i64 c] 22)) := (Onto.refl _).alloc _ _
    replace xs0 := bf.cell_some xs0
    replace xs1 := bf.cell_some xs1
    replace xs2 := bf.cell_some xs2
    clear bb bf
    go_wp2_with fail
    refine (dot_some 1048576 b c x y z _ (tab_onto TT.out (O2.out.alloc _ _))).mono ?_
    rintro e w3 ⟨⟨q, f, rfl⟩, o⟩
    have O3 : Hid (Onto w w3) := (O2.out.alloc _ _).trans o
    replace xs0 := o.cell_some xs0
    replace xs1 := o.cell_some xs1
    replace xs2 := o.cell_some xs2
    obtain ⟨vs0, vs1, vs2⟩ := keep3 o (made3 w2 _ _ _ 22)
    clear o O2
    clear ws0 ws1 ws2 vw0 vw1 vw2 vs0 vs1 vs2
    go_wp2_with (go_at_call 13; go_in)
    go_wp2
    go_ret
    exact ⟨rfl, O3.out⟩
  · clear T hm hk
    go_enter Tryd.func6, Tryd.ntmps6
    go_wp2_with fail
    refine (awake_true _ (tab_onto TT.out (((Onto.refl w).alloc _ _).alloc _ _))).mono ?_
    rintro e w1 ⟨rfl, o⟩
    have O1 : Hid (Onto w w1) := (((Onto.refl w).alloc _ _).alloc _ _).trans o
    obtain ⟨⟨ws0, ws1, ws2⟩, xs0, xs1, xs2⟩ := box2 o
    clear o
    go_wp2_with fail
    refine (dot_no a b c x y z M.out _).mono ?_
    rintro e w2 ⟨rfl, o⟩
    have O2 : Hid (Onto w w2) := (O1.out).trans o
    replace ws0 := o.cell_some ws0
    replace ws1 := o.cell_some ws1
    replace ws2 := o.cell_some ws2
    replace xs0 := o.cell_some xs0
    replace xs1 := o.cell_some xs1
    replace xs2 := o.cell_some xs2
    clear o O1
    have vw0 := ws0
    have vw1 := ws1
    have vw2 := ws2
    have bb : Onto w2 (w2.alloc (.cells #[.int .i64 a, .int .i64 b, .int .i64 c] 22)) := (Onto.refl _).alloc _ _
    replace ws0 := bb.cell_some ws0
    replace ws1 := bb.cell_some ws1
    replace ws2 := bb.cell_some ws2
    have bf : Onto w2 (w2.alloc (.cells #[.int .i64 s, .int .i64 b, .int .i64 c] 22)) := (Onto.refl _).alloc _ _
    replace xs0 := bf.cell_some xs0
    replace xs1 := bf.cell_some xs1
    replace xs2 := bf.cell_some xs2
    clear bb bf
    go_wp2_with fail
    refine (dot_some s b c x y z _ (tab_onto TT.out (O2.out.alloc _ _))).mono ?_
    rintro e w3 ⟨⟨q, f, rfl⟩, o⟩
    have O3 : Hid (Onto w w3) := (O2.out.alloc _ _).trans o
    replace xs0 := o.cell_some xs0
    replace xs1 := o.cell_some xs1
    replace xs2 := o.cell_some xs2
    obtain ⟨vs0, vs1, vs2⟩ := keep3 o (made3 w2 _ _ _ 22)
    clear o O2
    clear ws0 ws1 ws2 vw0 vw1 vw2 vs0 vs1 vs2
    go_wp2_with (go_at_call 13; go_in)
    go_wp2
    go_ret
    exact ⟨rfl, O3.out⟩

set_option maxHeartbeats 2000000 in
theorem more_yes0 (a b c x y z n m : Int) (hm : May a b c x y z) (hk : n % 18446744073709551616 % 3 = 0) (w : World) (T : Tab w) :
    Calls Tryd.prog 6 #[.agg #[.int .i64 a, .int .i64 b, .int .i64 c], .agg #[.int .i64 x, .int .i64 y, .int .i64 z], .int .i64 n, .int .i64 m] w fun e w' => e = .returned (.bool true) ∧ Onto w w' := by
  have TT : Hid (Tab w) := T
  have M : Hid (May a b c x y z) := hm
  obtain ⟨p, hp⟩ : ∃ p, dot a b c x y z = p := ⟨_, rfl⟩
  have P : Hid (dot a b c x y z = p) := hp
  obtain ⟨p0, p1⟩ := dot_range a b c x y z
  rw [hp] at p0 p1
  clear p0 p1
  have hv := mval n 3 0 (by decide) (by decide) hk
  have ha := and16 m
  have d0 : 0 ≤ m % 65536 := by omega
  have d1 : m % 65536 < 65536 := by omega
  generalize m % 65536 = d at *
  obtain ⟨s, hs⟩ : ∃ s, wrap64 (a + d) = s := ⟨_, rfl⟩
  have hsa : s = a + d := by
    have := hm.1
    rw [← hs, wrap64]; omega
  by_cases hU : 1048576 ≤ s
  · have MU : Hid (May 1048576 b c x y z) := ⟨⟨by have := hm.1; omega, by omega⟩, hm.2.1, hm.2.2.1, hm.2.2.2.1, hm.2.2.2.2.1, hm.2.2.2.2.2⟩
    have mo := dot_more0 a b c x y z 1048576 (by have := hm.1; omega)
    obtain ⟨q, hq⟩ : ∃ q, dot 1048576 b c x y z = q := ⟨_, rfl⟩
    have Q : Hid (dot 1048576 b c x y z = q) := hq
    rw [hp, hq] at mo
    have MO : Hid ((0 ≤ x → p ≤ q) ∧ (x ≤ 0 → q ≤ p)) := mo
    clear mo hq hsa hp
    clear T hm hk
    go_enter Tryd.func6, Tryd.ntmps6
    go_wp2_with fail
    refine (awake_true _ (tab_onto TT.out (((Onto.refl w).alloc _ _).alloc _ _))).mono ?_
    rintro e w1 ⟨rfl, o⟩
    have O1 : Hid (Onto w w1) := (((Onto.refl w).alloc _ _).alloc _ _).trans o
    obtain ⟨⟨ws0, ws1, ws2⟩, xs0, xs1, xs2⟩ := box2 o
    clear o
    go_wp2_with fail
    refine (dot_may a b c x y z p M.out P.out _ (tab_onto TT.out (O1.out))).mono ?_
    rintro e w2 ⟨rfl, o⟩
    have O2 : Hid (Onto w w2) := (O1.out).trans o
    replace ws0 := o.cell_some ws0
    replace ws1 := o.cell_some ws1
    replace ws2 := o.cell_some ws2
    replace xs0 := o.cell_some xs0
    replace xs1 := o.cell_some xs1
    replace xs2 := o.cell_some xs2
    clear o O1
    have vw0 := ws0
    have vw1 := ws1
    have vw2 := ws2
    have bb : Onto w2 (w2.alloc (.cells #[.int .i64 a, .int .i64 b, .int .i64 c] 22)) := (Onto.refl _).alloc _ _
    replace ws0 := bb.cell_some ws0
    replace ws1 := bb.cell_some ws1
    replace ws2 := bb.cell_some ws2
    have bf : Onto w2 (w2.alloc (.cells #[.int .i64 1048576, .int .i64 b, .int .i64 c] 22)) := (Onto.refl _).alloc _ _
    replace xs0 := bf.cell_some xs0
    replace xs1 := bf.cell_some xs1
    replace xs2 := bf.cell_some xs2
    clear bb bf
    go_wp2_with fail
    refine (dot_may 1048576 b c x y z q MU.out Q.out _ (tab_onto TT.out (O2.out.alloc _ _))).mono ?_
    rintro e w3 ⟨rfl, o⟩
    have O3 : Hid (Onto w w3) := (O2.out.alloc _ _).trans o
    replace xs0 := o.cell_some xs0
    replace xs1 := o.cell_some xs1
    replace xs2 := o.cell_some xs2
    obtain ⟨vs0, vs1, vs2⟩ := keep3 o (made3 w2 _ _ _ 22)
    clear o O2
    clear ws0 ws1 ws2 vw0 vw1 vw2 vs0 vs1 vs2
    go_wp2_with fail
    refine (num_ok 0 _).mono ?_
    rintro e w9 ⟨rfl, rfl⟩
    go_wp2_with fail
    refine (num_ok 0 _).mono ?_
    rintro e w9 ⟨rfl, rfl⟩
    obtain ⟨m1, m2⟩ := MO.out
    rcases Int.lt_trichotomy x 0 with hx | hx | hx
    · have e1 := m2 (by omega)
      have t0 : decide (0 < x) = false := decide_eq_false (by omega)
      have t1 : decide (x < 0) = true := decide_eq_true hx
      have t2 : (x == 0) = false := by simp; omega
      clear m1 m2
      go_wp2
      go_ret
      exact ⟨rfl, O3.out⟩
    · have e1 : q = p := Int.le_antisymm (m2 (by omega)) (m1 (by omega))
      subst hx
      subst e1
      clear m1 m2
      go_wp2
      go_ret
      exact ⟨rfl, O3.out⟩
    · have e1 := m1 (by omega)
      have t0 : decide (0 < x) = true := decide_eq_true hx
      have t1 : decide (x < 0) = false := decide_eq_false (by omega)
      have t2 : (x == 0) = false := by simp; omega
      clear m1 m2
      go_wp2
      go_ret
      exact ⟨rfl, O3.out⟩
  · have MU : Hid (May s b c x y z) := ⟨⟨by have := hm.1; omega, by omega⟩, hm.2.1, hm.2.2.1, hm.2.2.2.1, hm.2.2.2.2.1, hm.2.2.2.2.2⟩
    have mo := dot_more0 a b c x y z s (by have := hm.1; omega)
    obtain ⟨q, hq⟩ : ∃ q, dot s b c x y z = q := ⟨_, rfl⟩
    have Q : Hid (dot s b c x y z = q) := hq
    rw [hp, hq] at mo
    have MO : Hid ((0 ≤ x → p ≤ q) ∧ (x ≤ 0 → q ≤ p)) := mo
    clear mo hq hsa hp
    clear T hm hk
    go_enter Tryd.func6, Tryd.ntmps6
    go_wp2_with fail
    refine (awake_true _ (tab_onto TT.out (((Onto.refl w).alloc _ _).alloc _ _))).mono ?_
    rintro e w1 ⟨rfl, o⟩
    have O1 : Hid (Onto w w1) := (((Onto.refl w).alloc _ _).alloc _ _).trans o
    obtain ⟨⟨ws0, ws1, ws2⟩, xs0, xs1, xs2⟩ := box2 o
    clear o
    go_wp2_with fail
    refine (dot_may a b c x y z p M.out P.out _ (tab_onto TT.out (O1.out))).mono ?_
    rintro e w2 ⟨rfl, o⟩
    have O2 : Hid (Onto w w2) := (O1.out).trans o
    replace ws0 := o.cell_some ws0
    replace ws1 := o.cell_some ws1
    replace ws2 := o.cell_some ws2
    replace xs0 := o.cell_some xs0
    replace xs1 := o.cell_some xs1
    replace xs2 := o.cell_some xs2
    clear o O1
    have vw0 := ws0
    have vw1 := ws1
    have vw2 := ws2
    have bb : Onto w2 (w2.alloc (.cells #[.int .i64 a, .int .i64 b, .int .i64 c] 22)) := (Onto.refl _).alloc _ _
    replace ws0 := bb.cell_some ws0
    replace ws1 := bb.cell_some ws1
    replace ws2 := bb.cell_some ws2
    have bf : Onto w2 (w2.alloc (.cells #[.int .i64 s, .int .i64 b, .int .i64 c] 22)) := (Onto.refl _).alloc _ _
    replace xs0 := bf.cell_some xs0
    replace xs1 := bf.cell_some xs1
    replace xs2 := bf.cell_some xs2
    clear bb bf
    go_wp2_with fail
    refine (dot_may s b c x y z q MU.out Q.out _ (tab_onto TT.out (O2.out.alloc _ _))).mono ?_
    rintro e w3 ⟨rfl, o⟩
    have O3 : Hid (Onto w w3) := (O2.out.alloc _ _).trans o
    replace xs0 := o.cell_some xs0
    replace xs1 := o.cell_some xs1
    replace xs2 := o.cell_some xs2
    obtain ⟨vs0, vs1, vs2⟩ := keep3 o (made3 w2 _ _ _ 22)
    clear o O2
    clear ws0 ws1 ws2 vw0 vw1 vw2 vs0 vs1 vs2
    go_wp2_with fail
    refine (num_ok 0 _).mono ?_
    rintro e w9 ⟨rfl, rfl⟩
    go_wp2_with fail
    refine (num_ok 0 _).mono ?_
    rintro e w9 ⟨rfl, rfl⟩
    obtain ⟨m1, m2⟩ := MO.out
    rcases Int.lt_trichotomy x 0 with hx | hx | hx
    · have e1 := m2 (by omega)
      have t0 : decide (0 < x) = false := decide_eq_false (by omega)
      have t1 : decide (x < 0) = true := decide_eq_true hx
      have t2 : (x == 0) = false := by simp; omega
      clear m1 m2
      go_wp2
      go_ret
      exact ⟨rfl, O3.out⟩
    · have e1 : q = p := Int.le_antisymm (m2 (by omega)) (m1 (by omega))
      subst hx
      subst e1
      clear m1 m2
      go_wp2
      go_ret
      exact ⟨rfl, O3.out⟩
    · have e1 := m1 (by omega)
      have t0 : decide (0 < x) = true := decide_eq_true hx
      have t1 : decide (x < 0) = false := decide_eq_false (by omega)
      have t2 : (x == 0) = false := by simp; omega
      clear m1 m2
      go_wp2
      go_ret
      exact ⟨rfl, O3.out⟩

theorem dot_more1 (a b c x y z U : Int) (h : b ≤ U) : (0 ≤ y → dot a b c x y z ≤ dot a U c x y z) ∧ (y ≤ 0 → dot a U c x y z ≤ dot a b c x y z) := by
  obtain ⟨u, v⟩ := sum_more b y U h
  exact ⟨fun hx => dot_mono (by have := u hx; unfold sum; omega), fun hx => dot_mono (by have := v hx; unfold sum; omega)⟩

set_option maxHeartbeats 2000000 in
theorem more_no1 (a b c x y z n m : Int) (hm : ¬ May a b c x y z) (hk : n % 18446744073709551616 % 3 = 1) (w : World) (T : Tab w) :
    Calls Tryd.prog 6 #[.agg #[.int .i64 a, .int .i64 b, .int .i64 c], .agg #[.int .i64 x, .int .i64 y, .int .i64 z], .int .i64 n, .int .i64 m] w fun e w' => e = .returned (.bool true) ∧ Onto w w' := by
  have TT : Hid (Tab w) := T
  have M : Hid (¬ May a b c x y z) := hm
  have hv := mval n 3 1 (by decide) (by decide) hk
  have ha := and16 m
  have d0 : 0 ≤ m % 65536 := by omega
  have d1 : m % 65536 < 65536 := by omega
  generalize m % 65536 = d at *
  obtain ⟨s, hs⟩ : ∃ s, wrap64 (b + d) = s := ⟨_, rfl⟩
  by_cases hU : 1048576 ≤ s
  · clear T hm hk
    go_enter Tryd.func6, Tryd.ntmps6
    go_wp2_with fail
    refine (awake_true _ (tab_onto TT.out (((Onto.refl w).alloc _ _).alloc _ _))).mono ?_
    rintro e w1 ⟨rfl, o⟩
    have O1 : Hid (Onto w w1) := (((Onto.refl w).alloc _ _).alloc _ _).trans o
    obtain ⟨⟨ws0, ws1, ws2⟩, xs0, xs1, xs2⟩ := box2 o
    clear o
    go_wp2_with fail
    refine (dot_no a b c x y z M.out _).mono ?_
    rintro e w2 ⟨rfl, o⟩
    have O2 : Hid (Onto w w2) := (O1.out).trans o
    replace ws0 := o.cell_some ws0
    replace ws1 := o.cell_some ws1
    replace ws2 := o.cell_some ws2
    replace xs0 := o.cell_some xs0
    replace xs1 := o.cell_some xs1
    replace xs2 := o.cell_some xs2
    clear o O1
    have vw0 := ws0
    have vw1 := ws1
    have vw2 := ws2
    have bb : Onto w2 (w2.alloc (.cells #[.int .i64 a, .int .i64 b, .int .i64 c] 22)) := (Onto.refl _).alloc _ _
    replace ws0 := bb.cell_some ws0
    replace ws1 := bb.cell_some ws1
    replace ws2 := bb.cell_some ws2
    have bf : Onto w2 (w2.alloc (.cells #[.int .i64 a, .int .i64 1048576, .int .i64 c] 22)) := (Onto.refl _).alloc _ _
    replace xs0 := bf.cell_some xs0
    replace xs1 := bf.cell_some xs1
    replace xs2 := bf.cell_some xs2
    clear bb bf
    go_wp2_with fail
    refine (dot_some a 1048576 c x y z _ (tab_onto TT.out (O2.out.alloc _ _))).mono ?_
    rintro e w3 ⟨⟨q, f, rfl⟩, o⟩
    have O3 : Hid (Onto w w3) := (O2.out.alloc _ _).trans o
    replace xs0 := o.cell_some xs0
    replace xs1 := o.cell_some xs1
    replace xs2 := o.cell_some xs2
    obtain ⟨vs0, vs1, vs2⟩ := keep3 o (made3 w2 _ _ _ 22)
    clear o O2
    clear ws0 ws1 ws2 vw0 vw1 vw2 vs0 vs1 vs2
    go_wp2_with (go_at_call 13; go_in)
    go_wp2
    go_ret
    exact ⟨rfl, O3.out⟩
  · clear T hm hk
    go_enter Tryd.func6, Tryd.ntmps6
    go_wp2_with fail
    refine (awake_true _ (tab_onto TT.out (((Onto.refl w).alloc _ _).alloc _ _))).mono ?_
    rintro e w1 ⟨rfl, o⟩
    have O1 : Hid (Onto w w1) := (((Onto.refl w).alloc _ _).alloc _ _).trans o
    obtain ⟨⟨ws0, ws1, ws2⟩, xs0, xs1, xs2⟩ := box2 o
    clear o
    go_wp2_with fail
    refine (dot_no a b c x y z M.out _).mono ?_
    rintro e w2 ⟨rfl, o⟩
    have O2 : Hid (Onto w w2) := (O1.out).trans o
    replace ws0 := o.cell_some ws0
    replace ws1 := o.cell_some ws1
    replace ws2 := o.cell_some ws2
    replace xs0 := o.cell_some xs0
    replace xs1 := o.cell_some xs1
    replace xs2 := o.cell_some xs2
    clear o O1
    have vw0 := ws0
    have vw1 := ws1
    have vw2 := ws2
    have bb : Onto w2 (w2.alloc (.cells #[.int .i64 a, .int .i64 b, .int .i64 c] 22)) := (Onto.refl _).alloc _ _
    replace ws0 := bb.cell_some ws0
    replace ws1 := bb.cell_some ws1
    replace ws2 := bb.cell_some ws2
    have bf : Onto w2 (w2.alloc (.cells #[.int .i64 a, .int .i64 s, .int .i64 c] 22)) := (Onto.refl _).alloc _ _
    replace xs0 := bf.cell_some xs0
    replace xs1 := bf.cell_some xs1
    replace xs2 := bf.cell_some xs2
    clear bb bf
    go_wp2_with fail
    refine (dot_some a s c x y z _ (tab_onto TT.out (O2.out.alloc _ _))).mono ?_
    rintro e w3 ⟨⟨q, f, rfl⟩, o⟩
    have O3 : Hid (Onto w w3) := (O2.out.alloc _ _).trans o
    replace xs0 := o.cell_some xs0
    replace xs1 := o.cell_some xs1
    replace xs2 := o.cell_some xs2
    obtain ⟨vs0, vs1, vs2⟩ := keep3 o (made3 w2 _ _ _ 22)
    clear o O2
    clear ws0 ws1 ws2 vw0 vw1 vw2 vs0 vs1 vs2
    go_wp2_with (go_at_call 13; go_in)
    go_wp2
    go_ret
    exact ⟨rfl, O3.out⟩

set_option maxHeartbeats 2000000 in
theorem more_yes1 (a b c x y z n m : Int) (hm : May a b c x y z) (hk : n % 18446744073709551616 % 3 = 1) (w : World) (T : Tab w) :
    Calls Tryd.prog 6 #[.agg #[.int .i64 a, .int .i64 b, .int .i64 c], .agg #[.int .i64 x, .int .i64 y, .int .i64 z], .int .i64 n, .int .i64 m] w fun e w' => e = .returned (.bool true) ∧ Onto w w' := by
  have TT : Hid (Tab w) := T
  have M : Hid (May a b c x y z) := hm
  obtain ⟨p, hp⟩ : ∃ p, dot a b c x y z = p := ⟨_, rfl⟩
  have P : Hid (dot a b c x y z = p) := hp
  obtain ⟨p0, p1⟩ := dot_range a b c x y z
  rw [hp] at p0 p1
  clear p0 p1
  have hv := mval n 3 1 (by decide) (by decide) hk
  have ha := and16 m
  have d0 : 0 ≤ m % 65536 := by omega
  have d1 : m % 65536 < 65536 := by omega
  generalize m % 65536 = d at *
  obtain ⟨s, hs⟩ : ∃ s, wrap64 (b + d) = s := ⟨_, rfl⟩
  have hsa : s = b + d := by
    have := hm.2.1
    rw [← hs, wrap64]; omega
  by_cases hU : 1048576 ≤ s
  · have MU : Hid (May a 1048576 c x y z) := ⟨hm.1, ⟨by have := hm.2.1; omega, by omega⟩, hm.2.2.1, hm.2.2.2.1, hm.2.2.2.2.1, hm.2.2.2.2.2⟩
    have mo := dot_more1 a b c x y z 1048576 (by have := hm.2.1; omega)
    obtain ⟨q, hq⟩ : ∃ q, dot a 1048576 c x y z = q := ⟨_, rfl⟩
    have Q : Hid (dot a 1048576 c x y z = q) := hq
    rw [hp, hq] at mo
    have MO : Hid ((0 ≤ y → p ≤ q) ∧ (y ≤ 0 → q ≤ p)) := mo
    clear mo hq hsa hp
    clear T hm hk
    go_enter Tryd.func6, Tryd.ntmps6
    go_wp2_with fail
    refine (awake_true _ (tab_onto TT.out (((Onto.refl w).alloc _ _).alloc _ _))).mono ?_
    rintro e w1 ⟨rfl, o⟩
    have O1 : Hid (Onto w w1) := (((Onto.refl w).alloc _ _).alloc _ _).trans o
    obtain ⟨⟨ws0, ws1, ws2⟩, xs0, xs1, xs2⟩ := box2 o
    clear o
    go_wp2_with fail
    refine (dot_may a b c x y z p M.out P.out _ (tab_onto TT.out (O1.out))).mono ?_
    rintro e w2 ⟨rfl, o⟩
    have O2 : Hid (Onto w w2) := (O1.out).trans o
    replace ws0 := o.cell_some ws0
    replace ws1 := o.cell_some ws1
    replace ws2 := o.cell_some ws2
    replace xs0 := o.cell_some xs0
    replace xs1 := o.cell_some xs1
    replace xs2 := o.cell_some xs2
    clear o O1
    have vw0 := ws0
    have vw1 := ws1
    have vw2 := ws2
    have bb : Onto w2 (w2.alloc (.cells #[.int .i64 a, .int .i64 b, .int .i64 c] 22)) := (Onto.refl _).alloc _ _
    replace ws0 := bb.cell_some ws0
    replace ws1 := bb.cell_some ws1
    replace ws2 := bb.cell_some ws2
    have bf : Onto w2 (w2.alloc (.cells #[.int .i64 a, .int .i64 1048576, .int .i64 c] 22)) := (Onto.refl _).alloc _ _
    replace xs0 := bf.cell_some xs0
    replace xs1 := bf.cell_some xs1
    replace xs2 := bf.cell_some xs2
    clear bb bf
    go_wp2_with fail
    refine (dot_may a 1048576 c x y z q MU.out Q.out _ (tab_onto TT.out (O2.out.alloc _ _))).mono ?_
    rintro e w3 ⟨rfl, o⟩
    have O3 : Hid (Onto w w3) := (O2.out.alloc _ _).trans o
    replace xs0 := o.cell_some xs0
    replace xs1 := o.cell_some xs1
    replace xs2 := o.cell_some xs2
    obtain ⟨vs0, vs1, vs2⟩ := keep3 o (made3 w2 _ _ _ 22)
    clear o O2
    clear ws0 ws1 ws2 vw0 vw1 vw2 vs0 vs1 vs2
    go_wp2_with fail
    refine (num_ok 0 _).mono ?_
    rintro e w9 ⟨rfl, rfl⟩
    go_wp2_with fail
    refine (num_ok 0 _).mono ?_
    rintro e w9 ⟨rfl, rfl⟩
    obtain ⟨m1, m2⟩ := MO.out
    rcases Int.lt_trichotomy y 0 with hx | hx | hx
    · have e1 := m2 (by omega)
      have t0 : decide (0 < y) = false := decide_eq_false (by omega)
      have t1 : decide (y < 0) = true := decide_eq_true hx
      have t2 : (y == 0) = false := by simp; omega
      clear m1 m2
      go_wp2
      go_ret
      exact ⟨rfl, O3.out⟩
    · have e1 : q = p := Int.le_antisymm (m2 (by omega)) (m1 (by omega))
      subst hx
      subst e1
      clear m1 m2
      go_wp2
      go_ret
      exact ⟨rfl, O3.out⟩
    · have e1 := m1 (by omega)
      have t0 : decide (0 < y) = true := decide_eq_true hx
      have t1 : decide (y < 0) = false := decide_eq_false (by omega)
      have t2 : (y == 0) = false := by simp; omega
      clear m1 m2
      go_wp2
      go_ret
      exact ⟨rfl, O3.out⟩
  · have MU : Hid (May a s c x y z) := ⟨hm.1, ⟨by have := hm.2.1; omega, by omega⟩, hm.2.2.1, hm.2.2.2.1, hm.2.2.2.2.1, hm.2.2.2.2.2⟩
    have mo := dot_more1 a b c x y z s (by have := hm.2.1; omega)
    obtain ⟨q, hq⟩ : ∃ q, dot a s c x y z = q := ⟨_, rfl⟩
    have Q : Hid (dot a s c x y z = q) := hq
    rw [hp, hq] at mo
    have MO : Hid ((0 ≤ y → p ≤ q) ∧ (y ≤ 0 → q ≤ p)) := mo
    clear mo hq hsa hp
    clear T hm hk
    go_enter Tryd.func6, Tryd.ntmps6
    go_wp2_with fail
    refine (awake_true _ (tab_onto TT.out (((Onto.refl w).alloc _ _).alloc _ _))).mono ?_
    rintro e w1 ⟨rfl, o⟩
    have O1 : Hid (Onto w w1) := (((Onto.refl w).alloc _ _).alloc _ _).trans o
    obtain ⟨⟨ws0, ws1, ws2⟩, xs0, xs1, xs2⟩ := box2 o
    clear o
    go_wp2_with fail
    refine (dot_may a b c x y z p M.out P.out _ (tab_onto TT.out (O1.out))).mono ?_
    rintro e w2 ⟨rfl, o⟩
    have O2 : Hid (Onto w w2) := (O1.out).trans o
    replace ws0 := o.cell_some ws0
    replace ws1 := o.cell_some ws1
    replace ws2 := o.cell_some ws2
    replace xs0 := o.cell_some xs0
    replace xs1 := o.cell_some xs1
    replace xs2 := o.cell_some xs2
    clear o O1
    have vw0 := ws0
    have vw1 := ws1
    have vw2 := ws2
    have bb : Onto w2 (w2.alloc (.cells #[.int .i64 a, .int .i64 b, .int .i64 c] 22)) := (Onto.refl _).alloc _ _
    replace ws0 := bb.cell_some ws0
    replace ws1 := bb.cell_some ws1
    replace ws2 := bb.cell_some ws2
    have bf : Onto w2 (w2.alloc (.cells #[.int .i64 a, .int .i64 s, .int .i64 c] 22)) := (Onto.refl _).alloc _ _
    replace xs0 := bf.cell_some xs0
    replace xs1 := bf.cell_some xs1
    replace xs2 := bf.cell_some xs2
    clear bb bf
    go_wp2_with fail
    refine (dot_may a s c x y z q MU.out Q.out _ (tab_onto TT.out (O2.out.alloc _ _))).mono ?_
    rintro e w3 ⟨rfl, o⟩
    have O3 : Hid (Onto w w3) := (O2.out.alloc _ _).trans o
    replace xs0 := o.cell_some xs0
    replace xs1 := o.cell_some xs1
    replace xs2 := o.cell_some xs2
    obtain ⟨vs0, vs1, vs2⟩ := keep3 o (made3 w2 _ _ _ 22)
    clear o O2
    clear ws0 ws1 ws2 vw0 vw1 vw2 vs0 vs1 vs2
    go_wp2_with fail
    refine (num_ok 0 _).mono ?_
    rintro e w9 ⟨rfl, rfl⟩
    go_wp2_with fail
    refine (num_ok 0 _).mono ?_
    rintro e w9 ⟨rfl, rfl⟩
    obtain ⟨m1, m2⟩ := MO.out
    rcases Int.lt_trichotomy y 0 with hx | hx | hx
    · have e1 := m2 (by omega)
      have t0 : decide (0 < y) = false := decide_eq_false (by omega)
      have t1 : decide (y < 0) = true := decide_eq_true hx
      have t2 : (y == 0) = false := by simp; omega
      clear m1 m2
      go_wp2
      go_ret
      exact ⟨rfl, O3.out⟩
    · have e1 : q = p := Int.le_antisymm (m2 (by omega)) (m1 (by omega))
      subst hx
      subst e1
      clear m1 m2
      go_wp2
      go_ret
      exact ⟨rfl, O3.out⟩
    · have e1 := m1 (by omega)
      have t0 : decide (0 < y) = true := decide_eq_true hx
      have t1 : decide (y < 0) = false := decide_eq_false (by omega)
      have t2 : (y == 0) = false := by simp; omega
      clear m1 m2
      go_wp2
      go_ret
      exact ⟨rfl, O3.out⟩

theorem dot_more2 (a b c x y z U : Int) (h : c ≤ U) : (0 ≤ z → dot a b c x y z ≤ dot a b U x y z) ∧ (z ≤ 0 → dot a b U x y z ≤ dot a b c x y z) := by
  obtain ⟨u, v⟩ := sum_more c z U h
  exact ⟨fun hx => dot_mono (by have := u hx; unfold sum; omega), fun hx => dot_mono (by have := v hx; unfold sum; omega)⟩

set_option maxHeartbeats 2000000 in
theorem more_no2 (a b c x y z n m : Int) (hm : ¬ May a b c x y z) (hk : n % 18446744073709551616 % 3 = 2) (w : World) (T : Tab w) :
    Calls Tryd.prog 6 #[.agg #[.int .i64 a, .int .i64 b, .int .i64 c], .agg #[.int .i64 x, .int .i64 y, .int .i64 z], .int .i64 n, .int .i64 m] w fun e w' => e = .returned (.bool true) ∧ Onto w w' := by
  have TT : Hid (Tab w) := T
  have M : Hid (¬ May a b c x y z) := hm
  have hv := mval n 3 2 (by decide) (by decide) hk
  have ha := and16 m
  have d0 : 0 ≤ m % 65536 := by omega
  have d1 : m % 65536 < 65536 := by omega
  generalize m % 65536 = d at *
  obtain ⟨s, hs⟩ : ∃ s, wrap64 (c + d) = s := ⟨_, rfl⟩
  by_cases hU : 1048576 ≤ s
  · clear T hm hk
    go_enter Tryd.func6, Tryd.ntmps6
    go_wp2_with fail
    refine (awake_true _ (tab_onto TT.out (((Onto.refl w).alloc _ _).alloc _ _))).mono ?_
    rintro e w1 ⟨rfl, o⟩
    have O1 : Hid (Onto w w1) := (((Onto.refl w).alloc _ _).alloc _ _).trans o
    obtain ⟨⟨ws0, ws1, ws2⟩, xs0, xs1, xs2⟩ := box2 o
    clear o
    go_wp2_with fail
    refine (dot_no a b c x y z M.out _).mono ?_
    rintro e w2 ⟨rfl, o⟩
    have O2 : Hid (Onto w w2) := (O1.out).trans o
    replace ws0 := o.cell_some ws0
    replace ws1 := o.cell_some ws1
    replace ws2 := o.cell_some ws2
    replace xs0 := o.cell_some xs0
    replace xs1 := o.cell_some xs1
    replace xs2 := o.cell_some xs2
    clear o O1
    have vw0 := ws0
    have vw1 := ws1
    have vw2 := ws2
    have bb : Onto w2 (w2.alloc (.cells #[.int .i64 a, .int .i64 b, .int .i64 c] 22)) := (Onto.refl _).alloc _ _
    replace ws0 := bb.cell_some ws0
    replace ws1 := bb.cell_some ws1
    replace ws2 := bb.cell_some ws2
    have bf : Onto w2 (w2.alloc (.cells #[.int .i64 a, .int .i64 b, .int .i64 1048576] 22)) := (Onto.refl _).alloc _ _
    replace xs0 := bf.cell_some xs0
    replace xs1 := bf.cell_some xs1
    replace xs2 := bf.cell_some xs2
    clear bb bf
    go_wp2_with fail
    refine (dot_some a b 1048576 x y z _ (tab_onto TT.out (O2.out.alloc _ _))).mono ?_
    rintro e w3 ⟨⟨q, f, rfl⟩, o⟩
    have O3 : Hid (Onto w w3) := (O2.out.alloc _ _).trans o
    replace xs0 := o.cell_some xs0
    replace xs1 := o.cell_some xs1
    replace xs2 := o.cell_some xs2
    obtain ⟨vs0, vs1, vs2⟩ := keep3 o (made3 w2 _ _ _ 22)
    clear o O2
    clear ws0 ws1 ws2 vw0 vw1 vw2 vs0 vs1 vs2
    go_wp2_with (go_at_call 13; go_in)
    go_wp2
    go_ret
    exact ⟨rfl, O3.out⟩
  · clear T hm hk
    go_enter Tryd.func6, Tryd.ntmps6
    go_wp2_with fail
    refine (awake_true _ (tab_onto TT.out (((Onto.refl w).alloc _ _).alloc _ _))).mono ?_
    rintro e w1 ⟨rfl, o⟩
    have O1 : Hid (Onto w w1) := (((Onto.refl w).alloc _ _).alloc _ _).trans o
    obtain ⟨⟨ws0, ws1, ws2⟩, xs0, xs1, xs2⟩ := box2 o
    clear o
    go_wp2_with fail
    refine (dot_no a b c x y z M.out _).mono ?_
    rintro e w2 ⟨rfl, o⟩
    have O2 : Hid (Onto w w2) := (O1.out).trans o
    replace ws0 := o.cell_some ws0
    replace ws1 := o.cell_some ws1
    replace ws2 := o.cell_some ws2
    replace xs0 := o.cell_some xs0
    replace xs1 := o.cell_some xs1
    replace xs2 := o.cell_some xs2
    clear o O1
    have vw0 := ws0
    have vw1 := ws1
    have vw2 := ws2
    have bb : Onto w2 (w2.alloc (.cells #[.int .i64 a, .int .i64 b, .int .i64 c] 22)) := (Onto.refl _).alloc _ _
    replace ws0 := bb.cell_some ws0
    replace ws1 := bb.cell_some ws1
    replace ws2 := bb.cell_some ws2
    have bf : Onto w2 (w2.alloc (.cells #[.int .i64 a, .int .i64 b, .int .i64 s] 22)) := (Onto.refl _).alloc _ _
    replace xs0 := bf.cell_some xs0
    replace xs1 := bf.cell_some xs1
    replace xs2 := bf.cell_some xs2
    clear bb bf
    go_wp2_with fail
    refine (dot_some a b s x y z _ (tab_onto TT.out (O2.out.alloc _ _))).mono ?_
    rintro e w3 ⟨⟨q, f, rfl⟩, o⟩
    have O3 : Hid (Onto w w3) := (O2.out.alloc _ _).trans o
    replace xs0 := o.cell_some xs0
    replace xs1 := o.cell_some xs1
    replace xs2 := o.cell_some xs2
    obtain ⟨vs0, vs1, vs2⟩ := keep3 o (made3 w2 _ _ _ 22)
    clear o O2
    clear ws0 ws1 ws2 vw0 vw1 vw2 vs0 vs1 vs2
    go_wp2_with (go_at_call 13; go_in)
    go_wp2
    go_ret
    exact ⟨rfl, O3.out⟩

set_option maxHeartbeats 2000000 in
theorem more_yes2 (a b c x y z n m : Int) (hm : May a b c x y z) (hk : n % 18446744073709551616 % 3 = 2) (w : World) (T : Tab w) :
    Calls Tryd.prog 6 #[.agg #[.int .i64 a, .int .i64 b, .int .i64 c], .agg #[.int .i64 x, .int .i64 y, .int .i64 z], .int .i64 n, .int .i64 m] w fun e w' => e = .returned (.bool true) ∧ Onto w w' := by
  have TT : Hid (Tab w) := T
  have M : Hid (May a b c x y z) := hm
  obtain ⟨p, hp⟩ : ∃ p, dot a b c x y z = p := ⟨_, rfl⟩
  have P : Hid (dot a b c x y z = p) := hp
  obtain ⟨p0, p1⟩ := dot_range a b c x y z
  rw [hp] at p0 p1
  clear p0 p1
  have hv := mval n 3 2 (by decide) (by decide) hk
  have ha := and16 m
  have d0 : 0 ≤ m % 65536 := by omega
  have d1 : m % 65536 < 65536 := by omega
  generalize m % 65536 = d at *
  obtain ⟨s, hs⟩ : ∃ s, wrap64 (c + d) = s := ⟨_, rfl⟩
  have hsa : s = c + d := by
    have := hm.2.2.1
    rw [← hs, wrap64]; omega
  by_cases hU : 1048576 ≤ s
  · have MU : Hid (May a b 1048576 x y z) := ⟨hm.1, hm.2.1, ⟨by have := hm.2.2.1; omega, by omega⟩, hm.2.2.2.1, hm.2.2.2.2.1, hm.2.2.2.2.2⟩
    have mo := dot_more2 a b c x y z 1048576 (by have := hm.2.2.1; omega)
    obtain ⟨q, hq⟩ : ∃ q, dot a b 1048576 x y z = q := ⟨_, rfl⟩
    have Q : Hid (dot a b 1048576 x y z = q) := hq
    rw [hp, hq] at mo
    have MO : Hid ((0 ≤ z → p ≤ q) ∧ (z ≤ 0 → q ≤ p)) := mo
    clear mo hq hsa hp
    clear T hm hk
    go_enter Tryd.func6, Tryd.ntmps6
    go_wp2_with fail
    refine (awake_true _ (tab_onto TT.out (((Onto.refl w).alloc _ _).alloc _ _))).mono ?_
    rintro e w1 ⟨rfl, o⟩
    have O1 : Hid (Onto w w1) := (((Onto.refl w).alloc _ _).alloc _ _).trans o
    obtain ⟨⟨ws0, ws1, ws2⟩, xs0, xs1, xs2⟩ := box2 o
    clear o
    go_wp2_with fail
    refine (dot_may a b c x y z p M.out P.out _ (tab_onto TT.out (O1.out))).mono ?_
    rintro e w2 ⟨rfl, o⟩
    have O2 : Hid (Onto w w2) := (O1.out).trans o
    replace ws0 := o.cell_some ws0
    replace ws1 := o.cell_some ws1
    replace ws2 := o.cell_some ws2
    replace xs0 := o.cell_some xs0
    replace xs1 := o.cell_some xs1
    replace xs2 := o.cell_some xs2
    clear o O1
    have vw0 := ws0
    have vw1 := ws1
    have vw2 := ws2
    have bb : Onto w2 (w2.alloc (.cells #[.int .i64 a, .int .i64 b, .int .i64 c] 22)) := (Onto.refl _).alloc _ _
    replace ws0 := bb.cell_some ws0
    replace ws1 := bb.cell_some ws1
    replace ws2 := bb.cell_some ws2
    have bf : Onto w2 (w2.alloc (.cells #[.int .i64 a, .int .i64 b, .int .i64 1048576] 22)) := (Onto.refl _).alloc _ _
    replace xs0 := bf.cell_some xs0
    replace xs1 := bf.cell_some xs1
    replace xs2 := bf.cell_some xs2
    clear bb bf
    go_wp2_with fail
    refine (dot_may a b 1048576 x y z q MU.out Q.out _ (tab_onto TT.out (O2.out.alloc _ _))).mono ?_
    rintro e w3 ⟨rfl, o⟩
    have O3 : Hid (Onto w w3) := (O2.out.alloc _ _).trans o
    replace xs0 := o.cell_some xs0
    replace xs1 := o.cell_some xs1
    replace xs2 := o.cell_some xs2
    obtain ⟨vs0, vs1, vs2⟩ := keep3 o (made3 w2 _ _ _ 22)
    clear o O2
    clear ws0 ws1 ws2 vw0 vw1 vw2 vs0 vs1 vs2
    go_wp2_with fail
    refine (num_ok 0 _).mono ?_
    rintro e w9 ⟨rfl, rfl⟩
    go_wp2_with fail
    refine (num_ok 0 _).mono ?_
    rintro e w9 ⟨rfl, rfl⟩
    obtain ⟨m1, m2⟩ := MO.out
    rcases Int.lt_trichotomy z 0 with hx | hx | hx
    · have e1 := m2 (by omega)
      have t0 : decide (0 < z) = false := decide_eq_false (by omega)
      have t1 : decide (z < 0) = true := decide_eq_true hx
      have t2 : (z == 0) = false := by simp; omega
      clear m1 m2
      go_wp2
      go_ret
      exact ⟨rfl, O3.out⟩
    · have e1 : q = p := Int.le_antisymm (m2 (by omega)) (m1 (by omega))
      subst hx
      subst e1
      clear m1 m2
      go_wp2
      go_ret
      exact ⟨rfl, O3.out⟩
    · have e1 := m1 (by omega)
      have t0 : decide (0 < z) = true := decide_eq_true hx
      have t1 : decide (z < 0) = false := decide_eq_false (by omega)
      have t2 : (z == 0) = false := by simp; omega
      clear m1 m2
      go_wp2
      go_ret
      exact ⟨rfl, O3.out⟩
  · have MU : Hid (May a b s x y z) := ⟨hm.1, hm.2.1, ⟨by have := hm.2.2.1; omega, by omega⟩, hm.2.2.2.1, hm.2.2.2.2.1, hm.2.2.2.2.2⟩
    have mo := dot_more2 a b c x y z s (by have := hm.2.2.1; omega)
    obtain ⟨q, hq⟩ : ∃ q, dot a b s x y z = q := ⟨_, rfl⟩
    have Q : Hid (dot a b s x y z = q) := hq
    rw [hp, hq] at mo
    have MO : Hid ((0 ≤ z → p ≤ q) ∧ (z ≤ 0 → q ≤ p)) := mo
    clear mo hq hsa hp
    clear T hm hk
    go_enter Tryd.func6, Tryd.ntmps6
    go_wp2_with fail
    refine (awake_true _ (tab_onto TT.out (((Onto.refl w).alloc _ _).alloc _ _))).mono ?_
    rintro e w1 ⟨rfl, o⟩
    have O1 : Hid (Onto w w1) := (((Onto.refl w).alloc _ _).alloc _ _).trans o
    obtain ⟨⟨ws0, ws1, ws2⟩, xs0, xs1, xs2⟩ := box2 o
    clear o
    go_wp2_with fail
    refine (dot_may a b c x y z p M.out P.out _ (tab_onto TT.out (O1.out))).mono ?_
    rintro e w2 ⟨rfl, o⟩
    have O2 : Hid (Onto w w2) := (O1.out).trans o
    replace ws0 := o.cell_some ws0
    replace ws1 := o.cell_some ws1
    replace ws2 := o.cell_some ws2
    replace xs0 := o.cell_some xs0
    replace xs1 := o.cell_some xs1
    replace xs2 := o.cell_some xs2
    clear o O1
    have vw0 := ws0
    have vw1 := ws1
    have vw2 := ws2
    have bb : Onto w2 (w2.alloc (.cells #[.int .i64 a, .int .i64 b, .int .i64 c] 22)) := (Onto.refl _).alloc _ _
    replace ws0 := bb.cell_some ws0
    replace ws1 := bb.cell_some ws1
    replace ws2 := bb.cell_some ws2
    have bf : Onto w2 (w2.alloc (.cells #[.int .i64 a, .int .i64 b, .int .i64 s] 22)) := (Onto.refl _).alloc _ _
    replace xs0 := bf.cell_some xs0
    replace xs1 := bf.cell_some xs1
    replace xs2 := bf.cell_some xs2
    clear bb bf
    go_wp2_with fail
    refine (dot_may a b s x y z q MU.out Q.out _ (tab_onto TT.out (O2.out.alloc _ _))).mono ?_
    rintro e w3 ⟨rfl, o⟩
    have O3 : Hid (Onto w w3) := (O2.out.alloc _ _).trans o
    replace xs0 := o.cell_some xs0
    replace xs1 := o.cell_some xs1
    replace xs2 := o.cell_some xs2
    obtain ⟨vs0, vs1, vs2⟩ := keep3 o (made3 w2 _ _ _ 22)
    clear o O2
    clear ws0 ws1 ws2 vw0 vw1 vw2 vs0 vs1 vs2
    go_wp2_with fail
    refine (num_ok 0 _).mono ?_
    rintro e w9 ⟨rfl, rfl⟩
    go_wp2_with fail
    refine (num_ok 0 _).mono ?_
    rintro e w9 ⟨rfl, rfl⟩
    obtain ⟨m1, m2⟩ := MO.out
    rcases Int.lt_trichotomy z 0 with hx | hx | hx
    · have e1 := m2 (by omega)
      have t0 : decide (0 < z) = false := decide_eq_false (by omega)
      have t1 : decide (z < 0) = true := decide_eq_true hx
      have t2 : (z == 0) = false := by simp; omega
      clear m1 m2
      go_wp2
      go_ret
      exact ⟨rfl, O3.out⟩
    · have e1 : q = p := Int.le_antisymm (m2 (by omega)) (m1 (by omega))
      subst hx
      subst e1
      clear m1 m2
      go_wp2
      go_ret
      exact ⟨rfl, O3.out⟩
    · have e1 := m1 (by omega)
      have t0 : decide (0 < z) = true := decide_eq_true hx
      have t1 : decide (z < 0) = false := decide_eq_false (by omega)
      have t2 : (z == 0) = false := by simp; omega
      clear m1 m2
      go_wp2
      go_ret
      exact ⟨rfl, O3.out⟩

theorem more_walk (a b c x y z n m : Int) (w : World) (T : Tab w) :
    Calls Tryd.prog 6 #[.agg #[.int .i64 a, .int .i64 b, .int .i64 c], .agg #[.int .i64 x, .int .i64 y, .int .i64 z], .int .i64 n, .int .i64 m] w fun e w' => e = .returned (.bool true) ∧ Onto w w' := by
  rcases (show n % 18446744073709551616 % 3 = 0 ∨ n % 18446744073709551616 % 3 = 1 ∨ n % 18446744073709551616 % 3 = 2 from by omega) with h | h | h
  · by_cases hm : May a b c x y z
    · exact more_yes0 a b c x y z n m hm h w T
    · exact more_no0 a b c x y z n m hm h w T
  · by_cases hm : May a b c x y z
    · exact more_yes1 a b c x y z n m hm h w T
    · exact more_no1 a b c x y z n m hm h w T
  · by_cases hm : May a b c x y z
    · exact more_yes2 a b c x y z n m hm h w T
    · exact more_no2 a b c x y z n m hm h w T

end Go.Proofs.YtnnmldhhofoliaaDoor.Mix
