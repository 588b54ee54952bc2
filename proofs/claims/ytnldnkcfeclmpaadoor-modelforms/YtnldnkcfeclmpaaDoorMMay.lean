/-
  The contracts of slices.IndexFunc and slices.ContainsFunc over a limit's method, and of mix.may. Conditions: the cells of the slice that is asked.
-/
import Derived.Test.YtnldnkcfeclmpaaDoorMSmall
namespace Go.Proofs.YtnldnkcfeclmpaaDoor.Mix
open Go.RowKit Go.Proofs.YtnldnkcfeclmpaaDoor.Num Go.Proofs.YtnldnkcfeclmpaaDoor.Str
set_option linter.unusedVariables false

/-- Where the first is that is further from 0 than l. -/
def firstAt (l a b c : Int) : Int := if passed l a = true then 0 else if passed l b = true then 1 else if passed l c = true then 2 else -1

set_option maxHeartbeats 1000000 in
theorem index_ok (l a b c : Int) (hl0 : 0 ≤ l) (hl1 : l ≤ 1048576) (B : Nat) (w : World) (ca : w.cell? ⟨B, 0, none⟩ = some (.int .i64 a)) (cb : w.cell? ⟨B, 1, none⟩ = some (.int .i64 b)) (cc : w.cell? ⟨B, 2, none⟩ = some (.int .i64 c)) :
    Calls Tryd.prog 51 #[.slice (some ⟨B, 0, none⟩) 3 3, .func (.func 52) #[.int .i64 l] #[]] w fun e w' => e = .returned (.int .i64 (firstAt l a b c)) ∧ w' = w := by
  have P : Hid (∀ x w, Calls Tryd.prog 52 #[.int .i64 l, .int .i64 x] w fun e w' => e = .returned (.bool (passed l x)) ∧ w' = w) := fun x w => passed_ok l x hl0 hl1 w
  unfold firstAt
  cases ha : passed l a
  · rw [if_neg (by decide)]
    cases hb : passed l b
    · rw [if_neg (by decide)]
      cases hc : passed l c
      · rw [if_neg (by decide)]
        go_enter Tryd.func51, Tryd.ntmps51
        go_wp2
        refine wp_loop_rounds 4 ?_
        rw [rounds_succ]
        go_wp2_with fail
        refine (P.out a _).mono ?_
        rw [ha]
        rintro e w1 ⟨rfl, rfl⟩
        go_wp2
        rw [rounds_succ]
        go_wp2_with fail
        refine (P.out b _).mono ?_
        rw [hb]
        rintro e w1 ⟨rfl, rfl⟩
        go_wp2
        rw [rounds_succ]
        go_wp2_with fail
        refine (P.out c _).mono ?_
        rw [hc]
        rintro e w1 ⟨rfl, rfl⟩
        go_wp2
        rw [rounds_succ]
        go_wp2
        go_ret
        exact ⟨rfl, rfl⟩
      · rw [if_pos rfl]
        go_enter Tryd.func51, Tryd.ntmps51
        go_wp2
        refine wp_loop_rounds 3 ?_
        rw [rounds_succ]
        go_wp2_with fail
        refine (P.out a _).mono ?_
        rw [ha]
        rintro e w1 ⟨rfl, rfl⟩
        go_wp2
        rw [rounds_succ]
        go_wp2_with fail
        refine (P.out b _).mono ?_
        rw [hb]
        rintro e w1 ⟨rfl, rfl⟩
        go_wp2
        rw [rounds_succ]
        go_wp2_with fail
        refine (P.out c _).mono ?_
        rw [hc]
        rintro e w1 ⟨rfl, rfl⟩
        go_wp2
        go_ret
        exact ⟨rfl, rfl⟩
    · rw [if_pos rfl]
      go_enter Tryd.func51, Tryd.ntmps51
      go_wp2
      refine wp_loop_rounds 2 ?_
      rw [rounds_succ]
      go_wp2_with fail
      refine (P.out a _).mono ?_
      rw [ha]
      rintro e w1 ⟨rfl, rfl⟩
      go_wp2
      rw [rounds_succ]
      go_wp2_with fail
      refine (P.out b _).mono ?_
      rw [hb]
      rintro e w1 ⟨rfl, rfl⟩
      go_wp2
      go_ret
      exact ⟨rfl, rfl⟩
  · rw [if_pos rfl]
    go_enter Tryd.func51, Tryd.ntmps51
    go_wp2
    refine wp_loop_rounds 1 ?_
    rw [rounds_succ]
    go_wp2_with fail
    refine (P.out a _).mono ?_
    rw [ha]
    rintro e w1 ⟨rfl, rfl⟩
    go_wp2
    go_ret
    exact ⟨rfl, rfl⟩

theorem first_iff (l a b c : Int) : decide (0 ≤ firstAt l a b c) = (passed l a || passed l b || passed l c) := by
  unfold firstAt
  cases passed l a <;> cases passed l b <;> cases passed l c <;> decide

set_option maxHeartbeats 400000 in
theorem contains_ok (l a b c : Int) (hl0 : 0 ≤ l) (hl1 : l ≤ 1048576) (B : Nat) (w : World) (ca : w.cell? ⟨B, 0, none⟩ = some (.int .i64 a)) (cb : w.cell? ⟨B, 1, none⟩ = some (.int .i64 b)) (cc : w.cell? ⟨B, 2, none⟩ = some (.int .i64 c)) :
    Calls Tryd.prog 31 #[.slice (some ⟨B, 0, none⟩) 3 3, .func (.func 52) #[.int .i64 l] #[]] w fun e w' => e = .returned (.bool (passed l a || passed l b || passed l c)) ∧ w' = w := by
  have I := index_ok l a b c hl0 hl1 B w ca cb cc
  rw [← first_iff]
  generalize firstAt l a b c = k at *
  clear ca cb cc
  have I2 : Hid (Calls Tryd.prog 51 #[.slice (some ⟨B, 0, none⟩) 3 3, .func (.func 52) #[.int .i64 l] #[]] w fun e w' => e = .returned (.int .i64 k) ∧ w' = w) := I
  clear I
  go_enter Tryd.func31, Tryd.ntmps31
  go_wp2_with fail
  refine (I2.out).mono ?_
  rintro e w1 ⟨rfl, rfl⟩
  go_wp2
  go_ret
  exact ⟨rfl, rfl⟩

set_option maxHeartbeats 1000000 in
theorem may_ok (a b c x y z : Int) (w : World) :
    Calls Tryd.prog 37 #[.agg #[.int .i64 a, .int .i64 b, .int .i64 c], .agg #[.int .i64 x, .int .i64 y, .int .i64 z]] w fun e w' => e = .returned (.bool (mayB a b c x y z)) ∧ Onto w w' := by
  have C : Hid (∀ (l a b c : Int) (hl0 : 0 ≤ l) (hl1 : l ≤ 1048576) (B : Nat) (w : World) (ca : w.cell? ⟨B, 0, none⟩ = some (.int .i64 a)) (cb : w.cell? ⟨B, 1, none⟩ = some (.int .i64 b)) (cc : w.cell? ⟨B, 2, none⟩ = some (.int .i64 c)),
    Calls Tryd.prog 31 #[.slice (some ⟨B, 0, none⟩) 3 3, .func (.func 52) #[.int .i64 l] #[]] w fun e w' => e = .returned (.bool (passed l a || passed l b || passed l c)) ∧ w' = w) := contains_ok
  unfold mayB
  cases hw : (passed 1048576 a || passed 1048576 b || passed 1048576 c)
  · cases hx : (passed 2047 x || passed 2047 y || passed 2047 z)
    · go_enter Tryd.func37, Tryd.ntmps37
      go_wp2_with fail
      refine (C.out 1048576 a b c (by decide) (by decide) _ _ (by simp) (by simp) (by simp)).mono ?_
      rw [hw]
      rintro e w1 ⟨rfl, rfl⟩
      go_wp2_with fail
      refine (C.out 2047 x y z (by decide) (by decide) _ _ (by simp) (by simp) (by simp)).mono ?_
      rw [hx]
      rintro e w1 ⟨rfl, rfl⟩
      go_wp2
      go_ret
      exact ⟨rfl, ((Onto.refl _).alloc _ _).alloc _ _⟩
    · go_enter Tryd.func37, Tryd.ntmps37
      go_wp2_with fail
      refine (C.out 1048576 a b c (by decide) (by decide) _ _ (by simp) (by simp) (by simp)).mono ?_
      rw [hw]
      rintro e w1 ⟨rfl, rfl⟩
      go_wp2_with fail
      refine (C.out 2047 x y z (by decide) (by decide) _ _ (by simp) (by simp) (by simp)).mono ?_
      rw [hx]
      rintro e w1 ⟨rfl, rfl⟩
      go_wp2
      go_ret
      exact ⟨rfl, ((Onto.refl _).alloc _ _).alloc _ _⟩
  · go_enter Tryd.func37, Tryd.ntmps37
    go_wp2_with fail
    refine (C.out 1048576 a b c (by decide) (by decide) _ _ (by simp) (by simp) (by simp)).mono ?_
    rw [hw]
    rintro e w1 ⟨rfl, rfl⟩
    go_wp2
    go_ret
    exact ⟨rfl, ((Onto.refl _).alloc _ _).alloc _ _⟩

end Go.Proofs.YtnldnkcfeclmpaaDoor.Mix
