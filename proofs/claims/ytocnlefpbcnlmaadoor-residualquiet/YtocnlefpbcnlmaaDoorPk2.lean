/-
  The contracts of package mix's small functions, and of slices.ContainsFunc over a limit's method. Conditions: numbers within what each asks for; the cells of the slice that is asked.
  The contracts of slices.IndexFunc and slices.ContainsFunc over a limit's method, and of mix.may. Conditions: the cells of the slice that is asked.
  The contract of mix.Dot. Condition: the package's table is laid as its text lays it.
  The contract of mix.Train. Condition: the package's table is laid as its text lays it.
-/
import Derived.Test.YtocnlefpbcnlmaaDoorPk1
import Derived.Deep.RegionWith
import Derived.Deep.CutRange

namespace Go.Proofs.YtocnlefpbcnlmaaDoor.Mix
open Go.RowKit Go.Proofs.YtocnlefpbcnlmaaDoor.Num Go.Proofs.YtocnlefpbcnlmaaDoor.Str
set_option linter.unusedVariables false

theorem num_ok (n : Int) (w : World) :
    Calls Tryd.prog 9 #[.int .i64 n] w fun e w' => e = .returned (.int .i64 n) ∧ w' = w := by
  go_enter Tryd.func9, Tryd.ntmps9
  go_wp2
  go_ret
  exact ⟨rfl, rfl⟩

def bitB (b : Int) : Bool := decide (b = 0 ∨ b = 1)

set_option maxHeartbeats 400000 in
theorem isBit_ok (b : Int) (w : World) :
    Calls Tryd.prog 75 #[.int .i64 b] w fun e w' => e = .returned (.bool (bitB b)) ∧ w' = w := by
  by_cases h0 : b = 0
  · subst h0
    go_enter Tryd.func75, Tryd.ntmps75
    go_wp2
    go_ret
    exact ⟨rfl, rfl⟩
  · by_cases h1 : b = 1
    · subst h1
      go_enter Tryd.func75, Tryd.ntmps75
      go_wp2
      go_ret
      exact ⟨rfl, rfl⟩
    · have e0 : (b == 0) = false := by simpa using h0
      have e1 : (b == 1) = false := by simpa using h1
      have e : bitB b = false := decide_eq_false fun k => k.elim h0 h1
      rw [e]
      clear h0 h1 e
      go_enter Tryd.func75, Tryd.ntmps75
      go_wp2
      go_ret
      exact ⟨rfl, rfl⟩

set_option maxHeartbeats 400000 in
theorem passed_ok (l x : Int) (hl0 : 0 ≤ l) (hl1 : l ≤ 1048576) (w : World) :
    Calls Tryd.prog 85 #[.int .i64 l, .int .i64 x] w fun e w' => e = .returned (.bool (passed l x)) ∧ w' = w := by
  by_cases h0 : x < -l
  · have e : passed l x = true := decide_eq_true (.inl h0)
    rw [e]
    have h3 : decide (x < -l) = true := decide_eq_true h0
    clear e
    go_enter Tryd.func85, Tryd.ntmps85
    go_wp2
    go_ret
    exact ⟨rfl, rfl⟩
  · have e : passed l x = decide (l < x) := by unfold passed; simp [h0]
    rw [e]
    have h3 : decide (x < -l) = false := decide_eq_false h0
    clear e
    go_enter Tryd.func85, Tryd.ntmps85
    go_wp2
    go_ret
    exact ⟨rfl, rfl⟩

set_option maxHeartbeats 400000 in
theorem hold_ok (x : Int) (w : World) :
    Calls Tryd.prog 76 #[.int .i64 1048576, .int .i64 x] w fun e w' => e = .returned (.int .i64 (hold x)) ∧ w' = w := by
  unfold hold
  by_cases h0 : x ≤ -1048576
  · rw [if_pos h0]
    go_enter Tryd.func76, Tryd.ntmps76
    go_wp2
    go_ret
    exact ⟨rfl, rfl⟩
  · rw [if_neg h0]
    by_cases h1 : 1048576 < x
    · rw [if_pos h1]
      go_enter Tryd.func76, Tryd.ntmps76
      go_wp2
      go_ret
      exact ⟨rfl, rfl⟩
    · rw [if_neg h1]
      go_enter Tryd.func76, Tryd.ntmps76
      go_wp2
      go_ret
      exact ⟨rfl, rfl⟩

set_option maxHeartbeats 400000 in
theorem step_ok (x o : Int) (hx0 : -2047 ≤ x) (hx1 : x ≤ 2047) (ho0 : -4096 ≤ o) (ho1 : o ≤ 4096) (w : World) :
    Calls Tryd.prog 77 #[.int .i64 x, .int .i64 o] w fun e w' => e = .returned (.int .i64 (stp x o)) ∧ w' = w := by
  obtain ⟨m0, m1⟩ := off_le x o hx0 hx1 ho0 ho1
  unfold stp
  go_enter Tryd.func77, Tryd.ntmps77
  go_wp2
  go_ret
  exact ⟨rfl, rfl⟩

end Go.Proofs.YtocnlefpbcnlmaaDoor.Mix

namespace Go.Proofs.YtocnlefpbcnlmaaDoor.Mix
open Go.RowKit Go.Proofs.YtocnlefpbcnlmaaDoor.Num Go.Proofs.YtocnlefpbcnlmaaDoor.Str
set_option linter.unusedVariables false

/-- Where the first is that is further from 0 than l. -/
def firstAt (l a b c : Int) : Int := if passed l a = true then 0 else if passed l b = true then 1 else if passed l c = true then 2 else -1

set_option maxHeartbeats 1000000 in
theorem index_ok (l a b c : Int) (hl0 : 0 ≤ l) (hl1 : l ≤ 1048576) (B : Nat) (w : World) (ca : w.cell? ⟨B, 0, none⟩ = some (.int .i64 a)) (cb : w.cell? ⟨B, 1, none⟩ = some (.int .i64 b)) (cc : w.cell? ⟨B, 2, none⟩ = some (.int .i64 c)) :
    Calls Tryd.prog 26 #[.slice (some ⟨B, 0, none⟩) 3 3, .func (.func 85) #[.int .i64 l] #[]] w fun e w' => e = .returned (.int .i64 (firstAt l a b c)) ∧ w' = w := by
  have P : Hid (∀ x w, Calls Tryd.prog 85 #[.int .i64 l, .int .i64 x] w fun e w' => e = .returned (.bool (passed l x)) ∧ w' = w) := fun x w => passed_ok l x hl0 hl1 w
  unfold firstAt
  cases ha : passed l a
  · rw [if_neg (by decide)]
    cases hb : passed l b
    · rw [if_neg (by decide)]
      cases hc : passed l c
      · rw [if_neg (by decide)]
        go_enter Tryd.func26, Tryd.ntmps26
        go_wp2
        refine wp_loop_rounds 4 ?_
        rw [rounds_succ]
        go_wp2_with fail
        refine (P.out a _).mono ?_
        rw [ha]
        rintro e w1 ⟨rfl, rfl⟩
        go_wp2
        rw [rounds_succ]
        go_wp2_with fail
        refine (P.out b _).mono ?_
        rw [hb]
        rintro e w1 ⟨rfl, rfl⟩
        go_wp2
        rw [rounds_succ]
        go_wp2_with fail
        refine (P.out c _).mono ?_
        rw [hc]
        rintro e w1 ⟨rfl, rfl⟩
        go_wp2
        rw [rounds_succ]
        go_wp2
        go_ret
        exact ⟨rfl, rfl⟩
      · rw [if_pos rfl]
        go_enter Tryd.func26, Tryd.ntmps26
        go_wp2
        refine wp_loop_rounds 3 ?_
        rw [rounds_succ]
        go_wp2_with fail
        refine (P.out a _).mono ?_
        rw [ha]
        rintro e w1 ⟨rfl, rfl⟩
        go_wp2
        rw [rounds_succ]
        go_wp2_with fail
        refine (P.out b _).mono ?_
        rw [hb]
        rintro e w1 ⟨rfl, rfl⟩
        go_wp2
        rw [rounds_succ]
        go_wp2_with fail
        refine (P.out c _).mono ?_
        rw [hc]
        rintro e w1 ⟨rfl, rfl⟩
        go_wp2
        go_ret
        exact ⟨rfl, rfl⟩
    · rw [if_pos rfl]
      go_enter Tryd.func26, Tryd.ntmps26
      go_wp2
      refine wp_loop_rounds 2 ?_
      rw [rounds_succ]
      go_wp2_with fail
      refine (P.out a _).mono ?_
      rw [ha]
      rintro e w1 ⟨rfl, rfl⟩
      go_wp2
      rw [rounds_succ]
      go_wp2_with fail
      refine (P.out b _).mono ?_
      rw [hb]
      rintro e w1 ⟨rfl, rfl⟩
      go_wp2
      go_ret
      exact ⟨rfl, rfl⟩
  · rw [if_pos rfl]
    go_enter Tryd.func26, Tryd.ntmps26
    go_wp2
    refine wp_loop_rounds 1 ?_
    rw [rounds_succ]
    go_wp2_with fail
    refine (P.out a _).mono ?_
    rw [ha]
    rintro e w1 ⟨rfl, rfl⟩
    go_wp2
    go_ret
    exact ⟨rfl, rfl⟩

theorem first_iff (l a b c : Int) : decide (0 ≤ firstAt l a b c) = (passed l a || passed l b || passed l c) := by
  unfold firstAt
  cases passed l a <;> cases passed l b <;> cases passed l c <;> decide

set_option maxHeartbeats 400000 in
theorem contains_ok (l a b c : Int) (hl0 : 0 ≤ l) (hl1 : l ≤ 1048576) (B : Nat) (w : World) (ca : w.cell? ⟨B, 0, none⟩ = some (.int .i64 a)) (cb : w.cell? ⟨B, 1, none⟩ = some (.int .i64 b)) (cc : w.cell? ⟨B, 2, none⟩ = some (.int .i64 c)) :
    Calls Tryd.prog 14 #[.slice (some ⟨B, 0, none⟩) 3 3, .func (.func 85) #[.int .i64 l] #[]] w fun e w' => e = .returned (.bool (passed l a || passed l b || passed l c)) ∧ w' = w := by
  have I := index_ok l a b c hl0 hl1 B w ca cb cc
  rw [← first_iff]
  generalize firstAt l a b c = k at *
  clear ca cb cc
  have I2 : Hid (Calls Tryd.prog 26 #[.slice (some ⟨B, 0, none⟩) 3 3, .func (.func 85) #[.int .i64 l] #[]] w fun e w' => e = .returned (.int .i64 k) ∧ w' = w) := I
  clear I
  go_enter Tryd.func14, Tryd.ntmps14
  go_wp2_with fail
  refine (I2.out).mono ?_
  rintro e w1 ⟨rfl, rfl⟩
  go_wp2
  go_ret
  exact ⟨rfl, rfl⟩

set_option maxHeartbeats 1000000 in
theorem may_ok (a b c x y z : Int) (w : World) :
    Calls Tryd.prog 71 #[.agg #[.int .i64 a, .int .i64 b, .int .i64 c], .agg #[.int .i64 x, .int .i64 y, .int .i64 z]] w fun e w' => e = .returned (.bool (mayB a b c x y z)) ∧ Onto w w' := by
  have C : Hid (∀ (l a b c : Int) (hl0 : 0 ≤ l) (hl1 : l ≤ 1048576) (B : Nat) (w : World) (ca : w.cell? ⟨B, 0, none⟩ = some (.int .i64 a)) (cb : w.cell? ⟨B, 1, none⟩ = some (.int .i64 b)) (cc : w.cell? ⟨B, 2, none⟩ = some (.int .i64 c)),
    Calls Tryd.prog 14 #[.slice (some ⟨B, 0, none⟩) 3 3, .func (.func 85) #[.int .i64 l] #[]] w fun e w' => e = .returned (.bool (passed l a || passed l b || passed l c)) ∧ w' = w) := contains_ok
  unfold mayB
  cases hw : (passed 1048576 a || passed 1048576 b || passed 1048576 c)
  · cases hx : (passed 2047 x || passed 2047 y || passed 2047 z)
    · go_enter Tryd.func71, Tryd.ntmps71
      go_wp2_with fail
      refine (C.out 1048576 a b c (by decide) (by decide) _ _ (by simp) (by simp) (by simp)).mono ?_
      rw [hw]
      rintro e w1 ⟨rfl, rfl⟩
      go_wp2_with fail
      refine (C.out 2047 x y z (by decide) (by decide) _ _ (by simp) (by simp) (by simp)).mono ?_
      rw [hx]
      rintro e w1 ⟨rfl, rfl⟩
      go_wp2
      go_ret
      exact ⟨rfl, ((Onto.refl _).alloc _ _).alloc _ _⟩
    · go_enter Tryd.func71, Tryd.ntmps71
      go_wp2_with fail
      refine (C.out 1048576 a b c (by decide) (by decide) _ _ (by simp) (by simp) (by simp)).mono ?_
      rw [hw]
      rintro e w1 ⟨rfl, rfl⟩
      go_wp2_with fail
      refine (C.out 2047 x y z (by decide) (by decide) _ _ (by simp) (by simp) (by simp)).mono ?_
      rw [hx]
      rintro e w1 ⟨rfl, rfl⟩
      go_wp2
      go_ret
      exact ⟨rfl, ((Onto.refl _).alloc _ _).alloc _ _⟩
  · go_enter Tryd.func71, Tryd.ntmps71
    go_wp2_with fail
    refine (C.out 1048576 a b c (by decide) (by decide) _ _ (by simp) (by simp) (by simp)).mono ?_
    rw [hw]
    rintro e w1 ⟨rfl, rfl⟩
    go_wp2
    go_ret
    exact ⟨rfl, ((Onto.refl _).alloc _ _).alloc _ _⟩

end Go.Proofs.YtocnlefpbcnlmaaDoor.Mix

namespace Go.Proofs.YtocnlefpbcnlmaaDoor.Mix
open Go.RowKit Go.Proofs.YtocnlefpbcnlmaaDoor.Num Go.Proofs.YtocnlefpbcnlmaaDoor.Str
set_option linter.unusedVariables false

theorem tab_onto {w w' : World} (T : Tab w) (h : Onto w w') : Tab w' := fun d hd => h.cell_some (T d hd)

/-- Squash's contract, with Onto. -/
theorem squash_onto (x y : Int) (hy : sq x = y) (w : World) (T : Tab w) :
    Calls Tryd.prog 72 #[.int .i64 x] w fun e w' => e = .returned (.int .i64 y) ∧ Onto w w' :=
  hy ▸ (squash_ok x w T).mono fun _ _ ⟨h, _, k⟩ => ⟨h, k ▸ (Onto.refl w).drewN _⟩

set_option maxHeartbeats 400000 in
theorem dot_no (a b c x y z : Int) (hm : ¬ May a b c x y z) (w : World) :
    Calls Tryd.prog 48 #[.agg #[.int .i64 a, .int .i64 b, .int .i64 c], .agg #[.int .i64 x, .int .i64 y, .int .i64 z]] w fun e w' => e = .returned (.tuple #[.int .i64 0, .int .i64 800]) ∧ Onto w w' := by
  have M : Hid (mayB a b c x y z = false) := mayB_no hm
  clear hm
  go_enter Tryd.func48, Tryd.ntmps48
  go_wp2_with fail
  refine (may_ok a b c x y z _).mono ?_
  rw [M.out]
  rintro e w1 ⟨rfl, o⟩
  have O1 : Hid (Onto w w1) := (((Onto.refl w).alloc _ _).alloc _ _).trans o
  clear o
  go_wp2
  go_ret2
  exact ⟨rfl, O1.out⟩

set_option maxHeartbeats 2000000 in
theorem dot_yes (a b c x y z : Int) (hm : May a b c x y z) (w : World) (T : Tab w) :
    Calls Tryd.prog 48 #[.agg #[.int .i64 a, .int .i64 b, .int .i64 c], .agg #[.int .i64 x, .int .i64 y, .int .i64 z]] w fun e w' => e = .returned (.tuple #[.int .i64 (dot a b c x y z), .int .i64 0]) ∧ Onto w w' := by
  have TT : Hid (Tab w) := T
  have M : Hid (mayB a b c x y z = true) := mayB_yes hm
  obtain ⟨⟨a0, a1⟩, ⟨b0, b1⟩, ⟨c0, c1⟩, ⟨x0, x1⟩, ⟨y0, y1⟩, z0, z1⟩ := hm
  obtain ⟨p0, p1⟩ := prod_le a x a0 a1 x0 x1
  obtain ⟨q0, q1⟩ := prod_le b y b0 b1 y0 y1
  obtain ⟨r0, r1⟩ := prod_le c z c0 c1 z0 z1
  obtain ⟨k, hk⟩ : ∃ k, sq ((a * x + b * y + c * z) / 65536) = k := ⟨_, rfl⟩
  have K : Hid (sq ((a * x + b * y + c * z) / 65536) = k) := hk
  have k0 : 0 ≤ k := hk ▸ (sq_chance _).1
  have k1 : k ≤ 4095 := hk ▸ (sq_chance _).2
  have D : dot a b c x y z = raise k := by unfold dot sum; rw [hk]
  rw [D]
  clear T hk D
  obtain ⟨v, hv⟩ : ∃ v, raise k = v := ⟨_, rfl⟩
  rw [hv]
  have V : Hid (raise k = v) := hv
  clear hv
  go_enter Tryd.func48, Tryd.ntmps48
  go_wp2_with fail
  refine (may_ok a b c x y z _).mono ?_
  rw [M.out]
  rintro e w1 ⟨rfl, o⟩
  have O1 : Hid (Onto w w1) := (((Onto.refl w).alloc _ _).alloc _ _).trans o
  have ca : w1.cell? ⟨w.heap.size, 0, none⟩ = some (.int .i64 a) := o.cell_some (by simp)
  have cb : w1.cell? ⟨w.heap.size, 1, none⟩ = some (.int .i64 b) := o.cell_some (by simp)
  have cc : w1.cell? ⟨w.heap.size, 2, none⟩ = some (.int .i64 c) := o.cell_some (by simp)
  have cx : w1.cell? ⟨w.heap.size + 1, 0, none⟩ = some (.int .i64 x) := o.cell_some (by simp)
  have cy : w1.cell? ⟨w.heap.size + 1, 1, none⟩ = some (.int .i64 y) := o.cell_some (by simp)
  have cz : w1.cell? ⟨w.heap.size + 1, 2, none⟩ = some (.int .i64 z) := o.cell_some (by simp)
  clear o
  go_wp2
  refine wp_loop_rounds 4 ?_
  rw [rounds_succ]
  go_wp2
  go_quiet (fail)
  go_wp2
  rw [rounds_succ]
  go_wp2
  go_quiet (fail)
  go_wp2
  rw [rounds_succ]
  go_wp2
  go_quiet (fail)
  go_wp2
  rw [rounds_succ]
  go_wp2_with fail
  refine (squash_onto _ k K.out _ (tab_onto TT.out (O1.out.drewN _))).mono ?_
  rintro e w5 ⟨rfl, o⟩
  have O5 : Hid (Onto w w5) := (O1.out.drewN _).trans o
  clear o O1 ca cb cc cx cy cz
  by_cases hk : k ≤ 1
  · obtain rfl : v = 1 := by rw [← V.out]; exact if_pos hk
    go_wp2
    go_ret2
    exact ⟨rfl, O5.out⟩
  · obtain rfl : v = k := by rw [← V.out]; exact if_neg hk
    go_wp2
    go_ret2
    exact ⟨rfl, O5.out⟩

end Go.Proofs.YtocnlefpbcnlmaaDoor.Mix

namespace Go.Proofs.YtocnlefpbcnlmaaDoor.Mix
open Go.RowKit Go.Proofs.YtocnlefpbcnlmaaDoor.Num Go.Proofs.YtocnlefpbcnlmaaDoor.Str
set_option linter.unusedVariables false

/-- The weights, the inputs and the result, as Train holds them, three ints each from block B on. -/
structure Six (w : World) (B : Nat) (a b c x y z : Int) : Prop where
  c0 : w.cell? ⟨B, 0, none⟩ = some (.int .i64 a)
  c1 : w.cell? ⟨B, 1, none⟩ = some (.int .i64 b)
  c2 : w.cell? ⟨B, 2, none⟩ = some (.int .i64 c)
  d0 : w.cell? ⟨B + 1, 0, none⟩ = some (.int .i64 x)
  d1 : w.cell? ⟨B + 1, 1, none⟩ = some (.int .i64 y)
  d2 : w.cell? ⟨B + 1, 2, none⟩ = some (.int .i64 z)
  e0 : w.cell? ⟨B + 2, 0, none⟩ = some (.int .i64 0)
  e1 : w.cell? ⟨B + 2, 1, none⟩ = some (.int .i64 0)
  e2 : w.cell? ⟨B + 2, 2, none⟩ = some (.int .i64 0)
  f0 : w.frozen? ⟨B, 0, none⟩ = false
  f1 : w.frozen? ⟨B, 1, none⟩ = false
  f2 : w.frozen? ⟨B, 2, none⟩ = false
  g0 : w.frozen? ⟨B + 2, 0, none⟩ = false
  g1 : w.frozen? ⟨B + 2, 1, none⟩ = false
  g2 : w.frozen? ⟨B + 2, 2, none⟩ = false

theorem Six.drew {w : World} {B : Nat} {a b c x y z : Int} (h : Six w B a b c x y z) : Six w.drew B a b c x y z :=
  ⟨h.c0, h.c1, h.c2, h.d0, h.d1, h.d2, h.e0, h.e1, h.e2, h.f0, h.f1, h.f2, h.g0, h.g1, h.g2⟩

theorem other {w : World} {p q : Addr} {v : Value} {u : Value} (hne : p ≠ q) (h : w.cell? q = some u) : (w.setCell p v).cell? q = some u := by
  rw [World.cell?_setCell_other (h := hne)]; exact h

theorem ne_off (B i j : Nat) (h : i ≠ j) : (⟨B, i, none⟩ : Addr) ≠ ⟨B, j, none⟩ := by
  intro k; injection k with _ k2 _; exact h k2
theorem ne_blk (B C i j : Nat) (h : B ≠ C) : (⟨B, i, none⟩ : Addr) ≠ ⟨C, j, none⟩ := by
  intro k; injection k with k1 _ _; exact h k1

theorem Six.set0 {w : World} {B : Nat} {a b c x y z : Int} (h : Six w B a b c x y z) (v : Int) : Six (w.setCell ⟨B, 0, none⟩ (.int .i64 v)) B v b c x y z :=
  ⟨World.cell?_setCell_same _ _ (h := h.c0) _, other (ne_off B 0 1 (by decide)) h.c1, other (ne_off B 0 2 (by decide)) h.c2,
   other (ne_blk _ _ _ _ (by omega)) h.d0, other (ne_blk _ _ _ _ (by omega)) h.d1, other (ne_blk _ _ _ _ (by omega)) h.d2,
   other (ne_blk _ _ _ _ (by omega)) h.e0, other (ne_blk _ _ _ _ (by omega)) h.e1, other (ne_blk _ _ _ _ (by omega)) h.e2,
   by simp [h.f0], by simp [h.f1], by simp [h.f2], by simp [h.g0], by simp [h.g1], by simp [h.g2]⟩
theorem Six.set1 {w : World} {B : Nat} {a b c x y z : Int} (h : Six w B a b c x y z) (v : Int) : Six (w.setCell ⟨B, 1, none⟩ (.int .i64 v)) B a v c x y z :=
  ⟨other (ne_off B 1 0 (by decide)) h.c0, World.cell?_setCell_same _ _ (h := h.c1) _, other (ne_off B 1 2 (by decide)) h.c2,
   other (ne_blk _ _ _ _ (by omega)) h.d0, other (ne_blk _ _ _ _ (by omega)) h.d1, other (ne_blk _ _ _ _ (by omega)) h.d2,
   other (ne_blk _ _ _ _ (by omega)) h.e0, other (ne_blk _ _ _ _ (by omega)) h.e1, other (ne_blk _ _ _ _ (by omega)) h.e2,
   by simp [h.f0], by simp [h.f1], by simp [h.f2], by simp [h.g0], by simp [h.g1], by simp [h.g2]⟩
theorem Six.set2 {w : World} {B : Nat} {a b c x y z : Int} (h : Six w B a b c x y z) (v : Int) : Six (w.setCell ⟨B, 2, none⟩ (.int .i64 v)) B a b v x y z :=
  ⟨other (ne_off B 2 0 (by decide)) h.c0, other (ne_off B 2 1 (by decide)) h.c1, World.cell?_setCell_same _ _ (h := h.c2) _,
   other (ne_blk _ _ _ _ (by omega)) h.d0, other (ne_blk _ _ _ _ (by omega)) h.d1, other (ne_blk _ _ _ _ (by omega)) h.d2,
   other (ne_blk _ _ _ _ (by omega)) h.e0, other (ne_blk _ _ _ _ (by omega)) h.e1, other (ne_blk _ _ _ _ (by omega)) h.e2,
   by simp [h.f0], by simp [h.f1], by simp [h.f2], by simp [h.g0], by simp [h.g1], by simp [h.g2]⟩

theorem set3 {w : World} {b : Nat} {x y z u v t : Value} (d0 : w.cell? ⟨b, 0, none⟩ = some u) (d1 : w.cell? ⟨b, 1, none⟩ = some v) (d2 : w.cell? ⟨b, 2, none⟩ = some t) :
    (((w.setCell ⟨b, 0, none⟩ x).setCell ⟨b, 1, none⟩ y).setCell ⟨b, 2, none⟩ z).cell? ⟨b, 0, none⟩ = some x ∧ (((w.setCell ⟨b, 0, none⟩ x).setCell ⟨b, 1, none⟩ y).setCell ⟨b, 2, none⟩ z).cell? ⟨b, 1, none⟩ = some y ∧ (((w.setCell ⟨b, 0, none⟩ x).setCell ⟨b, 1, none⟩ y).setCell ⟨b, 2, none⟩ z).cell? ⟨b, 2, none⟩ = some z :=
  have k0 := World.cell?_setCell_same _ _ (h := d0) x
  have k1 : (w.setCell ⟨b, 0, none⟩ x).cell? ⟨b, 1, none⟩ = some v := other (ne_off b 0 1 (by decide)) d1
  have k2 : ((w.setCell ⟨b, 0, none⟩ x).setCell ⟨b, 1, none⟩ y).cell? ⟨b, 2, none⟩ = some t := other (ne_off b 1 2 (by decide)) (other (ne_off b 0 2 (by decide)) d2)
  ⟨other (ne_off b 2 0 (by decide)) (other (ne_off b 1 0 (by decide)) k0), other (ne_off b 2 1 (by decide)) (World.cell?_setCell_same _ _ (h := k1) y), World.cell?_setCell_same _ _ (h := k2) z⟩

theorem results_arr2 {fn : Func} {t u : Tmp} (hf : fn.results = #[.cell t 44, .tmp u]) {tmps : Array Value} {b : Nat} {w : World} {x y z v : Value} (ht : tmps[t]?.getD undef = .pointer (some ⟨b, 0, none⟩)) (hv : tmps[u]?.getD undef = v)
    (c0 : w.cell? ⟨b, 0, none⟩ = some x) (c1 : w.cell? ⟨b, 1, none⟩ = some y) (c2 : w.cell? ⟨b, 2, none⟩ = some z) : (results fn tmps).run Tryd.prog w = .ok (.tuple #[.agg #[x, y, z], v]) w := by
  simp [results, hf, ht, hv, go_sem, c0, c1, c2]

/-- Cells that were there are not frozen, if they were not. -/
theorem free {w w' : World} (h : Onto w w') {p : Addr} {v : Value} (c : w.cell? p = some v) (f : w.frozen? p = false) : w'.frozen? p = false := by
  rw [h.b.frozen (block_lt_of_cell c)]; exact f

/-- Three ints in a new block: they lie there, and may be written. -/
theorem laid3 (w : World) (x y z : Value) (t : TypeId) (B : Nat) (hB : B = w.heap.size) :
    (w.alloc (.cells #[x, y, z] t)).cell? ⟨B, 0, none⟩ = some x ∧ (w.alloc (.cells #[x, y, z] t)).cell? ⟨B, 1, none⟩ = some y ∧ (w.alloc (.cells #[x, y, z] t)).cell? ⟨B, 2, none⟩ = some z ∧
    (w.alloc (.cells #[x, y, z] t)).frozen? ⟨B, 0, none⟩ = false ∧ (w.alloc (.cells #[x, y, z] t)).frozen? ⟨B, 1, none⟩ = false ∧ (w.alloc (.cells #[x, y, z] t)).frozen? ⟨B, 2, none⟩ = false := by
  subst hB
  simp

theorem size_alloc (w : World) (o : Obj) : (w.alloc o).heap.size = w.heap.size + 1 := by simp

theorem six_start {w w1 : World} (a b c x y z : Int) (o : Onto (((w.alloc (.cells #[.int .i64 a, .int .i64 b, .int .i64 c] 44)).alloc (.cells #[.int .i64 x, .int .i64 y, .int .i64 z] 44)).alloc (.cells #[.int .i64 0, .int .i64 0, .int .i64 0] 44)) w1) : Six w1 w.heap.size a b c x y z := by
  obtain ⟨c0, c1, c2, f0, f1, f2⟩ := laid3 w (.int .i64 a) (.int .i64 b) (.int .i64 c) 44 _ rfl
  obtain ⟨d0, d1, d2, _, _, _⟩ := laid3 (w.alloc (.cells #[.int .i64 a, .int .i64 b, .int .i64 c] 44)) (.int .i64 x) (.int .i64 y) (.int .i64 z) 44 (w.heap.size + 1) (by rw [size_alloc])
  obtain ⟨e0, e1, e2, g0, g1, g2⟩ := laid3 ((w.alloc (.cells #[.int .i64 a, .int .i64 b, .int .i64 c] 44)).alloc (.cells #[.int .i64 x, .int .i64 y, .int .i64 z] 44)) (.int .i64 0) (.int .i64 0) (.int .i64 0) 44 (w.heap.size + 2) (by rw [size_alloc, size_alloc])
  have o2 := (((Onto.refl ((w.alloc (.cells #[.int .i64 a, .int .i64 b, .int .i64 c] 44)).alloc (.cells #[.int .i64 x, .int .i64 y, .int .i64 z] 44))).alloc _ _)).trans o
  have o1 := (((Onto.refl (w.alloc (.cells #[.int .i64 a, .int .i64 b, .int .i64 c] 44))).alloc _ _)).trans o2
  exact ⟨o1.cell_some c0, o1.cell_some c1, o1.cell_some c2, o2.cell_some d0, o2.cell_some d1, o2.cell_some d2, o.cell_some e0, o.cell_some e1, o.cell_some e2, free o1 c0 f0, free o1 c1 f1, free o1 c2 f2, free o e0 g0, free o e1 g1, free o e2 g2⟩

set_option maxHeartbeats 1000000 in
theorem train_no (a b c x y z bit : Int) (hm : ¬ May a b c x y z) (w : World) :
    Calls Tryd.prog 52 #[.agg #[.int .i64 a, .int .i64 b, .int .i64 c], .agg #[.int .i64 x, .int .i64 y, .int .i64 z], .int .i64 bit] w fun e w' => e = .returned (.tuple #[.agg #[.int .i64 0, .int .i64 0, .int .i64 0], .int .i64 800]) ∧ Onto w w' := by
  have M : Hid (¬ May a b c x y z) := hm
  clear hm
  go_enter Tryd.func52, Tryd.ntmps52
  go_wp2_with fail
  refine (dot_no a b c x y z M.out _).mono ?_
  rintro e w1 ⟨rfl, o⟩
  have O1 : Hid (Onto w w1) := ((((Onto.refl w).alloc _ _).alloc _ _).alloc _ _).trans o
  obtain ⟨c0, c1, c2, d0, d1, d2, e0, e1, e2, f0, f1, f2, g0, g1, g2⟩ := six_start a b c x y z o
  clear o
  go_wp2
  obtain ⟨r0, r1, r2⟩ := set3 (x := .int .i64 0) (y := .int .i64 0) (z := .int .i64 0) e0 e1 e2
  refine bodyPost_ret (v := .tuple #[.agg #[.int .i64 0, .int .i64 0, .int .i64 0], .int .i64 800]) (results_arr2 Tryd.results52 rfl rfl r0 r1 r2) rfl ⟨rfl, ?_⟩
  exact ((O1.out.setCell (by simp; omega) _).setCell (by simp; omega) _).setCell (by simp; omega) _

end Go.Proofs.YtocnlefpbcnlmaaDoor.Mix
