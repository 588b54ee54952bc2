/-
  The contract of mix.Dot. Condition: the package's table is laid as its text lays it.
-/
import Derived.Test.YtnldnkcfeclmpaaDoorMMay
namespace Go.Proofs.YtnldnkcfeclmpaaDoor.Mix
open Go.RowKit Go.Proofs.YtnldnkcfeclmpaaDoor.Num Go.Proofs.YtnldnkcfeclmpaaDoor.Str
set_option linter.unusedVariables false

theorem tab_onto {w w' : World} (T : Tab w) (h : Onto w w') : Tab w' := fun d hd => h.cell_some (T d hd)

/-- Squash's contract, with Onto. -/
theorem squash_onto (x y : Int) (hy : sq x = y) (w : World) (T : Tab w) :
    Calls Tryd.prog 38 #[.int .i64 x] w fun e w' => e = .returned (.int .i64 y) ∧ Onto w w' :=
  hy ▸ (squash_ok x w T).mono fun _ _ ⟨h, _, k⟩ => ⟨h, k ▸ (Onto.refl w).drewN _⟩

set_option maxHeartbeats 400000 in
theorem dot_no (a b c x y z : Int) (hm : ¬ May a b c x y z) (w : World) :
    Calls Tryd.prog 19 #[.agg #[.int .i64 a, .int .i64 b, .int .i64 c], .agg #[.int .i64 x, .int .i64 y, .int .i64 z]] w fun e w' => e = .returned (.tuple #[.int .i64 0, .int .i64 800]) ∧ Onto w w' := by
  have M : Hid (mayB a b c x y z = false) := mayB_no hm
  clear hm
  go_enter Tryd.func19, Tryd.ntmps19
  go_wp2_with fail
  refine (may_ok a b c x y z _).mono ?_
  rw [M.out]
  rintro e w1 ⟨rfl, o⟩
  have O1 : Hid (Onto w w1) := (((Onto.refl w).alloc _ _).alloc _ _).trans o
  clear o
  go_wp2
  go_ret2
  exact ⟨rfl, O1.out⟩

set_option maxHeartbeats 2000000 in
theorem dot_yes (a b c x y z : Int) (hm : May a b c x y z) (w : World) (T : Tab w) :
    Calls Tryd.prog 19 #[.agg #[.int .i64 a, .int .i64 b, .int .i64 c], .agg #[.int .i64 x, .int .i64 y, .int .i64 z]] w fun e w' => e = .returned (.tuple #[.int .i64 (dot a b c x y z), .int .i64 0]) ∧ Onto w w' := by
  have TT : Hid (Tab w) := T
  have M : Hid (mayB a b c x y z = true) := mayB_yes hm
  obtain ⟨⟨a0, a1⟩, ⟨b0, b1⟩, ⟨c0, c1⟩, ⟨x0, x1⟩, ⟨y0, y1⟩, z0, z1⟩ := hm
  obtain ⟨p0, p1⟩ := prod_le a x a0 a1 x0 x1
  obtain ⟨q0, q1⟩ := prod_le b y b0 b1 y0 y1
  obtain ⟨r0, r1⟩ := prod_le c z c0 c1 z0 z1
  obtain ⟨k, hk⟩ : ∃ k, sq ((a * x + b * y + c * z) / 65536) = k := ⟨_, rfl⟩
  have K : Hid (sq ((a * x + b * y + c * z) / 65536) = k) := hk
  have k0 : 0 ≤ k := hk ▸ (sq_chance _).1
  have k1 : k ≤ 4095 := hk ▸ (sq_chance _).2
  have D : dot a b c x y z = raise k := by unfold dot sum; rw [hk]
  rw [D]
  clear T hk D
  obtain ⟨v, hv⟩ : ∃ v, raise k = v := ⟨_, rfl⟩
  rw [hv]
  have V : Hid (raise k = v) := hv
  clear hv
  go_enter Tryd.func19, Tryd.ntmps19
  go_wp2_with fail
  refine (may_ok a b c x y z _).mono ?_
  rw [M.out]
  rintro e w1 ⟨rfl, o⟩
  have O1 : Hid (Onto w w1) := (((Onto.refl w).alloc _ _).alloc _ _).trans o
  have ca : w1.cell? ⟨w.heap.size, 0, none⟩ = some (.int .i64 a) := o.cell_some (by simp)
  have cb : w1.cell? ⟨w.heap.size, 1, none⟩ = some (.int .i64 b) := o.cell_some (by simp)
  have cc : w1.cell? ⟨w.heap.size, 2, none⟩ = some (.int .i64 c) := o.cell_some (by simp)
  have cx : w1.cell? ⟨w.heap.size + 1, 0, none⟩ = some (.int .i64 x) := o.cell_some (by simp)
  have cy : w1.cell? ⟨w.heap.size + 1, 1, none⟩ = some (.int .i64 y) := o.cell_some (by simp)
  have cz : w1.cell? ⟨w.heap.size + 1, 2, none⟩ = some (.int .i64 z) := o.cell_some (by simp)
  clear o
  go_wp2
  refine wp_loop_rounds 4 ?_
  rw [rounds_succ]
  go_wp2
  go_quiet (fail)
  go_wp2
  rw [rounds_succ]
  go_wp2
  go_quiet (fail)
  go_wp2
  rw [rounds_succ]
  go_wp2
  go_quiet (fail)
  go_wp2
  rw [rounds_succ]
  go_wp2_with fail
  refine (squash_onto _ k K.out _ (tab_onto TT.out (O1.out.drewN _))).mono ?_
  rintro e w5 ⟨rfl, o⟩
  have O5 : Hid (Onto w w5) := (O1.out.drewN _).trans o
  clear o O1 ca cb cc cx cy cz
  by_cases hk : k ≤ 1
  · obtain rfl : v = 1 := by rw [← V.out]; exact if_pos hk
    go_wp2
    go_ret2
    exact ⟨rfl, O5.out⟩
  · obtain rfl : v = k := by rw [← V.out]; exact if_neg hk
    go_wp2
    go_ret2
    exact ⟨rfl, O5.out⟩

end Go.Proofs.YtnldnkcfeclmpaaDoor.Mix
