/-
  The contract of the reference's ModelP: it answers as the program's P does. No condition.
-/
import Derived.Test.YtnldnkcfeclmpaaDoorNRefIn
namespace Go.Proofs.YtnldnkcfeclmpaaDoor.Mod
open Go.RowKit Go.Sort
set_option linter.unusedVariables false
set_option linter.unusedSimpArgs false

set_option maxHeartbeats 1000000 in
theorem ref_p_may (L : List Int) (hL : L.length = 195) (a b c : Int) (no : mayM L = false) (w : World) :
    Calls Tryd.prog 9 #[mdl L, .agg #[.int .i64 a, .int .i64 b, .int .i64 c]] w fun e w' => e = .returned (.tuple #[.int .i64 0, .int .i64 900]) ∧ Bel w w' := by
  have NL : Hid (L.length = 195) := hL
  have MM : Hid (∀ w, Calls Tryd.prog 14 #[mdl L] w fun e w' => e = .returned (.bool false) ∧ Bel w w') := no ▸ ref_may_ok L hL
  have M0 : Hid (Holds ((w.alloc (.cells (vals L).toArray 26)).alloc (.cells #[.int .i64 a, .int .i64 b, .int .i64 c] 24)) w.heap.size L) := (holds_new w L 26).bel ((Bel.refl _).alloc _)
  have C0 : Hid (Holds ((w.alloc (.cells (vals L).toArray 26)).alloc (.cells #[.int .i64 a, .int .i64 b, .int .i64 c] 24)) (w.heap.size + 1) [a, b, c]) := holds_at (by simp) [a, b, c] 24
  have B0 : Hid (Bel w ((w.alloc (.cells (vals L).toArray 26)).alloc (.cells #[.int .i64 a, .int .i64 b, .int .i64 c] 24))) := ((Bel.refl _).alloc _).alloc _
  clear hL
  go_enter Tryd.func9, Tryd.ntmps9
  go_wp2_with (first | (with_reducible refine wpl_load26' M0.out NL.out rfl ?_))
  refine (MM.out _).mono ?_
  rintro e w1 ⟨rfl, b1⟩
  have M1 : Hid (Holds w1 w.heap.size L) := M0.out.bel b1
  have C1 : Hid (Holds w1 (w.heap.size + 1) [a, b, c]) := C0.out.bel b1
  have B1 : Hid (Bel w w1) := B0.out.trans b1
  clear b1 M0 C0 B0
  go_wp2
  go_ret2
  exact ⟨rfl, B1.out⟩

set_option maxHeartbeats 1000000 in
theorem ref_p_ctx (L : List Int) (hL : L.length = 195) (a b c : Int) (yes : mayM L = true) (no : ctxB a b c = false) (w : World) :
    Calls Tryd.prog 9 #[mdl L, .agg #[.int .i64 a, .int .i64 b, .int .i64 c]] w fun e w' => e = .returned (.tuple #[.int .i64 0, .int .i64 900]) ∧ Bel w w' := by
  have NL : Hid (L.length = 195) := hL
  have MM : Hid (∀ w, Calls Tryd.prog 14 #[mdl L] w fun e w' => e = .returned (.bool true) ∧ Bel w w') := yes ▸ ref_may_ok L hL
  have CM : Hid (∀ w, Calls Tryd.prog 22 #[.agg #[.int .i64 a, .int .i64 b, .int .i64 c]] w fun e w' => e = .returned (.bool false) ∧ Bel w w') := no ▸ ref_ctx_ok a b c
  have M0 : Hid (Holds ((w.alloc (.cells (vals L).toArray 26)).alloc (.cells #[.int .i64 a, .int .i64 b, .int .i64 c] 24)) w.heap.size L) := (holds_new w L 26).bel ((Bel.refl _).alloc _)
  have C0 : Hid (Holds ((w.alloc (.cells (vals L).toArray 26)).alloc (.cells #[.int .i64 a, .int .i64 b, .int .i64 c] 24)) (w.heap.size + 1) [a, b, c]) := holds_at (by simp) [a, b, c] 24
  have B0 : Hid (Bel w ((w.alloc (.cells (vals L).toArray 26)).alloc (.cells #[.int .i64 a, .int .i64 b, .int .i64 c] 24))) := ((Bel.refl _).alloc _).alloc _
  clear hL
  go_enter Tryd.func9, Tryd.ntmps9
  go_wp2_with (first | (with_reducible refine wpl_load26' M0.out NL.out rfl ?_))
  refine (MM.out _).mono ?_
  rintro e w1 ⟨rfl, b1⟩
  have M1 : Hid (Holds w1 w.heap.size L) := M0.out.bel b1
  have C1 : Hid (Holds w1 (w.heap.size + 1) [a, b, c]) := C0.out.bel b1
  have B1 : Hid (Bel w w1) := B0.out.trans b1
  clear b1 M0 C0 B0
  have k0 : w1.cell? ⟨w.heap.size + 1, 0, none⟩ = some (.int .i64 a) := C1.out.cell 0 (by simp)
  have k1 : w1.cell? ⟨w.heap.size + 1, 1, none⟩ = some (.int .i64 b) := C1.out.cell 1 (by simp)
  have k2 : w1.cell? ⟨w.heap.size + 1, 2, none⟩ = some (.int .i64 c) := C1.out.cell 2 (by simp)
  go_wp2_with fail
  refine (CM.out _).mono ?_
  rintro e w2 ⟨rfl, b2⟩
  have B2 : Hid (Bel w w2) := B1.out.trans b2
  clear b2 k0 k1 k2
  go_wp2
  go_ret2
  exact ⟨rfl, B2.out⟩

set_option maxHeartbeats 2000000 in
theorem ref_p_yes (L : List Int) (hL : L.length = 195) (a b c : Nat) (ha : a < 64) (hb : b < 64) (hc : c < 64) (hm : mayM L = true) (w : World) :
    Calls Tryd.prog 9 #[mdl L, .agg #[.int .i64 (a : Int), .int .i64 (b : Int), .int .i64 (c : Int)]] w fun e w' => e = .returned (.tuple #[.int .i64 (tell L a b c), .int .i64 0]) ∧ Bel w w' := by
  have NL : Hid (L.length = 195) := hL
  have MM : Hid (∀ w, Calls Tryd.prog 14 #[mdl L] w fun e w' => e = .returned (.bool true) ∧ Bel w w') := hm ▸ ref_may_ok L hL
  have CM : Hid (∀ w, Calls Tryd.prog 22 #[.agg #[.int .i64 (a : Int), .int .i64 (b : Int), .int .i64 (c : Int)]] w fun e w' => e = .returned (.bool true) ∧ Bel w w') := ctx_yes ha hb hc ▸ ref_ctx_ok (a : Int) (b : Int) (c : Int)
  have IN : Hid (∀ w, Calls Tryd.prog 24 #[mdl L, .agg #[.int .i64 (a : Int), .int .i64 (b : Int), .int .i64 (c : Int)]] w fun e w' => e = .returned (.agg #[.int .i64 (inp (L.getD a 0)), .int .i64 (inp (L.getD (64 + b) 0)), .int .i64 (inp (L.getD (128 + c) 0))]) ∧ Bel w w') := ref_in_ok L hL a b c ha hb hc hm
  have DD : Hid (∀ w, Calls Tryd.prog 23 #[.agg #[.int .i64 (L.getD 192 0), .int .i64 (L.getD 193 0), .int .i64 (L.getD 194 0)], .agg #[.int .i64 (inp (L.getD a 0)), .int .i64 (inp (L.getD (64 + b) 0)), .int .i64 (inp (L.getD (128 + c) 0))]] w fun e w' => e = .returned (.tuple #[.int .i64 (tell L a b c), .int .i64 0]) ∧ Bel w w') := fun w => (Mix.ref_dot_yes _ _ _ _ _ _ (may_in (mayM_wts hm) _ _ _) w).mono fun _ _ k => ⟨k.1, k.2.b⟩
  clear hm ha hb hc
  generalize tell L a b c = p at *
  generalize inp (L.getD a 0) = x at *
  generalize inp (L.getD (64 + b) 0) = y at *
  generalize inp (L.getD (128 + c) 0) = u at *
  have M0 : Hid (Holds ((w.alloc (.cells (vals L).toArray 26)).alloc (.cells #[.int .i64 (a : Int), .int .i64 (b : Int), .int .i64 (c : Int)] 24)) w.heap.size L) := (holds_new w L 26).bel ((Bel.refl _).alloc _)
  have C0 : Hid (Holds ((w.alloc (.cells (vals L).toArray 26)).alloc (.cells #[.int .i64 (a : Int), .int .i64 (b : Int), .int .i64 (c : Int)] 24)) (w.heap.size + 1) [(a : Int), (b : Int), (c : Int)]) := holds_at (by simp) [(a : Int), (b : Int), (c : Int)] 24
  have B0 : Hid (Bel w ((w.alloc (.cells (vals L).toArray 26)).alloc (.cells #[.int .i64 (a : Int), .int .i64 (b : Int), .int .i64 (c : Int)] 24))) := ((Bel.refl _).alloc _).alloc _
  clear hL
  go_enter Tryd.func9, Tryd.ntmps9
  go_wp2_with (first | (with_reducible refine wpl_load26' M0.out NL.out rfl ?_))
  refine (MM.out _).mono ?_
  rintro e w1 ⟨rfl, b1⟩
  have M1 : Hid (Holds w1 w.heap.size L) := M0.out.bel b1
  have C1 : Hid (Holds w1 (w.heap.size + 1) [(a : Int), (b : Int), (c : Int)]) := C0.out.bel b1
  have B1 : Hid (Bel w w1) := B0.out.trans b1
  clear b1 M0 C0 B0
  have k0 : w1.cell? ⟨w.heap.size + 1, 0, none⟩ = some (.int .i64 (a : Int)) := C1.out.cell 0 (by simp)
  have k1 : w1.cell? ⟨w.heap.size + 1, 1, none⟩ = some (.int .i64 (b : Int)) := C1.out.cell 1 (by simp)
  have k2 : w1.cell? ⟨w.heap.size + 1, 2, none⟩ = some (.int .i64 (c : Int)) := C1.out.cell 2 (by simp)
  go_wp2_with fail
  refine (CM.out _).mono ?_
  rintro e w2 ⟨rfl, b2⟩
  have B2 : Hid (Bel w w2) := B1.out.trans b2
  have M2 : Hid (Holds w2 w.heap.size L) := M1.out.bel b2
  have j0 := cell_regrown (b2.keep k0)
  have j1 := cell_regrown (b2.keep k1)
  have j2 := cell_regrown (b2.keep k2)
  have l0 := cell_regrown (M2.out.cell 192 (by rw [NL.out]; decide))
  have l1 := cell_regrown (M2.out.cell 193 (by rw [NL.out]; decide))
  have l2 := cell_regrown (M2.out.cell 194 (by rw [NL.out]; decide))
  clear b2 k0 k1 k2 M1 C1 B1 MM CM
  generalize L.getD 192 0 = x0 at *
  generalize L.getD 193 0 = x1 at *
  generalize L.getD 194 0 = x2 at *
  go_wp2_with fail
  refine wp_region_quiet_below (by kernel_rfl) (by kernel_rfl) ?_
  repeat (first
    | (with_reducible refine quiet_load26 M2.out NL.out rfl ?_)
    | quiet_step (first
      | (go_at_call 24; with_reducible exact Calls.regrown_of (IN.out _))
      | (go_at_call 23; with_reducible exact Calls.regrown_of (DD.out _))))
  refine wpQuiet_nil ?_
  intro _ hw'
  obtain ⟨⟨dq, osq⟩, hw''⟩ := hw'
  subst hw''
  go_wp2
  go_ret2
  exact ⟨rfl, B2.out.trans (below_regrown w2 dq osq)⟩

end Go.Proofs.YtnldnkcfeclmpaaDoor.Mod
