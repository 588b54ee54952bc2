/-
  The contract of the reference's Learn, where something may not be: it answers as the program's does. No condition.
-/
import Derived.Test.YtnldnkcfeclmpaaDoorNRefP
namespace Go.Proofs.YtnldnkcfeclmpaaDoor.Mod
open Go.RowKit Go.Sort
set_option linter.unusedVariables false
set_option linter.unusedSimpArgs false

set_option maxHeartbeats 1000000 in
theorem ref_learn_may (L : List Int) (hL : L.length = 195) (a b c bit : Int) (no : mayM L = false) (w : World) :
    Calls Tryd.prog 11 #[mdl L, .agg #[.int .i64 a, .int .i64 b, .int .i64 c], .int .i64 bit] w fun e w' => e = .returned (.tuple #[mdl zeros, .int .i64 900]) ∧ Bel w w' := by
  have NL : Hid (L.length = 195) := hL
  have MM : Hid (∀ w, Calls Tryd.prog 14 #[mdl L] w fun e w' => e = .returned (.bool false) ∧ Bel w w') := no ▸ ref_may_ok L hL
  have M0 : Hid (Holds (((w.alloc (.cells (vals L).toArray 26)).alloc (.cells #[.int .i64 a, .int .i64 b, .int .i64 c] 24)).alloc (.cells (vals zeros).toArray 26)) w.heap.size L) := (holds_new w L 26).bel (((Bel.refl _).alloc _).alloc _)
  have C0 : Hid (Holds (((w.alloc (.cells (vals L).toArray 26)).alloc (.cells #[.int .i64 a, .int .i64 b, .int .i64 c] 24)).alloc (.cells (vals zeros).toArray 26)) (w.heap.size + 1) [a, b, c]) := (holds_at (by simp) [a, b, c] 24).bel ((Bel.refl _).alloc _)
  have R0 : Hid (Holds (((w.alloc (.cells (vals L).toArray 26)).alloc (.cells #[.int .i64 a, .int .i64 b, .int .i64 c] 24)).alloc (.cells (vals zeros).toArray 26)) (w.heap.size + 2) zeros) := holds_at (by simp) zeros 26
  have B0 : Hid (Bel w (((w.alloc (.cells (vals L).toArray 26)).alloc (.cells #[.int .i64 a, .int .i64 b, .int .i64 c] 24)).alloc (.cells (vals zeros).toArray 26))) := (((Bel.refl _).alloc _).alloc _).alloc _
  have ZL : Hid (zeros.length = 195) := zeros_len
  have zz := zero26
  clear hL
  go_enter Tryd.func11, Tryd.ntmps11
  go_wp2_with (first | (with_reducible refine wpl_load26' M0.out NL.out rfl ?_))
  refine (MM.out _).mono ?_
  rintro e w1 ⟨rfl, b1⟩
  have M1 : Hid (Holds w1 w.heap.size L) := M0.out.bel b1
  have C1 : Hid (Holds w1 (w.heap.size + 1) [a, b, c]) := C0.out.bel b1
  have R1 : Hid (Holds w1 (w.heap.size + 2) zeros) := R0.out.bel b1
  have B1 : Hid (Bel w w1) := B0.out.trans b1
  clear b1 M0 C0 B0 R0
  go_wp2_with (first
    | (with_reducible refine wpl_build26 ?_)
    | (with_reducible refine wpl_store26 R1.out ZL.out ZL.out rfl rfl ?_))
  exact bodyPost_ret (v := .tuple #[mdl zeros, .int .i64 900]) (results_model2 Tryd.results11 rfl rfl (holds_all R1.out zeros rfl) ZL.out) rfl ⟨rfl, Bel.setCells (by omega) _ _ B1.out⟩

set_option maxHeartbeats 1000000 in
theorem ref_learn_ctx (L : List Int) (hL : L.length = 195) (a b c bit : Int) (yes : mayM L = true) (no : ctxB a b c = false) (w : World) :
    Calls Tryd.prog 11 #[mdl L, .agg #[.int .i64 a, .int .i64 b, .int .i64 c], .int .i64 bit] w fun e w' => e = .returned (.tuple #[mdl zeros, .int .i64 900]) ∧ Bel w w' := by
  have NL : Hid (L.length = 195) := hL
  have MM : Hid (∀ w, Calls Tryd.prog 14 #[mdl L] w fun e w' => e = .returned (.bool true) ∧ Bel w w') := yes ▸ ref_may_ok L hL
  have CM : Hid (∀ w, Calls Tryd.prog 22 #[.agg #[.int .i64 a, .int .i64 b, .int .i64 c]] w fun e w' => e = .returned (.bool false) ∧ Bel w w') := no ▸ ref_ctx_ok a b c
  have M0 : Hid (Holds (((w.alloc (.cells (vals L).toArray 26)).alloc (.cells #[.int .i64 a, .int .i64 b, .int .i64 c] 24)).alloc (.cells (vals zeros).toArray 26)) w.heap.size L) := (holds_new w L 26).bel (((Bel.refl _).alloc _).alloc _)
  have C0 : Hid (Holds (((w.alloc (.cells (vals L).toArray 26)).alloc (.cells #[.int .i64 a, .int .i64 b, .int .i64 c] 24)).alloc (.cells (vals zeros).toArray 26)) (w.heap.size + 1) [a, b, c]) := (holds_at (by simp) [a, b, c] 24).bel ((Bel.refl _).alloc _)
  have R0 : Hid (Holds (((w.alloc (.cells (vals L).toArray 26)).alloc (.cells #[.int .i64 a, .int .i64 b, .int .i64 c] 24)).alloc (.cells (vals zeros).toArray 26)) (w.heap.size + 2) zeros) := holds_at (by simp) zeros 26
  have B0 : Hid (Bel w (((w.alloc (.cells (vals L).toArray 26)).alloc (.cells #[.int .i64 a, .int .i64 b, .int .i64 c] 24)).alloc (.cells (vals zeros).toArray 26))) := (((Bel.refl _).alloc _).alloc _).alloc _
  have ZL : Hid (zeros.length = 195) := zeros_len
  have zz := zero26
  clear hL
  go_enter Tryd.func11, Tryd.ntmps11
  go_wp2_with (first | (with_reducible refine wpl_load26' M0.out NL.out rfl ?_))
  refine (MM.out _).mono ?_
  rintro e w1 ⟨rfl, b1⟩
  have M1 : Hid (Holds w1 w.heap.size L) := M0.out.bel b1
  have C1 : Hid (Holds w1 (w.heap.size + 1) [a, b, c]) := C0.out.bel b1
  have R1 : Hid (Holds w1 (w.heap.size + 2) zeros) := R0.out.bel b1
  have B1 : Hid (Bel w w1) := B0.out.trans b1
  clear b1 M0 C0 B0 R0
  have k0 : w1.cell? ⟨w.heap.size + 1, 0, none⟩ = some (.int .i64 a) := C1.out.cell 0 (by simp)
  have k1 : w1.cell? ⟨w.heap.size + 1, 1, none⟩ = some (.int .i64 b) := C1.out.cell 1 (by simp)
  have k2 : w1.cell? ⟨w.heap.size + 1, 2, none⟩ = some (.int .i64 c) := C1.out.cell 2 (by simp)
  go_wp2_with fail
  refine (CM.out _).mono ?_
  rintro e w2 ⟨rfl, b2⟩
  have B2 : Hid (Bel w w2) := B1.out.trans b2
  have R2 : Hid (Holds w2 (w.heap.size + 2) zeros) := R1.out.bel b2
  clear b2 k0 k1 k2 B1 R1
  go_wp2_with (first
    | (with_reducible refine wpl_build26 ?_)
    | (with_reducible refine wpl_store26 R2.out ZL.out ZL.out rfl rfl ?_))
  exact bodyPost_ret (v := .tuple #[mdl zeros, .int .i64 900]) (results_model2 Tryd.results11 rfl rfl (holds_all R2.out zeros rfl) ZL.out) rfl ⟨rfl, Bel.setCells (by omega) _ _ B2.out⟩

set_option maxHeartbeats 1000000 in
theorem ref_learn_bit (L : List Int) (hL : L.length = 195) (a b c bit : Int) (yes : mayM L = true) (yes2 : ctxB a b c = true) (no : Cnt.bitB bit = false) (w : World) :
    Calls Tryd.prog 11 #[mdl L, .agg #[.int .i64 a, .int .i64 b, .int .i64 c], .int .i64 bit] w fun e w' => e = .returned (.tuple #[mdl zeros, .int .i64 900]) ∧ Bel w w' := by
  have NL : Hid (L.length = 195) := hL
  have MM : Hid (∀ w, Calls Tryd.prog 14 #[mdl L] w fun e w' => e = .returned (.bool true) ∧ Bel w w') := yes ▸ ref_may_ok L hL
  have CM : Hid (∀ w, Calls Tryd.prog 22 #[.agg #[.int .i64 a, .int .i64 b, .int .i64 c]] w fun e w' => e = .returned (.bool true) ∧ Bel w w') := yes2 ▸ ref_ctx_ok a b c
  have BM : Hid (∀ w, Calls Tryd.prog 28 #[.int .i64 bit] w fun e w' => e = .returned (.bool false) ∧ w' = w) := no ▸ Cnt.bitMay_ok bit
  have M0 : Hid (Holds (((w.alloc (.cells (vals L).toArray 26)).alloc (.cells #[.int .i64 a, .int .i64 b, .int .i64 c] 24)).alloc (.cells (vals zeros).toArray 26)) w.heap.size L) := (holds_new w L 26).bel (((Bel.refl _).alloc _).alloc _)
  have C0 : Hid (Holds (((w.alloc (.cells (vals L).toArray 26)).alloc (.cells #[.int .i64 a, .int .i64 b, .int .i64 c] 24)).alloc (.cells (vals zeros).toArray 26)) (w.heap.size + 1) [a, b, c]) := (holds_at (by simp) [a, b, c] 24).bel ((Bel.refl _).alloc _)
  have R0 : Hid (Holds (((w.alloc (.cells (vals L).toArray 26)).alloc (.cells #[.int .i64 a, .int .i64 b, .int .i64 c] 24)).alloc (.cells (vals zeros).toArray 26)) (w.heap.size + 2) zeros) := holds_at (by simp) zeros 26
  have B0 : Hid (Bel w (((w.alloc (.cells (vals L).toArray 26)).alloc (.cells #[.int .i64 a, .int .i64 b, .int .i64 c] 24)).alloc (.cells (vals zeros).toArray 26))) := (((Bel.refl _).alloc _).alloc _).alloc _
  have ZL : Hid (zeros.length = 195) := zeros_len
  have zz := zero26
  clear hL
  go_enter Tryd.func11, Tryd.ntmps11
  go_wp2_with (first | (with_reducible refine wpl_load26' M0.out NL.out rfl ?_))
  refine (MM.out _).mono ?_
  rintro e w1 ⟨rfl, b1⟩
  have M1 : Hid (Holds w1 w.heap.size L) := M0.out.bel b1
  have C1 : Hid (Holds w1 (w.heap.size + 1) [a, b, c]) := C0.out.bel b1
  have R1 : Hid (Holds w1 (w.heap.size + 2) zeros) := R0.out.bel b1
  have B1 : Hid (Bel w w1) := B0.out.trans b1
  clear b1 M0 C0 B0 R0
  have k0 : w1.cell? ⟨w.heap.size + 1, 0, none⟩ = some (.int .i64 a) := C1.out.cell 0 (by simp)
  have k1 : w1.cell? ⟨w.heap.size + 1, 1, none⟩ = some (.int .i64 b) := C1.out.cell 1 (by simp)
  have k2 : w1.cell? ⟨w.heap.size + 1, 2, none⟩ = some (.int .i64 c) := C1.out.cell 2 (by simp)
  go_wp2_with fail
  refine (CM.out _).mono ?_
  rintro e w2 ⟨rfl, b2⟩
  have B2 : Hid (Bel w w2) := B1.out.trans b2
  have R2 : Hid (Holds w2 (w.heap.size + 2) zeros) := R1.out.bel b2
  clear b2 k0 k1 k2 B1 R1
  go_wp2_with fail
  refine (BM.out _).mono ?_
  rintro e w2 ⟨rfl, rfl⟩
  go_wp2_with (first
    | (with_reducible refine wpl_build26 ?_)
    | (with_reducible refine wpl_store26 R2.out ZL.out ZL.out rfl rfl ?_))
  exact bodyPost_ret (v := .tuple #[mdl zeros, .int .i64 900]) (results_model2 Tryd.results11 rfl rfl (holds_all R2.out zeros rfl) ZL.out) rfl ⟨rfl, Bel.setCells (by omega) _ _ B2.out⟩

end Go.Proofs.YtnldnkcfeclmpaaDoor.Mod
