/-
  The check that every statement of layer 14 makes ahead. No condition.
-/
import Derived.Test.YtjckeagbimfonaaLLearnY
import Derived.Test.YtjckeagbimfonaaLBuild
namespace Go.Proofs.Ytjckeagbimfonaa.Lin
open Go.RowKit Go.Sort Go.Proofs.Ytjckeagbimfonaa.Mod
set_option linter.unusedVariables false
set_option linter.unusedSimpArgs false

def X0 : List Int := [4096, 0, 0, 0, 0, 0, 0, 0, 7, -3, 0, 0, 0, 0, 0, 0]
def X1 : List Int := [4112, -16, 0, 0, 0, 0, 0, 0, 9, 7, -3, 0, 0, 0, 0, 0]
def X2 : List Int := [1048577, 0, 0, 0, 0, 0, 0, 0, 0, 0, 0, 0, 0, 0, 0, 0]

set_option maxRecDepth 20000 in
set_option maxHeartbeats 1000000 in
theorem awake_true (w : World) :
    Calls Try.prog 16 #[] w fun e w' => e = .returned (.bool true) ∧ Bel w w' := by
  have N0 : Hid (X0.length = 16) := show _ = _ by decide
  have N1 : Hid (X1.length = 16) := show _ = _ by decide
  have NZ : Hid (zeros16.length = 16) := zeros16_len
  have m0 : mayL X0 = true := by decide +kernel
  have G0 : Hid (∀ w, Calls Try.prog 9 #[mdl X0] w fun e w' => e = .returned (.tuple #[.int .i64 7, .int .i64 0]) ∧ Bel w w') := by
    have := guess_yes X0 N0.out m0
    rwa [show guess X0 = 7 by decide +kernel] at this
  have L0 : Hid (∀ w, Calls Try.prog 11 #[mdl X0, .int .i64 9] w fun e w' => e = .returned (.tuple #[mdl X1, .int .i64 0]) ∧ Bel w w') := by
    have := learn_yes X0 N0.out 9 m0 (by decide)
    rwa [show learn X0 9 = X1 by decide +kernel] at this
  have G2 : Hid (∀ w, Calls Try.prog 9 #[mdl X2] w fun e w' => e = .returned (.tuple #[.int .i64 0, .int .i64 1400]) ∧ Bel w w') := guess_no X2 (by decide) (by decide +kernel)
  have F0 : Hid (∀ w, Calls Try.prog 11 #[mdl X0, .int .i64 4194305] w fun e w' => e = .returned (.tuple #[mdl zeros16, .int .i64 1400]) ∧ Bel w w') := learn_far X0 N0.out 4194305 m0 (by decide)
  have M1 : Hid (∀ w, Calls Try.prog 14 #[mdl X1] w fun e w' => e = .returned (.bool true) ∧ Bel w w') := by
    have := may_ok X1 N1.out
    rwa [show mayL X1 = true by decide +kernel] at this
  have z := zero24
  have E0 : Hid ([4096, 0, 0, 0, 0, 0, 0, 0, 7, -3, 0, 0, 0, 0, 0, 0] = X0) := show _ = _ from rfl
  have E1 : Hid ([4112, -16, 0, 0, 0, 0, 0, 0, 9, 7, -3, 0, 0, 0, 0, 0] = X1) := show _ = _ from rfl
  have E2 : Hid ([1048577, 0, 0, 0, 0, 0, 0, 0, 0, 0, 0, 0, 0, 0, 0, 0] = X2) := show _ = _ from rfl
  have q1 := eq_24 X1 X1 N1.out N1.out
  have q2 := eq_in24 X1 X1 N1.out N1.out
  simp only [decide_true] at q1 q2
  clear m0
  have H0 : Hid (Holds (w.alloc (.cells (vals X0).toArray 24)) w.heap.size X0) := holds_new w X0 _
  have B0 : Hid (Bel w (w.alloc (.cells (vals X0).toArray 24))) := (Bel.refl w).alloc _
  go_enter Try.func16, Try.ntmps16
  go_wp2_with (first
    | (with_reducible refine wpl_build24p E0.out rfl rfl ?_)
    | (with_reducible refine wpl_store24n NZ.out N0.out rfl rfl ?_)
    | (with_reducible refine wpl_load24 H0.out N0.out rfl ?_))
  refine (G0.out _).mono ?_
  rintro e V1 ⟨rfl, b⟩
  have H1 : Hid (Holds V1 w.heap.size X0) := H0.out.bel b
  have B1 : Hid (Bel w V1) := B0.out.trans b
  clear b H0 B0
  go_wp2_with (first | (with_reducible refine wpl_load24 H1.out N0.out rfl ?_))
  refine (L0.out _).mono ?_
  rintro e V2 ⟨rfl, b⟩
  have h3 := (H1.out.bel b).bel ((Bel.refl _).alloc (.cells (vals X1).toArray 24))
  have a3 := holds_new V2 X1 24
  have b3 : Bel w (V2.alloc (.cells (vals X1).toArray 24)) := (B1.out.trans b).alloc _
  have A2 : Hid (V2.heap.size = V2.heap.size) := rfl
  clear b H1 B1
  go_wp2_with (first
    | (with_reducible refine wpl_store24n NZ.out N1.out rfl rfl ?_)
    | (with_reducible refine wpl_build24q E2.out rfl ?_))
  generalize V2.alloc (.cells (vals X1).toArray 24) = V3 at *
  refine (G2.out _).mono ?_
  rintro e V4 ⟨rfl, b⟩
  have h4 := h3.bel b
  have a4 := a3.bel b
  have b4 := b3.trans b
  have H4 : Hid (Holds V4 w.heap.size X0) := h4
  have A4 : Hid (Holds V4 V2.heap.size X1) := a4
  have B4 : Hid (Bel w V4) := b4
  clear b h3 a3 b3 h4 a4 b4 A2
  go_wp2_with (first
    | (with_reducible refine wpl_load24 H4.out N0.out rfl ?_))
  refine (F0.out _).mono ?_
  rintro e V5 ⟨rfl, b⟩
  have A6 : Hid (Holds (V5.alloc (.cells (vals zeros16).toArray 24)) V2.heap.size X1) := (A4.out.bel b).bel ((Bel.refl _).alloc _)
  have B6 : Hid (Bel w (V5.alloc (.cells (vals zeros16).toArray 24))) := (B4.out.trans b).alloc _
  clear b H4 A4 B4
  go_wp2_with (first
    | (with_reducible refine wpl_store24n NZ.out NZ.out rfl rfl ?_))
  refine (num_ok _ _).mono ?_
  rintro e V6 ⟨rfl, rfl⟩
  generalize V5.alloc (.cells (vals zeros16).toArray 24) = V6 at *
  go_wp2_with (first
    | (with_reducible refine wpl_load24g rfl A6.out N1.out rfl ?_)
    | (with_reducible refine wpl_build24pg rfl E1.out rfl rfl ?_))
  refine (num_ok _ _).mono ?_
  rintro e V7 ⟨rfl, rfl⟩
  go_wp2_with fail
  refine (num_ok _ _).mono ?_
  rintro e V7 ⟨rfl, rfl⟩
  go_wp2_with fail
  refine (num_ok _ _).mono ?_
  rintro e V7 ⟨rfl, rfl⟩
  go_wp2_with (first
    | (with_reducible refine wpl_load24g rfl A6.out N1.out rfl ?_))
  refine (M1.out _).mono ?_
  rintro e V8 ⟨rfl, b⟩
  have B8 : Hid (Bel w V8) := B6.out.trans b
  clear b
  go_wp2
  go_ret
  exact ⟨rfl, B8.out⟩

end Go.Proofs.Ytjckeagbimfonaa.Lin
