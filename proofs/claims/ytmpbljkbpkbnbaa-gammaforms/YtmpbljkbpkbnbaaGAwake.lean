/-
  The statements' own check of gamma (awake): it answers true. No condition.
-/
import Derived.Test.YtmpbljkbpkbnbaaGNumber
import Derived.Test.YtmpbljkbpkbnbaaGBits
namespace Go.Proofs.Ytmpbljkbpkbnbaa.Gam
open Go.RowKit Go.Proofs.Ytmpbljkbpkbnbaa.Mod Go.Proofs.Ytmpbljkbpkbnbaa.Ints Go.Proofs.Ytmpbljkbpkbnbaa.Num
set_option linter.unusedVariables false

theorem bel_drewN (w : World) (q : Nat) : Bel w (w.drewN q) := (Bel.refl w).drewN q

set_option maxRecDepth 20000 in
set_option maxHeartbeats 1000000 in
theorem awake_ok (w : World) : Calls Try.prog 16 #[] w fun e w' => e = .returned (.bool true) ∧ Bel w w' := by
  have C : Calls Try.prog 8 #[.int .i64 4] w _ := bits_ok 4 5 (by decide) (by decide) w
  go_enter Try.func16, Try.ntmps16
  go_wp2_with fail
  refine C.mono ?_
  rintro e w1 ⟨g, c, rfl, h1, h2, h3, h4, hh, b1⟩
  clear C
  have D : Calls Try.prog 10 #[.slice (some ⟨g, 0, none⟩) 5 c] w1 _ := number_ok (some ⟨g, 0, none⟩) (bitsOf 4) 5 c (by decide) h3 h4 w1 hh.slc
  have E : Calls Try.prog 10 #[.slice (some ⟨w1.heap.size, 0, none⟩) 2 2] (w1.alloc (.cells #[.int .i64 1, .int .i64 0] 3)) _ :=
    number_ok (some ⟨w1.heap.size, 0, none⟩) [1, 0] 2 2 rfl (by decide) (by decide) _ (holds_new w1 [1, 0] 3).slc
  have b2 : Bel w1 (w1.alloc (.cells #[.int .i64 1, .int .i64 0] 3)) := (Bel.refl _).alloc _
  have b3 : Bel w1 ((w1.alloc (.cells #[.int .i64 1, .int .i64 0] 3)).alloc (.cells #[.int .i64 1, .int .i64 1, .int .i64 0, .int .i64 0, .int .i64 1] 3)) := b2.alloc _
  have F : Calls Try.prog 12 #[.slice (some ⟨g, 0, none⟩) 5 c, .slice (some ⟨w1.heap.size + 1, 0, none⟩) 5 5] ((w1.alloc (.cells #[.int .i64 1, .int .i64 0] 3)).alloc (.cells #[.int .i64 1, .int .i64 1, .int .i64 0, .int .i64 0, .int .i64 1] 3)) _ :=
    same_ok (some ⟨g, 0, none⟩) (some ⟨w1.heap.size + 1, 0, none⟩) (bitsOf 4) [1, 1, 0, 0, 1] 5 5 c 5 (by decide) rfl (by decide) (by decide) _ (hh.bel b3).slc (holds_at (by simp) [1, 1, 0, 0, 1] 3).slc
  have e1 : numV (bitsOf 4) = .tuple #[.int .i64 4, .int .i64 0] := by unfold numV; rw [numP_bits 4 (by decide)]; rfl
  have e2 : numV [1, 0] = .tuple #[.int .i64 0, .int .i64 1100] := rfl
  have e3 : decide (bitsOf 4 = [1, 1, 0, 0, 1]) = true := by decide
  rw [e1] at D
  rw [e2] at E
  rw [e3] at F
  have HB : Hid (Bel w w1) := b1
  clear e1 e2 e3 hh b2 b3 b1
  go_wp2_with fail
  refine D.mono ?_
  rintro e w2 ⟨rfl, hw⟩
  replace hw := hw.symm
  subst hw
  go_wp2_with fail
  refine (bits_no (-1) (.inl (by decide)) _).mono ?_
  rintro e w2 ⟨rfl, hw⟩
  replace hw := hw.symm
  subst hw
  go_wp2_with fail
  refine E.mono ?_
  rintro e w2 ⟨rfl, hw⟩
  replace hw := hw.symm
  subst hw
  go_wp2_with fail
  refine F.mono ?_
  rintro e w2 ⟨rfl, q, hw⟩
  subst hw
  clear D E F
  go_wp2_with (go_at_call 13; refine (num_ok _ _).mono ?_; rintro e w2 ⟨rfl, hw⟩; replace hw := hw.symm; subst hw)
  go_ret
  exact ⟨rfl, ((HB.out.alloc _).alloc _).drewN _⟩

end Go.Proofs.Ytmpbljkbpkbnbaa.Gam
