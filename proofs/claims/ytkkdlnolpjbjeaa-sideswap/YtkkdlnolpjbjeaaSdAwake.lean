/-
  The statements' own awake: it answers true. No condition.
-/
import Derived.Test.YtkkdlnolpjbjeaaSdBy
import Derived.Test.YtkkdlnolpjbjeaaGSameL
import Derived.Test.YtkkdlnolpjbjeaaLOwn
import Derived.Test.YtkkdlnolpjbjeaaGHdr
namespace Go.Proofs.Ytkkdlnolpjbjeaa.Sid
open Go.RowKit Go.Sort Go.Proofs.Ytkkdlnolpjbjeaa.Mod Go.Proofs.Ytkkdlnolpjbjeaa.Lin Go.Proofs.Ytkkdlnolpjbjeaa.Ints
set_option linter.unusedVariables false
set_option linter.unusedSimpArgs false

theorem put_at (ao : Option Addr) (Ls Ms : List (List Int)) (n m cap : Nat) (er : Int) (hn : n = Ls.length) (hx : n ≤ maxLen) (he : errS (-1) Ls = er) (ha : ansS (-1) Ls = Ms) (hm : m = Ms.length) (w : World) (hA : Lls w ao Ls) :
    Calls Try.prog 8 #[.slice ao n cap] w fun e w' => ∃ bo c, e = .returned (.tuple #[.slice bo m c, .int .i64 er]) ∧ Lls w' bo Ms ∧ Bel w w' := by
  subst he
  subst ha
  subst hm
  refine (put_ok ao Ls n cap hn hx w hA).mono ?_
  rintro e w' ⟨bo, k, c, rfl, rfl, _, o, b⟩
  exact ⟨bo, c, rfl, o.lls, b⟩
theorem get_at (ao : Option Addr) (Ls Ms : List (List Int)) (n m cap : Nat) (er : Int) (hn : n = Ls.length) (hx : n ≤ maxLen) (he : errS 1 Ls = er) (ha : ansS 1 Ls = Ms) (hm : m = Ms.length) (w : World) (hA : Lls w ao Ls) :
    Calls Try.prog 10 #[.slice ao n cap] w fun e w' => ∃ bo c, e = .returned (.tuple #[.slice bo m c, .int .i64 er]) ∧ Lls w' bo Ms ∧ Bel w w' := by
  subst he
  subst ha
  subst hm
  refine (get_ok ao Ls n cap hn hx w hA).mono ?_
  rintro e w' ⟨bo, k, c, rfl, rfl, _, o, b⟩
  exact ⟨bo, c, rfl, o.lls, b⟩

set_option maxRecDepth 20000 in
set_option maxHeartbeats 1000000 in
theorem awake_true (w : World) : Calls Try.prog 15 #[] w fun e w' => e = .returned (.bool true) ∧ Bel w w' := by
  have B0 : Hid (Bel w w) := Bel.refl w
  go_enter Try.func15, Try.ntmps15
  go_wp2_with fail
  refine (put_at _ [[5, 6], [7, 4]] [[5, 6], [2, -2]] 2 2 2 0 rfl (by unfold maxLen; omega) (by decide) (by decide) rfl _ ?_).mono ?_
  · exact lit_2 w [5, 6] [7, 4] (by decide) (by decide)
  rintro e w1 ⟨a1, c1, rfl, h1, b1⟩
  have B1 : Hid (Bel w w1) := Bel.trans ((((Bel.refl w).alloc _).alloc _).alloc _) b1
  have H1 : Hid (Lls w1 a1 [[5, 6], [2, -2]]) := h1
  clear h1 b1 B0
  go_wp2_with fail
  refine (get_at _ [[5, 6], [2, -2]] [[5, 6], [7, 4]] 2 2 _ 0 rfl (by unfold maxLen; omega) (by decide) (by decide) rfl _ H1.out).mono ?_
  rintro e w2 ⟨a2, c2, rfl, h2, b2⟩
  have B2 : Hid (Bel w w2) := B1.out.trans b2
  have H1b : Hid (Lls w2 a1 [[5, 6], [2, -2]]) := H1.out.bel b2
  have H2 : Hid (Lls w2 a2 [[5, 6], [7, 4]]) := h2
  clear h2 b2 H1 B1
  go_wp2_with fail
  refine (put_at _ [[5], [7, 4]] [] 2 0 2 1700 rfl (by unfold maxLen; omega) (by decide) (by decide) rfl _ ?_).mono ?_
  · exact lit_2 w2 [5] [7, 4] (by decide) (by decide)
  rintro e w3 ⟨a3, c3, rfl, h3, b3⟩
  have b3' : Bel w2 w3 := Bel.trans ((((Bel.refl w2).alloc _).alloc _).alloc _) b3
  have B3 : Hid (Bel w w3) := B2.out.trans b3'
  have H3 : Hid (Lls w3 a1 [[5, 6], [2, -2]] ∧ Lls w3 a2 [[5, 6], [7, 4]]) := ⟨H1b.out.bel b3', H2.out.bel b3'⟩
  clear h3 b3 b3' H2 H1b B2
  go_wp2_with fail
  refine (get_at none [] [] 0 0 0 1700 rfl (by unfold maxLen; omega) (by decide) (by decide) rfl _ (lls_nil _ _)).mono ?_
  rintro e w4 ⟨a4, c4, rfl, h4, b4⟩
  have B4 : Hid (Bel w w4) := B3.out.trans b4
  have H4 : Hid (Lls w4 a1 [[5, 6], [2, -2]] ∧ Lls w4 a2 [[5, 6], [7, 4]]) := ⟨H3.out.1.bel b4, H3.out.2.bel b4⟩
  clear h4 b4 B3 H3
  go_wp2_with (go_at_call 13; refine (num_ok _ _).mono ?_; rintro e w99 ⟨rfl, hw⟩; replace hw := hw.symm; subst hw)
  refine (sameL_ok _ _ [[5, 6], [2, -2]] [[5, 6], [2, -2]] 2 2 _ _ rfl rfl (by unfold maxLen; omega) (by unfold maxLen; omega) _ (H4.out.1.bel ((((Bel.refl _).alloc _).alloc _).alloc _)) ?_).mono ?_
  · exact lit_2 w4 [5, 6] [2, -2] (by decide) (by decide)
  rw [decide_eq_true rfl]
  rintro e w5 ⟨rfl, q5, hw⟩
  have b5 : Bel w4 w5 := hw ▸ ((((Bel.refl w4).alloc _).alloc _).alloc _).drewN q5
  have B5 : Hid (Bel w w5) := B4.out.trans b5
  have H5 : Hid (Lls w5 a2 [[5, 6], [7, 4]]) := H4.out.2.bel b5
  clear b5 hw H4 B4
  go_wp2_with (go_at_call 13; refine (num_ok _ _).mono ?_; rintro e w99 ⟨rfl, hw⟩; replace hw := hw.symm; subst hw)
  refine (sameL_ok _ _ [[5, 6], [7, 4]] [[5, 6], [7, 4]] 2 2 _ _ rfl rfl (by unfold maxLen; omega) (by unfold maxLen; omega) _ (H5.out.bel ((((Bel.refl _).alloc _).alloc _).alloc _)) ?_).mono ?_
  · exact lit_2 w5 [5, 6] [7, 4] (by decide) (by decide)
  rw [decide_eq_true rfl]
  rintro e w6 ⟨rfl, q6, hw⟩
  have B6 : Hid (Bel w w6) := B5.out.trans (hw ▸ ((((Bel.refl w5).alloc _).alloc _).alloc _).drewN q6)
  clear hw B5 H5
  go_wp2_with (go_at_call 13; refine (num_ok _ _).mono ?_; rintro e w99 ⟨rfl, hw⟩; replace hw := hw.symm; subst hw)
  go_ret
  exact ⟨rfl, B6.out⟩

end Go.Proofs.Ytkkdlnolpjbjeaa.Sid
