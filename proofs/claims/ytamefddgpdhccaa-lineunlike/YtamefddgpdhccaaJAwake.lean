/-
  The check that every statement of layer 16 makes ahead. No condition.
-/
import Derived.Test.YtamefddgpdhccaaJIs
namespace Go.Proofs.Ytamefddgpdhccaa.Ser
open Go.RowKit Go.Sort Go.Proofs.Ytamefddgpdhccaa.Mod Go.Proofs.Ytamefddgpdhccaa.Lin Go.Proofs.Ytamefddgpdhccaa.Chn Go.Proofs.Ytamefddgpdhccaa.Ints
set_option linter.unusedVariables false
set_option linter.unusedSimpArgs false

set_option maxRecDepth 20000 in
set_option maxHeartbeats 1000000 in
theorem awake_true (w : World) :
    Calls Try.prog 17 #[] w fun e w' => e = .returned (.bool true) ∧ Bel w w' := by
  have ok : okP [5, 5, 6] = true := by decide +kernel
  obtain ⟨R, hR⟩ : ∃ R, resL [5, 5, 6] = R := ⟨_, rfl⟩
  have PY : Hid (∀ (a : Addr) (w : World), Slc w (some a) [5, 5, 6] → Calls Try.prog 9 #[.slice (some a) 3 3] w fun e w' => ∃ g, e = .returned (.tuple #[.slice (some ⟨g, 0, none⟩) 3 3, .int .i64 0]) ∧ w.heap.size ≤ g ∧ g < w'.heap.size ∧ Holds w' g R ∧ Bel w w') :=
    fun a w h => hR ▸ put_yes (some a) [5, 5, 6] 3 3 rfl ok w h
  have GY : Hid (∀ (a : Addr) (w : World), Slc w (some a) R → Calls Try.prog 11 #[.slice (some a) 3 3] w fun e w' => ∃ g, e = .returned (.tuple #[.slice (some ⟨g, 0, none⟩) 3 3, .int .i64 0]) ∧ w.heap.size ≤ g ∧ g < w'.heap.size ∧ Holds w' g [5, 5, 6] ∧ Bel w w') :=
    fun a w h => by
      have := get_yes (some a) R 3 3 (by rw [← hR, resL_len]; rfl) (hR ▸ (back_put ok).1) w h
      rw [← hR, (back_put ok).2] at this
      exact this
  have PN : Hid (∀ (a : Addr) (w : World), Slc w (some a) [131073] → Calls Try.prog 9 #[.slice (some a) 1 1] w fun e w' => e = .returned (.tuple #[.slice none 0 0, .int .i64 1600]) ∧ Bel w w') :=
    fun a w h => put_no (some a) [131073] 1 1 rfl (by decide) (by decide +kernel) w h
  have GN : Hid (∀ (a : Addr) (w : World), Slc w (some a) [16777217] → Calls Try.prog 11 #[.slice (some a) 1 1] w fun e w' => e = .returned (.tuple #[.slice none 0 0, .int .i64 1600]) ∧ Bel w w') :=
    fun a w h => get_no (some a) [16777217] 1 1 rfl (by decide) (by decide +kernel) w h
  clear ok hR
  go_enter Try.func17, Try.ntmps17
  go_wp2_with fail
  refine (PY.out _ _ (slc_3 (by go_simp) (by go_simp) (by go_simp))).mono ?_
  rintro e w1 ⟨g1, rfl, _, _, h1, b1⟩
  have B1 : Hid (Bel w w1) := ((Bel.refl w).alloc _).trans b1
  have H1 : Hid (Holds w1 g1 R) := h1
  clear b1 h1
  go_wp2_with fail
  refine (GY.out _ _ H1.out.slc).mono ?_
  rintro e w2 ⟨g2, rfl, _, _, h2, b2⟩
  have B2 : Hid (Bel w w2) := B1.out.trans b2
  have H2 : Hid (Holds w2 g2 [5, 5, 6]) := h2
  clear b2 h2 B1 H1
  go_wp2_with fail
  refine (PN.out _ _ (slc_1 (by go_simp))).mono ?_
  rintro e w3 ⟨rfl, b3⟩
  have bb := ((Bel.refl w2).alloc _).trans b3
  have B3 : Hid (Bel w w3) := B2.out.trans bb
  have H3 : Hid (Holds w3 g2 [5, 5, 6]) := H2.out.bel bb
  clear b3 bb B2 H2
  go_wp2_with fail
  refine (GN.out _ _ (slc_1 (by go_simp))).mono ?_
  rintro e w4 ⟨rfl, b4⟩
  have bb := ((Bel.refl w3).alloc _).trans b4
  have B4 : Hid (Bel w w4) := B3.out.trans bb
  have H4 : Hid (Holds w4 g2 [5, 5, 6]) := H3.out.bel bb
  clear b4 bb B3 H3
  go_wp2_with (go_at_call 14; refine (Lin.num_ok _ _).mono ?_; rintro e w5 ⟨rfl, hw⟩; replace hw := hw.symm; subst hw)
  refine (same_ok (some ⟨g2, 0, none⟩) (some ⟨w4.heap.size, 0, none⟩) [5, 5, 6] [5, 5, 6] 3 3 3 3 rfl rfl (by decide) (by decide) _ (H4.out.bel ((Bel.refl _).alloc _)).slc ?_).mono ?_
  · exact slc_3 (by go_simp) (by go_simp) (by go_simp)
  rintro e w5 ⟨rfl, q, hw⟩
  have B5 : Hid (Bel w w5) := by
    rw [hw]
    exact (B4.out.alloc _).drewN q
  clear hw H4 B4
  go_wp2_with (go_at_call 14; refine (Lin.num_ok _ _).mono ?_; rintro e w5 ⟨rfl, hw⟩; replace hw := hw.symm; subst hw)
  go_ret
  exact ⟨rfl, B5.out⟩

end Go.Proofs.Ytamefddgpdhccaa.Ser
