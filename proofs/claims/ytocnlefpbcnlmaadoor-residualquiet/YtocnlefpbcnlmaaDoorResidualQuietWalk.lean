/-
  ResidualQuiet answers true: the walk. Condition: the package's table is laid as its text lays it.
-/
import Derived.Test.YtocnlefpbcnlmaaDoorRTrace
import Derived.Test.YtocnlefpbcnlmaaDoorRMake
namespace Go.Proofs.YtocnlefpbcnlmaaDoor.Res
open Go.RowKit Go.Sort Go.Proofs.YtocnlefpbcnlmaaDoor.Mod Go.Proofs.YtocnlefpbcnlmaaDoor.Ints Go.Proofs.YtocnlefpbcnlmaaDoor.Num
set_option linter.unusedVariables false
set_option linter.unusedSimpArgs false

theorem and_8 (n : Int) : bits .and .i64 n 255 = n % 256 := and_mask 8 255 (by decide) (by decide) n

set_option maxRecDepth 20000 in
set_option maxHeartbeats 2000000 in
theorem quiet_walk (n : Int) (w : World) (T : Str.Tab w) :
    Calls Tryd.prog 5 #[.int .i64 n] w fun e w' => e = .returned (.bool true) ∧ Bel w w' := by
  have hand := and_8 n
  obtain ⟨K, hK⟩ : ∃ K : Nat, n % 256 = (K : Int) := ⟨(n % 256).toNat, by omega⟩
  rw [hK] at hand
  have k0 : K ≤ 255 := by omega
  have ff : ∀ x ∈ List.replicate K (0 : Int), Fits x := fun x hx => by obtain ⟨_, rfl⟩ := List.mem_replicate.1 hx; unfold Fits; omega
  have hl : (List.replicate K (0 : Int)).length = K := List.length_replicate
  have z := told_zeros K k0
  have AW : Hid (Calls Tryd.prog 7 #[] w fun e w' => e = .returned (.bool true) ∧ Bel w w') := awake_ok w T
  have TT : Hid (Str.Tab w) := T
  have NM : Hid (∀ n w, Calls Tryd.prog 9 #[.int .i64 n] w fun e w' => e = .returned (.int .i64 n) ∧ w' = w) := Ints.num_ok
  have PY : Hid (∀ w g, Str.Tab w → Holds w g (List.replicate K 0) → Calls Tryd.prog 8 #[.slice (some ⟨g, 0, none⟩) K K] w fun e w' => e = .returned (.tuple #[.string (told (List.replicate K 0)), .int .i64 0]) ∧ Bel w w') := fun w g T h => put_yes _ _ K K hl.symm (by omega) (all_of ff) w T h.slc
  have G1 : Hid (∀ w, Str.Tab w → Calls Tryd.prog 10 #[.string (told (List.replicate K 0)), .int .i64 (K : Int)] w fun e w' => (∃ g, e = .returned (.tuple #[.slice (some ⟨g, 0, none⟩) K K, .int .i64 0]) ∧ w.heap.size ≤ g ∧ Holds w' g (List.replicate K 0)) ∧ Bel w w') := fun w T => by
    have := get_ok (told (List.replicate K 0)) (by unfold maxLen; omega) (K : Int) w T
    have e := getP_told ff (by omega)
    rw [hl] at e
    rw [e] at this
    refine this.mono fun e w' h => ?_
    obtain ⟨⟨g, h1, h2⟩, h3⟩ := h
    rw [hl] at h1
    exact ⟨⟨g, h1, h2⟩, h3⟩
  have hmk := mkI K (by omega)
  have SI : Hid (∀ w g g2, Holds w g (List.replicate K 0) → Holds w g2 (List.replicate K 0) → Calls Tryd.prog 11 #[.slice (some ⟨g, 0, none⟩) K K, .slice (some ⟨g2, 0, none⟩) K K] w fun e w' => e = .returned (.bool true) ∧ ∃ q, w' = w.drewN q) := fun w g g2 h1 h2 => by
    have := same_ok (some ⟨g, 0, none⟩) (some ⟨g2, 0, none⟩) _ _ K K K K hl.symm hl.symm (by unfold maxLen; omega) (by unfold maxLen; omega) w h1.slc h2.slc
    rwa [decide_eq_true rfl] at this
  generalize told (List.replicate K 0) = s at *
  generalize List.replicate K (0 : Int) = Z at *
  have zi : (s.size : Int) ≤ 8 + (K : Int) / 16 := by omega
  have kd : (0 : Int) ≤ (K : Int) / 16 := by omega
  have kd2 : (K : Int) / 16 ≤ 15 := by omega
  clear hK hl ff T z
  go_enter Tryd.func5, Tryd.ntmps5
  go_wp2_with fail
  refine AW.out.mono ?_
  rintro e w1 ⟨rfl, b1⟩
  have B1 : Hid (Bel w w1) := b1
  clear AW b1
  go_wp2_with fail
  have H2 : Hid (Holds (w1.alloc (.cells (vals Z).toArray 3)) w1.heap.size Z ∧ Bel w (w1.alloc (.cells (vals Z).toArray 3))) := ⟨holds_new w1 Z 3, B1.out.alloc _⟩
  generalize w1.alloc (.cells (vals Z).toArray 3) = W2 at *
  refine (PY.out _ _ (tab_bel TT.out H2.out.2) H2.out.1).mono ?_
  rintro e w3 ⟨rfl, b3⟩
  have B3 : Hid (Bel w w3) := H2.out.2.trans b3
  clear b3 H2 B1 PY
  go_wp2_with fail
  refine (G1.out _ (tab_bel TT.out B3.out)).mono ?_
  rintro e w4 ⟨⟨g, rfl, hg, hh⟩, b4⟩
  have B4 : Hid (Bel w w4 ∧ Holds w4 g Z) := ⟨B3.out.trans b4, hh⟩
  clear b4 hg hh B3 G1
  have S5 : Hid (∀ W, W = w4.alloc (.cells (vals Z).toArray 3) → Calls Tryd.prog 11 #[.slice (some ⟨g, 0, none⟩) K K, .slice (some ⟨w4.heap.size, 0, none⟩) K K] W fun e w' => e = .returned (.bool true) ∧ Bel w w') := fun W hW => by
    refine (SI.out W g w4.heap.size (hW ▸ B4.out.2.bel ((Bel.refl _).alloc _)) (hW ▸ holds_new w4 Z 3)).mono fun e w' h => ⟨h.1, ?_⟩
    obtain ⟨q, rfl⟩ := h.2
    exact (hW ▸ B4.out.1.alloc _ : Bel w W).drewN q
  go_wp2_with (first
    | (go_at_call 9; (with_reducible refine (NM.out _ _).mono ?_); rintro e w9 ⟨rfl, hw9⟩; replace hw9 := hw9.symm; subst hw9)
    | (go_at_call 11; (with_reducible refine (S5.out _ rfl).mono ?_); rintro e w6 ⟨rfl, b6⟩; have B7 : Hid (Bel w w6) := b6; clear b6))
  go_ret
  exact ⟨rfl, B7.out⟩

end Go.Proofs.YtocnlefpbcnlmaaDoor.Res
