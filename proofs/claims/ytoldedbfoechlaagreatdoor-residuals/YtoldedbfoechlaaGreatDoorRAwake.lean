/-
  The check of layer 13. Condition: the package's table is laid as its text lays it.
-/
import Derived.Test.YtoldedbfoechlaaGreatDoorRGet
import Derived.Test.YtoldedbfoechlaaGreatDoorRPlain
namespace Go.Proofs.YtoldedbfoechlaaGreatDoor.Res
open Go.RowKit Go.Sort Go.Proofs.YtoldedbfoechlaaGreatDoor.Mod Go.Proofs.YtoldedbfoechlaaGreatDoor.Ints
set_option linter.unusedVariables false
set_option linter.unusedSimpArgs false

theorem fits_of {rs : List Int} (h : AllFit rs) : ∀ x ∈ rs, Fits x := fun x hx => by
  have := take_fits h rs.length
  rw [List.take_of_length_le (Nat.le_refl _)] at this
  exact this x hx
theorem all_of {rs : List Int} (h : ∀ x ∈ rs, Fits x) : AllFit rs := fun k hk => by
  rw [List.getD_eq_getElem?_getD, List.getElem?_eq_getElem hk]
  exact h _ (List.getElem_mem hk)

/-- What is told comes back. -/
theorem getP_told {rs : List Int} (hr : ∀ x ∈ rs, Fits x) (hl : rs.length ≤ 256) : getP (told rs) (rs.length : Nat) = some rs :=
  getP_yes hl (by have := told_bound hr; omega) (told_takes hr) rfl
/-- Nothing comes back of what is longer. -/
theorem getP_longer {rs : List Int} (hr : ∀ x ∈ rs, Fits x) (e : ByteArray) (he : 0 < e.size) : getP (told rs ++ e) (rs.length : Nat) = none :=
  getP_not (takes_told hr e) (fun h => by have := congrArg ByteArray.size h; rw [ByteArray.size_append] at this; omega)
/-- Nor of fewer. -/
theorem getP_fewer {rs xs : List Int} (hr : ∀ x ∈ rs ++ xs, Fits x) (hx : xs ≠ []) : getP (told (rs ++ xs)) (rs.length : Nat) = none :=
  getP_not (takes_fewer hr) (told_front hr hx)

def rowA : List Int := [0, -1, 5, 1000, 0]
theorem rowA_fits : ∀ x ∈ rowA, Fits x := by
  intro x hx
  simp only [rowA, List.mem_cons, List.not_mem_nil, or_false] at hx
  unfold Fits
  omega

set_option maxRecDepth 20000 in
set_option maxHeartbeats 2000000 in
theorem awake_ok (w : World) (T : Str.Tab w) : Calls Tryz.prog 14 #[] w fun e w' => e = .returned (.bool true) ∧ Bel w w' := by
  have TT : Hid (Str.Tab w) := T
  have sz := told_bound rowA_fits
  rw [show 204 * rowA.length + 4 = 1024 from rfl] at sz
  have PY : Hid (∀ w ao, Str.Tab w → Slc w ao rowA → Calls Tryz.prog 6 #[.slice ao 5 5] w fun e w' => e = .returned (.tuple #[.string (told rowA), .int .i64 0]) ∧ Bel w w') := fun w ao T h => put_yes ao rowA 5 5 rfl (by decide) (all_of rowA_fits) w T h
  have PN : Hid (∀ w ao, Slc w ao [16777217] → Calls Tryz.prog 6 #[.slice ao 1 1] w fun e w' => e = .returned (.tuple #[.string ⟨#[]⟩, .int .i64 1300]) ∧ w' = w) := fun w ao h => put_no ao [16777217] 1 1 rfl (by decide) (fun h => by have := h.2 0 (by decide); unfold Fits at this; simp at this) w h
  have G1 : Hid (∀ w, Str.Tab w → Calls Tryz.prog 8 #[.string (told rowA), .int .i64 5] w fun e w' => (∃ g, e = .returned (.tuple #[.slice (some ⟨g, 0, none⟩) 5 5, .int .i64 0]) ∧ w.heap.size ≤ g ∧ Holds w' g rowA) ∧ Bel w w') := fun w T => by
    have := get_ok (told rowA) (by unfold maxLen; omega) 5 w T
    rwa [show getP (told rowA) 5 = some rowA from getP_told rowA_fits (by decide)] at this
  have G2 : Hid (∀ w, Str.Tab w → Calls Tryz.prog 8 #[.string (told rowA ++ ⟨#[120]⟩), .int .i64 5] w fun e w' => e = .returned (.tuple #[.slice none 0 0, .int .i64 1300]) ∧ Bel w w') := fun w T => by
    have := get_ok (told rowA ++ ⟨#[120]⟩) (by rw [ByteArray.size_append, show ByteArray.size ⟨#[120]⟩ = 1 from rfl]; unfold maxLen; omega) 5 w T
    rwa [show getP (told rowA ++ ⟨#[120]⟩) 5 = none from getP_longer rowA_fits ⟨#[120]⟩ (by decide)] at this
  have G3 : Hid (∀ w, Str.Tab w → Calls Tryz.prog 8 #[.string (told rowA), .int .i64 4] w fun e w' => e = .returned (.tuple #[.slice none 0 0, .int .i64 1300]) ∧ Bel w w') := fun w T => by
    have := get_ok (told rowA) (by unfold maxLen; omega) 4 w T
    rwa [show getP (told rowA) 4 = none from getP_fewer (rs := [0, -1, 5, 1000]) (xs := [0]) rowA_fits (by simp)] at this
  have H0 : Hid (Holds (w.alloc (.cells #[.int .i64 0, .int .i64 (-1), .int .i64 5, .int .i64 1000, .int .i64 0] 3)) w.heap.size rowA) := holds_new w rowA 3
  have B0 : Hid (Bel w (w.alloc (.cells #[.int .i64 0, .int .i64 (-1), .int .i64 5, .int .i64 1000, .int .i64 0] 3))) := (Bel.refl w).alloc _
  generalize told rowA = s at *
  have hs0 : s.size ≤ 1024 := sz.2
  clear sz T
  go_enter Tryz.func14, Tryz.ntmps14
  go_wp2_with fail
  generalize w.alloc (.cells #[.int .i64 0, .int .i64 (-1), .int .i64 5, .int .i64 1000, .int .i64 0] 3) = W0 at *
  generalize w.heap.size = A0 at *
  refine (PY.out _ _ (tab_bel TT.out B0.out) H0.out.slc).mono ?_
  rintro e w1 ⟨rfl, b1⟩
  have B1 : Hid (Bel w w1) := B0.out.trans b1
  have H1 : Hid (Holds w1 A0 rowA) := H0.out.bel b1
  clear b1 B0 H0 PY
  go_wp2_with fail
  refine (G1.out _ (tab_bel TT.out B1.out)).mono ?_
  rintro e w2 ⟨⟨g, rfl, hg, hh⟩, b2⟩
  have B2 : Hid (Bel w w2) := B1.out.trans b2
  have H2 : Hid (Holds w2 A0 rowA ∧ Holds w2 g rowA) := ⟨H1.out.bel b2, hh⟩
  clear b2 B1 H1 G1 hg hh
  go_wp2_with fail
  have H3 : Hid (Holds (w2.alloc (.cells #[.int .i64 16777217] 3)) w2.heap.size [16777217]) := holds_new w2 [16777217] 3
  have B3 : Hid (Bel w (w2.alloc (.cells #[.int .i64 16777217] 3)) ∧ Bel w2 (w2.alloc (.cells #[.int .i64 16777217] 3))) := ⟨B2.out.alloc _, (Bel.refl _).alloc _⟩
  generalize w2.alloc (.cells #[.int .i64 16777217] 3) = W3 at *
  generalize w2.heap.size = A3 at *
  refine (PN.out _ _ H3.out.slc).mono ?_
  rintro e w3 ⟨rfl, rfl⟩
  have H4 : Hid (Holds w3 A0 rowA ∧ Holds w3 g rowA) := ⟨H2.out.1.bel B3.out.2, H2.out.2.bel B3.out.2⟩
  have B4 : Hid (Bel w w3) := B3.out.1
  clear H3 B3 B2 H2 PN
  go_wp2_with fail
  refine (G2.out _ (tab_bel TT.out B4.out)).mono ?_
  rintro e w4 ⟨rfl, b4⟩
  have H5 : Hid (Holds w4 A0 rowA ∧ Holds w4 g rowA) := ⟨H4.out.1.bel b4, H4.out.2.bel b4⟩
  have B5 : Hid (Bel w w4) := B4.out.trans b4
  clear b4 H4 B4 G2
  go_wp2_with fail
  refine (G3.out _ (tab_bel TT.out B5.out)).mono ?_
  rintro e w5 ⟨rfl, b5⟩
  have H6 : Hid (Holds w5 A0 rowA ∧ Holds w5 g rowA) := ⟨H5.out.1.bel b5, H5.out.2.bel b5⟩
  have B6 : Hid (Bel w w5) := B5.out.trans b5
  clear b5 H5 B5 G3
  have SI : Hid (Calls Tryz.prog 11 #[.slice (some ⟨g, 0, none⟩) 5 5, .slice (some ⟨A0, 0, none⟩) 5 5] w5 fun e w' => e = .returned (.bool true) ∧ ∃ q, w' = w5.drewN q) := by
    have := same_ok (some ⟨g, 0, none⟩) (some ⟨A0, 0, none⟩) rowA rowA 5 5 5 5 rfl rfl (by decide) (by decide) w5 H6.out.2.slc H6.out.1.slc
    rwa [decide_eq_true rfl] at this
  have NM : Hid (∀ n w, Calls Tryz.prog 10 #[.int .i64 n] w fun e w' => e = .returned (.int .i64 n) ∧ w' = w) := Ints.num_ok
  go_wp2_with (first
    | (go_at_call 10; (with_reducible refine (NM.out _ _).mono ?_); rintro e w9 ⟨rfl, hw9⟩; replace hw9 := hw9.symm; subst hw9)
    | (go_at_call 11; (with_reducible refine SI.out.mono ?_); rintro e w6 ⟨rfl, q6, hw6⟩; have B7 : Hid (Bel w w6) := hw6 ▸ B6.out.drewN q6; clear hw6))
  go_ret
  exact ⟨rfl, B7.out⟩

end Go.Proofs.YtoldedbfoechlaaGreatDoor.Res
