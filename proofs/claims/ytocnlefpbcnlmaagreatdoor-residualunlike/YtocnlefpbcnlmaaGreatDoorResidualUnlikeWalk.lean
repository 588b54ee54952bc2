/-
  ResidualUnlike answers true: the walk. Condition: the package's table is laid as its text lays it.
-/
import Derived.Test.YtocnlefpbcnlmaaGreatDoorPk20
namespace Go.Proofs.YtocnlefpbcnlmaaGreatDoor.Res
open Go.RowKit Go.Sort Go.Proofs.YtocnlefpbcnlmaaGreatDoor.Mod Go.Proofs.YtocnlefpbcnlmaaGreatDoor.Ints Go.Proofs.YtocnlefpbcnlmaaGreatDoor.Num
set_option linter.unusedVariables false
set_option linter.unusedSimpArgs false

theorem u_and8 (n : Int) : bits .and .i64 n 255 = n % 256 := and_mask 8 255 (by decide) (by decide) n
theorem place_at (at_ : Int) (z : Nat) (h0 : 0 < z) (hz : z ≤ 1000000) : ∃ K : Nat, K < z ∧ wrap64 ((IntKind.u64.wrap at_).tmod (z : Int)) = (K : Int) := by
  have e : IntKind.u64.wrap at_ = at_ % 18446744073709551616 := by simp [IntKind.wrap, IntKind.bits, IntKind.signed]
  have h0' : 0 ≤ at_ % 18446744073709551616 := by omega
  rw [e, Int.tmod_eq_emod_of_nonneg h0']
  have h1 := Int.emod_nonneg (at_ % 18446744073709551616) (show (z : Int) ≠ 0 by omega)
  have h2 := Int.emod_lt_of_pos (at_ % 18446744073709551616) (show 0 < (z : Int) by omega)
  refine ⟨(at_ % 18446744073709551616 % (z : Int)).toNat, by omega, ?_⟩
  generalize at_ % 18446744073709551616 % (z : Int) = x at *
  unfold wrap64
  omega

/-- Where no number is told, or none may be. -/
theorem unlike_early (ao : Option Addr) (rs : List Int) (n cap : Nat) (hn : n = rs.length) (hm : n ≤ maxLen) (hno : okB rs = false ∨ n = 0) (a b : Int) (w : World) (T : Str.Tab w) (hA : Slc w ao rs) :
    Calls Tryz.prog 4 #[.slice ao n cap, .int .i64 a, .int .i64 b] w fun e w' => e = .returned (.bool true) ∧ Bel w w' := by
  have AW : Hid (Calls Tryz.prog 14 #[] w fun e w' => e = .returned (.bool true) ∧ Bel w w') := awake_ok w T
  have NM : Hid (∀ n w, Calls Tryz.prog 10 #[.int .i64 n] w fun e w' => e = .returned (.int .i64 n) ∧ w' = w) := Ints.num_ok
  have P0 : Hid (∀ w', Bel w w' → Calls Tryz.prog 6 #[.slice ao n cap] w' fun e w'' => e = .returned (.tuple #[.string (putS rs), .int .i64 (putE rs)]) ∧ Bel w' w'') := fun w' b => put_is ao rs n cap hn hm w' (tab_bel T b) (hA.bel b)
  unfold maxLen at hm
  cases ho : okB rs
  · have e1 : putS rs = ⟨#[]⟩ := by unfold putS; rw [ho]; rfl
    have e2 : putE rs = 1300 := by unfold putE; rw [ho]; rfl
    rw [e1, e2] at P0
    clear hno ho e1 e2 hA hn T
    go_enter Tryz.func4, Tryz.ntmps4
    go_wp2_with fail
    refine AW.out.mono ?_
    rintro e w1 ⟨rfl, b1⟩
    have B1 : Hid (Bel w w1) := b1
    clear AW b1
    go_wp2_with fail
    refine (P0.out _ B1.out).mono ?_
    rintro e w2 ⟨rfl, b2⟩
    have B2 : Hid (Bel w w2) := B1.out.trans b2
    clear P0 b2 B1
    go_wp2_with (first
      | (go_at_call 10; (with_reducible refine (NM.out _ _).mono ?_); rintro e w9 ⟨rfl, hw9⟩; replace hw9 := hw9.symm; subst hw9))
    go_ret
    exact ⟨rfl, B2.out⟩
  · have n0 : n = 0 := by
      rcases hno with h | h
      · rw [ho] at h; cases h
      · exact h
    subst n0
    have e2 : putE rs = 0 := by unfold putE; rw [ho]; rfl
    rw [e2] at P0
    generalize putS rs = s at *
    clear hno ho e2 hA hn T
    go_enter Tryz.func4, Tryz.ntmps4
    go_wp2_with fail
    refine AW.out.mono ?_
    rintro e w1 ⟨rfl, b1⟩
    have B1 : Hid (Bel w w1) := b1
    clear AW b1
    go_wp2_with fail
    refine (P0.out _ B1.out).mono ?_
    rintro e w2 ⟨rfl, b2⟩
    have B2 : Hid (Bel w w2) := B1.out.trans b2
    clear P0 b2 B1
    go_wp2_with (first
      | (go_at_call 10; (with_reducible refine (NM.out _ _).mono ?_); rintro e w9 ⟨rfl, hw9⟩; replace hw9 := hw9.symm; subst hw9))
    go_ret
    exact ⟨rfl, B2.out⟩

theorem unlike_cases (rs : List Int) (ho : okB rs = true) (K : Nat) (hK : K < rs.length) (y : Int) (h0 : 0 ≤ y) :
    ¬ putE (rs.set K (rs.getD K 0 + 1 + y)) = 0 ∨ (putE (rs.set K (rs.getD K 0 + 1 + y)) = 0 ∧ ¬ putS rs = putS (rs.set K (rs.getD K 0 + 1 + y))) := by
  cases h : okB (rs.set K (rs.getD K 0 + 1 + y))
  · left
    unfold putE
    rw [h]
    decide
  · right
    refine ⟨by unfold putE; rw [h]; rfl, ?_⟩
    unfold putS
    rw [h, ho, if_pos rfl, if_pos rfl]
    intro e
    have := told_inj (fits_of ((okB_iff _).1 ho).2) (fits_of ((okB_iff _).1 h).2) (by simp) e
    have q := congrArg (fun l => l.getD K 0) this
    simp only [List.getD_eq_getElem?_getD, List.getElem?_set_self hK, Option.getD_some] at q
    omega

set_option maxRecDepth 20000 in
set_option maxHeartbeats 2000000 in
theorem unlike_late (ao : Option Addr) (rs : List Int) (n cap : Nat) (hn : n = rs.length) (hc : n ≤ cap) (h8 : cap * 8 ≤ 140737488351232) (hnil : ao = none → cap = 0) (ho : okB rs = true) (n0 : 0 < n) (a b : Int) (w : World) (T : Str.Tab w) (hA : Slc w ao rs) :
    Calls Tryz.prog 4 #[.slice ao n cap, .int .i64 a, .int .i64 b] w fun e w' => e = .returned (.bool true) ∧ Bel w w' := by
  obtain ⟨o1, o2⟩ := (okB_iff rs).1 ho
  have n256 : n ≤ 256 := by omega
  have AW : Hid (Calls Tryz.prog 14 #[] w fun e w' => e = .returned (.bool true) ∧ Bel w w') := awake_ok w T
  have TT : Hid (Str.Tab w) := T
  have HA : Hid (Slc w ao rs) := hA
  have NM : Hid (∀ n w, Calls Tryz.prog 10 #[.int .i64 n] w fun e w' => e = .returned (.int .i64 n) ∧ w' = w) := Ints.num_ok
  have P0 : Hid (∀ w', Bel w w' → Calls Tryz.prog 6 #[.slice ao n cap] w' fun e w'' => e = .returned (.tuple #[.string (putS rs), .int .i64 (putE rs)]) ∧ Bel w' w'') := fun w' b => put_is ao rs n cap hn (by unfold maxLen; omega) w' (tab_bel T b) (hA.bel b)
  rw [show putE rs = 0 by unfold putE; rw [ho]; rfl] at P0
  have hand := u_and8 b
  obtain ⟨y, hy⟩ : ∃ y, b % 256 = y := ⟨_, rfl⟩
  rw [hy] at hand
  have y0 : 0 ≤ y := by omega
  have y1 : y ≤ 255 := by omega
  obtain ⟨K, hK, hk⟩ := place_at a n n0 (by omega)
  have fv := o2 K (by omega)
  have UC := unlike_cases rs ho K (by omega) y y0
  obtain ⟨v, hv⟩ : ∃ v, rs.getD K 0 = v := ⟨_, rfl⟩
  rw [hv] at fv UC
  obtain ⟨v0, v1⟩ := fv
  have P1 : Hid (∀ w' g c, Str.Tab w' → Holds w' g (rs.set K (v + 1 + y)) → Calls Tryz.prog 6 #[.slice (some ⟨g, 0, none⟩) n c] w' fun e w'' => e = .returned (.tuple #[.string (putS (rs.set K (v + 1 + y))), .int .i64 (putE (rs.set K (v + 1 + y)))]) ∧ Bel w' w'') := fun w' g c T h => put_is _ _ n c (by simp [hn]) (by unfold maxLen; omega) w' T h.slc
  have P2 : Hid (∀ w' g c, Holds w' g (rs.set K (v + 1 + y)) → Calls Tryz.prog 7 #[.slice (some ⟨g, 0, none⟩) n c] w' fun e w'' => e = .returned (.tuple #[.string (putS (rs.set K (v + 1 + y))), .int .i64 (putE (rs.set K (v + 1 + y)))]) ∧ Bel w' w'') := fun w' g c h => rput_is _ _ n c (by simp [hn]) (by unfold maxLen; omega) w' h.slc
  have HN : Hid (n = rs.length ∧ n * 8 ≤ 140737488351232 ∧ (ao = none → cap = 0)) := ⟨hn, by omega, hnil⟩
  have HV : Hid (rs.getD K 0 = v) := hv
  have UD : Hid (¬ putE (rs.set K (v + 1 + y)) = 0 ∨ (putE (rs.set K (v + 1 + y)) = 0 ∧ ¬ putS rs = putS (rs.set K (v + 1 + y)))) := UC
  obtain ⟨XS, hXS⟩ : ∃ XS, rs.set K (v + 1 + y) = XS := ⟨_, rfl⟩
  rw [hXS] at P1 P2 UD
  have HX : Hid (rs.set K (v + 1 + y) = XS) := hXS
  clear UC hn hnil T hA hc h8 hy hv o1 o2 ho hXS
  generalize putS rs = s0 at *
  generalize putS XS = s1 at *
  generalize putE XS = e1 at *
  go_enter Tryz.func4, Tryz.ntmps4
  go_wp2_with fail
  refine AW.out.mono ?_
  rintro e w1 ⟨rfl, b1⟩
  have B1 : Hid (Bel w w1) := b1
  clear AW b1
  go_wp2_with fail
  refine (P0.out _ B1.out).mono ?_
  rintro e w2 ⟨rfl, b2⟩
  have B2 : Hid (Bel w w2) := B1.out.trans b2
  clear P0 b2 B1
  have hz : ((n : Int) == 0) = false := by rw [beq_eq_false_iff_ne]; omega
  go_wp2_with (first
    | (go_at_call 10; (with_reducible refine (NM.out _ _).mono ?_); rintro e w9 ⟨rfl, hw9⟩; replace hw9 := hw9.symm; subst hw9)
    | (at_builtin; refine wpl_copy w2 rfl (.tmp 37) (.tmp 38) rfl ao rs n cap rfl rfl HN.out.1 HN.out.2.1 HN.out.2.2 (HA.out.bel B2.out) ?_))
  intro v3 w3 ho3 b3
  obtain ⟨g, c, rfl, hg1, -, hg2, hg3, -, hh⟩ := owns_shape ho3 n0
  have cg := hh.cell K (by rw [← HN.out.1]; exact hK)
  have fg := hh.free K (by rw [← HN.out.1]; exact hK)
  rw [HV.out] at cg
  have H4 : Hid (Holds (w3.setCell ⟨g, K, none⟩ (.int .i64 (v + 1 + y))) g XS ∧ Bel w (w3.setCell ⟨g, K, none⟩ (.int .i64 (v + 1 + y)))) := by
    have q := hh.set K (by rw [← HN.out.1]; exact hK) (v + 1 + y)
    rw [HX.out] at q
    exact ⟨q, (B2.out.trans b3).setCell (by have := B2.out.size; show w.heap.size ≤ g; omega) _⟩
  unfold maxLen at hg3
  clear ho3 b3 hh hg1
  go_wp2_with fail
  generalize w3.setCell ⟨g, K, none⟩ (.int .i64 (v + 1 + y)) = W4 at *
  refine (P1.out _ g c (tab_bel TT.out H4.out.2) H4.out.1).mono ?_
  rintro e w5 ⟨rfl, b5⟩
  have H5 : Hid (Holds w5 g XS ∧ Bel w w5) := ⟨H4.out.1.bel b5, H4.out.2.trans b5⟩
  clear b5 H4 P1
  go_wp2_with fail
  refine (P2.out _ g c H5.out.1).mono ?_
  rintro e w6 ⟨rfl, b6⟩
  have B6 : Hid (Bel w w6) := H5.out.2.trans b6
  clear b6 H5 P2
  rcases UD.out with h | ⟨h1, h2⟩
  · have hd : (e1 != 0) = true := by simpa using h
    clear h UD
    go_wp2_with (first
      | (go_at_call 10; (with_reducible refine (NM.out _ _).mono ?_); rintro e w9 ⟨rfl, hw9⟩; replace hw9 := hw9.symm; subst hw9))
    go_ret
    exact ⟨rfl, B6.out⟩
  · subst h1
    have hd : (s0.toList == s1.toList) = false := str_ne h2
    clear h2 UD
    go_wp2_with (first
      | (go_at_call 10; (with_reducible refine (NM.out _ _).mono ?_); rintro e w9 ⟨rfl, hw9⟩; replace hw9 := hw9.symm; subst hw9))
    go_ret
    exact ⟨rfl, B6.out⟩

theorem unlike_walk (ao : Option Addr) (rs : List Int) (n cap : Nat) (hn : n = rs.length) (hc : n ≤ cap) (hm : cap ≤ maxLen) (h8 : cap * 8 ≤ 140737488351232) (hnil : ao = none → cap = 0) (a b : Int) (w : World) (T : Str.Tab w) (hA : Slc w ao rs) :
    Calls Tryz.prog 4 #[.slice ao n cap, .int .i64 a, .int .i64 b] w fun e w' => e = .returned (.bool true) ∧ Bel w w' := by
  by_cases h : okB rs = false ∨ n = 0
  · exact unlike_early ao rs n cap hn (by omega) h a b w T hA
  · refine unlike_late ao rs n cap hn hc h8 hnil ?_ (by omega) a b w T hA
    cases ho : okB rs
    · exact absurd (.inl ho) h
    · rfl

end Go.Proofs.YtocnlefpbcnlmaaGreatDoor.Res
