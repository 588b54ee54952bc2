/-
  ResidualPrefix answers true: the walk. Condition: the package's table is laid as its text lays it.
-/
import Derived.Test.YtocnlefpbcnlmaaDoorRCopy
namespace Go.Proofs.YtocnlefpbcnlmaaDoor.Res
open Go.RowKit Go.Sort Go.Proofs.YtocnlefpbcnlmaaDoor.Mod Go.Proofs.YtocnlefpbcnlmaaDoor.Ints Go.Proofs.YtocnlefpbcnlmaaDoor.Num
set_option linter.unusedVariables false
set_option linter.unusedSimpArgs false

theorem and_16 (n : Int) : bits .and .i64 n 65535 = n % 65536 := and_mask 16 65535 (by decide) (by decide) n

/-- Which of the three it is. -/
theorem prefix_cases (rs : List Int) (y : Int) (h0 : 0 ≤ y) (h1 : y ≤ 65535) :
    ¬ putE rs = 0 ∨ (putE rs = 0 ∧ ¬ putE (rs ++ [y]) = 0 ∧ 256 ≤ rs.length) ∨
    (putE rs = 0 ∧ putE (rs ++ [y]) = 0 ∧ putE (rs ++ [y + 1]) = 0 ∧ ¬ putS (rs ++ [y]) = putS (rs ++ [y + 1]) ∧ (putS rs).size ≤ (putS (rs ++ [y])).size ∧ (putS rs).size ≤ (putS (rs ++ [y + 1])).size) := by
  cases h : okB rs
  · left
    unfold putE
    rw [h]
    decide
  · have e0 : putE rs = 0 := by unfold putE; rw [h]; rfl
    by_cases hl : rs.length < 256
    · have ha : okB (rs ++ [y]) = true := by rw [okB_snoc, h, decide_eq_true hl, decide_eq_true (by omega : -16777216 ≤ y ∧ y ≤ 16777216)]; rfl
      have hb : okB (rs ++ [y + 1]) = true := by rw [okB_snoc, h, decide_eq_true hl, decide_eq_true (by omega : -16777216 ≤ y + 1 ∧ y + 1 ≤ 16777216)]; rfl
      obtain ⟨r1, r2⟩ := (okB_iff rs).1 h
      obtain ⟨a1, a2⟩ := (okB_iff _).1 ha
      obtain ⟨b1, b2⟩ := (okB_iff _).1 hb
      right; right
      refine ⟨e0, by unfold putE; rw [ha]; rfl, by unfold putE; rw [hb]; rfl, ?_, ?_, ?_⟩
      · unfold putS
        rw [ha, hb, if_pos rfl, if_pos rfl]
        intro e
        have := told_inj (fits_of a2) (fits_of b2) (by simp) e
        have := List.append_cancel_left this
        simp at this
        omega
      · unfold putS
        rw [ha, h, if_pos rfl, if_pos rfl]
        exact told_more (fits_of r2) ⟨by omega, by omega⟩
      · unfold putS
        rw [hb, h, if_pos rfl, if_pos rfl]
        exact told_more (fits_of r2) ⟨by omega, by omega⟩
    · right; left
      refine ⟨e0, ?_, by omega⟩
      have ha : okB (rs ++ [y]) = false := by rw [okB_snoc, decide_eq_false hl]; rfl
      unfold putE
      rw [ha]
      decide

theorem putS_size (rs : List Int) : (putS rs).size ≤ 60000 := by
  unfold putS
  cases h : okB rs
  · exact Nat.zero_le _
  · obtain ⟨h1, h2⟩ := (okB_iff rs).1 h
    have := told_bound (fits_of h2)
    rw [if_pos rfl]
    omega

set_option maxRecDepth 20000 in
set_option maxHeartbeats 2000000 in
theorem prefix_walk (ao : Option Addr) (rs : List Int) (n cap : Nat) (hn : n = rs.length) (hc : n ≤ cap) (hm : cap ≤ maxLen) (h8 : cap * 8 ≤ 140737488351232) (hnil : ao = none → cap = 0) (x : Int) (w : World) (T : Str.Tab w) (hA : Slc w ao rs) :
    Calls Tryd.prog 6 #[.slice ao n cap, .int .i64 x] w fun e w' => e = .returned (.bool true) ∧ Bel w w' := by
  have AW : Hid (Calls Tryd.prog 7 #[] w fun e w' => e = .returned (.bool true) ∧ Bel w w') := awake_ok w T
  have TT : Hid (Str.Tab w) := T
  have HA : Hid (Slc w ao rs) := hA
  have NM : Hid (∀ n w, Calls Tryd.prog 9 #[.int .i64 n] w fun e w' => e = .returned (.int .i64 n) ∧ w' = w) := Ints.num_ok
  have hand := and_16 x
  obtain ⟨y, hy⟩ : ∃ y, x % 65536 = y := ⟨_, rfl⟩
  rw [hy] at hand
  have y0 : 0 ≤ y := by omega
  have y1 : y ≤ 65535 := by omega
  have PC := prefix_cases rs y y0 y1
  have P0 : Hid (∀ w', Bel w w' → Calls Tryd.prog 8 #[.slice ao n cap] w' fun e w'' => e = .returned (.tuple #[.string (putS rs), .int .i64 (putE rs)]) ∧ Bel w' w'') := fun w' b => put_is ao rs n cap hn (by omega) w' (tab_bel T b) (hA.bel b)
  have hx : n + 1 ≤ maxLen := by unfold maxLen; omega
  have P1 : Hid (∀ w' ao c, Str.Tab w' → Slc w' ao (rs ++ [y]) → Calls Tryd.prog 8 #[.slice ao (n + 1) c] w' fun e w'' => e = .returned (.tuple #[.string (putS (rs ++ [y])), .int .i64 (putE (rs ++ [y]))]) ∧ Bel w' w'') := fun w' ao c T h => put_is ao _ (n + 1) c (by simp [hn]) hx w' T h
  have P2 : Hid (∀ w' ao c, Str.Tab w' → Slc w' ao (rs ++ [y + 1]) → Calls Tryd.prog 8 #[.slice ao (n + 1) c] w' fun e w'' => e = .returned (.tuple #[.string (putS (rs ++ [y + 1])), .int .i64 (putE (rs ++ [y + 1]))]) ∧ Bel w' w'') := fun w' ao c T h => put_is ao _ (n + 1) c (by simp [hn]) hx w' T h
  have z0 := putS_size rs
  have z1 := putS_size (rs ++ [y])
  have z2 := putS_size (rs ++ [y + 1])
  have HN : Hid (n = rs.length ∧ n * 8 ≤ 140737488351232 ∧ (ao = none → cap = 0)) := ⟨hn, by omega, hnil⟩
  have nl : n ≤ maxLen := by omega
  unfold maxLen at nl
  have PD : Hid (¬ putE rs = 0 ∨ (putE rs = 0 ∧ ¬ putE (rs ++ [y]) = 0 ∧ 256 ≤ n) ∨ (putE rs = 0 ∧ putE (rs ++ [y]) = 0 ∧ putE (rs ++ [y + 1]) = 0 ∧ ¬ putS (rs ++ [y]) = putS (rs ++ [y + 1]) ∧ (putS rs).size ≤ (putS (rs ++ [y])).size ∧ (putS rs).size ≤ (putS (rs ++ [y + 1])).size)) := hn ▸ PC
  clear PC hn hnil T hA hc hm h8 hy hx
  generalize putS rs = s0 at *
  generalize putE rs = e0 at *
  generalize putS (rs ++ [y]) = s1 at *
  generalize putE (rs ++ [y]) = e1 at *
  generalize putS (rs ++ [y + 1]) = s2 at *
  generalize putE (rs ++ [y + 1]) = e2 at *
  go_enter Tryd.func6, Tryd.ntmps6
  go_wp2_with fail
  refine AW.out.mono ?_
  rintro e w1 ⟨rfl, b1⟩
  have B1 : Hid (Bel w w1) := b1
  clear AW b1
  go_wp2_with fail
  refine (P0.out _ B1.out).mono ?_
  rintro e w2 ⟨rfl, b2⟩
  have B2 : Hid (Bel w w2) := B1.out.trans b2
  clear P0 b2 B1
  go_wp2_with (at_builtin; refine wpl_copy w2 rfl (.tmp 20) (.tmp 21) rfl ao rs n cap rfl rfl HN.out.1 HN.out.2.1 HN.out.2.2 (HA.out.bel B2.out) ?_)
  intro v3 w3 ho3 b3
  have O3 : Hid (w3.ownsRow w2.heap.size 3 1 v3 n (vals rs) ∧ Bel w2 w3) := ⟨ho3, b3⟩
  clear ho3 b3
  go_wp2_with (at_builtin; refine wpl_more w3 rfl (.tmp 23) (.tmp 26) rfl w2.heap.size n O3.out.2.size v3 rs y rfl rfl O3.out.1 HN.out.2.1 ?_)
  intro v4 w4 ho4 b4
  have O4 : Hid (w4.ownsRow w2.heap.size 3 1 v4 (n + 1) (vals (rs ++ [y])) ∧ Bel w w4) := ⟨ho4, B2.out.trans (bel_then O3.out.2 b4)⟩
  clear ho4 b4 O3
  go_wp2_with (at_builtin; refine wpl_copy w4 rfl (.tmp 28) (.tmp 29) rfl ao rs n cap rfl rfl HN.out.1 HN.out.2.1 HN.out.2.2 (HA.out.bel O4.out.2) ?_)
  intro v5 w5 ho5 b5
  have O5 : Hid (w5.ownsRow w4.heap.size 3 1 v5 n (vals rs) ∧ Bel w4 w5) := ⟨ho5, b5⟩
  clear ho5 b5
  go_wp2_with (at_builtin; refine wpl_more w5 rfl (.tmp 31) (.tmp 35) rfl w4.heap.size n O5.out.2.size v5 rs (y + 1) rfl rfl O5.out.1 HN.out.2.1 ?_)
  intro v6 w6 ho6 b6
  have b46 : Bel w4 w6 := bel_then O5.out.2 b6
  obtain ⟨ao1, c1, rfl, -, -, -, l1⟩ := owns_slc (owns_bel O4.out.1 b46)
  obtain ⟨ao2, c2, rfl, -, -, -, l2⟩ := owns_slc ho6
  have O6 : Hid (Slc w6 ao1 (rs ++ [y]) ∧ Slc w6 ao2 (rs ++ [y + 1]) ∧ Bel w w6) := ⟨l1, l2, O4.out.2.trans b46⟩
  clear ho6 b6 b46 l1 l2 O4 O5
  go_wp2_with fail
  refine (P1.out _ ao1 c1 (tab_bel TT.out O6.out.2.2) O6.out.1).mono ?_
  rintro e w7 ⟨rfl, b7⟩
  have O7 : Hid (Slc w7 ao2 (rs ++ [y + 1]) ∧ Bel w w7) := ⟨O6.out.2.1.bel b7, O6.out.2.2.trans b7⟩
  clear b7 O6 P1
  go_wp2_with fail
  refine (P2.out _ ao2 c2 (tab_bel TT.out O7.out.2) O7.out.1).mono ?_
  rintro e w8 ⟨rfl, b8⟩
  have B8 : Hid (Bel w w8) := O7.out.2.trans b8
  clear b8 O7 P2 HA
  rcases PD.out with h | ⟨h1, h2, h3⟩ | ⟨h1, h2, h3, h4, h5, h6⟩
  · clear PD
    have hd : (e0 != 0) = true := by simpa using h
    clear h
    go_wp2_with (first
      | (go_at_call 9; (with_reducible refine (NM.out _ _).mono ?_); rintro e w9 ⟨rfl, hw9⟩; replace hw9 := hw9.symm; subst hw9))
    go_ret
    exact ⟨rfl, B8.out⟩
  · clear PD
    subst h1
    have hd : (e1 != 0) = true := by simpa using h2
    have hd2 : decide ((256 : Int) ≤ (n : Int)) = true := decide_eq_true (by omega)
    clear h2 h3
    go_wp2_with (first
      | (go_at_call 9; (with_reducible refine (NM.out _ _).mono ?_); rintro e w9 ⟨rfl, hw9⟩; replace hw9 := hw9.symm; subst hw9))
    go_ret
    exact ⟨rfl, B8.out⟩
  · clear PD
    subst h1 h2 h3
    have hd : (s1.toList == s2.toList) = false := str_ne h4
    have hd2 : decide ((s0.size : Int) ≤ (s1.size : Int)) = true := decide_eq_true (by omega)
    have hd3 : decide ((s0.size : Int) ≤ (s2.size : Int)) = true := decide_eq_true (by omega)
    clear h4
    go_wp2_with (first
      | (go_at_call 9; (with_reducible refine (NM.out _ _).mono ?_); rintro e w9 ⟨rfl, hw9⟩; replace hw9 := hw9.symm; subst hw9))
    go_ret
    exact ⟨rfl, B8.out⟩

end Go.Proofs.YtocnlefpbcnlmaaDoor.Res
