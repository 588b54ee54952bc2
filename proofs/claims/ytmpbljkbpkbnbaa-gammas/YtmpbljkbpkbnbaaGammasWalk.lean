/-
  Gammas, walked: it answers true for every int and every row of ints that is there, within the reach. No other condition.
-/
import Derived.Test.YtmpbljkbpkbnbaaGAwake
import Derived.Test.YtmpbljkbpkbnbaaGRNum
namespace Go.Proofs.Ytmpbljkbpkbnbaa.Gam
open Go.RowKit Go.Proofs.Ytmpbljkbpkbnbaa.Mod Go.Proofs.Ytmpbljkbpkbnbaa.Ints Go.Proofs.Ytmpbljkbpkbnbaa.Num
set_option linter.unusedVariables false

set_option maxRecDepth 20000 in
set_option maxHeartbeats 1000000 in
theorem gammas_no (u : Int) (hu : u < 0 ∨ 33554432 < u) (ao : Option Addr) (L : List Int) (n cap : Nat) (hn : n = L.length) (hc : n ≤ cap) (hm : cap ≤ maxLen) (h8 : cap * 8 ≤ 140737488351232) (hnil : ao = none → cap = 0) (w : World) (hA : Slc w ao L) :
    Calls Try.prog 3 #[.int .i64 u, .slice ao n cap] w fun e w' => e = .returned (.bool true) ∧ Bel w w' := by
  have C := lend_ok ao L n cap hn (by omega) hnil w hA
  have HA : Hid (Slc w ao L) := hA
  have HN : Hid (n = L.length) := hn
  have B := fun w => bits_no u hu w
  have R := fun w => rbits_no u hu w
  clear hA hn hu hnil
  go_enter Try.func3, Try.ntmps3
  go_wp2_with fail
  refine C.mono ?_
  rintro e w1 ⟨g, c, rfl, q1, q2, q3, q4, hh, b1⟩
  have H1 : Hid (Holds w1 g (L ++ [-7777, -8888]) ∧ Bel w w1) := ⟨hh, b1⟩
  clear hh b1 C
  go_wp2_with fail
  refine (B _).mono ?_
  rintro e w2 ⟨rfl, hw⟩
  replace hw := hw.symm
  subst hw
  go_wp2_with fail
  refine (R _).mono ?_
  rintro e w2 ⟨rfl, hw⟩
  replace hw := hw.symm
  subst hw
  clear B R
  go_wp2_with fail
  refine (number_ok (some ⟨g, 0, none⟩) L n c HN.out (by omega) q2 w1 (holds_front H1.out.1).slc).mono ?_
  rintro e w2 ⟨rfl, hw⟩
  replace hw := hw.symm
  subst hw
  have rn := rnumber_ok ao L n cap HN.out (by omega) w1 (HA.out.bel H1.out.2)
  unfold numV at *
  generalize (numP L).1 = p1 at *
  generalize (numP L).2 = p2 at *
  go_wp2_with fail
  refine rn.mono ?_
  rintro e w2 ⟨rfl, hw⟩
  replace hw := hw.symm
  subst hw
  clear rn
  have n0 : Calls Try.prog 10 #[.slice none 0 0] w1 fun e w' => e = .returned (.tuple #[.int .i64 0, .int .i64 1100]) ∧ w' = w1 := number_ok none [] 0 0 rfl (Nat.le_refl _) (by decide) w1 (slc_nil _ _)
  go_wp2_with fail
  refine n0.mono ?_
  rintro e w2 ⟨rfl, hw⟩
  replace hw := hw.symm
  subst hw
  clear n0
  have s0 := same_ok none none [] [] 0 0 0 0 rfl rfl (by decide) (by decide) w1 (slc_nil _ _) (slc_nil _ _)
  rw [decide_eq_true rfl] at s0
  go_wp2_with fail
  refine s0.mono ?_
  rintro e w2 ⟨rfl, q, hw⟩
  have H2 : Hid (Holds w2 g (L ++ [-7777, -8888]) ∧ Bel w w2) := by
    rw [hw]
    exact ⟨H1.out.1.drewN q, H1.out.2.drewN q⟩
  clear s0 hw H1
  have hb1 : (p1 != p1) = false := by simp
  have hb2 : (p2 != p2) = false := by simp
  go_wp2_with (go_at_call 13; refine (num_ok _ _).mono ?_; rintro e w3 ⟨rfl, hw⟩; replace hw := hw.symm; subst hw)
  refine (spoil_nil _).mono ?_
  rintro e w3 ⟨rfl, hw⟩
  replace hw := hw.symm
  subst hw
  clear hb1 hb2
  go_wp2_with fail
  refine (kept_ok ao L n cap g c HN.out q1 q2 w2 (HA.out.bel H2.out.2) H2.out.1).mono ?_
  rintro e w3 ⟨rfl, q', hw⟩
  have B3 : Hid (Bel w w3) := by
    rw [hw]
    exact H2.out.2.drewN q'
  clear hw H2
  go_wp2_with fail
  refine (awake_ok w3).mono ?_
  rintro e w4 ⟨rfl, b4⟩
  have B4 : Hid (Bel w w4) := B3.out.trans b4
  clear b4 B3
  go_wp2
  go_ret
  exact ⟨rfl, B4.out⟩

set_option maxRecDepth 20000 in
set_option maxHeartbeats 1000000 in
theorem gammas_yes (u k : Nat) (hu : u ≤ 33554432) (hk : k = 2 * many u + 1) (ao : Option Addr) (L : List Int) (n cap : Nat) (hn : n = L.length) (hc : n ≤ cap) (hm : cap ≤ maxLen) (h8 : cap * 8 ≤ 140737488351232) (hnil : ao = none → cap = 0) (w : World) (hA : Slc w ao L) :
    Calls Try.prog 3 #[.int .i64 (u : Int), .slice ao n cap] w fun e w' => e = .returned (.bool true) ∧ Bel w w' := by
  have C := lend_ok ao L n cap hn (by omega) hnil w hA
  have HA : Hid (Slc w ao L) := hA
  have HN : Hid (n = L.length) := hn
  have k51 : k ≤ 51 := by have := many_25 u hu; omega
  have HK : Hid (k = (bitsOf u).length) := (by rw [bitsOf_length]; exact hk : k = (bitsOf u).length)
  have HU : Hid (u ≤ 33554432) := hu
  have B : Hid (∀ w, _) := fun w => bits_ok u k hu hk w
  have R : Hid (∀ w, _) := fun w => rbits_ok u k hu hk w
  clear hA hn hnil hk
  go_enter Try.func3, Try.ntmps3
  go_wp2_with fail
  refine C.mono ?_
  rintro e w1 ⟨g, c, rfl, q1, q2, q3, q4, hh, b1⟩
  have H1 : Hid (Holds w1 g (L ++ [-7777, -8888]) ∧ Bel w w1) := ⟨hh, b1⟩
  clear hh b1 C
  go_wp2_with fail
  refine (B.out _).mono ?_
  rintro e w2 ⟨g1, c1, rfl, r1, r2, r3, r4, hh, b2⟩
  have H2 : Hid (Holds w2 g1 (bitsOf u) ∧ Bel w1 w2) := ⟨hh, b2⟩
  clear hh b2
  go_wp2_with fail
  refine (R.out _).mono ?_
  rintro e w3 ⟨g2, c2, rfl, s1, s2, s3, s4, hh, b3⟩
  have H3 : Hid (Holds w3 g2 (bitsOf u) ∧ Holds w3 g1 (bitsOf u) ∧ Bel w1 w3) := ⟨hh, H2.out.1.bel b3, H2.out.2.trans b3⟩
  clear hh b3 B R H2
  have nc := number_ok (some ⟨g, 0, none⟩) L n c HN.out (by omega) q2 w3 ((holds_front H1.out.1).bel H3.out.2.2).slc
  have rn := rnumber_ok ao L n cap HN.out (by omega) w3 (HA.out.bel (H1.out.2.trans H3.out.2.2))
  have na := number_ok (some ⟨g1, 0, none⟩) (bitsOf u) k c1 HK.out r3 r4 w3 H3.out.2.1.slc
  unfold numV at *
  rw [numP_bits u HU.out] at na
  generalize (numP L).1 = p1 at *
  generalize (numP L).2 = p2 at *
  go_wp2_with fail
  refine nc.mono ?_
  rintro e w4 ⟨rfl, hw⟩
  replace hw := hw.symm
  subst hw
  go_wp2_with fail
  refine rn.mono ?_
  rintro e w4 ⟨rfl, hw⟩
  replace hw := hw.symm
  subst hw
  go_wp2_with fail
  refine na.mono ?_
  rintro e w4 ⟨rfl, hw⟩
  replace hw := hw.symm
  subst hw
  clear nc rn na
  have s0 := same_ok (some ⟨g1, 0, none⟩) (some ⟨g2, 0, none⟩) (bitsOf u) (bitsOf u) k k c1 c2 HK.out HK.out (by unfold maxLen; omega) (by unfold maxLen; omega) w3 H3.out.2.1.slc H3.out.1.slc
  rw [decide_eq_true rfl] at s0
  go_wp2_with fail
  refine s0.mono ?_
  rintro e w4 ⟨rfl, q, hw⟩
  have H4 : Hid (Holds w4 g1 (bitsOf u) ∧ Bel w1 w4) := by
    rw [hw]
    exact ⟨H3.out.2.1.drewN q, H3.out.2.2.drewN q⟩
  clear s0 hw H3
  have hb1 : (p1 != p1) = false := by simp
  have hb2 : (p2 != p2) = false := by simp
  have hb3 : ((u : Int) != (u : Int)) = false := by simp
  go_wp2_with (go_at_call 13; refine (num_ok _ _).mono ?_; rintro e w5 ⟨rfl, hw⟩; replace hw := hw.symm; subst hw)
  refine (spoil_ok (bitsOf u) k g1 c1 HK.out (by unfold maxLen; omega) w4 H4.out.1).mono ?_
  rintro e w5 ⟨rfl, b5⟩
  have H5 : Hid (Holds w5 g (L ++ [-7777, -8888]) ∧ Bel w w5) := by
    have b6 : Bel w1 w5 := Below.trans H4.out.2 (b5.mono r1)
    exact ⟨H1.out.1.bel b6, H1.out.2.trans b6⟩
  clear hb1 hb2 hb3 b5 H1 H4
  go_wp2_with fail
  refine (kept_ok ao L n cap g c HN.out q1 q2 w5 (HA.out.bel H5.out.2) H5.out.1).mono ?_
  rintro e w6 ⟨rfl, q', hw⟩
  have B6 : Hid (Bel w w6) := by
    rw [hw]
    exact H5.out.2.drewN q'
  clear hw H5
  go_wp2_with fail
  refine (awake_ok w6).mono ?_
  rintro e w7 ⟨rfl, b7⟩
  have B7 : Hid (Bel w w7) := B6.out.trans b7
  clear b7 B6
  go_wp2
  go_ret
  exact ⟨rfl, B7.out⟩

/-- A row as the frame hands it. -/
theorem of_row {w : World} {a : Option Addr} {len cap : Nat} {zs : List Int}
    (h : (a = none ∧ len = 0 ∧ cap = 0 ∧ zs = []) ∨ ∃ x, a = some x ∧ len ≤ cap ∧ cap ≤ maxLen ∧ zs.length = cap ∧ (∀ i, i < zs.length → w.cell? (x.add i) = some (.int .i64 (zs.getD i 0))) ∧ ∀ n ∈ zs, (Lit.int .i64 n).wf = true) :
    len = (zs.take len).length ∧ len ≤ cap ∧ cap ≤ maxLen ∧ (a = none → cap = 0) ∧ Slc w a (zs.take len) := by
  rcases h with ⟨rfl, rfl, rfl, rfl⟩ | ⟨x, rfl, h1, h2, h3, h4, h5⟩
  · exact ⟨rfl, Nat.le_refl _, Nat.zero_le _, fun _ => rfl, slc_nil _ _⟩
  · refine ⟨by simp; omega, h1, h2, fun q => absurd q (by simp), ?_⟩
    have : Slc w (some x) zs := fun k hk => ⟨x, rfl, h4 k hk⟩
    exact this.take len

theorem gammas_walk (u : Int) (a : Option Addr) (len cap : Nat) (zs : List Int) (w : World)
    (h : (a = none ∧ len = 0 ∧ cap = 0 ∧ zs = []) ∨ ∃ x, a = some x ∧ len ≤ cap ∧ cap ≤ maxLen ∧ zs.length = cap ∧ (∀ i, i < zs.length → w.cell? (x.add i) = some (.int .i64 (zs.getD i 0))) ∧ ∀ n ∈ zs, (Lit.int .i64 n).wf = true)
    (h8 : cap * 8 ≤ 140737488351232) : Calls Try.prog 3 #[.int .i64 u, .slice a len cap] w fun e w' => e = .returned (.bool true) ∧ Bel w w' := by
  obtain ⟨q1, q2, q3, q4, q5⟩ := of_row h
  rcases (by omega : (u < 0 ∨ 33554432 < u) ∨ (0 ≤ u ∧ u ≤ 33554432)) with h | h
  · exact gammas_no u h a _ len cap q1 q2 q3 h8 q4 w q5
  · have := gammas_yes u.toNat _ (by omega) rfl a _ len cap q1 q2 q3 h8 q4 w q5
    rwa [Int.toNat_of_nonneg h.1] at this

end Go.Proofs.Ytmpbljkbpkbnbaa.Gam
