/-
  Residuals answers true: the walk. Condition: the package's table is laid as its text lays it.
-/
import Derived.Test.YtocnlefpbcnlmaaGreatDoorRRefGet
import Derived.Test.YtocnlefpbcnlmaaGreatDoorLSpoil
namespace Go.Proofs.YtocnlefpbcnlmaaGreatDoor.Res
open Go.RowKit Go.Sort Go.Proofs.YtocnlefpbcnlmaaGreatDoor.Mod Go.Proofs.YtocnlefpbcnlmaaGreatDoor.Ints
set_option linter.unusedVariables false
set_option linter.unusedSimpArgs false

set_option maxRecDepth 20000 in
set_option maxHeartbeats 4000000 in
theorem residuals_walk (ao : Option Addr) (rs : List Int) (n cap : Nat) (hn : n = rs.length) (hc : n ≤ cap) (hm : cap ≤ maxLen) (hnil : ao = none → cap = 0) (h8 : cap * 8 ≤ 140737488351232) (s : ByteArray) (hs : s.size ≤ maxLen) (many : Int) (w : World) (T : Str.Tab w) (hA : Slc w ao rs) :
    Calls Tryz.prog 3 #[.slice ao n cap, .string s, .int .i64 many] w fun e w' => e = .returned (.bool true) ∧ Bel w w' := by
  have TT : Hid (Str.Tab w) := T
  have HA : Hid (Slc w ao rs) := hA
  have LE : Hid (Calls Tryz.prog 5 #[.slice ao n cap] w fun e w' => ∃ g c, e = .returned (.slice (some ⟨g, 0, none⟩) n c) ∧ n + 2 ≤ c ∧ c ≤ maxLen ∧ w.heap.size ≤ g ∧ g < w'.heap.size ∧ Holds w' g (rs ++ [-7777, -8888]) ∧ Bel w w') := lend_ok ao rs n cap hn (by omega) hnil w hA
  have P1 : Hid (∀ w g c, Str.Tab w → Holds w g rs → Calls Tryz.prog 6 #[.slice (some ⟨g, 0, none⟩) n c] w fun e w' => e = .returned (.tuple #[.string (putS rs), .int .i64 (putE rs)]) ∧ Bel w w') := fun w g c T h => put_is _ rs n c hn (by omega) w T h.slc
  have P2 : Hid (∀ w', Bel w w' → Calls Tryz.prog 7 #[.slice ao n cap] w' fun e w'' => e = .returned (.tuple #[.string (putS rs), .int .i64 (putE rs)]) ∧ Bel w' w'') := fun w' b => rput_is ao rs n cap hn (by omega) w' (hA.bel b)
  have G1 : Hid (∀ w, Str.Tab w → Calls Tryz.prog 8 #[.string s, .int .i64 many] w fun e w' => Got w w' e (getP s many) ∧ Bel w w') := fun w T => get_ok s hs many w T
  have G2 : Hid (∀ w, Calls Tryz.prog 9 #[.string s, .int .i64 many] w fun e w' => RGot w' e (getP s many) ∧ Bel w w') := fun w => rget_ok s hs many w
  have NM : Hid (∀ n w, Calls Tryz.prog 10 #[.int .i64 n] w fun e w' => e = .returned (.int .i64 n) ∧ w' = w) := Ints.num_ok
  have KP : Hid (∀ w' g c, n + 2 ≤ c → c ≤ maxLen → Slc w' ao rs → Holds w' g (rs ++ [-7777, -8888]) → Calls Tryz.prog 13 #[.slice (some ⟨g, 0, none⟩) n c, .slice ao n cap] w' fun e w'' => e = .returned (.bool true) ∧ ∃ q, w'' = w'.drewN q) := fun w' g c h1 h2 h3 h4 => kept_ok ao rs n cap g c hn h1 h2 w' h3 h4
  have AW : Hid (∀ w, Str.Tab w → Calls Tryz.prog 14 #[] w fun e w' => e = .returned (.bool true) ∧ Bel w w') := awake_ok
  have GF : Hid (∀ k rs2, getP s many = some rs2 → rs2.length = k → k ≤ 256) := fun k rs2 h hk => by
    subst hk
    by_cases q : 0 ≤ many ∧ many ≤ 256 ∧ s.size ≤ 65536
    · unfold getP at h
      rw [if_pos q] at h
      cases ht : takes s many.toNat s0 with
      | none => rw [ht] at h; cases h
      | some r =>
        rw [ht] at h
        simp only at h
        split at h
        · obtain rfl := Option.some.inj h
          rw [(takes_fits s _ s0 _ ht).1]
          omega
        · cases h
    · rw [getP_bad q] at h; cases h
  generalize putS rs = s1 at *
  generalize putE rs = e1 at *
  clear hn hc hm hnil h8 T hA hs
  go_enter Tryz.func3, Tryz.ntmps3
  go_wp2_with fail
  refine LE.out.mono ?_
  rintro e w1 ⟨g, c, rfl, hg1, hg2, hg3, hg4, hg5, b1⟩
  have B1 : Hid (Bel w w1 ∧ Holds w1 g (rs ++ [-7777, -8888]) ∧ (n + 2 ≤ c ∧ c ≤ maxLen) ∧ (w.heap.size ≤ g ∧ g < w1.heap.size)) := ⟨b1, hg5, ⟨hg1, hg2⟩, hg3, hg4⟩
  clear hg1 hg2 hg3 hg4 hg5 b1 LE
  go_wp2_with fail
  refine (P1.out _ g c (tab_bel TT.out B1.out.1) (holds_front B1.out.2.1)).mono ?_
  rintro e w2 ⟨rfl, b2⟩
  have B2 : Hid (Bel w w2 ∧ Bel w1 w2) := ⟨B1.out.1.trans b2, b2⟩
  clear b2 P1
  go_wp2_with fail
  refine (P2.out _ B2.out.1).mono ?_
  rintro e w3 ⟨rfl, b3⟩
  have B3 : Hid (Bel w w3 ∧ Bel w1 w3) := ⟨B2.out.1.trans b3, B2.out.2.trans b3⟩
  clear b3 P2 B2
  go_wp2_with fail
  refine (G1.out _ (tab_bel TT.out B3.out.1)).mono ?_
  rintro e w4 ⟨q4, b4⟩
  have B4 : Hid (Bel w w4 ∧ Bel w1 w4 ∧ w1.heap.size ≤ w3.heap.size) := ⟨B3.out.1.trans b4, B3.out.2.trans b4, B3.out.2.size⟩
  clear b4 G1
  cases hq : getP s many with
  | none =>
    rw [hq] at q4 G2
    obtain rfl := q4
    clear hq GF
    go_wp2_with fail
    refine (G2.out _).mono ?_
    rintro e w5 ⟨q5, b5⟩
    obtain rfl := q5
    have SI : Hid (Calls Tryz.prog 11 #[.slice none 0 0, .slice none 0 0] w5 fun e w' => e = .returned (.bool true) ∧ ∃ q, w' = w5.drewN q) := by
      have := same_ok none none [] [] 0 0 0 0 rfl rfl (by decide) (by decide) w5 (slc_nil _ _) (slc_nil _ _)
      rwa [decide_eq_true rfl] at this
    have SP : Hid (∀ q, Calls Tryz.prog 12 #[.slice none 0 0] (w5.drewN q) fun e w' => e = .returned (.tuple #[]) ∧ w' = w5.drewN q) := fun q => spoil_nil _
    have WB : Hid (∀ q w6, w6 = w5.drewN q → Bel w w6 ∧ Holds w6 g (rs ++ [-7777, -8888])) := fun q w6 e => by
      subst e
      exact ⟨(B4.out.1.trans b5).drewN q, (B1.out.2.1.bel (B4.out.2.1.trans b5)).drewN q⟩
    clear b5 G2
    go_wp2_with (first
      | (go_at_call 10; (with_reducible refine (NM.out _ _).mono ?_); rintro e w9 ⟨rfl, hw9⟩; replace hw9 := hw9.symm; subst hw9)
      | (go_at_call 11; (with_reducible refine SI.out.mono ?_); rintro e w6 ⟨rfl, q6, hw6⟩; subst hw6)
      | (go_at_call 12; (with_reducible refine (SP.out _).mono ?_); rintro e w7 ⟨rfl, b7⟩; have B7 : Hid (Bel w w7 ∧ Holds w7 g (rs ++ [-7777, -8888])) := WB.out _ _ b7; clear b7)
      | (go_at_call 13; (with_reducible refine (KP.out _ g c B1.out.2.2.1.1 B1.out.2.2.1.2 (HA.out.bel B7.out.1) B7.out.2).mono ?_); rintro e w8 ⟨rfl, q8, hw8⟩; have B8 : Hid (Bel w w8) := hw8 ▸ B7.out.1.drewN q8; clear hw8)
      | (go_at_call 14; (with_reducible refine (AW.out _ (tab_bel TT.out B8.out)).mono ?_); rintro e w9 ⟨rfl, b9⟩; have B9 : Hid (Bel w w9) := B8.out.trans b9; clear b9))
    go_ret
    exact ⟨rfl, B9.out⟩
  | some rs2 =>
    rw [hq] at q4 G2
    obtain ⟨g3, rfl, hg, hh⟩ := q4
    have kl := GF.out _ rs2 hq rfl
    have H4 : Hid (Holds w4 g3 rs2 ∧ w3.heap.size ≤ g3) := ⟨hh, hg⟩
    obtain ⟨k, hk⟩ : ∃ k, rs2.length = k := ⟨_, rfl⟩
    rw [hk] at kl ⊢
    have HK : Hid (k = rs2.length) := hk.symm
    clear hh hg hq hk GF
    go_wp2_with fail
    refine (G2.out _).mono ?_
    rintro e w5 ⟨q5, b5⟩
    obtain ⟨ao5, cap5, rfl, l5⟩ := q5
    rw [← HK.out]
    have SI : Hid (Calls Tryz.prog 11 #[.slice (some ⟨g3, 0, none⟩) k k, .slice ao5 k cap5] w5 fun e w' => e = .returned (.bool true) ∧ ∃ q, w' = w5.drewN q) := by
      have := same_ok (some ⟨g3, 0, none⟩) ao5 rs2 rs2 k k k cap5 HK.out HK.out (by unfold maxLen; omega) (by unfold maxLen; omega) w5 (H4.out.1.bel b5).slc l5
      rwa [decide_eq_true rfl] at this
    have SP : Hid (∀ q, Calls Tryz.prog 12 #[.slice (some ⟨g3, 0, none⟩) k k] (w5.drewN q) fun e w' => e = .returned (.tuple #[]) ∧ Below g3 (w5.drewN q) w') := fun q => spoil_ok rs2 k g3 k HK.out (by unfold maxLen; omega) _ ((H4.out.1.bel b5).drewN q)
    have WB : Hid (∀ q w6, Below g3 (w5.drewN q) w6 → Bel w w6 ∧ Holds w6 g (rs ++ [-7777, -8888])) := fun q w6 b6 => by
      have p := B4.out
      have p1 := B1.out.2.2.2
      have p4 := H4.out.2
      have hw5 : Bel w (w5.drewN q) := (p.1.trans b5).drewN q
      have hw1 : Holds (w5.drewN q) g (rs ++ [-7777, -8888]) := (B1.out.2.1.bel (p.2.1.trans b5)).drewN q
      exact ⟨Below.trans hw5 (b6.mono (by omega)), hw1.below b6 (by omega)⟩
    clear b5 l5 G2 H4
    go_wp2_with (first
      | (go_at_call 10; (with_reducible refine (NM.out _ _).mono ?_); rintro e w9 ⟨rfl, hw9⟩; replace hw9 := hw9.symm; subst hw9)
      | (go_at_call 11; (with_reducible refine SI.out.mono ?_); rintro e w6 ⟨rfl, q6, hw6⟩; subst hw6)
      | (go_at_call 12; (with_reducible refine (SP.out _).mono ?_); rintro e w7 ⟨rfl, b7⟩; have B7 : Hid (Bel w w7 ∧ Holds w7 g (rs ++ [-7777, -8888])) := WB.out _ _ b7; clear b7)
      | (go_at_call 13; (with_reducible refine (KP.out _ g c B1.out.2.2.1.1 B1.out.2.2.1.2 (HA.out.bel B7.out.1) B7.out.2).mono ?_); rintro e w8 ⟨rfl, q8, hw8⟩; have B8 : Hid (Bel w w8) := hw8 ▸ B7.out.1.drewN q8; clear hw8)
      | (go_at_call 14; (with_reducible refine (AW.out _ (tab_bel TT.out B8.out)).mono ?_); rintro e w9 ⟨rfl, b9⟩; have B9 : Hid (Bel w w9) := B8.out.trans b9; clear b9))
    go_ret
    exact ⟨rfl, B9.out⟩

end Go.Proofs.YtocnlefpbcnlmaaGreatDoor.Res
