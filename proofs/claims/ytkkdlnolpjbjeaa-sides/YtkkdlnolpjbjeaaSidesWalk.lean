/-
  Sides, walked: it answers true of all channels. Conditions: the rows are there, within the reach.
-/
import Derived.Test.YtkkdlnolpjbjeaaSdAwake
import Derived.Test.YtkkdlnolpjbjeaaSdRSide
namespace Go.Proofs.Ytkkdlnolpjbjeaa.Sid
open Go.RowKit Go.Sort Go.Proofs.Ytkkdlnolpjbjeaa.Mod Go.Proofs.Ytkkdlnolpjbjeaa.Lin Go.Proofs.Ytkkdlnolpjbjeaa.Ints
set_option linter.unusedVariables false
set_option linter.unusedSimpArgs false

theorem ans_short (s : Int) (Ls : List (List Int)) : (ansS s Ls).length ≤ 2 := by
  cases h : okS s Ls
  · rw [(ansS_no h).1]; decide
  · rw [(ansS_yes h).1, told_length]
    unfold okS at h
    rw [Bool.and_eq_true] at h
    rcases chsMay_shape h.1 with ⟨A, rfl, _⟩ | ⟨A, B, rfl, _⟩ <;> simp

set_option maxRecDepth 20000 in
set_option maxHeartbeats 1000000 in
theorem sides_walk (ao : Option Addr) (Ls : List (List Int)) (n cap : Nat) (hn : n = Ls.length) (h24 : n * 24 ≤ 140737488351232) (w : World) (hA : Lls w ao Ls) :
    Calls Try.prog 3 #[.slice ao n cap] w fun e w' => e = .returned (.bool true) ∧ Bel w w' := by
  have hm : n ≤ maxLen := by unfold maxLen; omega
  obtain ⟨ea, hea⟩ : ∃ e, errS (-1) Ls = e := ⟨_, rfl⟩
  obtain ⟨A, hAA⟩ : ∃ A, ansS (-1) Ls = A := ⟨_, rfl⟩
  obtain ⟨ec, hec⟩ : ∃ e, errS 1 Ls = e := ⟨_, rfl⟩
  obtain ⟨C, hCC⟩ : ∃ A, ansS 1 Ls = A := ⟨_, rfl⟩
  obtain ⟨ex, hex⟩ : ∃ e, errS 1 A = e := ⟨_, rfl⟩
  obtain ⟨X, hXX⟩ : ∃ X, ansS 1 A = X := ⟨_, rfl⟩
  have CP : Hid (Calls Try.prog 7 #[.slice ao n cap] w fun e w' => ∃ v us, e = .returned v ∧ OwnsL w' w.heap.size v us Ls ∧ Bel w w') := copyL_ok ao Ls n cap hn h24 w hA
  have PUT : Hid (∀ xo xc w, Lls w xo Ls → Calls Try.prog 8 #[.slice xo n xc] w fun e w' => ∃ bo k c, e = .returned (.tuple #[.slice bo k c, .int .i64 ea]) ∧ k = A.length ∧ k ≤ 2 ∧ OwnL w' w.heap.size w'.heap.size bo A ∧ Bel w w') := fun xo xc w h => hea ▸ hAA ▸ put_ok xo Ls n xc hn hm w h
  have GET : Hid (∀ xo xc w, Lls w xo Ls → Calls Try.prog 10 #[.slice xo n xc] w fun e w' => ∃ bo k c, e = .returned (.tuple #[.slice bo k c, .int .i64 ec]) ∧ k = C.length ∧ k ≤ 2 ∧ OwnL w' w.heap.size w'.heap.size bo C ∧ Bel w w') := fun xo xc w h => hec ▸ hCC ▸ get_ok xo Ls n xc hn hm w h
  have RPUT : Hid (∀ w, Lls w ao Ls → Calls Try.prog 9 #[.slice ao n cap] w fun e w' => ∃ bo k c, e = .returned (.tuple #[.slice bo k c, .int .i64 ea]) ∧ k = A.length ∧ Lls w' bo A ∧ Bel w w') := fun w h => hea ▸ hAA ▸ rput_ok ao Ls n cap hn hm w h
  have RGET : Hid (∀ w, Lls w ao Ls → Calls Try.prog 11 #[.slice ao n cap] w fun e w' => ∃ bo k c, e = .returned (.tuple #[.slice bo k c, .int .i64 ec]) ∧ k = C.length ∧ Lls w' bo C ∧ Bel w w') := fun w h => hec ▸ hCC ▸ rget_ok ao Ls n cap hn hm w h
  have GEX : Hid (∀ xo k xc w, k = A.length → k ≤ 2 → Lls w xo A → Calls Try.prog 10 #[.slice xo k xc] w fun e w' => ∃ bo k c, e = .returned (.tuple #[.slice bo k c, .int .i64 ex]) ∧ k = X.length ∧ k ≤ 2 ∧ OwnL w' w.heap.size w'.heap.size bo X ∧ Bel w w') := fun xo k xc w h1 h2 h => hex ▸ hXX ▸ get_ok xo A k xc h1 (by unfold maxLen; omega) w h
  have SH : Hid (A.length ≤ 2 ∧ C.length ≤ 2) := ⟨hAA ▸ ans_short _ _, hCC ▸ ans_short _ _⟩
  have CASE : Hid ((ea = 0 ∧ ex = 0 ∧ X = Ls) ∨ ea = 1700) := (by
    cases h : okS (-1) Ls
    · exact .inr (hea ▸ (ansS_no h).2)
    · obtain ⟨h1, h2⟩ := back (-1) (.inr rfl) Ls h
      rw [hAA] at h1 h2
      exact .inl ⟨hea ▸ (ansS_yes h).2, hex ▸ (ansS_yes h1).2, hXX ▸ h2⟩ : (ea = 0 ∧ ex = 0 ∧ X = Ls) ∨ ea = 1700)
  have HA : Hid (Lls w ao Ls) := hA
  have HN : Hid (n = Ls.length ∧ n ≤ maxLen) := ⟨hn, hm⟩
  have AW : Hid (∀ w, Calls Try.prog 15 #[] w fun e w' => e = .returned (.bool true) ∧ Bel w w') := awake_true
  clear hA hn hm hea hAA hec hCC hex hXX
  go_enter Try.func3, Try.ntmps3
  go_wp2_with fail
  refine CP.out.mono ?_
  rintro e w1 ⟨v1, us, rfl, o1, b1⟩
  obtain ⟨xo, xc, rfl, -, l1⟩ := o1.lls
  have hl : Ls.length = n := HN.out.1.symm
  rw [hl]
  have X1 : Hid (Lls w1 xo Ls) := l1
  have B1 : Hid (Bel w w1) := b1
  clear o1 b1 l1 hl CP
  go_wp2_with fail
  refine (PUT.out _ _ _ X1.out).mono ?_
  rintro e w2 ⟨pa, ka, ca, rfl, k2, m2, o2, b2⟩
  have O2 : Hid (OwnL w2 w1.heap.size w2.heap.size pa A) := o2
  have KA : Hid (ka = A.length ∧ ka ≤ 2) := ⟨k2, m2⟩
  have B2 : Hid (Bel w1 w2) := b2
  clear o2 b2 k2 m2
  go_wp2_with fail
  refine (RPUT.out _ (HA.out.bel (B1.out.trans B2.out))).mono ?_
  rintro e w3 ⟨pb, kb, cb, rfl, k3, l3, b3⟩
  have L3 : Hid (Lls w3 pb A ∧ kb = A.length) := ⟨l3, k3⟩
  have B3 : Hid (Bel w2 w3) := b3
  clear k3 l3 b3
  go_wp2_with fail
  refine (GET.out _ _ _ (X1.out.bel (B2.out.trans B3.out))).mono ?_
  rintro e w4 ⟨pc, kc, cc, rfl, k4, m4, o4, b4⟩
  have O4 : Hid (OwnL w4 w3.heap.size w4.heap.size pc C) := o4
  have KC : Hid (kc = C.length ∧ kc ≤ 2) := ⟨k4, m4⟩
  have B4 : Hid (Bel w3 w4) := b4
  clear o4 b4 k4 m4
  go_wp2_with fail
  refine (RGET.out _ (HA.out.bel (B1.out.trans (B2.out.trans (B3.out.trans B4.out))))).mono ?_
  rintro e w5 ⟨pd, kd, cd, rfl, k5, l5, b5⟩
  have L5 : Hid (Lls w5 pd C ∧ kd = C.length) := ⟨l5, k5⟩
  have B5 : Hid (Bel w4 w5) := b5
  clear k5 l5 b5
  go_wp2_with fail
  refine (GEX.out _ _ _ _ KA.out.1 KA.out.2 (O2.out.lls.bel (B3.out.trans (B4.out.trans B5.out)))).mono ?_
  rintro e w6 ⟨px, kx, cx, rfl, k6, m6, o6, b6⟩
  have L6 : Hid (Lls w6 px X ∧ kx = X.length ∧ kx ≤ 2) := ⟨o6.lls, k6, m6⟩
  have B6 : Hid (Bel w5 w6) := b6
  clear o6 b6 k6 m6
  have B26 : Hid (Bel w2 w6) := B3.out.trans (B4.out.trans (B5.out.trans B6.out))
  have B46 : Hid (Bel w4 w6) := B5.out.trans B6.out
  go_wp2_with fail
  refine (sameL_ok pa pb A A ka kb ca cb KA.out.1 L3.out.2 (by have := KA.out; unfold maxLen; omega) (by have := L3.out.2; have := SH.out; unfold maxLen; omega) w6 (O2.out.lls.bel B26.out) (L3.out.1.bel (B4.out.trans B46.out))).mono ?_
  rw [decide_eq_true rfl]
  rintro e w7 ⟨rfl, q7, hw⟩
  have B7 : Hid (Bel w6 w7) := hw ▸ (Bel.refl _).drewN q7
  clear hw
  have hb : (ea != ea) = false := by simp
  have hc : (ec != ec) = false := by simp
  go_wp2_with (go_at_call 13; refine (num_ok _ _).mono ?_; rintro e w99 ⟨rfl, hw⟩; replace hw := hw.symm; subst hw)
  refine (sameL_ok pc pd C C kc kd cc cd KC.out.1 L5.out.2 (by have := KC.out; unfold maxLen; omega) (by have := L5.out.2; have := SH.out; unfold maxLen; omega) w7 (O4.out.lls.bel (B46.out.trans B7.out)) (L5.out.1.bel (B6.out.trans B7.out))).mono ?_
  rw [decide_eq_true rfl]
  rintro e w8 ⟨rfl, q8, hw⟩
  have B8 : Hid (Bel w6 w8) := B7.out.trans (hw ▸ (Bel.refl _).drewN q8)
  clear hw B7
  have B18 : Hid (Bel w1 w8) := B2.out.trans (B26.out.trans B8.out)
  have FIN : Hid (∀ w9, Bel w8 w9 → ∀ w10, Exc (fun k => w1.heap.size ≤ k ∧ k < w2.heap.size) w9 w10 → ∀ w11, Exc (fun k => w3.heap.size ≤ k ∧ k < w4.heap.size) w10 w11 → Bel w1 w11 ∧ OwnL w10 w3.heap.size w4.heap.size pc C) := fun w9 b9 w10 e10 w11 e11 => by
    have b := e10.from (B18.out.trans b9) (fun i hi => hi.1)
    have s2 := B2.out.size
    have s3 := B3.out.size
    exact ⟨e11.from b (fun i hi => by omega), (O4.out.bel (B46.out.trans (B8.out.trans b9))).exc e10 s3⟩
  have PA : Hid (∀ w9, Bel w8 w9 → OwnL w9 w1.heap.size w2.heap.size pa A) := fun w9 b9 => O2.out.bel (B26.out.trans (B8.out.trans b9))
  rcases CASE.out with ⟨rfl, rfl, rfl⟩ | rfl
  · go_wp2_with (go_at_call 13; refine (num_ok _ _).mono ?_; rintro e w99 ⟨rfl, hw⟩; replace hw := hw.symm; subst hw)
    refine (sameL_ok px ao X X kx n cx cap L6.out.2.1 HN.out.1 (by have := L6.out.2.2; unfold maxLen; omega) HN.out.2 w8 (L6.out.1.bel B8.out) (HA.out.bel (B1.out.trans B18.out))).mono ?_
    rw [decide_eq_true rfl]
    rintro e w9 ⟨rfl, q9, hw⟩
    have B9 : Hid (Bel w8 w9) := hw ▸ (Bel.refl _).drewN q9
    clear hw
    go_wp2_with fail
    refine (spoilL_ok pa A ka ca _ _ KA.out.1 (by have := KA.out; unfold maxLen; omega) w9 (PA.out _ B9.out)).mono ?_
    rintro e w10 ⟨rfl, e10⟩
    have E10 : Hid (Exc (fun k => w1.heap.size ≤ k ∧ k < w2.heap.size) w9 w10) := e10
    clear e10
    go_wp2_with fail
    refine (spoilL_ok pc C kc cc _ _ KC.out.1 (by have := KC.out; unfold maxLen; omega) w10 (FIN.out _ B9.out _ E10.out _ (Exc.refl _ _)).2).mono ?_
    rintro e w11 ⟨rfl, e11⟩
    have B11 : Hid (Bel w1 w11) := (FIN.out _ B9.out _ E10.out _ e11).1
    clear e11
    go_wp2_with fail
    refine (sameL_ok xo ao X X n n xc cap HN.out.1 HN.out.1 HN.out.2 HN.out.2 w11 (X1.out.bel B11.out) (HA.out.bel (B1.out.trans B11.out))).mono ?_
    rw [decide_eq_true rfl]
    rintro e w12 ⟨rfl, q12, hw⟩
    have B12 : Hid (Bel w w12) := B1.out.trans (B11.out.trans (hw ▸ (Bel.refl _).drewN q12))
    clear hw
    go_wp2_with fail
    refine (AW.out _).mono ?_
    rintro e w13 ⟨rfl, b13⟩
    have B13 : Hid (Bel w w13) := B12.out.trans b13
    clear b13
    go_wp2
    go_ret
    exact ⟨rfl, B13.out⟩
  · go_wp2_with (go_at_call 13; refine (num_ok _ _).mono ?_; rintro e w99 ⟨rfl, hw⟩; replace hw := hw.symm; subst hw)
    refine (spoilL_ok pa A ka ca _ _ KA.out.1 (by have := KA.out; unfold maxLen; omega) w8 (PA.out _ (Bel.refl _))).mono ?_
    rintro e w10 ⟨rfl, e10⟩
    have E10 : Hid (Exc (fun k => w1.heap.size ≤ k ∧ k < w2.heap.size) w8 w10) := e10
    clear e10
    go_wp2_with fail
    refine (spoilL_ok pc C kc cc _ _ KC.out.1 (by have := KC.out; unfold maxLen; omega) w10 (FIN.out _ (Bel.refl _) _ E10.out _ (Exc.refl _ _)).2).mono ?_
    rintro e w11 ⟨rfl, e11⟩
    have B11 : Hid (Bel w1 w11) := (FIN.out _ (Bel.refl _) _ E10.out _ e11).1
    clear e11
    go_wp2_with fail
    refine (sameL_ok xo ao Ls Ls n n xc cap HN.out.1 HN.out.1 HN.out.2 HN.out.2 w11 (X1.out.bel B11.out) (HA.out.bel (B1.out.trans B11.out))).mono ?_
    rw [decide_eq_true rfl]
    rintro e w12 ⟨rfl, q12, hw⟩
    have B12 : Hid (Bel w w12) := B1.out.trans (B11.out.trans (hw ▸ (Bel.refl _).drewN q12))
    clear hw
    go_wp2_with fail
    refine (AW.out _).mono ?_
    rintro e w13 ⟨rfl, b13⟩
    have B13 : Hid (Bel w w13) := B12.out.trans b13
    clear b13
    go_wp2
    go_ret
    exact ⟨rfl, B13.out⟩

end Go.Proofs.Ytkkdlnolpjbjeaa.Sid
