/-
  Pcms, walked: it answers true of all bytes, channels and formats. Conditions: the rows are there, within the reach.
-/
import Derived.Test.YtpakcajdbibbbaaPcAwake
import Derived.Test.YtpakcajdbibbbaaPcRGet
import Derived.Test.YtpakcajdbibbbaaPcRPut
import Derived.Test.YtpakcajdbibbbaaGCopyL
namespace Go.Proofs.Ytpakcajdbibbbaa.Pcm
open Go.RowKit Go.Sort Go.Proofs.Ytpakcajdbibbbaa.Mod Go.Proofs.Ytpakcajdbibbbaa.Ints
set_option linter.unusedVariables false
set_option linter.unusedSimpArgs false

theorem ans_short (c b : Int) (L : List UInt8) : (ansGet c b L).length ≤ 2 := by
  unfold ansGet
  cases h : okGet c b L
  · exact Nat.zero_le _
  · unfold okGet at h
    rw [Bool.and_eq_true] at h
    have := (okF_nat h.1).1
    rw [if_pos rfl, rows_length]
    omega
theorem num_bel (n : Int) (w : World) : Calls Try.prog 13 #[.int .i64 n] w fun e w' => e = .returned (.int .i64 n) ∧ Bel w w' := (num_ok n w).mono (by rintro e w1 ⟨rfl, rfl⟩; exact ⟨rfl, Bel.refl _⟩)

set_option maxRecDepth 20000 in
set_option maxHeartbeats 1000000 in
theorem pcms_walk (s : ByteArray) (hs : s.size ≤ maxLen) (ao : Option Addr) (Ls : List (List Int)) (n cap : Nat) (hn : n = Ls.length) (h24 : n * 24 ≤ 140737488351232) (c b : Int) (w : World) (hA : Lls w ao Ls) :
    Calls Try.prog 3 #[.string s, .slice ao n cap, fmt c b] w fun e w' => e = .returned (.bool true) ∧ Bel w w' := by
  have hm : n ≤ maxLen := by unfold maxLen; omega
  obtain ⟨L, hL⟩ : ∃ L, s.data.toList = L := ⟨_, rfl⟩
  obtain ⟨eg, heg⟩ : ∃ e, errGet c b L = e := ⟨_, rfl⟩
  obtain ⟨A, hAA⟩ : ∃ A, ansGet c b L = A := ⟨_, rfl⟩
  obtain ⟨ep, hep⟩ : ∃ e, errPut c b Ls = e := ⟨_, rfl⟩
  obtain ⟨S, hSS⟩ : ∃ S, (⟨(ansPut c b Ls).toArray⟩ : ByteArray) = S := ⟨_, rfl⟩
  obtain ⟨eu, heu⟩ : ∃ e, errPut c b A = e := ⟨_, rfl⟩
  obtain ⟨U, hUU⟩ : ∃ S, (⟨(ansPut c b A).toArray⟩ : ByteArray) = S := ⟨_, rfl⟩
  have CP : Hid (∀ w1, Bel w w1 → Calls Try.prog 7 #[.slice ao n cap] w1 fun e w' => ∃ v us, e = .returned v ∧ OwnsL w' w1.heap.size v us Ls ∧ Bel w1 w') := fun w1 k => copyL_ok ao Ls n cap hn h24 w1 (hA.bel k)
  have GET : Hid (∀ w, Calls Try.prog 8 #[.string s, fmt c b] w fun e w' => ∃ bo k cp, e = .returned (.tuple #[.slice bo k cp, .int .i64 eg]) ∧ k = A.length ∧ k ≤ 2 ∧ OwnL w' w.heap.size w'.heap.size bo A ∧ Bel w w') := fun w => heg ▸ hAA ▸ get_ok c b s L hL hs w
  have RGET : Hid (∀ w, Calls Try.prog 9 #[.string s, fmt c b] w fun e w' => ∃ bo k cp, e = .returned (.tuple #[.slice bo k cp, .int .i64 eg]) ∧ k = A.length ∧ k ≤ 2 ∧ Lls w' bo A ∧ Bel w w') := fun w => heg ▸ hAA ▸ rget_ok c b s L hL hs w
  have PUT : Hid (∀ xo xc w, Lls w xo Ls → Calls Try.prog 10 #[.slice xo n xc, fmt c b] w fun e w' => e = .returned (.tuple #[.string S, .int .i64 ep]) ∧ Bel w w') := fun xo xc w h => hep ▸ hSS ▸ put_ok c b xo Ls n xc hn hm w h
  have RPUT : Hid (∀ w, Lls w ao Ls → Calls Try.prog 11 #[.slice ao n cap, fmt c b] w fun e w' => e = .returned (.tuple #[.string S, .int .i64 ep]) ∧ Bel w w') := fun w h => hep ▸ hSS ▸ rput_ok c b ao Ls n cap hn hm w h
  have PUU : Hid (∀ xo k xc w, k = A.length → k ≤ 2 → Lls w xo A → Calls Try.prog 10 #[.slice xo k xc, fmt c b] w fun e w' => e = .returned (.tuple #[.string U, .int .i64 eu]) ∧ Bel w w') := fun xo k xc w h1 h2 h => heu ▸ hUU ▸ put_ok c b xo A k xc h1 (by unfold maxLen; omega) w h
  have SH : Hid (A.length ≤ 2) := hAA ▸ ans_short _ _ _
  have CASE : Hid ((eg = 0 ∧ eu = 0 ∧ U = s) ∨ eg = 1900) := (by
    cases h : okGet c b L
    · refine .inr (heg ▸ ?_)
      unfold errGet; rw [h]; rfl
    · obtain ⟨h1, h2⟩ := back h
      rw [hAA] at h1 h2
      refine .inl ⟨heg ▸ ?_, heu ▸ ?_, ?_⟩
      · unfold errGet; rw [h]; rfl
      · unfold errPut; rw [h1]; rfl
      · rw [← hUU, h2, ← hL] : (eg = 0 ∧ eu = 0 ∧ U = s) ∨ eg = 1900)
  obtain ⟨r, hr⟩ : ∃ r, okF c b = r := ⟨_, rfl⟩
  have M1 : Hid (∀ w, Calls Try.prog 14 #[fmt c b] w fun e w' => e = .returned (.bool r) ∧ Bel w w') := fun w => hr ▸ may_ok c b w
  have M2 : Hid (∀ w, Calls Try.prog 15 #[fmt c b] w fun e w' => e = .returned (.bool r) ∧ Bel w w') := fun w => hr ▸ rmay_ok c b w
  have HA : Hid (Lls w ao Ls) := hA
  have HN : Hid (n = Ls.length ∧ n ≤ maxLen) := ⟨hn, hm⟩
  have AW : Hid (∀ w, Calls Try.prog 17 #[] w fun e w' => e = .returned (.bool true) ∧ Bel w w') := awake_true
  have hrr : (r != r) = false := by cases r <;> rfl
  have hb : (eg != eg) = false := by simp
  have hc : (ep != ep) = false := by simp
  have XX : Hid (Box (w.alloc (.cells #[.int .i64 c, .int .i64 b] 24)) w.heap.size c b ∧ Bel w (w.alloc (.cells #[.int .i64 c, .int .i64 b] 24))) := ⟨box_new w c b, (Bel.refl _).alloc _⟩
  clear hA hn hm heg hAA hep hSS heu hUU hr hL hs
  obtain ⟨wb, hwb⟩ : ∃ wb, w.alloc (.cells #[.int .i64 c, .int .i64 b] 24) = wb := ⟨_, rfl⟩
  have HW : Hid (w.alloc (.cells #[.int .i64 c, .int .i64 b] 24) = wb) := hwb
  obtain ⟨gb, hgb⟩ : ∃ gb, w.heap.size = gb := ⟨_, rfl⟩
  have HG : Hid (w.heap.size = gb) := hgb
  rw [hwb, hgb] at XX
  clear hwb hgb
  go_enter Try.func3, Try.ntmps3
  go_wp2_with fail
  rw [HW.out, HG.out]
  refine (CP.out _ XX.out.2).mono ?_
  rintro e w1 ⟨v1, us, rfl, o1, b1⟩
  obtain ⟨xo, xc, rfl, -, l1⟩ := o1.lls
  have hl : Ls.length = n := HN.out.1.symm
  rw [hl]
  have X1 : Hid (Lls w1 xo Ls) := l1
  have B1 : Hid (Bel wb w1) := b1
  obtain ⟨x1, y1⟩ := XX.out.1.bel B1.out
  clear o1 b1 l1 hl CP
  go_wp2_with fail
  refine (GET.out _).mono ?_
  rintro e w2 ⟨pa, ka, ca, rfl, k2, m2, o2, b2⟩
  have O2 : Hid (OwnL w2 w1.heap.size w2.heap.size pa A) := o2
  have KA : Hid (ka = A.length ∧ ka ≤ 2) := ⟨k2, m2⟩
  have B2 : Hid (Bel w1 w2) := b2
  obtain ⟨x2, y2⟩ := XX.out.1.bel (B1.out.trans B2.out)
  clear o2 b2 k2 m2 x1 y1
  go_wp2_with fail
  refine (RGET.out _).mono ?_
  rintro e w3 ⟨pb, kb, cb, rfl, k3, m3, l3, b3⟩
  have L3 : Hid (Lls w3 pb A ∧ kb = A.length ∧ kb ≤ 2) := ⟨l3, k3, m3⟩
  have B3 : Hid (Bel w2 w3) := b3
  have B13 : Hid (Bel w1 w3) := B2.out.trans B3.out
  obtain ⟨x3, y3⟩ := XX.out.1.bel (B1.out.trans B13.out)
  clear k3 l3 b3 m3 x2 y2
  go_wp2_with fail
  refine (PUT.out _ _ _ (X1.out.bel B13.out)).mono ?_
  rintro e w4 ⟨rfl, b4⟩
  have B14 : Hid (Bel w1 w4) := B13.out.trans b4
  have B34 : Hid (Bel w3 w4) := b4
  obtain ⟨x4, y4⟩ := XX.out.1.bel (B1.out.trans B14.out)
  clear b4 x3 y3
  go_wp2_with fail
  refine (RPUT.out _ (HA.out.bel (XX.out.2.trans (B1.out.trans B14.out)))).mono ?_
  rintro e w5 ⟨rfl, b5⟩
  have B15 : Hid (Bel w1 w5) := B14.out.trans b5
  have B35 : Hid (Bel w3 w5) := B34.out.trans b5
  obtain ⟨x5, y5⟩ := XX.out.1.bel (B1.out.trans B15.out)
  clear b5 x4 y4
  go_wp2_with fail
  refine (PUU.out _ _ _ _ KA.out.1 KA.out.2 (O2.out.lls.bel (B3.out.trans B35.out))).mono ?_
  rintro e w6 ⟨rfl, b6⟩
  have B16 : Hid (Bel w1 w6) := B15.out.trans b6
  have B36 : Hid (Bel w3 w6) := B35.out.trans b6
  obtain ⟨x6, y6⟩ := XX.out.1.bel (B1.out.trans B16.out)
  have l0 := cell_regrown x6
  have l1 := cell_regrown y6
  have SL : Hid (∀ d os, Calls Try.prog 12 #[.slice pa ka ca, .slice pb kb cb] (grow (redrawn w6 d) os) fun e w' => e = .returned (.bool true) ∧ Bel (grow (redrawn w6 d) os) w') := fun d os => by
    have br : Bel w6 (grow (redrawn w6 d) os) := below_regrown w6 d os
    refine (sameL_ok pa pb A A ka kb ca cb KA.out.1 L3.out.2.1 (by have := KA.out; unfold maxLen; omega) (by have := L3.out.2; unfold maxLen; omega) _ (O2.out.lls.bel (B3.out.trans (B36.out.trans br))) (L3.out.1.bel (B36.out.trans br))).mono ?_
    rw [decide_eq_true rfl]
    rintro e w7 ⟨rfl, q7, rfl⟩
    exact ⟨rfl, (Bel.refl _).drewN q7⟩
  have BR : Hid (∀ d os, Bel w1 (grow (redrawn w6 d) os) ∧ Bel w2 (grow (redrawn w6 d) os)) := fun d os => by
    have br : Bel w6 (grow (redrawn w6 d) os) := below_regrown w6 d os
    exact ⟨B16.out.trans br, B3.out.trans (B36.out.trans br)⟩
  clear b6 x5 y5
  have FIN : Hid (∀ w9, Bel w1 w9 → Bel w2 w9 → ∀ w10, Exc (fun k => w1.heap.size ≤ k ∧ k < w2.heap.size) w9 w10 → Bel w1 w10) := fun w9 h1 h2 w10 e10 => e10.from h1 (fun i hi => hi.1)
  rcases CASE.out with ⟨rfl, rfl, rfl⟩ | rfl
  · go_wp2_with fail
    refine wp_region_quiet_below (by kernel_rfl) (by kernel_rfl) ?_
    repeat (go_big_quiet_step (first
      | (go_at_call 12; with_reducible exact Calls.regrown_of (SL.out _ _))
      | (go_at_call 13; with_reducible exact Calls.regrown_of (num_bel _ _))
      | (go_at_call 14; with_reducible exact Calls.regrown_of (M1.out _))
      | (go_at_call 15; with_reducible exact Calls.regrown_of (M2.out _))))
    refine wpQuiet_nil ?_
    intro _ hw'
    obtain ⟨⟨dq, osq⟩, hw''⟩ := hw'
    subst hw''
    obtain ⟨br1, br2⟩ := BR.out dq osq
    obtain ⟨W, hW⟩ : ∃ W, grow (redrawn w6 dq) osq = W := ⟨_, rfl⟩
    rw [hW] at br1 br2
    rw [hW]
    have B17 : Hid (Bel w1 W ∧ Bel w2 W) := ⟨br1, br2⟩
    clear hW br1 br2 l0 l1 x6 y6 hrr hb hc
    go_wp2_with fail
    refine (spoilL_ok pa A ka ca _ _ KA.out.1 (by have := KA.out; unfold maxLen; omega) W (O2.out.bel B17.out.2)).mono ?_
    rintro e w8 ⟨rfl, e8⟩
    have B18 : Hid (Bel w1 w8) := FIN.out _ B17.out.1 B17.out.2 _ e8
    clear e8
    go_wp2_with fail
    refine (sameL_ok xo ao Ls Ls n n xc cap HN.out.1 HN.out.1 HN.out.2 HN.out.2 w8 (X1.out.bel B18.out) (HA.out.bel (XX.out.2.trans (B1.out.trans B18.out)))).mono ?_
    rw [decide_eq_true rfl]
    rintro e w9 ⟨rfl, q9, hw⟩
    have B9 : Hid (Bel w w9) := XX.out.2.trans (B1.out.trans (B18.out.trans (hw ▸ (Bel.refl _).drewN q9)))
    clear hw
    go_wp2_with fail
    refine (AW.out _).mono ?_
    rintro e w10 ⟨rfl, b10⟩
    have B10 : Hid (Bel w w10) := B9.out.trans b10
    clear b10
    go_wp2
    go_ret
    exact ⟨rfl, B10.out⟩
  · go_wp2_with fail
    refine wp_region_quiet_below (by kernel_rfl) (by kernel_rfl) ?_
    repeat (go_big_quiet_step (first
      | (go_at_call 12; with_reducible exact Calls.regrown_of (SL.out _ _))
      | (go_at_call 13; with_reducible exact Calls.regrown_of (num_bel _ _))
      | (go_at_call 14; with_reducible exact Calls.regrown_of (M1.out _))
      | (go_at_call 15; with_reducible exact Calls.regrown_of (M2.out _))))
    refine wpQuiet_nil ?_
    intro _ hw'
    obtain ⟨⟨dq, osq⟩, hw''⟩ := hw'
    subst hw''
    obtain ⟨br1, br2⟩ := BR.out dq osq
    obtain ⟨W, hW⟩ : ∃ W, grow (redrawn w6 dq) osq = W := ⟨_, rfl⟩
    rw [hW] at br1 br2
    rw [hW]
    have B17 : Hid (Bel w1 W ∧ Bel w2 W) := ⟨br1, br2⟩
    clear hW br1 br2 l0 l1 x6 y6 hrr hb hc
    go_wp2_with fail
    refine (spoilL_ok pa A ka ca _ _ KA.out.1 (by have := KA.out; unfold maxLen; omega) W (O2.out.bel B17.out.2)).mono ?_
    rintro e w8 ⟨rfl, e8⟩
    have B18 : Hid (Bel w1 w8) := FIN.out _ B17.out.1 B17.out.2 _ e8
    clear e8
    go_wp2_with fail
    refine (sameL_ok xo ao Ls Ls n n xc cap HN.out.1 HN.out.1 HN.out.2 HN.out.2 w8 (X1.out.bel B18.out) (HA.out.bel (XX.out.2.trans (B1.out.trans B18.out)))).mono ?_
    rw [decide_eq_true rfl]
    rintro e w9 ⟨rfl, q9, hw⟩
    have B9 : Hid (Bel w w9) := XX.out.2.trans (B1.out.trans (B18.out.trans (hw ▸ (Bel.refl _).drewN q9)))
    clear hw
    go_wp2_with fail
    refine (AW.out _).mono ?_
    rintro e w10 ⟨rfl, b10⟩
    have B10 : Hid (Bel w w10) := B9.out.trans b10
    clear b10
    go_wp2
    go_ret
    exact ⟨rfl, B10.out⟩

end Go.Proofs.Ytpakcajdbibbbaa.Pcm
