/-
  LineUnlike answers true for every row of ints and every two ints: unlike samples have unlike residuals, from the first unlike one on. Conditions: the row is there, within the reach.
-/
import Derived.Test.YtamefddgpdhccaaJAwake
import Derived.Test.YtamefddgpdhccaaGPlace
import Derived.BigQuiet
namespace Go.Proofs.Ytamefddgpdhccaa.Ser
open Go.RowKit Go.Sort Go.Proofs.Ytamefddgpdhccaa.Mod Go.Proofs.Ytamefddgpdhccaa.Lin Go.Proofs.Ytamefddgpdhccaa.Chn Go.Proofs.Ytamefddgpdhccaa.Ints
set_option linter.unusedVariables false
set_option linter.unusedSimpArgs false

theorem ith_set_ne (xs : List Int) (K j : Nat) (y : Int) (h : j ≠ K) : ith (xs.set K y) j = ith xs j := Mod.getD_set_ne xs K j y (fun e => h e.symm)
theorem ith_set_eq (xs : List Int) (K : Nat) (y : Int) (h : K < xs.length) : ith (xs.set K y) K = y := Mod.getD_set_eq xs K y h

/-- The residuals of a row that is turned in one place. -/
theorem turned_res {xs : List Int} (K : Nat) (hK : K < xs.length) (y : Int) : (resL xs).take K = (resL (xs.set K y)).take K ∧ ith (resL xs) K - ith (resL (xs.set K y)) K = ith xs K - y := by
  refine ⟨ext_getD _ _ (by simp [resL_len]) fun k hk => ?_, ?_⟩
  · have hk2 : k < K := by simp at hk; omega
    have e1 : ((resL xs).take K).getD k 0 = ith (resL xs) k := by simp [ith, List.getD_eq_getElem?_getD, hk2]
    have e2 : ((resL (xs.set K y)).take K).getD k 0 = ith (resL (xs.set K y)) k := by simp [ith, List.getD_eq_getElem?_getD, hk2]
    rw [e1, e2, ith_res _ _ (by omega), ith_res _ _ (by simp; omega)]
    exact res_same k (fun i hi => (ith_set_ne xs K i y (by omega)).symm)
  · rw [ith_res _ _ hK, ith_res _ _ (by simp; omega), res_unlike K (fun i hi => (ith_set_ne xs K i y (by omega)).symm), ith_set_eq xs K y hK]

set_option maxRecDepth 20000 in
set_option maxHeartbeats 1000000 in
theorem unlike_no (ao : Option Addr) (xs : List Int) (n cap : Nat) (hn : n = xs.length) (h8 : n * 8 ≤ 140737488351232) (ho : okP xs = false) (a b : Int) (w : World) (hA : Slc w ao xs) :
    Calls Try.prog 7 #[.slice ao n cap, .int .i64 a, .int .i64 b] w fun e w' => e = .returned (.bool true) ∧ Bel w w' := by
  have AW : Hid (∀ w, Calls Try.prog 17 #[] w fun e w' => e = .returned (.bool true) ∧ Bel w w') := awake_true
  have P0 : Hid (∀ w', Bel w w' → Calls Try.prog 9 #[.slice ao n cap] w' fun e w'' => e = .returned (.tuple #[.slice none 0 0, .int .i64 1600]) ∧ Bel w' w'') := fun w' b => put_no ao xs n cap hn (by unfold maxLen; omega) ho w' (hA.bel b)
  clear hn ho hA
  go_enter Try.func7, Try.ntmps7
  go_wp2_with fail
  refine (AW.out _).mono ?_
  rintro e w1 ⟨rfl, b1⟩
  have B1 : Hid (Bel w w1) := b1
  clear b1
  go_wp2_with fail
  refine (P0.out _ B1.out).mono ?_
  rintro e w2 ⟨rfl, b2⟩
  have B2 : Hid (Bel w w2) := B1.out.trans b2
  clear b2
  go_wp2_with (go_at_call 14; refine (Lin.num_ok _ _).mono ?_; rintro e w5 ⟨rfl, hw⟩; replace hw := hw.symm; subst hw)
  go_ret
  exact ⟨rfl, B2.out⟩

set_option maxRecDepth 20000 in
set_option maxHeartbeats 1000000 in
theorem unlike_none (ao : Option Addr) (cap : Nat) (a b : Int) (w : World) :
    Calls Try.prog 7 #[.slice ao 0 cap, .int .i64 a, .int .i64 b] w fun e w' => e = .returned (.bool true) ∧ Bel w w' := by
  have AW : Hid (∀ w, Calls Try.prog 17 #[] w fun e w' => e = .returned (.bool true) ∧ Bel w w') := awake_true
  have P0 : Hid (∀ w', Calls Try.prog 9 #[.slice ao 0 cap] w' fun e w'' => ∃ g, e = .returned (.tuple #[.slice (some ⟨g, 0, none⟩) 0 0, .int .i64 0]) ∧ w'.heap.size ≤ g ∧ g < w''.heap.size ∧ Holds w'' g (resL []) ∧ Bel w' w'') := fun w' => put_yes ao [] 0 cap rfl (by decide) w' (slc_nil _ _)
  go_enter Try.func7, Try.ntmps7
  go_wp2_with fail
  refine (AW.out _).mono ?_
  rintro e w1 ⟨rfl, b1⟩
  have B1 : Hid (Bel w w1) := b1
  clear b1
  go_wp2_with fail
  refine (P0.out _).mono ?_
  rintro e w2 ⟨g, rfl, _, _, _, b2⟩
  have B2 : Hid (Bel w w2) := B1.out.trans b2
  clear b2
  go_wp2_with (go_at_call 14; refine (Lin.num_ok _ _).mono ?_; rintro e w5 ⟨rfl, hw⟩; replace hw := hw.symm; subst hw)
  go_ret
  exact ⟨rfl, B2.out⟩

set_option maxRecDepth 20000 in
set_option maxHeartbeats 2000000 in
theorem unlike_yes (ao : Option Addr) (xs : List Int) (n cap : Nat) (hn : n = xs.length) (hc : n ≤ cap) (h8 : cap * 8 ≤ 140737488351232) (hnil : ao = none → cap = 0) (ho : okP xs = true) (n0 : 0 < n) (a b : Int) (w : World) (hA : Slc w ao xs) :
    Calls Try.prog 7 #[.slice ao n cap, .int .i64 a, .int .i64 b] w fun e w' => e = .returned (.bool true) ∧ Bel w w' := by
  have n256 : n ≤ 256 := by have := ((okP_iff xs).1 ho).1; omega
  have AW : Hid (∀ w, Calls Try.prog 17 #[] w fun e w' => e = .returned (.bool true) ∧ Bel w w') := awake_true
  have HA : Hid (Slc w ao xs) := hA
  have P0 : Hid (∀ w', Bel w w' → Calls Try.prog 9 #[.slice ao n cap] w' fun e w'' => ∃ g, e = .returned (.tuple #[.slice (some ⟨g, 0, none⟩) n n, .int .i64 0]) ∧ w'.heap.size ≤ g ∧ g < w''.heap.size ∧ Holds w'' g (resL xs) ∧ Bel w' w'') := fun w' b => put_yes ao xs n cap hn ho w' (hA.bel b)
  obtain ⟨K, hK, hk⟩ := place_of a (n : Int) (by omega) (by omega)
  have kn : K < n := by omega
  have vr := ((okP_iff xs).1 ho).2 K (by omega)
  obtain ⟨v, hv⟩ : ∃ v, ith xs K = v := ⟨_, rfl⟩
  have HV : Hid (xs.getD K 0 = v) := hv
  rw [hv] at vr
  obtain ⟨v0, v1⟩ := passed_no.1 vr
  have bm : bits .and .i64 b 7 = b % 8 := Num.and_mask 3 7 (by decide) (by decide) b
  obtain ⟨m, hm⟩ : ∃ m, b % 8 = m := ⟨_, rfl⟩
  rw [hm] at bm
  have m0 : 0 ≤ m := by omega
  have m1 : m ≤ 7 := by omega
  obtain ⟨y, hy⟩ : ∃ y, bits .xor .i64 v (1 + m) = y := ⟨_, rfl⟩
  obtain ⟨q1, q2⟩ := turned_res K (hn ▸ kn) y
  rw [hv] at q2
  have ik : (K : Int) < (n : Int) := by omega
  have k0 : (0 : Int) ≤ (K : Int) := by omega
  have P1 : Hid (∀ w' g c, Holds w' g (xs.set K y) → Calls Try.prog 9 #[.slice (some ⟨g, 0, none⟩) n c] w' fun e w'' => ∃ bo k c, e = .returned (.tuple #[.slice bo k c, .int .i64 (putE (xs.set K y))]) ∧ Own w' w'' bo k c (putL (xs.set K y)) (putE (xs.set K y)) ∧ Bel w' w'') := fun w' g c h => put_is _ _ n c (by simp [hn]) (by unfold maxLen; omega) w' h.slc
  have HN : Hid (n = xs.length ∧ n * 8 ≤ 140737488351232 ∧ (ao = none → cap = 0) ∧ n = (resL xs).length) := ⟨hn, by omega, hnil, by rw [resL_len]; exact hn⟩
  obtain ⟨XS, hXS⟩ : ∃ XS, xs.set K y = XS := ⟨_, rfl⟩
  rw [hXS] at P1 q1 q2
  have HX : Hid (xs.set K y = XS) := hXS
  have UC : Hid (putE XS = 1600 ∨ (putE XS = 0 ∧ putL XS = resL XS ∧ n = (resL XS).length ∧ -131072 ≤ y ∧ y ≤ 131072)) := by
    cases h : okP XS
    · left; unfold putE; rw [h]; rfl
    · right
      have hl : n = XS.length := by rw [← hXS]; simp [hn]
      have hp := ((okP_iff XS).1 h).2 K (by omega)
      rw [← hXS, ith_set_eq xs K y (by omega)] at hp
      obtain ⟨p0, p1⟩ := passed_no.1 hp
      exact ⟨by unfold putE; rw [h]; rfl, by unfold putL; rw [h]; rfl, by rw [resL_len]; exact hl, p0, p1⟩
  have RK : Hid (-16777216 ≤ ith (resL xs) K ∧ ith (resL xs) K ≤ 16777216) := by
    rw [ith_res xs K (by omega)]
    exact res_range K (fun i hi => ((okP_iff xs).1 ho).2 i (by omega))
  have Q1 : Hid ((resL xs).take K = (resL XS).take K) := q1
  have Q2 : Hid (ith (resL xs) K - ith (resL XS) K = v - y) := q2
  clear hn hnil hA hc h8 hm hv ho hXS q1 q2 vr hK
  generalize putE XS = pe at *
  generalize putL XS = pl at *
  generalize resL xs = R at *
  generalize resL XS = S at *
  go_enter Try.func7, Try.ntmps7
  go_wp2_with fail
  refine (AW.out _).mono ?_
  rintro e w1 ⟨rfl, b1⟩
  have B1 : Hid (Bel w w1) := b1
  clear b1
  go_wp2_with fail
  refine (P0.out _ B1.out).mono ?_
  rintro e w2 ⟨g1, rfl, _, _, h2, b2⟩
  have B2 : Hid (Bel w w2) := B1.out.trans b2
  have H2 : Hid (Holds w2 g1 R) := h2
  clear b2 h2 B1 P0
  have hz : ((n : Int) == 0) = false := by rw [beq_eq_false_iff_ne]; omega
  go_wp2_with (first
    | (go_at_call 14; refine (Lin.num_ok _ _).mono ?_; rintro e w5 ⟨rfl, hw⟩; replace hw := hw.symm; subst hw)
    | (at_builtin; refine wpl_copy w2 rfl (.tmp 36) (.tmp 37) rfl ao xs n cap rfl rfl HN.out.1 HN.out.2.1 HN.out.2.2.1 (HA.out.bel B2.out) ?_))
  intro v3 w3 ho3 b3
  obtain ⟨g, c, rfl, hg1, -, hg2, hg3, -, hh⟩ := owns_shape ho3 n0
  have cg := hh.cell K (by rw [← HN.out.1]; exact kn)
  have fg := hh.free K (by rw [← HN.out.1]; exact kn)
  rw [HV.out] at cg
  have H4 : Hid (Holds (w3.setCell ⟨g, K, none⟩ (.int .i64 y)) g XS ∧ Holds (w3.setCell ⟨g, K, none⟩ (.int .i64 y)) g1 R ∧ Bel w (w3.setCell ⟨g, K, none⟩ (.int .i64 y))) := by
    have q := hh.set K (by rw [← HN.out.1]; exact kn) y
    rw [HX.out] at q
    refine ⟨q, (H2.out.bel b3).other g K (fun e => ?_) _, (B2.out.trans b3).setCell (by have := B2.out.size; show w.heap.size ≤ g; omega) _⟩
    have := block_lt_of_cell (H2.out.cell 0 (by have := HN.out; omega))
    omega
  unfold maxLen at hg3
  clear ho3 b3 hh hg1
  go_wp2_with fail
  generalize w3.setCell ⟨g, K, none⟩ (.int .i64 y) = W4 at *
  refine (P1.out _ g c H4.out.1).mono ?_
  rintro e w5 ⟨bo, k, c2, rfl, o5, b5⟩
  have H5 : Hid (Holds w5 g XS ∧ Holds w5 g1 R ∧ Bel w w5) := ⟨H4.out.1.bel b5, H4.out.2.1.bel b5, H4.out.2.2.trans b5⟩
  have O5 : Hid (Own W4 w5 bo k c2 pl pe) := o5
  clear b5 o5 H4 P1
  rcases UC.out with h | ⟨h1, h2, h3, h4, h5⟩
  · subst h
    clear UC
    go_wp2_with (first
      | (go_at_call 14; refine (Lin.num_ok _ _).mono ?_; rintro e w9 ⟨rfl, hw⟩; replace hw := hw.symm; subst hw))
    go_ret
    exact ⟨rfl, H5.out.2.2⟩
  · subst h1 h2
    have HL : Hid (n = pl.length) := h3
    obtain ⟨o1, o2, o3, o4, o5⟩ := O5.out
    obtain rfl : k = n := by have := HL.out; omega
    obtain ⟨g2, rfl, _, _, h6⟩ : ∃ g, bo = some ⟨g, 0, none⟩ ∧ W4.heap.size ≤ g ∧ g < w5.heap.size ∧ Holds w5 g pl := by
      rcases o5 with ⟨_, _, q, _⟩ | ⟨_, q⟩
      · omega
      · exact q
    have H6 : Hid (Holds w5 g2 pl) := h6
    obtain ⟨x, rfl, cx⟩ := (HA.out.bel H5.out.2.2) K (by have := HN.out; omega)
    rw [HV.out] at cx
    have cy := H5.out.1.cell K (by rw [← HX.out]; simp; have := HN.out; omega)
    rw [← HX.out, Mod.getD_set_eq _ _ _ (by have := HN.out; omega)] at cy
    have c1 := H5.out.2.1.cell K (by have := HN.out; omega)
    have c2' := H6.out.cell K (by have := HL.out; omega)
    obtain ⟨p, hp⟩ : ∃ p, R.getD K 0 = p := ⟨_, rfl⟩
    obtain ⟨q, hq⟩ : ∃ q, pl.getD K 0 = q := ⟨_, rfl⟩
    have pq : p - q = v - y := by rw [← hp, ← hq]; exact Q2.out
    obtain ⟨r0, r1⟩ : -16777216 ≤ p ∧ p ≤ 16777216 := by rw [← hp]; exact RK.out
    rw [hp] at c1
    rw [hq] at c2'
    have SQ : Hid (∀ n', Calls Try.prog 13 #[.slice (some ⟨g1, 0, none⟩) K k, .slice (some ⟨g2, 0, none⟩) K c2] (w5.drewN n') fun e w' => e = .returned (.bool true) ∧ ∃ q, w' = (w5.drewN n').drewN q) := fun n' => by
      have := same_ok (some ⟨g1, 0, none⟩) (some ⟨g2, 0, none⟩) (R.take K) (pl.take K) K K k c2 (by simp; have := HN.out; omega) (by simp; have := HL.out; omega) (by unfold maxLen; omega) (by unfold maxLen; omega) (w5.drewN n') ((H5.out.2.1.slc.take K).drewN n') ((H6.out.slc.take K).drewN n')
      rwa [Q1.out, decide_eq_true rfl] at this
    have qv : Hid (q = p - v + y) := (by omega : q = p - v + y)
    have hb : (p - q == v - y) = true := by rw [pq]; exact beq_self_eq_true _
    have kc1 : (K : Int) ≤ (k : Int) := by omega
    have kc2 : (K : Int) ≤ (c2 : Int) := by unfold maxLen at o3; omega
    have q0 : -16777216 - 262144 ≤ q := by omega
    have q1 : q ≤ 16777216 + 262144 := by omega
    have hkk : ((k : Int) != (k : Int)) = false := by simp
    unfold maxLen at o3
    clear UC h3 o1 o4 o5 h6 hp hq pq
    go_wp2_with (first
      | (go_at_call 14; refine (Lin.num_ok _ _).mono ?_; rintro e w9 ⟨rfl, hw⟩; replace hw := hw.symm; subst hw))
    refine wp_region_quiet_lit (by kernel_rfl) (by kernel_rfl) ?_
    repeat (go_big_quiet_step ((go_at_call 13; with_reducible exact Calls.quiet_of (SQ.out _))))
    refine wpQuiet_nil ?_
    intro W hw'
    obtain ⟨nq, hw''⟩ := hw'
    subst hw''
    go_wp2
    go_ret
    exact ⟨rfl, H5.out.2.2.drewN _⟩

theorem unlike_walk (ao : Option Addr) (xs : List Int) (n cap : Nat) (hn : n = xs.length) (hc : n ≤ cap) (h8 : cap * 8 ≤ 140737488351232) (hnil : ao = none → cap = 0) (a b : Int) (w : World) (hA : Slc w ao xs) :
    Calls Try.prog 7 #[.slice ao n cap, .int .i64 a, .int .i64 b] w fun e w' => e = .returned (.bool true) ∧ Bel w w' := by
  cases ho : okP xs
  · exact unlike_no ao xs n cap hn (by omega) ho a b w hA
  · rcases Nat.eq_zero_or_pos n with h | h
    · subst h
      exact unlike_none ao cap a b w
    · exact unlike_yes ao xs n cap hn hc h8 hnil ho h a b w hA

end Go.Proofs.Ytamefddgpdhccaa.Ser
