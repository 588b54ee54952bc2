/-
  Lines answers true for every two rows of ints: program and reference answer alike; there and back; nothing that was handed in has turned. Conditions: the rows are there, within the reach.
-/
import Derived.Test.YtamefddgpdhccaaJAwake
import Derived.Test.YtamefddgpdhccaaGSpoil
namespace Go.Proofs.Ytamefddgpdhccaa.Ser
open Go.RowKit Go.Sort Go.Proofs.Ytamefddgpdhccaa.Mod Go.Proofs.Ytamefddgpdhccaa.Lin Go.Proofs.Ytamefddgpdhccaa.Chn Go.Proofs.Ytamefddgpdhccaa.Ints
set_option linter.unusedVariables false
set_option linter.unusedSimpArgs false

/-- What stands behind all calls: the lent rows, what came back. -/
structure LSt (w wX : World) (g1 g2 : Nat) (xs rs : List Int) (xo yo : Option Addr) (X Y : List Int) : Prop where
  l1 : Holds wX g1 (xs ++ [-7777, -8888])
  l2 : Holds wX g2 (rs ++ [-7777, -8888])
  b : Bel w wX
  x : Slc wX xo X
  y : Slc wX yo Y
theorem LSt.drewN {w wX : World} {g1 g2 : Nat} {xs rs : List Int} {xo yo : Option Addr} {X Y : List Int} (h : LSt w wX g1 g2 xs rs xo yo X Y) (q : Nat) : LSt w (wX.drewN q) g1 g2 xs rs xo yo X Y := ⟨h.l1.drewN q, h.l2.drewN q, h.b.drewN q, h.x.drewN q, h.y.drewN q⟩

theorem back_facts (xs : List Int) : (putE xs = 1600 ∧ putL xs = []) ∨ (putE xs = 0 ∧ getE (putL xs) = 0 ∧ getL (putL xs) = xs) := by
  unfold putE putL
  cases h : okP xs
  · exact .inl ⟨rfl, rfl⟩
  · obtain ⟨h1, h2⟩ := back_put h
    refine .inr ⟨rfl, ?_, ?_⟩
    · unfold getE; rw [if_pos rfl, h1]; rfl
    · unfold getL; rw [if_pos rfl, h1, if_pos rfl, h2]
theorem forth_facts (rs : List Int) : (getE rs = 1600 ∧ getL rs = []) ∨ (getE rs = 0 ∧ putE (getL rs) = 0 ∧ putL (getL rs) = rs) := by
  unfold getE getL
  cases h : okG rs
  · exact .inl ⟨rfl, rfl⟩
  · obtain ⟨h1, h2⟩ := back_get h
    refine .inr ⟨rfl, ?_, ?_⟩
    · unfold putE; rw [if_pos rfl, h1]; rfl
    · unfold putL; rw [if_pos rfl, h1, if_pos rfl, h2]

set_option maxRecDepth 20000 in
set_option maxHeartbeats 4000000 in
theorem lines_walk (ao bo : Option Addr) (xs rs : List Int) (n m cap dap : Nat) (hn : n = xs.length) (hm : m = rs.length) (hc : n ≤ cap) (hd : m ≤ dap) (h8 : cap * 8 ≤ 140737488351232) (k8 : dap * 8 ≤ 140737488351232) (hnil : ao = none → cap = 0) (knil : bo = none → dap = 0) (w : World) (hA : Slc w ao xs) (hB : Slc w bo rs) :
    Calls Try.prog 3 #[.slice ao n cap, .slice bo m dap] w fun e w' => e = .returned (.bool true) ∧ Bel w w' := by
  have nm : n ≤ maxLen := by unfold maxLen; omega
  have mm : m ≤ maxLen := by unfold maxLen; omega
  have LA : Hid (Calls Try.prog 8 #[.slice ao n cap] w fun e w' => ∃ g c, e = .returned (.slice (some ⟨g, 0, none⟩) n c) ∧ n + 2 ≤ c ∧ c ≤ maxLen ∧ w.heap.size ≤ g ∧ g < w'.heap.size ∧ Holds w' g (xs ++ [-7777, -8888]) ∧ Bel w w') := lend_ok ao xs n cap hn (by omega) hnil w hA
  have LB : Hid (∀ w', Bel w w' → Calls Try.prog 8 #[.slice bo m dap] w' fun e w'' => ∃ g c, e = .returned (.slice (some ⟨g, 0, none⟩) m c) ∧ m + 2 ≤ c ∧ c ≤ maxLen ∧ w'.heap.size ≤ g ∧ g < w''.heap.size ∧ Holds w'' g (rs ++ [-7777, -8888]) ∧ Bel w' w'') := fun w' b => lend_ok bo rs m dap hm (by omega) knil w' (hB.bel b)
  have HN : Hid (n = xs.length ∧ m = rs.length ∧ n ≤ maxLen ∧ m ≤ maxLen) := ⟨hn, hm, nm, mm⟩
  have HA : Hid (Slc w ao xs) := hA
  have HB : Hid (Slc w bo rs) := hB
  have FX := back_facts xs
  have FY := forth_facts rs
  obtain ⟨A, hA2⟩ : ∃ A, putL xs = A := ⟨_, rfl⟩
  obtain ⟨C, hC2⟩ : ∃ C, getL rs = C := ⟨_, rfl⟩
  obtain ⟨pe, hpe⟩ : ∃ p, putE xs = p := ⟨_, rfl⟩
  obtain ⟨ge, hge⟩ : ∃ p, getE rs = p := ⟨_, rfl⟩
  have PX : Hid (∀ (w' : World) (g c : Nat), Holds w' g (xs ++ [-7777, -8888]) → Calls Try.prog 9 #[.slice (some ⟨g, 0, none⟩) n c] w' fun e w'' => ∃ bo k c, e = .returned (.tuple #[.slice bo k c, .int .i64 pe]) ∧ Own w' w'' bo k c A pe ∧ Bel w' w'') := fun w' g c h => hA2 ▸ hpe ▸ put_is _ xs n c hn nm w' (holds_front h).slc
  have RX : Hid (∀ w', Bel w w' → Calls Try.prog 10 #[.slice ao n cap] w' fun e w'' => ∃ bo k c, e = .returned (.tuple #[.slice bo k c, .int .i64 pe]) ∧ (k = A.length ∧ k ≤ c ∧ c ≤ maxLen ∧ Slc w'' bo A) ∧ Bel w' w'') := fun w' b => hA2 ▸ hpe ▸ rput_is ao xs n cap hn nm w' (hA.bel b)
  have GX : Hid (∀ (w' : World) (g c : Nat), Holds w' g (rs ++ [-7777, -8888]) → Calls Try.prog 11 #[.slice (some ⟨g, 0, none⟩) m c] w' fun e w'' => ∃ bo k c, e = .returned (.tuple #[.slice bo k c, .int .i64 ge]) ∧ Own w' w'' bo k c C ge ∧ Bel w' w'') := fun w' g c h => hC2 ▸ hge ▸ get_is _ rs m c hm mm w' (holds_front h).slc
  have SX : Hid (∀ w', Bel w w' → Calls Try.prog 12 #[.slice bo m dap] w' fun e w'' => ∃ bo k c, e = .returned (.tuple #[.slice bo k c, .int .i64 ge]) ∧ (k = C.length ∧ k ≤ c ∧ c ≤ maxLen ∧ Slc w'' bo C) ∧ Bel w' w'') := fun w' b => hC2 ▸ hge ▸ rget_is bo rs m dap hm mm w' (hB.bel b)
  rw [hA2, hpe] at FX
  rw [hC2, hge] at FY
  obtain ⟨X, hX⟩ : ∃ X, getL A = X := ⟨_, rfl⟩
  obtain ⟨Y, hY⟩ : ∃ Y, putL C = Y := ⟨_, rfl⟩
  obtain ⟨ie, hie⟩ : ∃ p, getE A = p := ⟨_, rfl⟩
  obtain ⟨je, hje⟩ : ∃ p, putE C = p := ⟨_, rfl⟩
  have BX : Hid (∀ (w' : World) (bo : Option Addr) (k c : Nat), k = A.length → k ≤ maxLen → Slc w' bo A → Calls Try.prog 11 #[.slice bo k c] w' fun e w'' => ∃ bo k c, e = .returned (.tuple #[.slice bo k c, .int .i64 ie]) ∧ Own w' w'' bo k c X ie ∧ Bel w' w'') := fun w' bo k c h1 h2 h3 => hX ▸ hie ▸ get_is bo A k c h1 h2 w' h3
  have BY : Hid (∀ (w' : World) (bo : Option Addr) (k c : Nat), k = C.length → k ≤ maxLen → Slc w' bo C → Calls Try.prog 9 #[.slice bo k c] w' fun e w'' => ∃ bo k c, e = .returned (.tuple #[.slice bo k c, .int .i64 je]) ∧ Own w' w'' bo k c Y je ∧ Bel w' w'') := fun w' bo k c h1 h2 h3 => hY ▸ hje ▸ put_is bo C k c h1 h2 w' h3
  rw [hie, hX] at FX
  rw [hje, hY] at FY
  have UX : Hid ((pe = 1600 ∧ A = []) ∨ (pe = 0 ∧ ie = 0 ∧ X = xs)) := FX
  have UY : Hid ((ge = 1600 ∧ C = []) ∨ (ge = 0 ∧ je = 0 ∧ Y = rs)) := FY
  clear FX FY hA2 hC2 hpe hge hX hY hie hje hn hm hA hB hnil knil nm mm
  go_enter Try.func3, Try.ntmps3
  go_wp2_with fail
  refine LA.out.mono ?_
  rintro e w1 ⟨g1, c1, rfl, p1, p2, p3, p4, h1, b1⟩
  have H1 : Hid (Holds w1 g1 (xs ++ [-7777, -8888]) ∧ Bel w w1) := ⟨h1, b1⟩
  clear h1 b1
  go_wp2_with fail
  refine (LB.out _ H1.out.2).mono ?_
  rintro e w2 ⟨g2, c2, rfl, q1, q2, q3, q4, h2, b2⟩
  have H2 : Hid (Holds w2 g1 (xs ++ [-7777, -8888]) ∧ Holds w2 g2 (rs ++ [-7777, -8888]) ∧ Bel w w2) := ⟨H1.out.1.bel b2, h2, H1.out.2.trans b2⟩
  have G12 : Hid (n + 2 ≤ c1 ∧ c1 ≤ maxLen ∧ m + 2 ≤ c2 ∧ c2 ≤ maxLen ∧ g1 < w2.heap.size ∧ g2 < w2.heap.size ∧ w.heap.size ≤ w2.heap.size) := ⟨p1, p2, q1, q2, Nat.lt_of_lt_of_le p4 b2.size, q4, (H1.out.2.trans b2).size⟩
  clear h2 b2 H1 p1 p2 p3 p4 q1 q2 q3 q4
  go_wp2_with fail
  refine (PX.out _ g1 c1 H2.out.1).mono ?_
  rintro e w3 ⟨ao1, k1, d1, rfl, o3, b3⟩
  have O1 : Hid (Own w2 w3 ao1 k1 d1 A pe) := o3
  have B3 : Hid (Bel w2 w3) := b3
  clear o3 b3
  go_wp2_with fail
  refine (RX.out _ (H2.out.2.2.trans B3.out)).mono ?_
  rintro e w4 ⟨bo1, k2, d2, rfl, o4, b4⟩
  have O2 : Hid (k2 = A.length ∧ k2 ≤ d2 ∧ d2 ≤ maxLen ∧ Slc w4 bo1 A) := o4
  have B4 : Hid (Bel w2 w4 ∧ Bel w3 w4) := ⟨B3.out.trans b4, b4⟩
  clear o4 b4
  go_wp2_with fail
  refine (GX.out _ g2 c2 (H2.out.2.1.bel B4.out.1)).mono ?_
  rintro e w5 ⟨co1, k3, d3, rfl, o5, b5⟩
  have O3 : Hid (Own w4 w5 co1 k3 d3 C ge) := o5
  have B5 : Hid (Bel w2 w5 ∧ Bel w3 w5 ∧ Bel w4 w5) := ⟨B4.out.1.trans b5, B4.out.2.trans b5, b5⟩
  clear o5 b5
  go_wp2_with fail
  refine (SX.out _ (H2.out.2.2.trans B5.out.1)).mono ?_
  rintro e w6 ⟨do1, k4, d4, rfl, o6, b6⟩
  have O4 : Hid (k4 = C.length ∧ k4 ≤ d4 ∧ d4 ≤ maxLen ∧ Slc w6 do1 C) := o6
  have B6 : Hid (Bel w2 w6 ∧ Bel w3 w6 ∧ Bel w4 w6 ∧ Bel w5 w6) := ⟨B5.out.1.trans b6, B5.out.2.1.trans b6, B5.out.2.2.trans b6, b6⟩
  clear o6 b6
  go_wp2_with fail
  refine (BX.out _ ao1 k1 d1 O1.out.1 (Nat.le_trans O1.out.2.1 O1.out.2.2.1) (O1.out.2.2.2.1.bel B6.out.2.1)).mono ?_
  rintro e w7 ⟨xo, k5, d5, rfl, o7, b7⟩
  have O5 : Hid (Own w6 w7 xo k5 d5 X ie) := o7
  have B7 : Hid (Bel w6 w7) := b7
  clear o7 b7
  go_wp2_with fail
  refine (BY.out _ co1 k3 d3 O3.out.1 (Nat.le_trans O3.out.2.1 O3.out.2.2.1) (O3.out.2.2.2.1.bel (B6.out.2.2.2.trans B7.out))).mono ?_
  rintro e w8 ⟨yo, k6, d6, rfl, o8, b8⟩
  have O6 : Hid (Own w7 w8 yo k6 d6 Y je) := o8
  have B8 : Hid (Bel w2 w8 ∧ Bel w3 w8 ∧ Bel w4 w8 ∧ Bel w5 w8 ∧ Bel w6 w8 ∧ Bel w7 w8) := ⟨B6.out.1.trans (B7.out.trans b8), B6.out.2.1.trans (B7.out.trans b8), B6.out.2.2.1.trans (B7.out.trans b8), B6.out.2.2.2.trans (B7.out.trans b8), B7.out.trans b8, b8⟩
  have L0 : Hid (LSt w w8 g1 g2 xs rs xo yo X Y) := ⟨H2.out.1.bel B8.out.1, H2.out.2.1.bel B8.out.1, H2.out.2.2.trans B8.out.1, O5.out.2.2.2.1.bel b8, O6.out.2.2.2.1⟩
  clear o8 b8 PX RX GX SX BX BY LA LB
  have npe : (pe != pe) = false := by simp
  have nge : (ge != ge) = false := by simp
  have S1 : Hid (Calls Try.prog 13 #[.slice ao1 k1 d1, .slice bo1 k2 d2] w8 fun e w' => e = .returned (.bool true) ∧ ∃ q, w' = w8.drewN q) := by
    have := same_ok ao1 bo1 A A k1 k2 d1 d2 O1.out.1 O2.out.1 (Nat.le_trans O1.out.2.1 O1.out.2.2.1) (Nat.le_trans O2.out.2.1 O2.out.2.2.1) w8 (O1.out.2.2.2.1.bel B8.out.2.1) (O2.out.2.2.2.bel B8.out.2.2.1)
    rwa [decide_eq_true rfl] at this
  have S2 : Hid (∀ q, Calls Try.prog 13 #[.slice co1 k3 d3, .slice do1 k4 d4] (w8.drewN q) fun e w' => e = .returned (.bool true) ∧ ∃ q', w' = (w8.drewN q).drewN q') := fun q => by
    have := same_ok co1 do1 C C k3 k4 d3 d4 O3.out.1 O4.out.1 (Nat.le_trans O3.out.2.1 O3.out.2.2.1) (Nat.le_trans O4.out.2.1 O4.out.2.2.1) (w8.drewN q) ((O3.out.2.2.2.1.bel B8.out.2.2.2.1).drewN q) ((O4.out.2.2.2.bel B8.out.2.2.2.2.1).drewN q)
    rwa [decide_eq_true rfl] at this
  go_wp2_with (go_at_call 14; refine (Lin.num_ok _ _).mono ?_; rintro e w99 ⟨rfl, hw⟩; replace hw := hw.symm; subst hw)
  refine S1.out.mono ?_
  rintro e w9 ⟨rfl, q, hw⟩
  replace hw := hw.symm
  subst hw
  go_wp2_with (go_at_call 14; refine (Lin.num_ok _ _).mono ?_; rintro e w99 ⟨rfl, hw⟩; replace hw := hw.symm; subst hw)
  refine (S2.out q).mono ?_
  rintro e w9 ⟨rfl, q', hw⟩
  have L1 : Hid (LSt w w9 g1 g2 xs rs xo yo X Y) := hw ▸ (L0.out.drewN q).drewN q'
  have B9 : Hid (Bel w3 w9 ∧ Bel w5 w9 ∧ w2.heap.size ≤ w3.heap.size ∧ w4.heap.size ≤ w5.heap.size ∧ w3.heap.size ≤ w4.heap.size) := hw ▸ ⟨(B8.out.2.1.drewN q).drewN q', (B8.out.2.2.2.1.drewN q).drewN q', B3.out.size, B5.out.2.2.size, B4.out.2.size⟩
  have V1 : Hid ((pe = 1600 ∧ ao1 = none ∧ k1 = 0 ∧ d1 = 0) ∨ (pe = 0 ∧ ∃ g, ao1 = some ⟨g, 0, none⟩ ∧ w2.heap.size ≤ g ∧ g < w3.heap.size ∧ Holds w3 g A)) := O1.out.2.2.2.2
  have V3 : Hid ((ge = 1600 ∧ co1 = none ∧ k3 = 0 ∧ d3 = 0) ∨ (ge = 0 ∧ ∃ g, co1 = some ⟨g, 0, none⟩ ∧ w4.heap.size ≤ g ∧ g < w5.heap.size ∧ Holds w5 g C)) := O3.out.2.2.2.2
  have K1 : Hid (k1 = A.length ∧ k1 ≤ maxLen) := ⟨O1.out.1, Nat.le_trans O1.out.2.1 O1.out.2.2.1⟩
  have K3 : Hid (k3 = C.length ∧ k3 ≤ maxLen) := ⟨O3.out.1, Nat.le_trans O3.out.2.1 O3.out.2.2.1⟩
  have K5 : Hid (k5 = X.length ∧ k5 ≤ maxLen) := ⟨O5.out.1, Nat.le_trans O5.out.2.1 O5.out.2.2.1⟩
  have K6 : Hid (k6 = Y.length ∧ k6 ≤ maxLen) := ⟨O6.out.1, Nat.le_trans O6.out.2.1 O6.out.2.2.1⟩
  clear hw L0 S1 S2 O1 O2 O3 O4 O5 O6 B3 B4 B5 B6 B7 B8 H2
  rcases V1.out with ⟨rfl, rfl, rfl, rfl⟩ | ⟨rfl, ga, rfl, a1, a2, a3⟩
  · rcases V3.out with ⟨rfl, rfl, rfl, rfl⟩ | ⟨rfl, gc, rfl, z1, z2, z3⟩
    · clear V1 V3 UX UY
      go_wp2_with (go_at_call 14; refine (Lin.num_ok _ _).mono ?_; rintro e w99 ⟨rfl, hw⟩; replace hw := hw.symm; subst hw)
      have Z0 : Hid (Holds w9 g1 (xs ++ [-7777, -8888]) ∧ Holds w9 g2 (rs ++ [-7777, -8888]) ∧ Bel w w9) := ⟨L1.out.l1, L1.out.l2, L1.out.b⟩
      clear L1
      refine (spoil_nil _).mono ?_
      rintro e w10 ⟨rfl, hw⟩
      replace hw := hw.symm
      subst hw
      go_wp2_with fail
      refine (spoil_nil _).mono ?_
      rintro e w11 ⟨rfl, hw⟩
      replace hw := hw.symm
      subst hw
      go_wp2_with fail
      refine (kept_ok ao xs n cap g1 c1 HN.out.1 G12.out.1 G12.out.2.1 w9 (HA.out.bel Z0.out.2.2) Z0.out.1).mono ?_
      rintro e w12 ⟨rfl, q13, hw⟩
      have Z13 : Hid (Holds w12 g1 (xs ++ [-7777, -8888]) ∧ Holds w12 g2 (rs ++ [-7777, -8888]) ∧ Bel w w12) := hw ▸ ⟨Z0.out.1.drewN q13, Z0.out.2.1.drewN q13, Z0.out.2.2.drewN q13⟩
      clear hw Z0
      go_wp2_with fail
      refine (kept_ok bo rs m dap g2 c2 HN.out.2.1 G12.out.2.2.1 G12.out.2.2.2.1 w12 (HB.out.bel Z13.out.2.2) Z13.out.2.1).mono ?_
      rintro e w13 ⟨rfl, q14, hw⟩
      have Z14 : Hid (Holds w13 g1 (xs ++ [-7777, -8888]) ∧ Holds w13 g2 (rs ++ [-7777, -8888]) ∧ Bel w w13) := hw ▸ ⟨Z13.out.1.drewN q14, Z13.out.2.1.drewN q14, Z13.out.2.2.drewN q14⟩
      clear hw Z13
      go_wp2_with fail
      refine (awake_true _).mono ?_
      rintro e wz ⟨rfl, bz⟩
      have BZ : Hid (Bel w wz) := Z14.out.2.2.trans bz
      clear bz
      go_wp2
      go_ret
      exact ⟨rfl, BZ.out⟩
    · have HC : Hid (Holds w9 gc C ∧ w4.heap.size ≤ gc ∧ gc < w5.heap.size) := ⟨z3.bel B9.out.2.1, z1, z2⟩
      have HY : Hid (je = 0 ∧ Y = rs) := UY.out.elim (fun h => absurd h.1 (by decide)) (fun h => h.2)
      obtain ⟨rfl, hY⟩ := HY.out
      have YY : Hid (Y = rs) := hY
      clear hY z1 z2 z3
      clear V1 V3 UX UY
      go_wp2_with (go_at_call 14; refine (Lin.num_ok _ _).mono ?_; rintro e w99 ⟨rfl, hw⟩; replace hw := hw.symm; subst hw)
      refine (same_ok yo bo Y rs k6 m d6 dap K6.out.1 HN.out.2.1 K6.out.2 HN.out.2.2.2 w9 L1.out.y (HB.out.bel L1.out.b)).mono ?_
      rw [YY.out, decide_eq_true rfl]
      rintro e w10 ⟨rfl, q11, hw⟩
      have M11 : Hid (LSt w w10 g1 g2 xs rs xo yo X Y) := hw ▸ L1.out.drewN q11
      have HCx : Hid (Holds w10 gc C ∧ w4.heap.size ≤ gc ∧ gc < w5.heap.size) := ⟨hw ▸ HC.out.1.drewN q11, HC.out.2⟩
      clear HC
      have HC : Hid (Holds w10 gc C ∧ w4.heap.size ≤ gc ∧ gc < w5.heap.size) := HCx
      clear HCx
      clear hw L1
      go_wp2_with (go_at_call 14; refine (Lin.num_ok _ _).mono ?_; rintro e w99 ⟨rfl, hw⟩; replace hw := hw.symm; subst hw)
      have Z0 : Hid (Holds w10 g1 (xs ++ [-7777, -8888]) ∧ Holds w10 g2 (rs ++ [-7777, -8888]) ∧ Bel w w10) := ⟨M11.out.l1, M11.out.l2, M11.out.b⟩
      clear M11
      refine (spoil_nil _).mono ?_
      rintro e w11 ⟨rfl, hw⟩
      replace hw := hw.symm
      subst hw
      go_wp2_with fail
      refine (spoil_exc C k3 gc _ K3.out.1 K3.out.2 w10 HC.out.1).mono ?_
      rintro e w12 ⟨rfl, xe⟩
      have Z13 : Hid (Holds w12 g1 (xs ++ [-7777, -8888]) ∧ Holds w12 g2 (rs ++ [-7777, -8888]) ∧ Bel w w12) := ⟨xe.holds Z0.out.1 (by have := HC.out; have := G12.out; have := B9.out; omega), xe.holds Z0.out.2.1 (by have := HC.out; have := G12.out; have := B9.out; omega), xe.from Z0.out.2.2 (fun i hi => by have := HC.out; have := G12.out; have := B9.out; omega)⟩
      clear xe Z0 HC
      go_wp2_with fail
      refine (kept_ok ao xs n cap g1 c1 HN.out.1 G12.out.1 G12.out.2.1 w12 (HA.out.bel Z13.out.2.2) Z13.out.1).mono ?_
      rintro e w13 ⟨rfl, q14, hw⟩
      have Z14 : Hid (Holds w13 g1 (xs ++ [-7777, -8888]) ∧ Holds w13 g2 (rs ++ [-7777, -8888]) ∧ Bel w w13) := hw ▸ ⟨Z13.out.1.drewN q14, Z13.out.2.1.drewN q14, Z13.out.2.2.drewN q14⟩
      clear hw Z13
      go_wp2_with fail
      refine (kept_ok bo rs m dap g2 c2 HN.out.2.1 G12.out.2.2.1 G12.out.2.2.2.1 w13 (HB.out.bel Z14.out.2.2) Z14.out.2.1).mono ?_
      rintro e w14 ⟨rfl, q15, hw⟩
      have Z15 : Hid (Holds w14 g1 (xs ++ [-7777, -8888]) ∧ Holds w14 g2 (rs ++ [-7777, -8888]) ∧ Bel w w14) := hw ▸ ⟨Z14.out.1.drewN q15, Z14.out.2.1.drewN q15, Z14.out.2.2.drewN q15⟩
      clear hw Z14
      go_wp2_with fail
      refine (awake_true _).mono ?_
      rintro e wz ⟨rfl, bz⟩
      have BZ : Hid (Bel w wz) := Z15.out.2.2.trans bz
      clear bz
      go_wp2
      go_ret
      exact ⟨rfl, BZ.out⟩
  · rcases V3.out with ⟨rfl, rfl, rfl, rfl⟩ | ⟨rfl, gc, rfl, z1, z2, z3⟩
    · have HG : Hid (Holds w9 ga A ∧ w2.heap.size ≤ ga ∧ ga < w3.heap.size) := ⟨a3.bel B9.out.1, a1, a2⟩
      have HX : Hid (ie = 0 ∧ X = xs) := UX.out.elim (fun h => absurd h.1 (by decide)) (fun h => h.2)
      obtain ⟨rfl, hX⟩ := HX.out
      have XX : Hid (X = xs) := hX
      clear hX a1 a2 a3
      clear V1 V3 UX UY
      go_wp2_with (go_at_call 14; refine (Lin.num_ok _ _).mono ?_; rintro e w99 ⟨rfl, hw⟩; replace hw := hw.symm; subst hw)
      refine (same_ok xo ao X xs k5 n d5 cap K5.out.1 HN.out.1 K5.out.2 HN.out.2.2.1 w9 L1.out.x (HA.out.bel L1.out.b)).mono ?_
      rw [XX.out, decide_eq_true rfl]
      rintro e w10 ⟨rfl, q11, hw⟩
      have M11 : Hid (LSt w w10 g1 g2 xs rs xo yo X Y) := hw ▸ L1.out.drewN q11
      have HGx : Hid (Holds w10 ga A ∧ w2.heap.size ≤ ga ∧ ga < w3.heap.size) := ⟨hw ▸ HG.out.1.drewN q11, HG.out.2⟩
      clear HG
      have HG : Hid (Holds w10 ga A ∧ w2.heap.size ≤ ga ∧ ga < w3.heap.size) := HGx
      clear HGx
      clear hw L1
      go_wp2_with (go_at_call 14; refine (Lin.num_ok _ _).mono ?_; rintro e w99 ⟨rfl, hw⟩; replace hw := hw.symm; subst hw)
      have Z0 : Hid (Holds w10 g1 (xs ++ [-7777, -8888]) ∧ Holds w10 g2 (rs ++ [-7777, -8888]) ∧ Bel w w10) := ⟨M11.out.l1, M11.out.l2, M11.out.b⟩
      clear M11
      refine (spoil_exc A k1 ga _ K1.out.1 K1.out.2 w10 HG.out.1).mono ?_
      rintro e w11 ⟨rfl, xe⟩
      have Z12 : Hid (Holds w11 g1 (xs ++ [-7777, -8888]) ∧ Holds w11 g2 (rs ++ [-7777, -8888]) ∧ Bel w w11) := ⟨xe.holds Z0.out.1 (by have := HG.out; have := G12.out; have := B9.out; omega), xe.holds Z0.out.2.1 (by have := HG.out; have := G12.out; have := B9.out; omega), xe.from Z0.out.2.2 (fun i hi => by have := HG.out; have := G12.out; have := B9.out; omega)⟩
      clear xe Z0 HG
      go_wp2_with fail
      refine (spoil_nil _).mono ?_
      rintro e w12 ⟨rfl, hw⟩
      replace hw := hw.symm
      subst hw
      go_wp2_with fail
      refine (kept_ok ao xs n cap g1 c1 HN.out.1 G12.out.1 G12.out.2.1 w11 (HA.out.bel Z12.out.2.2) Z12.out.1).mono ?_
      rintro e w13 ⟨rfl, q14, hw⟩
      have Z14 : Hid (Holds w13 g1 (xs ++ [-7777, -8888]) ∧ Holds w13 g2 (rs ++ [-7777, -8888]) ∧ Bel w w13) := hw ▸ ⟨Z12.out.1.drewN q14, Z12.out.2.1.drewN q14, Z12.out.2.2.drewN q14⟩
      clear hw Z12
      go_wp2_with fail
      refine (kept_ok bo rs m dap g2 c2 HN.out.2.1 G12.out.2.2.1 G12.out.2.2.2.1 w13 (HB.out.bel Z14.out.2.2) Z14.out.2.1).mono ?_
      rintro e w14 ⟨rfl, q15, hw⟩
      have Z15 : Hid (Holds w14 g1 (xs ++ [-7777, -8888]) ∧ Holds w14 g2 (rs ++ [-7777, -8888]) ∧ Bel w w14) := hw ▸ ⟨Z14.out.1.drewN q15, Z14.out.2.1.drewN q15, Z14.out.2.2.drewN q15⟩
      clear hw Z14
      go_wp2_with fail
      refine (awake_true _).mono ?_
      rintro e wz ⟨rfl, bz⟩
      have BZ : Hid (Bel w wz) := Z15.out.2.2.trans bz
      clear bz
      go_wp2
      go_ret
      exact ⟨rfl, BZ.out⟩
    · have HG : Hid (Holds w9 ga A ∧ w2.heap.size ≤ ga ∧ ga < w3.heap.size) := ⟨a3.bel B9.out.1, a1, a2⟩
      have HX : Hid (ie = 0 ∧ X = xs) := UX.out.elim (fun h => absurd h.1 (by decide)) (fun h => h.2)
      obtain ⟨rfl, hX⟩ := HX.out
      have XX : Hid (X = xs) := hX
      clear hX a1 a2 a3
      have HC : Hid (Holds w9 gc C ∧ w4.heap.size ≤ gc ∧ gc < w5.heap.size) := ⟨z3.bel B9.out.2.1, z1, z2⟩
      have HY : Hid (je = 0 ∧ Y = rs) := UY.out.elim (fun h => absurd h.1 (by decide)) (fun h => h.2)
      obtain ⟨rfl, hY⟩ := HY.out
      have YY : Hid (Y = rs) := hY
      clear hY z1 z2 z3
      clear V1 V3 UX UY
      go_wp2_with (go_at_call 14; refine (Lin.num_ok _ _).mono ?_; rintro e w99 ⟨rfl, hw⟩; replace hw := hw.symm; subst hw)
      refine (same_ok xo ao X xs k5 n d5 cap K5.out.1 HN.out.1 K5.out.2 HN.out.2.2.1 w9 L1.out.x (HA.out.bel L1.out.b)).mono ?_
      rw [XX.out, decide_eq_true rfl]
      rintro e w10 ⟨rfl, q11, hw⟩
      have M11 : Hid (LSt w w10 g1 g2 xs rs xo yo X Y) := hw ▸ L1.out.drewN q11
      have HGx : Hid (Holds w10 ga A ∧ w2.heap.size ≤ ga ∧ ga < w3.heap.size) := ⟨hw ▸ HG.out.1.drewN q11, HG.out.2⟩
      clear HG
      have HG : Hid (Holds w10 ga A ∧ w2.heap.size ≤ ga ∧ ga < w3.heap.size) := HGx
      clear HGx
      have HCx : Hid (Holds w10 gc C ∧ w4.heap.size ≤ gc ∧ gc < w5.heap.size) := ⟨hw ▸ HC.out.1.drewN q11, HC.out.2⟩
      clear HC
      have HC : Hid (Holds w10 gc C ∧ w4.heap.size ≤ gc ∧ gc < w5.heap.size) := HCx
      clear HCx
      clear hw L1
      go_wp2_with (go_at_call 14; refine (Lin.num_ok _ _).mono ?_; rintro e w99 ⟨rfl, hw⟩; replace hw := hw.symm; subst hw)
      refine (same_ok yo bo Y rs k6 m d6 dap K6.out.1 HN.out.2.1 K6.out.2 HN.out.2.2.2 w10 M11.out.y (HB.out.bel M11.out.b)).mono ?_
      rw [YY.out, decide_eq_true rfl]
      rintro e w11 ⟨rfl, q12, hw⟩
      have M12 : Hid (LSt w w11 g1 g2 xs rs xo yo X Y) := hw ▸ M11.out.drewN q12
      have HGx : Hid (Holds w11 ga A ∧ w2.heap.size ≤ ga ∧ ga < w3.heap.size) := ⟨hw ▸ HG.out.1.drewN q12, HG.out.2⟩
      clear HG
      have HG : Hid (Holds w11 ga A ∧ w2.heap.size ≤ ga ∧ ga < w3.heap.size) := HGx
      clear HGx
      have HCx : Hid (Holds w11 gc C ∧ w4.heap.size ≤ gc ∧ gc < w5.heap.size) := ⟨hw ▸ HC.out.1.drewN q12, HC.out.2⟩
      clear HC
      have HC : Hid (Holds w11 gc C ∧ w4.heap.size ≤ gc ∧ gc < w5.heap.size) := HCx
      clear HCx
      clear hw M11
      go_wp2_with (go_at_call 14; refine (Lin.num_ok _ _).mono ?_; rintro e w99 ⟨rfl, hw⟩; replace hw := hw.symm; subst hw)
      have Z0 : Hid (Holds w11 g1 (xs ++ [-7777, -8888]) ∧ Holds w11 g2 (rs ++ [-7777, -8888]) ∧ Bel w w11) := ⟨M12.out.l1, M12.out.l2, M12.out.b⟩
      clear M12
      refine (spoil_exc A k1 ga _ K1.out.1 K1.out.2 w11 HG.out.1).mono ?_
      rintro e w12 ⟨rfl, xe⟩
      have Z13 : Hid (Holds w12 g1 (xs ++ [-7777, -8888]) ∧ Holds w12 g2 (rs ++ [-7777, -8888]) ∧ Bel w w12) := ⟨xe.holds Z0.out.1 (by have := HG.out; have := G12.out; have := B9.out; omega), xe.holds Z0.out.2.1 (by have := HG.out; have := G12.out; have := B9.out; omega), xe.from Z0.out.2.2 (fun i hi => by have := HG.out; have := G12.out; have := B9.out; omega)⟩
      have HCx : Hid (Holds w12 gc C ∧ w4.heap.size ≤ gc ∧ gc < w5.heap.size) := ⟨xe.holds HC.out.1 (by have := HC.out; have := HG.out; have := B9.out; omega), HC.out.2⟩
      clear HC
      have HC : Hid (Holds w12 gc C ∧ w4.heap.size ≤ gc ∧ gc < w5.heap.size) := HCx
      clear HCx
      clear xe Z0 HG
      go_wp2_with fail
      refine (spoil_exc C k3 gc _ K3.out.1 K3.out.2 w12 HC.out.1).mono ?_
      rintro e w13 ⟨rfl, xe⟩
      have Z14 : Hid (Holds w13 g1 (xs ++ [-7777, -8888]) ∧ Holds w13 g2 (rs ++ [-7777, -8888]) ∧ Bel w w13) := ⟨xe.holds Z13.out.1 (by have := HC.out; have := G12.out; have := B9.out; omega), xe.holds Z13.out.2.1 (by have := HC.out; have := G12.out; have := B9.out; omega), xe.from Z13.out.2.2 (fun i hi => by have := HC.out; have := G12.out; have := B9.out; omega)⟩
      clear xe Z13 HC
      go_wp2_with fail
      refine (kept_ok ao xs n cap g1 c1 HN.out.1 G12.out.1 G12.out.2.1 w13 (HA.out.bel Z14.out.2.2) Z14.out.1).mono ?_
      rintro e w14 ⟨rfl, q15, hw⟩
      have Z15 : Hid (Holds w14 g1 (xs ++ [-7777, -8888]) ∧ Holds w14 g2 (rs ++ [-7777, -8888]) ∧ Bel w w14) := hw ▸ ⟨Z14.out.1.drewN q15, Z14.out.2.1.drewN q15, Z14.out.2.2.drewN q15⟩
      clear hw Z14
      go_wp2_with fail
      refine (kept_ok bo rs m dap g2 c2 HN.out.2.1 G12.out.2.2.1 G12.out.2.2.2.1 w14 (HB.out.bel Z15.out.2.2) Z15.out.2.1).mono ?_
      rintro e w15 ⟨rfl, q16, hw⟩
      have Z16 : Hid (Holds w15 g1 (xs ++ [-7777, -8888]) ∧ Holds w15 g2 (rs ++ [-7777, -8888]) ∧ Bel w w15) := hw ▸ ⟨Z15.out.1.drewN q16, Z15.out.2.1.drewN q16, Z15.out.2.2.drewN q16⟩
      clear hw Z15
      go_wp2_with fail
      refine (awake_true _).mono ?_
      rintro e wz ⟨rfl, bz⟩
      have BZ : Hid (Bel w wz) := Z16.out.2.2.trans bz
      clear bz
      go_wp2
      go_ret
      exact ⟨rfl, BZ.out⟩

end Go.Proofs.Ytamefddgpdhccaa.Ser
