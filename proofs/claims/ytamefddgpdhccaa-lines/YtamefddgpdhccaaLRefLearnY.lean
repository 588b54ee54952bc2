/-
  The contract of the reference's Learn of a line that may be. No condition.
-/
import Derived.Test.YtamefddgpdhccaaLRefLearn
namespace Go.Proofs.Ytamefddgpdhccaa.Lin
open Go.RowKit Go.Sort Go.Proofs.Ytamefddgpdhccaa.Mod
set_option linter.unusedVariables false
set_option linter.unusedSimpArgs false

set_option maxRecDepth 20000 in
set_option maxHeartbeats 2000000 in
theorem rlearn_yes (L : List Int) (hL : L.length = 16) (x : Int) (hm : mayL L = true) (hx : passed 4194304 x = false) (w : World) :
    Calls Try.prog 32 #[mdl L, .int .i64 x] w fun e w' => e = .returned (.tuple #[mdl (learn L x), .int .i64 0]) ∧ Bel w w' := by
  have NL : Hid (L.length = 16) := hL
  have NZ : Hid (zeros16.length = 16) := zeros16_len
  have z := zero24
  obtain ⟨x0, x1⟩ := passed_no.1 hx
  obtain ⟨g0, g1⟩ := guess_range L
  have G : Hid (∀ w, Calls Try.prog 30 #[mdl L] w fun e w' => e = .returned (.tuple #[.int .i64 (guess L), .int .i64 0]) ∧ Bel w w') := rguess_yes L hL hm
  have P : Hid (∀ w, Calls Try.prog 26 #[.int .i64 x, .int .i64 (-4194304), .int .i64 4194304] w fun e w' => e = .returned (.bool true) ∧ w' = w) := fun w => by
    have := upto_ok 4194304 x w
    rwa [hx] at this
  have H1 : Hid (Holds ((w.alloc (.cells (vals L).toArray 41)).alloc (.cells (vals zeros16).toArray 41)) w.heap.size L) := (holds_new w L 41).bel ((Bel.refl _).alloc _)
  have R1 : Hid (Holds ((w.alloc (.cells (vals L).toArray 41)).alloc (.cells (vals zeros16).toArray 41)) (w.heap.size + 1) zeros16) := holds_at (by simp) zeros16 41
  have WR : Hid (∀ k, k < 8 → -1048576 ≤ L.getD k 0 ∧ L.getD k 0 ≤ 1048576) := ((may_iff L).1 hm).1
  have LE := rlearn_is L x hL
  obtain ⟨off, hoff⟩ : ∃ off, x - guess L = off := ⟨_, rfl⟩
  rw [hoff] at LE
  have OE : Hid (x - guess L = off) := hoff
  have RL : Hid (∀ n, (rturned L off n).length = 16) := fun n => (rturned_len L off n).trans hL
  have RW : Hid (∀ k n, k < 8 → n ≤ k → (rturned L off n).getD k 0 = L.getD k 0) := fun k n hk hn => by rw [rturned_w L off hL k hk n (by omega), if_neg (by omega)]
  have SG : Hid (∀ y w, Calls Try.prog 39 #[.int .i64 y] w fun e w' => e = .returned (.int .i64 (sgn y)) ∧ w' = w) := rsign_ok
  have HD : Hid (∀ (k : Nat) (w : World), Calls Try.prog 38 #[.int .i64 (L.getD k 0 + 16 * sgn off * sgn (L.getD (8 + k) 0)), .int .i64 1048576] w fun e w' => e = .returned (.int .i64 (stp L off k)) ∧ w' = w) := fun k w => within_ok _ w
  obtain ⟨N, hN⟩ : ∃ N, learn L x = N := ⟨_, rfl⟩
  have LN : Hid (N.length = 16) := by rw [← hN]; exact (learn_len L x).trans hL
  have NE : Hid ((rturned L off 8).set 8 x = N) := LE.trans hN
  rw [hN]
  generalize guess L = g at *
  clear hm hL hx hoff hN LE
  go_enter Try.func32, Try.ntmps32
  go_wp2_with (first | (with_reducible refine wpl_load24 H1.out NL.out rfl ?_))
  refine (G.out _).mono ?_
  rintro e w1 ⟨rfl, b⟩
  have B1 : Hid (Bel w w1) := (((Bel.refl w).alloc _).alloc _).trans b
  have R2 : Hid (Holds w1 (w.heap.size + 1) zeros16) := R1.out.bel b
  have H2 : Hid (Holds w1 w.heap.size L) := H1.out.bel b
  have KZ : Hid (w.heap.size + 1 < w1.heap.size) := by have := b.size; simp at this; exact (by omega : w.heap.size + 1 < w1.heap.size)
  clear b R1 H1
  go_wp2_with fail
  refine (P.out _).mono ?_
  rintro e w2 ⟨rfl, rfl⟩
  have r3 : Holds (w2.alloc (.cells (vals L).toArray 41)) (w.heap.size + 1) zeros16 := R2.out.bel ((Bel.refl _).alloc _)
  have h3 : Holds (w2.alloc (.cells (vals L).toArray 41)) w.heap.size L := H2.out.bel ((Bel.refl _).alloc _)
  have o3 : Holds (w2.alloc (.cells (vals L).toArray 41)) w2.heap.size L := holds_new w2 L _
  have b3 : Bel w (w2.alloc (.cells (vals L).toArray 41)) := B1.out.alloc _
  have DD : Hid (w.heap.size ≤ w2.heap.size ∧ w.heap.size + 1 ≠ w2.heap.size ∧ w.heap.size ≠ w2.heap.size) := by have := KZ.out; exact ⟨by omega, by omega, by omega⟩
  go_wp2_with (first
    | (with_reducible refine wpl_load24 H2.out NL.out rfl ?_)
    | (with_reducible refine wpl_store24n NZ.out NL.out rfl rfl ?_))
  clear R2 H2 B1 KZ G P
  generalize w2.alloc (.cells (vals L).toArray 41) = W at *
  generalize w2.heap.size = D at *
  have R3 : Hid (Holds W (w.heap.size + 1) zeros16) := r3
  have H3 : Hid (Holds W w.heap.size L) := h3
  have O3 : Hid (Holds W D L) := o3
  have B3 : Hid (Bel w W) := b3
  clear r3 h3 o3 b3
  go_loopw [9] (fun i wr => ∃ j : Nat, j ≤ 8 ∧ i = .int .i64 (j : Int) ∧ Holds wr w.heap.size L ∧ Holds wr (w.heap.size + 1) zeros16 ∧ Holds wr D (rturned L off j) ∧ Bel w wr) (fun i _ => 8 - (intOf i).toNat)
  case atStart => exact ⟨0, by omega, rfl, H3.out, R3.out, O3.out, B3.out⟩
  case round =>
    obtain ⟨j, hj, rfl, h, r, o, b⟩ := hrel
    have H4 : Hid (Holds wr w.heap.size L) := h
    have R4 : Hid (Holds wr (w.heap.size + 1) zeros16) := r
    have O4 : Hid (Holds wr D (rturned L off j)) := o
    have B4 : Hid (Bel w wr) := b
    clear h r o b H3 R3 O3 B3
    by_cases hlt : j < 8
    · have hd : decide ((j : Int) < 8) = true := decide_eq_true (by omega)
      have c1 := H4.out.cell j (by rw [NL.out]; omega)
      have c2 := H4.out.cell (8 + j) (by rw [NL.out]; omega)
      have c3 := O4.out.cell j (by rw [RL.out]; omega)
      rw [RW.out j j hlt (Nat.le_refl _)] at c3
      have f3 := O4.out.free j (by rw [RL.out]; omega)
      obtain ⟨k0, k1⟩ := WR.out j hlt
      have sr := sgns_range off (L.getD (8 + j) 0)
      obtain ⟨s0, s1⟩ := sgn_range off
      obtain ⟨t0, t1⟩ := sgn_range (L.getD (8 + j) 0)
      have SO : Hid (∀ z, z = off → ∀ w, Calls Try.prog 39 #[.int .i64 z] w fun e w' => e = .returned (.int .i64 (sgn off)) ∧ w' = w) := fun z hz => hz ▸ SG.out z
      have SH : Hid (∀ w, Calls Try.prog 39 #[.int .i64 (L.getD (8 + j) 0)] w fun e w' => e = .returned (.int .i64 (sgn (L.getD (8 + j) 0))) ∧ w' = w) := SG.out _
      have HJ : Hid (∀ z, z = L.getD j 0 + 16 * sgn off * sgn (L.getD (8 + j) 0) → ∀ w, Calls Try.prog 38 #[.int .i64 z, .int .i64 1048576] w fun e w' => e = .returned (.int .i64 (stp L off j)) ∧ w' = w) := fun z hz => hz ▸ HD.out j
      have O5 : Hid (Holds (wr.setCell ⟨D, j, none⟩ (.int .i64 (stp L off j))) D ((rturned L off j).set j (stp L off j))) := O4.out.set j (by rw [RL.out]; omega) _
      obtain ⟨u, hu⟩ : ∃ u, L.getD (8 + (j - 1)) 0 = u := ⟨_, rfl⟩
      have UE : Hid (L.getD (8 + (j - 1)) 0 = u) := hu
      have O6 : Hid (0 < j → (rturned L off (j + 1)) = ((rturned L off j).set j (stp L off j)).set (8 + j) u) := fun h => by rw [rturned, if_pos h, hu]
      have O7 : Hid (j = 0 → (rturned L off (j + 1)) = (rturned L off j).set j (stp L off j)) := fun h => by rw [rturned, if_neg (by omega)]
      have LQ : Hid (((rturned L off j).set j (stp L off j)).length = 16) := show _ = _ by rw [List.length_set, RL.out]
      generalize (rturned L off j).set j (stp L off j) = RQ at *
      generalize stp L off j = q at *
      generalize L.getD (8 + j) 0 = y at *
      generalize L.getD j 0 = v at *
      generalize sgn off = so at *
      generalize sgn y = sy at *
      have W0 : Hid (IntKind.i64.wrap (x - g) = off) := show _ = _ by rw [IntKind.wrap_i64]; have := OE.out; omega
      have W1 : Hid (IntKind.i64.wrap (16 * so) = 16 * so) := show _ = _ by rw [IntKind.wrap_i64]; omega
      have W2 : Hid (IntKind.i64.wrap (16 * so * sy) = 16 * so * sy) := show _ = _ by rw [IntKind.wrap_i64]; generalize 16 * so * sy = k at *; omega
      have W3 : Hid (IntKind.i64.wrap (v + 16 * so * sy) = v + 16 * so * sy) := show _ = _ by rw [IntKind.wrap_i64]; generalize 16 * so * sy = k at *; omega
      have nd : w.heap.size ≠ D := DD.out.2.2
      have KP : Hid (∀ wx, wx = wr.drew ∨ wx = (wr.setCell ⟨D, j, none⟩ (.int .i64 q)).drew → wx.cell? ⟨w.heap.size, j, none⟩ = some (.int .i64 v) ∧ wx.cell? ⟨w.heap.size, 8 + j, none⟩ = some (.int .i64 y)) := fun wx hw => by
        rcases hw with rfl | rfl
        · exact ⟨c1, c2⟩
        · exact ⟨by rw [show (wr.setCell ⟨D, j, none⟩ (.int .i64 q)).drew.cell? ⟨w.heap.size, j, none⟩ = (wr.setCell ⟨D, j, none⟩ (.int .i64 q)).cell? ⟨w.heap.size, j, none⟩ from rfl, World.cell?_setCell_other (h := by intro e; injection e with e1 _ _; exact nd e1.symm)]; exact c1,
            by rw [show (wr.setCell ⟨D, j, none⟩ (.int .i64 q)).drew.cell? ⟨w.heap.size, 8 + j, none⟩ = (wr.setCell ⟨D, j, none⟩ (.int .i64 q)).cell? ⟨w.heap.size, 8 + j, none⟩ from rfl, World.cell?_setCell_other (h := by intro e; injection e with e1 _ _; exact nd e1.symm)]; exact c2⟩
      have i0 : (0 : Int) ≤ (j : Int) := by omega
      have i1 : (j : Int) < 8 := by omega
      clear SG HD WR O4
      go_wp2_with fail
      go_cut [] from 28 to 47 (fun wx => wx = (wr.setCell ⟨D, j, none⟩ (.int .i64 q)).drew)
      case first =>
        go_region_held3 (fun wx => wx.cell? ⟨w.heap.size, j, none⟩ = some (.int .i64 v) ∧ wx.cell? ⟨w.heap.size, 8 + j, none⟩ = some (.int .i64 y))
          (first
            | (with_reducible exact KP.out _ (.inl rfl))
            | (with_reducible exact KP.out _ (.inr rfl))
            | exact KP.out _ (.inr rfl))
          (first
            | (go_at_call 38; (with_reducible refine (HJ.out _ (by first | rfl | simp only [W1.out, W2.out, W3.out]) _).mono ?_); rintro e w9 ⟨rfl, rfl⟩)
            | (go_at_call 39; (with_reducible refine (SH.out _).mono ?_); rintro e w9 ⟨rfl, rfl⟩)
            | (go_at_call 39; (with_reducible refine (SO.out _ (by first | rfl | exact OE.out | exact W0.out) _).mono ?_); rintro e w9 ⟨rfl, rfl⟩))
        all_goals go_wp2_with fail
        all_goals go_meet
        all_goals rfl
      have H6 : Hid (Holds (wr.setCell ⟨D, j, none⟩ (.int .i64 q)).drew w.heap.size L) := (H4.out.other _ _ DD.out.2.2 _).drew
      have R6 : Hid (Holds (wr.setCell ⟨D, j, none⟩ (.int .i64 q)).drew (w.heap.size + 1) zeros16) := (R4.out.other _ _ DD.out.2.1 _).drew
      have Q6 : Hid (Holds (wr.setCell ⟨D, j, none⟩ (.int .i64 q)).drew D RQ) := O5.out.drew
      have B6 : Hid (Bel w (wr.setCell ⟨D, j, none⟩ (.int .i64 q)).drew) := (B4.out.setCell DD.out.1 _).drew
      clear KP HJ SH SO W0 W1 W2 W3 H4 R4 B4 O5 c1 c2 c3 f3 hu
      subst hcut
      generalize (wr.setCell ⟨D, j, none⟩ (.int .i64 q)).drew = V at *
      by_cases h0 : 0 < j
      · have h9 : decide ((j : Int) > 0) = true := decide_eq_true (by omega)
        have h9p : (j : Int) > 0 := by omega
        obtain ⟨p, hp⟩ : ∃ p : Nat, j - 1 = p := ⟨_, rfl⟩
        have d1 := H6.out.cell (8 + (j - 1)) (by rw [NL.out]; omega)
        rw [UE.out, hp] at d1
        have d2 := Q6.out.cell (8 + j) (by rw [LQ.out]; omega)
        have f2 := Q6.out.free (8 + j) (by rw [LQ.out]; omega)
        have O8 : Hid (Holds (V.setCell ⟨D, 8 + j, none⟩ (.int .i64 u)) D (rturned L off (j + 1))) := by
          have := Q6.out.set (8 + j) (by rw [LQ.out]; omega) u
          rw [← O6.out h0] at this
          exact this
        have pe : (j : Int) - 1 = (p : Int) := by omega
        have p8 : (p : Int) < 8 := by omega
        have p0 : (0 : Int) ≤ (p : Int) := by omega
        have H8 : Hid (Holds (V.setCell ⟨D, 8 + j, none⟩ (.int .i64 u)) w.heap.size L) := H6.out.other _ _ DD.out.2.2 _
        have R8 : Hid (Holds (V.setCell ⟨D, 8 + j, none⟩ (.int .i64 u)) (w.heap.size + 1) zeros16) := R6.out.other _ _ DD.out.2.1 _
        have B8 : Hid (Bel w (V.setCell ⟨D, 8 + j, none⟩ (.int .i64 u))) := B6.out.setCell DD.out.1 _
        generalize RQ.getD (8 + j) 0 = old at *
        clear H6 R6 Q6 B6 O6 O7 UE hp h0
        go_wp2
        go_roundw
        case rel => exact ⟨j + 1, by omega, by go_num, H8.out, R8.out, O8.out, B8.out⟩
        case measure => simp [intOf]; omega
      · have h9 : decide ((j : Int) > 0) = false := decide_eq_false (by omega)
        have h9p : ¬ (j : Int) > 0 := by omega
        have O8 : Hid (Holds V D (rturned L off (j + 1))) := by
          rw [O7.out (by omega)]
          exact Q6.out
        clear Q6 O6 O7 UE h0
        go_wp2
        go_roundw
        case rel => exact ⟨j + 1, by omega, by go_num, H6.out, R6.out, O8.out, B6.out⟩
        case measure => simp [intOf]; omega
    · have hd : decide ((j : Int) < 8) = false := decide_eq_false (by omega)
      have O8 : Hid (Holds wr D (rturned L off 8)) := by
        have e8 : j = 8 := by omega
        have := O4.out
        rw [e8] at this
        exact this
      have d2 := O8.out.cell 8 (by rw [RL.out]; decide)
      have f2 := O8.out.free 8 (by rw [RL.out]; decide)
      have O9 : Hid (Holds (wr.setCell ⟨D, 8, none⟩ (.int .i64 x)) D N) := by
        have := O8.out.set 8 (by rw [RL.out]; decide) x
        rw [NE.out] at this
        exact this
      have R9 : Hid (Holds (wr.setCell ⟨D, 8, none⟩ (.int .i64 x)) (w.heap.size + 1) zeros16) := R4.out.other _ _ DD.out.2.1 _
      have B9 : Hid (Bel w (wr.setCell ⟨D, 8, none⟩ (.int .i64 x))) := B4.out.setCell DD.out.1 _
      generalize (rturned L off 8).getD 8 0 = old at *
      clear H4 R4 O4 B4 O8 SG HD WR
      go_wp2_with (first
        | (with_reducible refine wpl_load24 O9.out LN.out rfl ?_)
        | (with_reducible refine wpl_store24 R9.out NZ.out LN.out rfl rfl ?_))
      have R6 := holds_all R9.out N (NZ.out.trans LN.out.symm)
      exact bodyPost_ret (v := .tuple #[mdl N, .int .i64 0]) (results_lms2 Try.results32 rfl rfl R6 LN.out) rfl ⟨rfl, Bel.setCells (by omega) _ _ B9.out⟩

theorem rlearn_ok (L : List Int) (hL : L.length = 16) (x : Int) : ∃ A e, A.length = 16 ∧
    (∀ w, Calls Try.prog 36 #[mdl L, .int .i64 x] w fun r w' => r = .returned (.tuple #[mdl A, .int .i64 e]) ∧ Bel w w') ∧
    (∀ w, Calls Try.prog 32 #[mdl L, .int .i64 x] w fun r w' => r = .returned (.tuple #[mdl A, .int .i64 e]) ∧ Bel w w') := by
  cases hm : mayL L
  · exact ⟨zeros16, 1400, zeros16_len, learn_no L hL x hm, rlearn_no L hL x hm⟩
  · cases hx : passed 4194304 x
    · exact ⟨learn L x, 0, (learn_len L x).trans hL, learn_yes L hL x hm hx, rlearn_yes L hL x hm hx⟩
    · exact ⟨zeros16, 1400, zeros16_len, learn_far L hL x hm hx, rlearn_far L hL x hm hx⟩

theorem rguess_ok (L : List Int) (hL : L.length = 16) : ∃ g e : Int,
    (∀ w, Calls Try.prog 35 #[mdl L] w fun r w' => r = .returned (.tuple #[.int .i64 g, .int .i64 e]) ∧ Bel w w') ∧
    (∀ w, Calls Try.prog 30 #[mdl L] w fun r w' => r = .returned (.tuple #[.int .i64 g, .int .i64 e]) ∧ Bel w w') := by
  cases hm : mayL L
  · exact ⟨0, 1400, guess_no L hL hm, rguess_no L hL hm⟩
  · exact ⟨guess L, 0, guess_yes L hL hm, rguess_yes L hL hm⟩

end Go.Proofs.Ytamefddgpdhccaa.Lin
