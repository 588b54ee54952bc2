/-
  The contract of lms.Learn for what may be. No condition.
-/
import Derived.Test.YtamefddgpdhccaaLLearn
namespace Go.Proofs.Ytamefddgpdhccaa.Lin
open Go.RowKit Go.Sort Go.Proofs.Ytamefddgpdhccaa.Mod
set_option linter.unusedVariables false
set_option linter.unusedSimpArgs false

set_option maxRecDepth 20000 in
set_option maxHeartbeats 1000000 in
theorem learn_yes (L : List Int) (hL : L.length = 16) (x : Int) (hm : mayL L = true) (hx : passed 4194304 x = false) (w : World) :
    Calls Try.prog 36 #[mdl L, .int .i64 x] w fun e w' => e = .returned (.tuple #[mdl (learn L x), .int .i64 0]) ∧ Bel w w' := by
  have NL : Hid (L.length = 16) := hL
  have NZ : Hid (zeros16.length = 16) := zeros16_len
  have z := zero24
  obtain ⟨x0, x1⟩ := passed_no.1 hx
  obtain ⟨g0, g1⟩ := guess_range L
  have G : Hid (∀ w, Calls Try.prog 35 #[mdl L] w fun e w' => e = .returned (.tuple #[.int .i64 (guess L), .int .i64 0]) ∧ Bel w w') := guess_yes L hL hm
  have P : Hid (∀ w, Calls Try.prog 24 #[.int .i64 4194304, .int .i64 x] w fun e w' => e = .returned (.bool false) ∧ w' = w) := fun w => hx ▸ passed_ok 4194304 x (by decide) (by decide) w
  have H1 : Hid (Holds ((w.alloc (.cells (vals L).toArray 41)).alloc (.cells (vals zeros16).toArray 41)) w.heap.size L) := (holds_new w L 41).bel ((Bel.refl _).alloc _)
  have R1 : Hid (Holds ((w.alloc (.cells (vals L).toArray 41)).alloc (.cells (vals zeros16).toArray 41)) (w.heap.size + 1) zeros16) := holds_at (by simp) zeros16 41
  obtain ⟨W, hW⟩ : ∃ W, (L.drop 8).take 8 = W := ⟨_, rfl⟩
  have HW : Hid ((L.drop 8).take 8 = W) := hW
  have IX : Hid (∀ (k : Nat) (w : World), k < 8 → (Instr.index 39 (mdl W) (.int .i64 (k : Int))).run Try.prog w = .ok (.int .i64 (L.getD (8 + k) 0)) w) := fun k w hk => by
    have := ix22 ((L.drop 8).take 8) (by simp; omega) k hk w
    rwa [part8_get L 8 k hk, hW] at this
  have WR : Hid (∀ k, k < 8 → -1048576 ≤ L.getD k 0 ∧ L.getD k 0 ≤ 1048576) := ((may_iff L).1 hm).1
  have LE : Hid (learn L x = moved (turned L (x - guess L) 8) x) := rfl
  obtain ⟨off, hoff⟩ : ∃ off, x - guess L = off := ⟨_, rfl⟩
  rw [hoff] at LE
  have OE : Hid (x - guess L = off) := hoff
  have SG : Hid (∀ y w, Calls Try.prog 42 #[.int .i64 y] w fun e w' => e = .returned (.int .i64 (sgn y)) ∧ w' = w) := sign_ok
  have HD : Hid (∀ (k : Nat) (w : World), Calls Try.prog 41 #[.int .i64 1048576, .int .i64 (L.getD k 0 + 16 * sgn off * sgn (L.getD (8 + k) 0))] w fun e w' => e = .returned (.int .i64 (stp L off k)) ∧ w' = w) := fun k w => hold_ok _ w
  obtain ⟨T, hT⟩ : ∃ T, turned L off 8 = T := ⟨_, rfl⟩
  have TE : Hid (turned L off 8 = T) := hT
  have LT : Hid (T.length = 16) := by rw [← hT]; exact (turned_len L off 8).trans hL
  obtain ⟨vs, hvs⟩ : ∃ vs, vals ((T.drop 8).take 7) = vs := ⟨_, rfl⟩
  have VE : Hid (vals ((T.drop 8).take 7) = vs) := hvs
  have VN : Hid (vs.length = 7) := by
    show _ = _
    rw [← hvs, vals_length]; simp [LT.out]
  have V1 : Hid (∀ v ∈ vs, v.oneCell' = true) := fun v hv => by
    rw [← hvs] at hv
    simp only [vals, List.mem_map] at hv
    obtain ⟨x, _, rfl⟩ := hv
    rfl
  have SI : Hid ((Try.prog.info? 3).map (·.size) = some 1) := show _ = _ by kernel_rfl
  obtain ⟨M, hM⟩ : ∃ M, put T 9 ((T.drop 8).take 7) = M := ⟨_, rfl⟩
  have ME : Hid (put T 9 ((T.drop 8).take 7) = M) := hM
  have LM : Hid (M.length = 16) := by rw [← hM]; exact (put_length _ _ _).trans LT.out
  obtain ⟨N, hN⟩ : ∃ N, M.set 8 x = N := ⟨_, rfl⟩
  have NE : Hid (M.set 8 x = N) := hN
  have LN : Hid (N.length = 16) := by rw [← hN, List.length_set]; exact LM.out
  rw [show learn L x = N by rw [LE, hT, moved, hM, hN]]
  generalize guess L = g at *
  clear hm hL hx hW hoff hT hvs hM hN LE
  go_enter Try.func36, Try.ntmps36
  go_wp2_with (first | (with_reducible refine wpl_load24 H1.out NL.out rfl ?_))
  refine (G.out _).mono ?_
  rintro e w1 ⟨rfl, b⟩
  have B1 : Hid (Bel w w1) := (((Bel.refl w).alloc _).alloc _).trans b
  have R2 : Hid (Holds w1 (w.heap.size + 1) zeros16) := R1.out.bel b
  have H2 : Hid (Holds w1 w.heap.size L) := H1.out.bel b
  clear b R1 H1
  go_wp2_with fail
  refine (P.out _).mono ?_
  rintro e w2 ⟨rfl, rfl⟩
  go_wp2_with (first | (with_reducible refine wpl_load22 (o := 8) HW.out H2.out (by rw [NL.out]; decide) rfl ?_))
  rw [OE.out]
  go_loopw [28] (fun i wr => ∃ j : Nat, j ≤ 8 ∧ i = .int .i64 (j : Int) ∧ Holds wr w.heap.size (turned L off j) ∧ Holds wr (w.heap.size + 1) zeros16 ∧ Bel w wr) (fun i _ => 8 - (intOf i).toNat)
  case atStart => exact ⟨0, by omega, rfl, H2.out, R2.out, B1.out⟩
  case round =>
    obtain ⟨j, hj, rfl, h, r, b⟩ := hrel
    clear H2 R2 B1 G P
    have H3 : Hid (Holds wr w.heap.size (turned L off j)) := h
    have R3 : Hid (Holds wr (w.heap.size + 1) zeros16) := r
    have B3 : Hid (Bel w wr) := b
    clear h r b
    by_cases hlt : j < 8
    · have hd : decide ((j : Int) < 8) = true := decide_eq_true (by omega)
      have ix := fun w => IX.out j w hlt
      have c1 := H3.out.cell j (by rw [turned_len, NL.out]; omega)
      rw [turned_ge _ _ _ _ (Nat.le_refl _)] at c1
      have f1 := H3.out.free j (by rw [turned_len, NL.out]; omega)
      have H4 : Hid (Holds (wr.setCell ⟨w.heap.size, j, none⟩ (.int .i64 (stp L off j))) w.heap.size (turned L off (j + 1))) := H3.out.set j (by rw [turned_len, NL.out]; omega) _
      obtain ⟨k0, k1⟩ := WR.out j hlt
      have sr := sgns_range off (L.getD (8 + j) 0)
      obtain ⟨s0, s1⟩ := sgn_range off
      obtain ⟨t0, t1⟩ := sgn_range (L.getD (8 + j) 0)
      have SO : Hid (∀ w, Calls Try.prog 42 #[.int .i64 off] w fun e w' => e = .returned (.int .i64 (sgn off)) ∧ w' = w) := SG.out off
      have SH : Hid (∀ w, Calls Try.prog 42 #[.int .i64 (L.getD (8 + j) 0)] w fun e w' => e = .returned (.int .i64 (sgn (L.getD (8 + j) 0))) ∧ w' = w) := SG.out _
      have HJ : Hid (∀ z, z = L.getD j 0 + 16 * sgn off * sgn (L.getD (8 + j) 0) → ∀ w, Calls Try.prog 41 #[.int .i64 1048576, .int .i64 z] w fun e w' => e = .returned (.int .i64 (stp L off j)) ∧ w' = w) := fun z hz => hz ▸ HD.out j
      clear SG HD IX WR H3
      generalize stp L off j = q at *
      generalize L.getD (8 + j) 0 = y at *
      generalize L.getD j 0 = v at *
      generalize sgn off = so at *
      generalize sgn y = sy at *
      have W1 : Hid (IntKind.i64.wrap (16 * so) = 16 * so) := show _ = _ by rw [IntKind.wrap_i64]; omega
      have W2 : Hid (IntKind.i64.wrap (16 * so * sy) = 16 * so * sy) := show _ = _ by rw [IntKind.wrap_i64]; generalize 16 * so * sy = k at *; omega
      have W3 : Hid (IntKind.i64.wrap (v + 16 * so * sy) = v + 16 * so * sy) := show _ = _ by rw [IntKind.wrap_i64]; generalize 16 * so * sy = k at *; omega
      have i0 : (0 : Int) ≤ (j : Int) := by omega
      have i1 : (j : Int) < 8 := by omega
      go_wp2_with fail
      go_region_with (first
        | (go_at_call 41; (with_reducible refine (HJ.out _ (by first | rfl | simp only [W1.out, W2.out, W3.out]) _).mono ?_); rintro e w9 ⟨rfl, rfl⟩)
        | (go_at_call 42; (with_reducible refine (SO.out _).mono ?_); rintro e w9 ⟨rfl, rfl⟩)
        | (go_at_call 42; (with_reducible refine (SH.out _).mono ?_); rintro e w9 ⟨rfl, rfl⟩))
      all_goals go_wp2
      all_goals go_roundw
      all_goals first
        | exact ⟨j + 1, by omega, by go_num, H4.out.drew, (R3.out.other _ _ (by omega) _).drew, (B3.out.setCell (Nat.le_refl _) _).drew⟩
        | (simp [intOf]; omega)
    · have e8 : j = 8 := by omega
      have h8 := H3.out
      rw [e8, TE.out] at h8
      have hd : decide ((j : Int) < 8) = false := decide_eq_false (by omega)
      have HC : Hid (∀ j v, vs[j]? = some v → wr.drew.cell? ((⟨w.heap.size, 8, none⟩ : Addr).add j) = some v) := fun j v hv => by
        have := (h8.part 8 7 (by rw [LT.out]; decide)) j v (by rw [VE.out]; exact hv)
        rw [Addr.add_lit]
        exact this
      have TH : Hid (wr.there w.heap.size 9 7) := h8.there 9 7 (by rw [LT.out]; decide)
      have H4 : Hid (Holds (wr.drew.setCells w.heap.size 9 vs) w.heap.size M) := by
        have := h8.drew.put ((T.drop 8).take 7) 9 (by simp [LT.out])
        rw [VE.out, ME.out] at this
        exact this
      have R4 : Hid (Holds (wr.drew.setCells w.heap.size 9 vs) (w.heap.size + 1) zeros16) := R3.out.drew.others (by omega) _ _
      have B4 : Hid (Bel w (wr.drew.setCells w.heap.size 9 vs)) := Bel.setCells (Nat.le_refl _) _ _ B3.out.drew
      clear h8 e8 H3 R3 B3 HD SG IX WR
      go_wp2_with fail
      go_region_law (refine step_copy_cells rfl (.tmp 49) (.tmp 51) 22 22 rfl 3 Try.underlying22 SI.out w.heap.size 9 ⟨w.heap.size, 8, none⟩ 7 7 8 8 (by simp [Act.eval, Act.put]) (by simp [Act.eval, Act.put]) vs (by rw [VN.out]; decide) HC.out (fun j hj => (TH.out j (by rw [← VN.out]; exact hj)).1) (fun j hj => (TH.out j (by rw [← VN.out]; exact hj)).2) V1.out ?_)
      generalize wr.drew.setCells w.heap.size 9 vs = V at *
      have c8 := H4.out.cell 8 (by rw [LM.out]; decide)
      have f8 := H4.out.free 8 (by rw [LM.out]; decide)
      have H5 : Hid (Holds (V.setCell ⟨w.heap.size, 8, none⟩ (.int .i64 x)) w.heap.size N) := by
        have := H4.out.set 8 (by rw [LM.out]; decide) x
        rw [NE.out] at this
        exact this
      have R5 : Hid (Holds (V.setCell ⟨w.heap.size, 8, none⟩ (.int .i64 x)) (w.heap.size + 1) zeros16) := R4.out.other _ _ (by omega) _
      have B5 : Hid (Bel w (V.setCell ⟨w.heap.size, 8, none⟩ (.int .i64 x))) := B4.out.setCell (Nat.le_refl _) _
      clear H4 R4 B4
      generalize M.getD 8 0 = old at *
      go_wp2_with (first
        | (with_reducible refine wpl_load24 H5.out LN.out rfl ?_)
        | (with_reducible refine wpl_store24 R5.out NZ.out LN.out rfl rfl ?_))
      have R6 := holds_all R5.out N (NZ.out.trans LN.out.symm)
      exact bodyPost_ret (v := .tuple #[mdl N, .int .i64 0]) (results_lms2 Try.results36 rfl rfl R6 LN.out) rfl ⟨rfl, Bel.setCells (by omega) _ _ B5.out⟩

end Go.Proofs.Ytamefddgpdhccaa.Lin
