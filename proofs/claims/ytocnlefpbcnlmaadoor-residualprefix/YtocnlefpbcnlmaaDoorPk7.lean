/-
  The contract of model.Learn for what may be. Condition: the package's table is laid as its text lays it.
-/
import Derived.Test.YtocnlefpbcnlmaaDoorPk6

namespace Go.Proofs.YtocnlefpbcnlmaaDoor.Mod
open Go.RowKit Go.Sort
set_option linter.unusedVariables false
set_option linter.unusedSimpArgs false

set_option maxRecDepth 20000 in
set_option maxHeartbeats 4000000 in
theorem learn_yes (L : List Int) (hL : L.length = 195) (a b c : Nat) (ha : a < 64) (hb : b < 64) (hc : c < 64) (bit : Int) (hbit : Cnt.bitB bit = true) (hm : mayM L = true) (w : World) (T : Str.Tab w) :
    Calls Tryd.prog 33 #[mdl L, .agg #[.int .i64 (a : Int), .int .i64 (b : Int), .int .i64 (c : Int)], .int .i64 bit] w fun e w' => e = .returned (.tuple #[mdl (learn L a b c bit), .int .i64 0]) ∧ Bel w w' := by
  have TT : Hid (Str.Tab w) := T
  have NL : Hid (L.length = 195) := hL
  have NZ : Hid (zeros8.length = 198) := zeros8_len
  have z := zero47
  have VV : Hid (∀ (B : Nat) (w : World), Str.Tab w → Holds w B (L ++ [(a : Int), (b : Int), (c : Int)]) → Calls Tryd.prog 47 #[.pointer (some ⟨B, 0, none⟩)] w fun e w' => e = .returned (.bool true) ∧ Bel w w') := fun B w T h => by have := view_ok L hL (a : Int) (b : Int) (c : Int) B w T h; rwa [show (ctxB (a : Int) (b : Int) (c : Int) && mayM L) = true by rw [hm, ctx_yes ha hb hc]; rfl] at this
  have VL : Hid ((L ++ [(a : Int), (b : Int), (c : Int)]).length = 198) := view_len hL _ _ _
  have N6 : Hid (zeros.length = 195) := zeros_len
  have z6 := zero26
  have H1 : Hid (Holds (((w.alloc (.cells (vals L).toArray 46)).alloc (.cells #[.int .i64 (a : Int), .int .i64 (b : Int), .int .i64 (c : Int)] 44)).alloc (.cells (vals zeros).toArray 46)) w.heap.size L) := (holds_new w L 46).bel (((Bel.refl _).alloc _).alloc _)
  generalize zeros8 = Z at *
  have BB : Hid (∀ w, Calls Tryd.prog 51 #[.int .i64 bit] w fun e w' => e = .returned (.bool true) ∧ w' = w) := hbit ▸ isBit_ok bit
  have RR : Hid (∀ (B : Nat) (w : World), Str.Tab w → Holds w B (L ++ [(a : Int), (b : Int), (c : Int)]) → Calls Tryd.prog 49 #[.func (.func 50) #[.pointer (some ⟨B, 0, none⟩)] #[]] w fun e w' => e = .returned (.agg #[.int .i64 (inp (L.getD a 0)), .int .i64 (inp (L.getD (64 + b) 0)), .int .i64 (inp (L.getD (128 + c) 0))]) ∧ Bel w w') := rows_ok L hL a b c ha hb hc hm
  have DD : Hid (∀ (w : World), Str.Tab w → Calls Tryd.prog 52 #[.agg #[.int .i64 (L.getD 192 0), .int .i64 (L.getD 193 0), .int .i64 (L.getD 194 0)], .agg #[.int .i64 (inp (L.getD a 0)), .int .i64 (inp (L.getD (64 + b) 0)), .int .i64 (inp (L.getD (128 + c) 0))], .int .i64 bit] w fun e w' => e = .returned (.tuple #[.agg #[.int .i64 (trnW L a b c bit (L.getD 192 0) (L.getD a 0)), .int .i64 (trnW L a b c bit (L.getD 193 0) (L.getD (64 + b) 0)), .int .i64 (trnW L a b c bit (L.getD 194 0) (L.getD (128 + c) 0))], .int .i64 0]) ∧ Onto w w') := Mix.train_yes _ _ _ _ _ _ bit (may_in (mayM_wts hm) _ _ _) (Cnt.bitB_of hbit)
  have nx : ∀ (x : Int), 0 ≤ x ∧ x ≤ 65535 → ∀ w, Calls Tryd.prog 53 #[.int .i64 x, .int .i64 bit] w fun e w' => e = .returned (.tuple #[.int .i64 (Cnt.step x bit), .int .i64 0]) ∧ w' = w := fun x hx w => by
    have e : Cnt.nextAns x bit = .tuple #[.int .i64 (Cnt.step x bit), .int .i64 0] := if_pos ⟨decide_eq_true hx, hbit⟩
    have := Cnt.next_ok x bit w
    rwa [e] at this
  have r0 := mayM_row hm 0 (.inl rfl) a ha
  rw [Nat.zero_add] at r0
  have X0 : Hid (∀ w, Calls Tryd.prog 53 #[.int .i64 (L.getD a 0), .int .i64 bit] w fun e w' => e = .returned (.tuple #[.int .i64 (Cnt.step (L.getD a 0) bit), .int .i64 0]) ∧ w' = w) := nx _ r0
  have X1 : Hid (∀ w, Calls Tryd.prog 53 #[.int .i64 (L.getD (64 + b) 0), .int .i64 bit] w fun e w' => e = .returned (.tuple #[.int .i64 (Cnt.step (L.getD (64 + b) 0) bit), .int .i64 0]) ∧ w' = w) := nx _ (mayM_row hm 64 (.inr (.inl rfl)) b hb)
  have X2 : Hid (∀ w, Calls Tryd.prog 53 #[.int .i64 (L.getD (128 + c) 0), .int .i64 bit] w fun e w' => e = .returned (.tuple #[.int .i64 (Cnt.step (L.getD (128 + c) 0) bit), .int .i64 0]) ∧ w' = w) := nx _ (mayM_row hm 128 (.inr (.inr rfl)) c hc)
  have W0 : Hid ((L ++ [(a : Int), (b : Int), (c : Int)]).getD 192 0 = L.getD 192 0 ∧ (L ++ [(a : Int), (b : Int), (c : Int)]).getD 193 0 = L.getD 193 0 ∧ (L ++ [(a : Int), (b : Int), (c : Int)]).getD 194 0 = L.getD 194 0) := ⟨view_get hL _ _ _ _ (by decide), view_get hL _ _ _ _ (by decide), view_get hL _ _ _ _ (by decide)⟩
  clear T hm hbit nx r0
  obtain ⟨A, hA⟩ : ∃ A, trnW L a b c bit (L.getD 192 0) (L.getD a 0) = A := ⟨_, rfl⟩
  obtain ⟨B, hB⟩ : ∃ B, trnW L a b c bit (L.getD 193 0) (L.getD (64 + b) 0) = B := ⟨_, rfl⟩
  obtain ⟨C, hC⟩ : ∃ C, trnW L a b c bit (L.getD 194 0) (L.getD (128 + c) 0) = C := ⟨_, rfl⟩
  obtain ⟨P0, hP0⟩ : ∃ P, Cnt.step (L.getD a 0) bit = P := ⟨_, rfl⟩
  obtain ⟨P1, hP1⟩ : ∃ P, Cnt.step (L.getD (64 + b) 0) bit = P := ⟨_, rfl⟩
  obtain ⟨P2, hP2⟩ : ∃ P, Cnt.step (L.getD (128 + c) 0) bit = P := ⟨_, rfl⟩
  rw [hA, hB, hC] at DD
  rw [hP0] at X0
  rw [hP1] at X1
  rw [hP2] at X2
  have el : learn L a b c bit = (((setW L A B C).set a P0).set (64 + b) P1).set (128 + c) P2 := by rw [learn, hA, hB, hC, hP0, hP1, hP2]
  rw [el]
  clear el hA hB hC hP0 hP1 hP2
  obtain ⟨L1, hL1⟩ : ∃ M, setW L A B C = M := ⟨_, rfl⟩
  obtain ⟨L2, hL2⟩ : ∃ M, L1.set a P0 = M := ⟨_, rfl⟩
  obtain ⟨L3, hL3⟩ : ∃ M, L2.set (64 + b) P1 = M := ⟨_, rfl⟩
  obtain ⟨L4, hL4⟩ : ∃ M, L3.set (128 + c) P2 = M := ⟨_, rfl⟩
  rw [hL1, hL2, hL3, hL4]
  have n1 : L1.length = 195 := by rw [← hL1, setW_len]; exact hL
  have n2 : L2.length = 195 := by rw [← hL2, List.length_set]; exact n1
  have n3 : L3.length = 195 := by rw [← hL3, List.length_set]; exact n2
  have n4 : L4.length = 195 := by rw [← hL4, List.length_set]; exact n3
  have g1 : ∀ k, k < 192 → L1.getD k 0 = L.getD k 0 := fun k hk => by rw [← hL1, setW, getD_set_ne _ _ _ _ (by omega), getD_set_ne _ _ _ _ (by omega), getD_set_ne _ _ _ _ (by omega)]
  have e1 : L1.getD a 0 = L.getD a 0 := g1 a (by omega)
  have e2 : L2.getD (64 + b) 0 = L.getD (64 + b) 0 := by rw [← hL2, getD_set_ne _ _ _ _ (by omega), g1 _ (by omega)]
  have e3 : L3.getD (128 + c) 0 = L.getD (128 + c) 0 := by rw [← hL3, getD_set_ne _ _ _ _ (by omega), ← hL2, getD_set_ne _ _ _ _ (by omega), g1 _ (by omega)]
  have N4 : Hid (L4.length = 195) := n4
  have S1 : Hid (∀ (w : World) (Bk : Nat), Holds w Bk (L ++ [(a : Int), (b : Int), (c : Int)]) → Holds (((w.setCell ⟨Bk, 192, none⟩ (.int .i64 A)).setCell ⟨Bk, 193, none⟩ (.int .i64 B)).setCell ⟨Bk, 194, none⟩ (.int .i64 C)) Bk (L1 ++ [(a : Int), (b : Int), (c : Int)])) := fun w Bk h => by
    have := ((h.set 192 (by rw [view_len hL]; decide) A).set 193 (by rw [List.length_set, view_len hL]; decide) B).set 194 (by rw [List.length_set, List.length_set, view_len hL]; decide) C
    rwa [set_view hL _ 192 (by decide), set_view (by rw [List.length_set]; exact hL) _ 193 (by decide), set_view (by rw [List.length_set, List.length_set]; exact hL) _ 194 (by decide), show ((L.set 192 A).set 193 B).set 194 C = L1 from hL1] at this
  have C0 : Hid (∀ (w : World) (Bk : Nat), Holds w Bk (L1 ++ [(a : Int), (b : Int), (c : Int)]) → w.cell? ⟨Bk, a, none⟩ = some (.int .i64 (L.getD (a) 0)) ∧ w.frozen? ⟨Bk, a, none⟩ = false ∧ Holds (w.setCell ⟨Bk, a, none⟩ (.int .i64 P0)) Bk (L2 ++ [(a : Int), (b : Int), (c : Int)])) := fun w Bk h => by
    have k1 := h.cell (a) (by rw [view_len n1]; omega)
    rw [view_get n1 _ _ _ _ (by omega), e1] at k1
    have k2 := h.set (a) (by rw [view_len n1]; omega) P0
    rw [set_view n1 _ _ (by omega), hL2] at k2
    exact ⟨k1, h.free _ (by rw [view_len n1]; omega), k2⟩
  have C1 : Hid (∀ (w : World) (Bk : Nat), Holds w Bk (L2 ++ [(a : Int), (b : Int), (c : Int)]) → w.cell? ⟨Bk, 64 + b, none⟩ = some (.int .i64 (L.getD (64 + b) 0)) ∧ w.frozen? ⟨Bk, 64 + b, none⟩ = false ∧ Holds (w.setCell ⟨Bk, 64 + b, none⟩ (.int .i64 P1)) Bk (L3 ++ [(a : Int), (b : Int), (c : Int)])) := fun w Bk h => by
    have k1 := h.cell (64 + b) (by rw [view_len n2]; omega)
    rw [view_get n2 _ _ _ _ (by omega), e2] at k1
    have k2 := h.set (64 + b) (by rw [view_len n2]; omega) P1
    rw [set_view n2 _ _ (by omega), hL3] at k2
    exact ⟨k1, h.free _ (by rw [view_len n2]; omega), k2⟩
  have C2 : Hid (∀ (w : World) (Bk : Nat), Holds w Bk (L3 ++ [(a : Int), (b : Int), (c : Int)]) → w.cell? ⟨Bk, 128 + c, none⟩ = some (.int .i64 (L.getD (128 + c) 0)) ∧ w.frozen? ⟨Bk, 128 + c, none⟩ = false ∧ Holds (w.setCell ⟨Bk, 128 + c, none⟩ (.int .i64 P2)) Bk (L4 ++ [(a : Int), (b : Int), (c : Int)])) := fun w Bk h => by
    have k1 := h.cell (128 + c) (by rw [view_len n3]; omega)
    rw [view_get n3 _ _ _ _ (by omega), e3] at k1
    have k2 := h.set (128 + c) (by rw [view_len n3]; omega) P2
    rw [set_view n3 _ _ (by omega), hL4] at k2
    exact ⟨k1, h.free _ (by rw [view_len n3]; omega), k2⟩
  have AT : Hid (∀ (w : World) (Bk : Nat), Holds w Bk (L1 ++ [(a : Int), (b : Int), (c : Int)]) → w.cell? ⟨Bk, 195, none⟩ = some (.int .i64 (a : Int)) ∧ w.cell? ⟨Bk, 196, none⟩ = some (.int .i64 (b : Int)) ∧ w.cell? ⟨Bk, 197, none⟩ = some (.int .i64 (c : Int))) := fun w Bk h => by
    obtain ⟨v0, v1, v2⟩ := view_at n1 (a : Int) (b : Int) (c : Int)
    have q0 := h.cell 195 (by rw [view_len n1]; decide)
    have q1 := h.cell 196 (by rw [view_len n1]; decide)
    have q2 := h.cell 197 (by rw [view_len n1]; decide)
    rw [v0] at q0
    rw [v1] at q1
    rw [v2] at q2
    exact ⟨q0, q1, q2⟩
  clear hL hL1 hL2 hL3 hL4 n1 n2 n3 n4 g1 e1 e2 e3
  generalize inp (L.getD a 0) = x at *
  generalize inp (L.getD (64 + b) 0) = y at *
  generalize inp (L.getD (128 + c) 0) = u at *
  go_enter Tryd.func33, Tryd.ntmps33
  go_wp2_with (first
    | (with_reducible refine wpl_load26' H1.out NL.out rfl ?_)
    | (with_reducible refine wpl_build47 NL.out rfl rfl ?_)
    | ((with_reducible refine wpl_store47 (B := w.heap.size + 3) (L := Z) ?hh NZ.out VL.out rfl rfl ?hk); (case hh => exact holds_at (by simp) Z 89)))
  have h2 : Holds (((((w.alloc (.cells (vals L).toArray 46)).alloc (.cells #[.int .i64 (a : Int), .int .i64 (b : Int), .int .i64 (c : Int)] 44)).alloc (.cells (vals zeros).toArray 46)).alloc (.cells (vals Z).toArray 89)).setCells (w.heap.size + 3) 0 (vals (L ++ [(a : Int), (b : Int), (c : Int)]))) (w.heap.size + 3) (L ++ [(a : Int), (b : Int), (c : Int)]) := holds_all (holds_at (by simp) Z 89) _ (NZ.out.trans VL.out.symm)
  have h6 : Holds (((((w.alloc (.cells (vals L).toArray 46)).alloc (.cells #[.int .i64 (a : Int), .int .i64 (b : Int), .int .i64 (c : Int)] 44)).alloc (.cells (vals zeros).toArray 46)).alloc (.cells (vals Z).toArray 89)).setCells (w.heap.size + 3) 0 (vals (L ++ [(a : Int), (b : Int), (c : Int)]))) (w.heap.size + 2) zeros := Holds.others (by omega) _ _ ((holds_at (by simp) zeros 46).bel ((Bel.refl _).alloc _))
  have b2 : Bel w (((((w.alloc (.cells (vals L).toArray 46)).alloc (.cells #[.int .i64 (a : Int), .int .i64 (b : Int), .int .i64 (c : Int)] 44)).alloc (.cells (vals zeros).toArray 46)).alloc (.cells (vals Z).toArray 89)).setCells (w.heap.size + 3) 0 (vals (L ++ [(a : Int), (b : Int), (c : Int)]))) := Bel.setCells (by omega) _ _ (((((Bel.refl _).alloc _).alloc _).alloc _).alloc _)
  generalize ((((w.alloc (.cells (vals L).toArray 46)).alloc (.cells #[.int .i64 (a : Int), .int .i64 (b : Int), .int .i64 (c : Int)] 44)).alloc (.cells (vals zeros).toArray 46)).alloc (.cells (vals Z).toArray 89)).setCells (w.heap.size + 3) 0 (vals (L ++ [(a : Int), (b : Int), (c : Int)])) = W at *
  have H2 : Hid (Holds W (w.heap.size + 3) (L ++ [(a : Int), (b : Int), (c : Int)])) := h2
  have H6 : Hid (Holds W (w.heap.size + 2) zeros) := h6
  have B2 : Hid (Bel w W) := b2
  clear h2 b2 z h6
  refine (VV.out _ _ (tab_bel TT.out B2.out) H2.out).mono ?_
  rintro e w1 ⟨rfl, b1⟩
  have B1 : Hid (Bel w w1) := B2.out.trans b1
  have H3 : Hid (Holds w1 (w.heap.size + 3) (L ++ [(a : Int), (b : Int), (c : Int)])) := H2.out.bel b1
  have R1 : Hid (Holds w1 (w.heap.size + 2) zeros) := H6.out.bel b1
  clear b1 B2 H2 H6
  go_wp2_with fail
  refine (BB.out _).mono ?_
  rintro e w1 ⟨rfl, rfl⟩
  have k0 := H3.out.cell 192 (by rw [VL.out]; decide)
  have k1 := H3.out.cell 193 (by rw [VL.out]; decide)
  have k2 := H3.out.cell 194 (by rw [VL.out]; decide)
  have f0 := H3.out.free 192 (by rw [VL.out]; decide)
  have f1 := H3.out.free 193 (by rw [VL.out]; decide)
  have f2 := H3.out.free 194 (by rw [VL.out]; decide)
  rw [W0.out.1] at k0
  rw [W0.out.2.1] at k1
  rw [W0.out.2.2] at k2
  generalize L.getD 192 0 = x0 at *
  generalize L.getD 193 0 = x1 at *
  generalize L.getD 194 0 = x2 at *
  go_wp2_with fail
  go_cut [33] from 22 to 34 (fun s wx => Holds wx (w.heap.size + 3) (L1 ++ [(a : Int), (b : Int), (c : Int)]) ∧ Holds wx (w.heap.size + 2) zeros ∧ Bel w wx)
  case first =>
    go_region_with (first
      | (go_at_call 49; (with_reducible refine (RR.out _ _ (tab_bel TT.out B1.out.drew) (H3.out.drew)).mono ?_); rintro e w2 ⟨rfl, b⟩; have bq2 : Bel w1 w2 := (Bel.refl w1).drew.trans b; have q0 := bq2.keep k0; have q1 := bq2.keep k1; have q2 := bq2.keep k2; clear b)
      | (go_at_call 52; (with_reducible refine (DD.out _ (tab_bel TT.out (B1.out.trans bq2))).mono ?_); rintro e w3 ⟨rfl, b⟩; have bq3 : Bel w1 w3 := bq2.trans b.b; have q0 := bq3.keep k0; have q1 := bq3.keep k1; have q2 := bq3.keep k2; have g0 := bq3.free k0 f0; have g1 := bq3.free k1 f1; have g2 := bq3.free k2 f2; clear b))
    all_goals go_wp2_with fail
    all_goals go_meet
    all_goals exact ⟨S1.out w3 _ (H3.out.bel bq3), (((R1.out.bel bq3).other _ _ (by omega) _).other _ _ (by omega) _).other _ _ (by omega) _, (((B1.out.trans bq3).setCell (by simp; omega) _).setCell (by simp; omega) _).setCell (by simp; omega) _⟩
  obtain ⟨h4, r4, b4⟩ := hcut
  obtain ⟨t0, t1, t2⟩ := AT.out _ _ h4
  have H4 : Hid (Holds wc (w.heap.size + 3) (L1 ++ [(a : Int), (b : Int), (c : Int)])) := h4
  have R4 : Hid (Holds wc (w.heap.size + 2) zeros) := r4
  have B4 : Hid (Bel w wc) := b4
  clear h4 r4 b4 k0 k1 k2 f0 f1 f2 H1 H3 R1 B1 RR DD VV BB
  go_wp2_with fail
  go_loopw [36] (fun q wr => (Holds wr (w.heap.size + 2) zeros ∧ Bel w wr) ∧ ((q = .int .i64 0 ∧ Holds wr (w.heap.size + 3) (L1 ++ [(a : Int), (b : Int), (c : Int)])) ∨ (q = .int .i64 1 ∧ Holds wr (w.heap.size + 3) (L2 ++ [(a : Int), (b : Int), (c : Int)])) ∨ (q = .int .i64 2 ∧ Holds wr (w.heap.size + 3) (L3 ++ [(a : Int), (b : Int), (c : Int)])) ∨ (q = .int .i64 3 ∧ Holds wr (w.heap.size + 3) (L4 ++ [(a : Int), (b : Int), (c : Int)])))) (fun q _ => 3 - (intOf q).toNat)
  case atStart => exact ⟨⟨R4.out, B4.out⟩, .inl ⟨rfl, H4.out⟩⟩
  case round =>
    obtain ⟨⟨r5, b5⟩, hrel⟩ := hrel
    clear t0 t1 t2 H4 R4 B4
    have R5 : Hid (Holds wr (w.heap.size + 2) zeros) := r5
    have B5 : Hid (Bel w wr) := b5
    clear r5 b5
    rcases hrel with ⟨rfl, h⟩ | ⟨rfl, h⟩ | ⟨rfl, h⟩ | ⟨rfl, h⟩
    · have ix := ix0 (.int .i64 (a : Int)) (.int .i64 (b : Int)) (.int .i64 (c : Int))
      obtain ⟨k0, f0, h6⟩ := C0.out _ _ h
      have H6 : Hid (Holds (wr.setCell ⟨w.heap.size + 3, a, none⟩ (.int .i64 P0)) (w.heap.size + 3) (L2 ++ [(a : Int), (b : Int), (c : Int)])) := h6
      clear h h6
      generalize L.getD (a) 0 = old at *
      go_wp2_with fail
      go_region_with (first
        | (go_at_call 53; (with_reducible refine (X0.out _).mono ?_); rintro e w9 ⟨rfl, rfl⟩))
      all_goals go_wp2
      all_goals go_roundw
      all_goals first
        | exact ⟨⟨(R5.out.other _ _ (by omega) _).drew, (B5.out.setCell (by simp; omega) _).drew⟩, .inr (.inl ⟨rfl, H6.out.drew⟩)⟩
        | (simp [intOf]; done)
    · have ix := ix1 (.int .i64 (a : Int)) (.int .i64 (b : Int)) (.int .i64 (c : Int))
      obtain ⟨k0, f0, h6⟩ := C1.out _ _ h
      have H6 : Hid (Holds (wr.setCell ⟨w.heap.size + 3, 64 + b, none⟩ (.int .i64 P1)) (w.heap.size + 3) (L3 ++ [(a : Int), (b : Int), (c : Int)])) := h6
      clear h h6
      generalize L.getD (64 + b) 0 = old at *
      go_wp2_with fail
      go_region_with (first
        | (go_at_call 53; (with_reducible refine (X1.out _).mono ?_); rintro e w9 ⟨rfl, rfl⟩))
      all_goals go_wp2
      all_goals go_roundw
      all_goals first
        | exact ⟨⟨(R5.out.other _ _ (by omega) _).drew, (B5.out.setCell (by simp; omega) _).drew⟩, .inr (.inr (.inl ⟨rfl, H6.out.drew⟩))⟩
        | (simp [intOf]; done)
    · have ix := ix2 (.int .i64 (a : Int)) (.int .i64 (b : Int)) (.int .i64 (c : Int))
      obtain ⟨k0, f0, h6⟩ := C2.out _ _ h
      have H6 : Hid (Holds (wr.setCell ⟨w.heap.size + 3, 128 + c, none⟩ (.int .i64 P2)) (w.heap.size + 3) (L4 ++ [(a : Int), (b : Int), (c : Int)])) := h6
      clear h h6
      generalize L.getD (128 + c) 0 = old at *
      go_wp2_with fail
      go_region_with (first
        | (go_at_call 53; (with_reducible refine (X2.out _).mono ?_); rintro e w9 ⟨rfl, rfl⟩))
      all_goals go_wp2
      all_goals go_roundw
      all_goals first
        | exact ⟨⟨(R5.out.other _ _ (by omega) _).drew, (B5.out.setCell (by simp; omega) _).drew⟩, .inr (.inr (.inr ⟨rfl, H6.out.drew⟩))⟩
        | (simp [intOf]; done)
    · have H6 : Hid (Holds wr (w.heap.size + 3) (L4 ++ [(a : Int), (b : Int), (c : Int)])) := h
      have R7 : Hid (Holds (wr.setCells (w.heap.size + 2) 0 (vals L4)) (w.heap.size + 2) L4) := holds_all R5.out L4 (N6.out.trans N4.out.symm)
      have B7 : Hid (Bel w (wr.setCells (w.heap.size + 2) 0 (vals L4))) := Bel.setCells (by omega) _ _ B5.out
      clear h
      go_wp2_with (first
        | (with_reducible refine wpl_load26v H6.out N4.out rfl ?_)
        | (with_reducible refine wpl_store26 R5.out N6.out N4.out rfl rfl ?_))
      exact bodyPost_ret (v := .tuple #[mdl L4, .int .i64 0]) (results_model2 Tryd.results33 rfl rfl R7.out N4.out) rfl ⟨rfl, B7.out⟩

end Go.Proofs.YtocnlefpbcnlmaaDoor.Mod
