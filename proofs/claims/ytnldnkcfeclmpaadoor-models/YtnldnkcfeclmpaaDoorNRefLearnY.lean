/-
  The contract of the reference's Learn for what may be: it answers as the program's does. No condition.
-/
import Derived.Test.YtnldnkcfeclmpaaDoorNRefLearn
namespace Go.Proofs.YtnldnkcfeclmpaaDoor.Mod
open Go.RowKit Go.Sort
set_option linter.unusedVariables false
set_option linter.unusedSimpArgs false

set_option maxRecDepth 20000 in
set_option maxHeartbeats 4000000 in
theorem ref_learn_yes (L : List Int) (hL : L.length = 195) (a b c : Nat) (ha : a < 64) (hb : b < 64) (hc : c < 64) (bit : Int) (hbit : Cnt.bitB bit = true) (hm : mayM L = true) (w : World) :
    Calls Tryd.prog 11 #[mdl L, .agg #[.int .i64 (a : Int), .int .i64 (b : Int), .int .i64 (c : Int)], .int .i64 bit] w fun e w' => e = .returned (.tuple #[mdl (learn L a b c bit), .int .i64 0]) ∧ Bel w w' := by
  have NL : Hid (L.length = 195) := hL
  have MM : Hid (∀ w, Calls Tryd.prog 14 #[mdl L] w fun e w' => e = .returned (.bool true) ∧ Bel w w') := hm ▸ ref_may_ok L hL
  have CM : Hid (∀ w, Calls Tryd.prog 22 #[.agg #[.int .i64 (a : Int), .int .i64 (b : Int), .int .i64 (c : Int)]] w fun e w' => e = .returned (.bool true) ∧ Bel w w') := ctx_yes ha hb hc ▸ ref_ctx_ok (a : Int) (b : Int) (c : Int)
  have BM : Hid (∀ w, Calls Tryd.prog 28 #[.int .i64 bit] w fun e w' => e = .returned (.bool true) ∧ w' = w) := hbit ▸ Cnt.bitMay_ok bit
  have IN : Hid (∀ w, Calls Tryd.prog 24 #[mdl L, .agg #[.int .i64 (a : Int), .int .i64 (b : Int), .int .i64 (c : Int)]] w fun e w' => e = .returned (.agg #[.int .i64 (inp (L.getD a 0)), .int .i64 (inp (L.getD (64 + b) 0)), .int .i64 (inp (L.getD (128 + c) 0))]) ∧ Bel w w') := ref_in_ok L hL a b c ha hb hc hm
  have DD : Hid (∀ (w : World), Calls Tryd.prog 29 #[.agg #[.int .i64 (L.getD 192 0), .int .i64 (L.getD 193 0), .int .i64 (L.getD 194 0)], .agg #[.int .i64 (inp (L.getD a 0)), .int .i64 (inp (L.getD (64 + b) 0)), .int .i64 (inp (L.getD (128 + c) 0))], .int .i64 bit] w fun e w' => e = .returned (.tuple #[.agg #[.int .i64 (trnW L a b c bit (L.getD 192 0) (L.getD a 0)), .int .i64 (trnW L a b c bit (L.getD 193 0) (L.getD (64 + b) 0)), .int .i64 (trnW L a b c bit (L.getD 194 0) (L.getD (128 + c) 0))], .int .i64 0]) ∧ Onto w w') := Mix.ref_train_yes _ _ _ _ _ _ bit (may_in (mayM_wts hm) _ _ _) (Cnt.bitB_of hbit)
  have nx : ∀ (x : Int), 0 ≤ x ∧ x ≤ 65535 → ∀ w, Calls Tryd.prog 30 #[.int .i64 x, .int .i64 bit] w fun e w' => e = .returned (.tuple #[.int .i64 (Cnt.step x bit), .int .i64 0]) ∧ w' = w := fun x hx w => by
    have e : Cnt.nextAns x bit = .tuple #[.int .i64 (Cnt.step x bit), .int .i64 0] := if_pos ⟨decide_eq_true hx, hbit⟩
    have := Cnt.rnext_ok x bit w
    rwa [e] at this
  have r0 := mayM_row hm 0 (.inl rfl) a ha
  rw [Nat.zero_add] at r0
  have X0 : Hid (∀ w, Calls Tryd.prog 30 #[.int .i64 (L.getD a 0), .int .i64 bit] w fun e w' => e = .returned (.tuple #[.int .i64 (Cnt.step (L.getD a 0) bit), .int .i64 0]) ∧ w' = w) := nx _ r0
  have X1 : Hid (∀ w, Calls Tryd.prog 30 #[.int .i64 (L.getD (64 + b) 0), .int .i64 bit] w fun e w' => e = .returned (.tuple #[.int .i64 (Cnt.step (L.getD (64 + b) 0) bit), .int .i64 0]) ∧ w' = w) := nx _ (mayM_row hm 64 (.inr (.inl rfl)) b hb)
  have X2 : Hid (∀ w, Calls Tryd.prog 30 #[.int .i64 (L.getD (128 + c) 0), .int .i64 bit] w fun e w' => e = .returned (.tuple #[.int .i64 (Cnt.step (L.getD (128 + c) 0) bit), .int .i64 0]) ∧ w' = w) := nx _ (mayM_row hm 128 (.inr (.inr rfl)) c hc)
  clear hm hbit nx r0
  obtain ⟨A, hA⟩ : ∃ A, trnW L a b c bit (L.getD 192 0) (L.getD a 0) = A := ⟨_, rfl⟩
  obtain ⟨B, hB⟩ : ∃ B, trnW L a b c bit (L.getD 193 0) (L.getD (64 + b) 0) = B := ⟨_, rfl⟩
  obtain ⟨C, hC⟩ : ∃ C, trnW L a b c bit (L.getD 194 0) (L.getD (128 + c) 0) = C := ⟨_, rfl⟩
  obtain ⟨P0, hP0⟩ : ∃ P, Cnt.step (L.getD a 0) bit = P := ⟨_, rfl⟩
  obtain ⟨P1, hP1⟩ : ∃ P, Cnt.step (L.getD (64 + b) 0) bit = P := ⟨_, rfl⟩
  obtain ⟨P2, hP2⟩ : ∃ P, Cnt.step (L.getD (128 + c) 0) bit = P := ⟨_, rfl⟩
  rw [hA, hB, hC] at DD
  rw [hP0] at X0
  rw [hP1] at X1
  rw [hP2] at X2
  have el : learn L a b c bit = (((setW L A B C).set a P0).set (64 + b) P1).set (128 + c) P2 := by rw [learn, hA, hB, hC, hP0, hP1, hP2]
  rw [el]
  clear el hA hB hC hP0 hP1 hP2
  obtain ⟨L1, hL1⟩ : ∃ M, setW L A B C = M := ⟨_, rfl⟩
  obtain ⟨L2, hL2⟩ : ∃ M, L1.set a P0 = M := ⟨_, rfl⟩
  obtain ⟨L3, hL3⟩ : ∃ M, L2.set (64 + b) P1 = M := ⟨_, rfl⟩
  obtain ⟨L4, hL4⟩ : ∃ M, L3.set (128 + c) P2 = M := ⟨_, rfl⟩
  rw [hL1, hL2, hL3, hL4]
  have n1 : L1.length = 195 := by rw [← hL1, setW_len]; exact hL
  have n2 : L2.length = 195 := by rw [← hL2, List.length_set]; exact n1
  have n3 : L3.length = 195 := by rw [← hL3, List.length_set]; exact n2
  have n4 : L4.length = 195 := by rw [← hL4, List.length_set]; exact n3
  have g1 : ∀ k, k < 192 → L1.getD k 0 = L.getD k 0 := fun k hk => by rw [← hL1, setW, getD_set_ne _ _ _ _ (by omega), getD_set_ne _ _ _ _ (by omega), getD_set_ne _ _ _ _ (by omega)]
  have e1 : L1.getD a 0 = L.getD a 0 := g1 a (by omega)
  have e2 : L2.getD (64 + b) 0 = L.getD (64 + b) 0 := by rw [← hL2, getD_set_ne _ _ _ _ (by omega), g1 _ (by omega)]
  have e3 : L3.getD (128 + c) 0 = L.getD (128 + c) 0 := by rw [← hL3, getD_set_ne _ _ _ _ (by omega), ← hL2, getD_set_ne _ _ _ _ (by omega), g1 _ (by omega)]
  have N4 : Hid (L4.length = 195) := n4
  have S1 : Hid (∀ (w : World) (Bk : Nat), Holds w Bk L → Holds (((w.setCell ⟨Bk, 192, none⟩ (.int .i64 A)).setCell ⟨Bk, 193, none⟩ (.int .i64 B)).setCell ⟨Bk, 194, none⟩ (.int .i64 C)) Bk L1) := fun w Bk h => by
    have := ((h.set 192 (by rw [hL]; decide) A).set 193 (by rw [List.length_set, hL]; decide) B).set 194 (by rw [List.length_set, List.length_set, hL]; decide) C
    rwa [show ((L.set 192 A).set 193 B).set 194 C = L1 from hL1] at this
  have G0 : Hid (∀ (w : World) (Bk : Nat), Holds w Bk L1 → w.cell? ⟨Bk, a, none⟩ = some (.int .i64 (L.getD (a) 0)) ∧ w.frozen? ⟨Bk, a, none⟩ = false ∧ Holds (w.setCell ⟨Bk, a, none⟩ (.int .i64 P0)) Bk L2) := fun w Bk h => by
    have k1 := h.cell (a) (by omega)
    rw [e1] at k1
    have k2 := h.set (a) (by omega) P0
    rw [hL2] at k2
    exact ⟨k1, h.free _ (by omega), k2⟩
  have G1 : Hid (∀ (w : World) (Bk : Nat), Holds w Bk L2 → w.cell? ⟨Bk, 64 + b, none⟩ = some (.int .i64 (L.getD (64 + b) 0)) ∧ w.frozen? ⟨Bk, 64 + b, none⟩ = false ∧ Holds (w.setCell ⟨Bk, 64 + b, none⟩ (.int .i64 P1)) Bk L3) := fun w Bk h => by
    have k1 := h.cell (64 + b) (by omega)
    rw [e2] at k1
    have k2 := h.set (64 + b) (by omega) P1
    rw [hL3] at k2
    exact ⟨k1, h.free _ (by omega), k2⟩
  have G2 : Hid (∀ (w : World) (Bk : Nat), Holds w Bk L3 → w.cell? ⟨Bk, 128 + c, none⟩ = some (.int .i64 (L.getD (128 + c) 0)) ∧ w.frozen? ⟨Bk, 128 + c, none⟩ = false ∧ Holds (w.setCell ⟨Bk, 128 + c, none⟩ (.int .i64 P2)) Bk L4) := fun w Bk h => by
    have k1 := h.cell (128 + c) (by omega)
    rw [e3] at k1
    have k2 := h.set (128 + c) (by omega) P2
    rw [hL4] at k2
    exact ⟨k1, h.free _ (by omega), k2⟩
  clear hL1 hL2 hL3 hL4 n1 n2 n3 n4 g1 e1 e2 e3
  generalize inp (L.getD a 0) = x at *
  generalize inp (L.getD (64 + b) 0) = y at *
  generalize inp (L.getD (128 + c) 0) = u at *
  have M0 : Hid (Holds (((w.alloc (.cells (vals L).toArray 26)).alloc (.cells #[.int .i64 (a : Int), .int .i64 (b : Int), .int .i64 (c : Int)] 24)).alloc (.cells (vals zeros).toArray 26)) w.heap.size L) := (holds_new w L 26).bel (((Bel.refl _).alloc _).alloc _)
  have C0 : Hid (Holds (((w.alloc (.cells (vals L).toArray 26)).alloc (.cells #[.int .i64 (a : Int), .int .i64 (b : Int), .int .i64 (c : Int)] 24)).alloc (.cells (vals zeros).toArray 26)) (w.heap.size + 1) [(a : Int), (b : Int), (c : Int)]) := (holds_at (by simp) [(a : Int), (b : Int), (c : Int)] 24).bel ((Bel.refl _).alloc _)
  have R0 : Hid (Holds (((w.alloc (.cells (vals L).toArray 26)).alloc (.cells #[.int .i64 (a : Int), .int .i64 (b : Int), .int .i64 (c : Int)] 24)).alloc (.cells (vals zeros).toArray 26)) (w.heap.size + 2) zeros) := holds_at (by simp) zeros 26
  have B0 : Hid (Bel w (((w.alloc (.cells (vals L).toArray 26)).alloc (.cells #[.int .i64 (a : Int), .int .i64 (b : Int), .int .i64 (c : Int)] 24)).alloc (.cells (vals zeros).toArray 26))) := (((Bel.refl _).alloc _).alloc _).alloc _
  have ZL : Hid (zeros.length = 195) := zeros_len
  have zz := zero26
  clear hL
  go_enter Tryd.func11, Tryd.ntmps11
  go_wp2_with (first | (with_reducible refine wpl_load26' M0.out NL.out rfl ?_))
  refine (MM.out _).mono ?_
  rintro e w1 ⟨rfl, b1⟩
  have M1 : Hid (Holds w1 w.heap.size L) := M0.out.bel b1
  have C1 : Hid (Holds w1 (w.heap.size + 1) [(a : Int), (b : Int), (c : Int)]) := C0.out.bel b1
  have R1 : Hid (Holds w1 (w.heap.size + 2) zeros) := R0.out.bel b1
  have B1 : Hid (Bel w w1) := B0.out.trans b1
  clear b1 M0 C0 B0 R0
  have k0 : w1.cell? ⟨w.heap.size + 1, 0, none⟩ = some (.int .i64 (a : Int)) := C1.out.cell 0 (by simp)
  have k1 : w1.cell? ⟨w.heap.size + 1, 1, none⟩ = some (.int .i64 (b : Int)) := C1.out.cell 1 (by simp)
  have k2 : w1.cell? ⟨w.heap.size + 1, 2, none⟩ = some (.int .i64 (c : Int)) := C1.out.cell 2 (by simp)
  go_wp2_with fail
  refine (CM.out _).mono ?_
  rintro e w2 ⟨rfl, b2⟩
  have M2 : Hid (Holds w2 w.heap.size L) := M1.out.bel b2
  have C2 : Hid (Holds w2 (w.heap.size + 1) [(a : Int), (b : Int), (c : Int)]) := C1.out.bel b2
  have R2 : Hid (Holds w2 (w.heap.size + 2) zeros) := R1.out.bel b2
  have B2 : Hid (Bel w w2) := B1.out.trans b2
  clear b2 k0 k1 k2 B1 R1 C1 M1
  go_wp2_with fail
  refine (BM.out _).mono ?_
  rintro e w2 ⟨rfl, rfl⟩
  have k0 : w2.cell? ⟨w.heap.size + 1, 0, none⟩ = some (.int .i64 (a : Int)) := C2.out.cell 0 (by simp)
  have k1 : w2.cell? ⟨w.heap.size + 1, 1, none⟩ = some (.int .i64 (b : Int)) := C2.out.cell 1 (by simp)
  have k2 : w2.cell? ⟨w.heap.size + 1, 2, none⟩ = some (.int .i64 (c : Int)) := C2.out.cell 2 (by simp)
  go_wp2_with (first | (with_reducible refine wpl_load26' M2.out NL.out rfl ?_))
  refine (IN.out _).mono ?_
  rintro e w3 ⟨rfl, b3⟩
  have bb3 : Bel w2 (w3.alloc (.cells #[.int .i64 x, .int .i64 y, .int .i64 u] 24)) := Bel.alloc b3 _
  have M3 : Hid (Holds (w3.alloc (.cells #[.int .i64 x, .int .i64 y, .int .i64 u] 24)) w.heap.size L) := M2.out.bel bb3
  have C3 : Hid (Holds (w3.alloc (.cells #[.int .i64 x, .int .i64 y, .int .i64 u] 24)) (w.heap.size + 1) [(a : Int), (b : Int), (c : Int)]) := C2.out.bel bb3
  have R3 : Hid (Holds (w3.alloc (.cells #[.int .i64 x, .int .i64 y, .int .i64 u] 24)) (w.heap.size + 2) zeros) := R2.out.bel bb3
  have B3 : Hid (Bel w (w3.alloc (.cells #[.int .i64 x, .int .i64 y, .int .i64 u] 24))) := B2.out.trans bb3
  have l0 := M3.out.cell 192 (by rw [NL.out]; decide)
  have l1 := M3.out.cell 193 (by rw [NL.out]; decide)
  have l2 := M3.out.cell 194 (by rw [NL.out]; decide)
  clear b3 bb3 k0 k1 k2 B2 R2 C2 M2
  generalize L.getD 192 0 = x0 at *
  generalize L.getD 193 0 = x1 at *
  generalize L.getD 194 0 = x2 at *
  go_wp2_with fail
  refine (DD.out _).mono ?_
  rintro e w4 ⟨rfl, o4⟩
  have M4 : Hid (Holds w4 w.heap.size L) := M3.out.bel o4.b
  have C4 : Hid (Holds w4 (w.heap.size + 1) [(a : Int), (b : Int), (c : Int)]) := C3.out.bel o4.b
  have R4 : Hid (Holds w4 (w.heap.size + 2) zeros) := R3.out.bel o4.b
  have B4 : Hid (Bel w w4) := B3.out.trans o4.b
  have l0 := M4.out.cell 192 (by rw [NL.out]; decide)
  have l1 := M4.out.cell 193 (by rw [NL.out]; decide)
  have l2 := M4.out.cell 194 (by rw [NL.out]; decide)
  have f0 := M4.out.free 192 (by rw [NL.out]; decide)
  have f1 := M4.out.free 193 (by rw [NL.out]; decide)
  have f2 := M4.out.free 194 (by rw [NL.out]; decide)
  have ls : w.heap.size < w4.heap.size := block_lt_of_cell l0
  clear o4 B3 R3 C3 M3
  go_wp2_with fail
  have M5 : Hid (Holds ((((w4.setCell ⟨w.heap.size, 192, none⟩ (.int .i64 A)).setCell ⟨w.heap.size, 193, none⟩ (.int .i64 B)).setCell ⟨w.heap.size, 194, none⟩ (.int .i64 C)).alloc (.cells #[.int .i64 A, .int .i64 B, .int .i64 C] 24)) w.heap.size L1) := (S1.out _ _ M4.out).bel ((Bel.refl _).alloc _)
  have C5 : Hid (Holds ((((w4.setCell ⟨w.heap.size, 192, none⟩ (.int .i64 A)).setCell ⟨w.heap.size, 193, none⟩ (.int .i64 B)).setCell ⟨w.heap.size, 194, none⟩ (.int .i64 C)).alloc (.cells #[.int .i64 A, .int .i64 B, .int .i64 C] 24)) (w.heap.size + 1) [(a : Int), (b : Int), (c : Int)]) := (((C4.out.other _ _ (by omega) _).other _ _ (by omega) _).other _ _ (by omega) _).bel ((Bel.refl _).alloc _)
  have R5 : Hid (Holds ((((w4.setCell ⟨w.heap.size, 192, none⟩ (.int .i64 A)).setCell ⟨w.heap.size, 193, none⟩ (.int .i64 B)).setCell ⟨w.heap.size, 194, none⟩ (.int .i64 C)).alloc (.cells #[.int .i64 A, .int .i64 B, .int .i64 C] 24)) (w.heap.size + 2) zeros) := (((R4.out.other _ _ (by omega) _).other _ _ (by omega) _).other _ _ (by omega) _).bel ((Bel.refl _).alloc _)
  have B5 : Hid (Bel w ((((w4.setCell ⟨w.heap.size, 192, none⟩ (.int .i64 A)).setCell ⟨w.heap.size, 193, none⟩ (.int .i64 B)).setCell ⟨w.heap.size, 194, none⟩ (.int .i64 C)).alloc (.cells #[.int .i64 A, .int .i64 B, .int .i64 C] 24))) := Bel.alloc (((B4.out.setCell (Nat.le_refl _) _).setCell (Nat.le_refl _) _).setCell (Nat.le_refl _) _) _
  clear l0 l1 l2 f0 f1 f2 ls M4 C4 R4 B4 MM CM BM IN DD
  go_loopw [11] (fun q wr => (Holds wr (w.heap.size + 1) [(a : Int), (b : Int), (c : Int)] ∧ Holds wr (w.heap.size + 2) zeros ∧ Bel w wr) ∧ ((q = .int .i64 0 ∧ Holds wr w.heap.size L1) ∨ (q = .int .i64 1 ∧ Holds wr w.heap.size L2) ∨ (q = .int .i64 2 ∧ Holds wr w.heap.size L3) ∨ (q = .int .i64 3 ∧ Holds wr w.heap.size L4))) (fun q _ => 3 - (intOf q).toNat)
  case atStart => exact ⟨⟨C5.out, R5.out, B5.out⟩, .inl ⟨rfl, M5.out⟩⟩
  case round =>
    obtain ⟨⟨cc, rr, bb⟩, hrel⟩ := hrel
    clear M5 C5 R5 B5
    have C6 : Hid (Holds wr (w.heap.size + 1) [(a : Int), (b : Int), (c : Int)]) := cc
    have R6 : Hid (Holds wr (w.heap.size + 2) zeros) := rr
    have B6 : Hid (Bel w wr) := bb
    clear cc rr bb
    rcases hrel with ⟨rfl, h⟩ | ⟨rfl, h⟩ | ⟨rfl, h⟩ | ⟨rfl, h⟩
    · obtain ⟨k0, f0, _⟩ := G0.out _ _ h
      have kc : wr.cell? ⟨w.heap.size + 1, 0, none⟩ = some (.int .i64 (a : Int)) := C6.out.cell 0 (by simp)
      have M6 : Hid (Holds wr w.heap.size L1) := h
      clear h
      generalize L.getD (a) 0 = old at *
      go_wp2
      go_quiet (first | (go_at_call 30; with_reducible exact Calls.quiet_of_same (X0.out _)))
      go_wp2
      go_region
      all_goals go_wp2
      all_goals go_roundw
      all_goals first
        | exact ⟨⟨((C6.out.drewN _).other _ _ (by omega) _), ((R6.out.drewN _).other _ _ (by omega) _), ((B6.out.drewN _).setCell (Nat.le_refl _) _)⟩, .inr (.inl ⟨rfl, (G0.out _ _ (M6.out.drewN _)).2.2⟩)⟩
        | (simp [intOf]; done)
    · obtain ⟨k0, f0, _⟩ := G1.out _ _ h
      have kc : wr.cell? ⟨w.heap.size + 1, 1, none⟩ = some (.int .i64 (b : Int)) := C6.out.cell 1 (by simp)
      have M6 : Hid (Holds wr w.heap.size L2) := h
      clear h
      generalize L.getD (64 + b) 0 = old at *
      go_wp2
      go_quiet (first | (go_at_call 30; with_reducible exact Calls.quiet_of_same (X1.out _)))
      go_wp2
      go_region
      all_goals go_wp2
      all_goals go_roundw
      all_goals first
        | exact ⟨⟨((C6.out.drewN _).other _ _ (by omega) _), ((R6.out.drewN _).other _ _ (by omega) _), ((B6.out.drewN _).setCell (Nat.le_refl _) _)⟩, .inr (.inr (.inl ⟨rfl, (G1.out _ _ (M6.out.drewN _)).2.2⟩))⟩
        | (simp [intOf]; done)
    · obtain ⟨k0, f0, _⟩ := G2.out _ _ h
      have kc : wr.cell? ⟨w.heap.size + 1, 2, none⟩ = some (.int .i64 (c : Int)) := C6.out.cell 2 (by simp)
      have M6 : Hid (Holds wr w.heap.size L3) := h
      clear h
      generalize L.getD (128 + c) 0 = old at *
      go_wp2
      go_quiet (first | (go_at_call 30; with_reducible exact Calls.quiet_of_same (X2.out _)))
      go_wp2
      go_region
      all_goals go_wp2
      all_goals go_roundw
      all_goals first
        | exact ⟨⟨((C6.out.drewN _).other _ _ (by omega) _), ((R6.out.drewN _).other _ _ (by omega) _), ((B6.out.drewN _).setCell (Nat.le_refl _) _)⟩, .inr (.inr (.inr ⟨rfl, (G2.out _ _ (M6.out.drewN _)).2.2⟩))⟩
        | (simp [intOf]; done)
    · have M6 : Hid (Holds wr w.heap.size L4) := h
      have R7 : Hid (Holds (wr.setCells (w.heap.size + 2) 0 (vals L4)) (w.heap.size + 2) L4) := holds_all R6.out L4 (ZL.out.trans N4.out.symm)
      have B7 : Hid (Bel w (wr.setCells (w.heap.size + 2) 0 (vals L4))) := Bel.setCells (by omega) _ _ B6.out
      clear h
      go_wp2_with (first
        | (with_reducible refine wpl_load26' M6.out N4.out rfl ?_)
        | (with_reducible refine wpl_store26 R6.out ZL.out N4.out rfl rfl ?_))
      exact bodyPost_ret (v := .tuple #[mdl L4, .int .i64 0]) (results_model2 Tryd.results11 rfl rfl R7.out N4.out) rfl ⟨rfl, B7.out⟩

end Go.Proofs.YtnldnkcfeclmpaaDoor.Mod
