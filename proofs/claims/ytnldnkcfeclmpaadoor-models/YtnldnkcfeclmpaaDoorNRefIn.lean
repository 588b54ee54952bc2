/-
  The contracts of the reference's inputs and ModelP: they answer as the program's do. No condition but that the model and the context may be.
-/
import Derived.Test.YtnldnkcfeclmpaaDoorNRefMay
namespace Go.Proofs.YtnldnkcfeclmpaaDoor.Mod
open Go.RowKit Go.Sort
set_option linter.unusedVariables false
set_option linter.unusedSimpArgs false

set_option maxHeartbeats 4000000 in
theorem ref_in_ok (L : List Int) (hL : L.length = 195) (a b c : Nat) (ha : a < 64) (hb : b < 64) (hc : c < 64) (hm : mayM L = true) (w : World) :
    Calls Tryd.prog 24 #[mdl L, .agg #[.int .i64 (a : Int), .int .i64 (b : Int), .int .i64 (c : Int)]] w fun e w' => e = .returned (.agg #[.int .i64 (inp (L.getD a 0)), .int .i64 (inp (L.getD (64 + b) 0)), .int .i64 (inp (L.getD (128 + c) 0))]) ∧ Bel w w' := by
  have NL : Hid (L.length = 195) := hL
  have rg := ((may_iff L).1 hm).1
  have cp : ∀ x : Int, 0 ≤ x ∧ x ≤ 65535 → ∀ w, Calls Tryd.prog 44 #[.int .i64 x] w fun e w' => e = .returned (.tuple #[.int .i64 (Cnt.chance x), .int .i64 0]) ∧ w' = w := fun x hx w => by
    have e : Cnt.pAns x = .tuple #[.int .i64 (Cnt.chance x), .int .i64 0] := if_pos (decide_eq_true hx)
    have := Cnt.rp_ok x w
    rwa [e] at this
  have sp : ∀ x : Int, 0 ≤ x ∧ x ≤ 65535 → ∀ w, Calls Tryd.prog 45 #[.int .i64 (Cnt.chance x)] w fun e w' => e = .returned (.tuple #[.int .i64 (inp x), .int .i64 0]) ∧ Onto w w' := fun x hx w =>
    Str.ref_stretch (Cnt.chance x) (chance_range x hx.1 hx.2).1 (chance_range x hx.1 hx.2).2 w
  have P0 : Hid (∀ w, Calls Tryd.prog 44 #[.int .i64 (L.getD (a) 0)] w fun e w' => e = .returned (.tuple #[.int .i64 (Cnt.chance (L.getD (a) 0)), .int .i64 0]) ∧ w' = w) := cp _ (rg _ (by omega))
  have S0 : Hid (∀ w, Calls Tryd.prog 45 #[.int .i64 (Cnt.chance (L.getD (a) 0))] w fun e w' => e = .returned (.tuple #[.int .i64 (inp (L.getD (a) 0)), .int .i64 0]) ∧ Onto w w') := sp _ (rg _ (by omega))
  have D0 : Hid (∀ (W : World) (Bk : Nat), Holds W Bk L → W.cell? ⟨Bk, a, none⟩ = some (.int .i64 (L.getD (a) 0))) := fun W Bk h => h.cell _ (by rw [hL]; omega)
  have P1 : Hid (∀ w, Calls Tryd.prog 44 #[.int .i64 (L.getD (64 + b) 0)] w fun e w' => e = .returned (.tuple #[.int .i64 (Cnt.chance (L.getD (64 + b) 0)), .int .i64 0]) ∧ w' = w) := cp _ (rg _ (by omega))
  have S1 : Hid (∀ w, Calls Tryd.prog 45 #[.int .i64 (Cnt.chance (L.getD (64 + b) 0))] w fun e w' => e = .returned (.tuple #[.int .i64 (inp (L.getD (64 + b) 0)), .int .i64 0]) ∧ Onto w w') := sp _ (rg _ (by omega))
  have D1 : Hid (∀ (W : World) (Bk : Nat), Holds W Bk L → W.cell? ⟨Bk, 64 + b, none⟩ = some (.int .i64 (L.getD (64 + b) 0))) := fun W Bk h => h.cell _ (by rw [hL]; omega)
  have P2 : Hid (∀ w, Calls Tryd.prog 44 #[.int .i64 (L.getD (128 + c) 0)] w fun e w' => e = .returned (.tuple #[.int .i64 (Cnt.chance (L.getD (128 + c) 0)), .int .i64 0]) ∧ w' = w) := cp _ (rg _ (by omega))
  have S2 : Hid (∀ w, Calls Tryd.prog 45 #[.int .i64 (Cnt.chance (L.getD (128 + c) 0))] w fun e w' => e = .returned (.tuple #[.int .i64 (inp (L.getD (128 + c) 0)), .int .i64 0]) ∧ Onto w w') := sp _ (rg _ (by omega))
  have D2 : Hid (∀ (W : World) (Bk : Nat), Holds W Bk L → W.cell? ⟨Bk, 128 + c, none⟩ = some (.int .i64 (L.getD (128 + c) 0))) := fun W Bk h => h.cell _ (by rw [hL]; omega)
  clear hL hm rg cp sp
  generalize inp (L.getD (a) 0) = x at *
  generalize Cnt.chance (L.getD (a) 0) = px at *
  generalize L.getD (a) 0 = qx at *
  generalize inp (L.getD (64 + b) 0) = y at *
  generalize Cnt.chance (L.getD (64 + b) 0) = py at *
  generalize L.getD (64 + b) 0 = qy at *
  generalize inp (L.getD (128 + c) 0) = z at *
  generalize Cnt.chance (L.getD (128 + c) 0) = pz at *
  generalize L.getD (128 + c) 0 = qz at *
  go_enter Tryd.func24, Tryd.ntmps24
  go_wp2_with fail
  have h0 : Holds ((((w.alloc (.cells (vals L).toArray 26)).alloc (.cells #[.int .i64 (a : Int), .int .i64 (b : Int), .int .i64 (c : Int)] 24)).alloc (.cells #[.int .i64 0, .int .i64 0, .int .i64 0] 24)).alloc (.cells #[.int .i64 0, .int .i64 0, .int .i64 0] 24)) w.heap.size L := (holds_new w L 26).bel ((((Bel.refl _).alloc _).alloc _).alloc _)
  have h1 : Holds ((((w.alloc (.cells (vals L).toArray 26)).alloc (.cells #[.int .i64 (a : Int), .int .i64 (b : Int), .int .i64 (c : Int)] 24)).alloc (.cells #[.int .i64 0, .int .i64 0, .int .i64 0] 24)).alloc (.cells #[.int .i64 0, .int .i64 0, .int .i64 0] 24)) (w.heap.size + 1) [(a : Int), (b : Int), (c : Int)] := (holds_at (by simp) [(a : Int), (b : Int), (c : Int)] 24).bel (((Bel.refl _).alloc _).alloc _)
  have h2 : Holds ((((w.alloc (.cells (vals L).toArray 26)).alloc (.cells #[.int .i64 (a : Int), .int .i64 (b : Int), .int .i64 (c : Int)] 24)).alloc (.cells #[.int .i64 0, .int .i64 0, .int .i64 0] 24)).alloc (.cells #[.int .i64 0, .int .i64 0, .int .i64 0] 24)) (w.heap.size + 2) [0, 0, 0] := (holds_at (by simp) [0, 0, 0] 24).bel ((Bel.refl _).alloc _)
  have h3 : Holds ((((w.alloc (.cells (vals L).toArray 26)).alloc (.cells #[.int .i64 (a : Int), .int .i64 (b : Int), .int .i64 (c : Int)] 24)).alloc (.cells #[.int .i64 0, .int .i64 0, .int .i64 0] 24)).alloc (.cells #[.int .i64 0, .int .i64 0, .int .i64 0] 24)) (w.heap.size + 3) [0, 0, 0] := holds_at (by simp) [0, 0, 0] 24
  have b0 : Bel w ((((w.alloc (.cells (vals L).toArray 26)).alloc (.cells #[.int .i64 (a : Int), .int .i64 (b : Int), .int .i64 (c : Int)] 24)).alloc (.cells #[.int .i64 0, .int .i64 0, .int .i64 0] 24)).alloc (.cells #[.int .i64 0, .int .i64 0, .int .i64 0] 24)) := ((((Bel.refl _).alloc _).alloc _).alloc _).alloc _
  generalize (((w.alloc (.cells (vals L).toArray 26)).alloc (.cells #[.int .i64 (a : Int), .int .i64 (b : Int), .int .i64 (c : Int)] 24)).alloc (.cells #[.int .i64 0, .int .i64 0, .int .i64 0] 24)).alloc (.cells #[.int .i64 0, .int .i64 0, .int .i64 0] 24) = W at *
  have M0 : Hid (Holds W w.heap.size L) := h0
  have C0 : Hid (Holds W (w.heap.size + 1) [(a : Int), (b : Int), (c : Int)]) := h1
  have R0 : Hid (Holds W (w.heap.size + 2) [0, 0, 0]) := h2
  have X0 : Hid (Holds W (w.heap.size + 3) [0, 0, 0]) := h3
  have B0 : Hid (Bel w W) := b0
  clear h0 h1 h2 h3 b0
  refine wp_loop_rounds 4 ?_
  have m := M0.out
  have cc := C0.out
  have rr := R0.out
  have xx := X0.out
  have bb := B0.out
  have MM : Hid (Holds W w.heap.size L) := m
  have CC : Hid (Holds W (w.heap.size + 1) [(a : Int), (b : Int), (c : Int)]) := cc
  have RR : Hid (Holds W (w.heap.size + 2) [0, 0, 0]) := rr
  have XX : Hid (Holds W (w.heap.size + 3) [0, 0, 0]) := xx
  have BB : Hid (Bel w W) := bb
  have k0 := D0.out _ _ m
  have k1 : W.cell? ⟨w.heap.size + 1, 0, none⟩ = some (.int .i64 (a : Int)) := cc.cell 0 (by simp)
  clear m cc rr xx bb M0 C0 R0 X0 B0
  rw [rounds_succ]
  go_wp2
  go_quiet (first | (go_at_call 44; with_reducible exact Calls.quiet_of_same (P0.out _)))
  go_wp2_with fail
  refine (S0.out _).mono ?_
  rintro e w1 ⟨rfl, o⟩
  have bo : Bel W w1 := ((Bel.refl _).drewN _).trans o.b
  have M1 : Hid (Holds w1 w.heap.size L) := MM.out.bel bo
  have C1 : Hid (Holds w1 (w.heap.size + 1) [(a : Int), (b : Int), (c : Int)]) := CC.out.bel bo
  have R1 : Hid (Holds w1 (w.heap.size + 2) [0, 0, 0]) := RR.out.bel bo
  have X1 : Hid (Holds w1 (w.heap.size + 3) [0, 0, 0]) := XX.out.bel bo
  have B1 : Hid (Bel w w1) := BB.out.trans bo
  have cx : w1.cell? ⟨w.heap.size + 3, 0, none⟩ = some (.int .i64 0) := X1.out.cell 0 (by simp)
  have fx : w1.frozen? ⟨w.heap.size + 3, 0, none⟩ = false := X1.out.free 0 (by simp)
  clear k0 k1 bo o MM CC RR XX BB
  go_wp2_with fail
  clear cx fx
  have m := M1.out.other (w.heap.size + 3) 0 (by omega) (.int .i64 x)
  have cc := C1.out.other (w.heap.size + 3) 0 (by omega) (.int .i64 x)
  have rr := R1.out.other (w.heap.size + 3) 0 (by omega) (.int .i64 x)
  have xx := X1.out.set 0 (by simp) x
  have bb := Bel.setCell (a := ⟨w.heap.size + 3, 0, none⟩) B1.out (by simp) (.int .i64 x)
  generalize w1.setCell ⟨w.heap.size + 3, 0, none⟩ (.int .i64 x) = V1 at *
  have MM : Hid (Holds V1 w.heap.size L) := m
  have CC : Hid (Holds V1 (w.heap.size + 1) [(a : Int), (b : Int), (c : Int)]) := cc
  have RR : Hid (Holds V1 (w.heap.size + 2) [0, 0, 0]) := rr
  have XX : Hid (Holds V1 (w.heap.size + 3) [x, 0, 0]) := xx
  have BB : Hid (Bel w V1) := bb
  have k0 := D1.out _ _ m
  have k1 : V1.cell? ⟨w.heap.size + 1, 1, none⟩ = some (.int .i64 (b : Int)) := cc.cell 1 (by simp)
  clear m cc rr xx bb M1 C1 R1 X1 B1
  rw [rounds_succ]
  go_wp2
  go_quiet (first | (go_at_call 44; with_reducible exact Calls.quiet_of_same (P1.out _)))
  go_wp2_with fail
  refine (S1.out _).mono ?_
  rintro e w2 ⟨rfl, o⟩
  have bo : Bel V1 w2 := ((Bel.refl _).drewN _).trans o.b
  have M2 : Hid (Holds w2 w.heap.size L) := MM.out.bel bo
  have C2 : Hid (Holds w2 (w.heap.size + 1) [(a : Int), (b : Int), (c : Int)]) := CC.out.bel bo
  have R2 : Hid (Holds w2 (w.heap.size + 2) [0, 0, 0]) := RR.out.bel bo
  have X2 : Hid (Holds w2 (w.heap.size + 3) [x, 0, 0]) := XX.out.bel bo
  have B2 : Hid (Bel w w2) := BB.out.trans bo
  have cx : w2.cell? ⟨w.heap.size + 3, 1, none⟩ = some (.int .i64 0) := X2.out.cell 1 (by simp)
  have fx : w2.frozen? ⟨w.heap.size + 3, 1, none⟩ = false := X2.out.free 1 (by simp)
  clear k0 k1 bo o MM CC RR XX BB
  go_wp2_with fail
  clear cx fx
  have m := M2.out.other (w.heap.size + 3) 1 (by omega) (.int .i64 y)
  have cc := C2.out.other (w.heap.size + 3) 1 (by omega) (.int .i64 y)
  have rr := R2.out.other (w.heap.size + 3) 1 (by omega) (.int .i64 y)
  have xx := X2.out.set 1 (by simp) y
  have bb := Bel.setCell (a := ⟨w.heap.size + 3, 1, none⟩) B2.out (by simp) (.int .i64 y)
  generalize w2.setCell ⟨w.heap.size + 3, 1, none⟩ (.int .i64 y) = V2 at *
  have MM : Hid (Holds V2 w.heap.size L) := m
  have CC : Hid (Holds V2 (w.heap.size + 1) [(a : Int), (b : Int), (c : Int)]) := cc
  have RR : Hid (Holds V2 (w.heap.size + 2) [0, 0, 0]) := rr
  have XX : Hid (Holds V2 (w.heap.size + 3) [x, y, 0]) := xx
  have BB : Hid (Bel w V2) := bb
  have k0 := D2.out _ _ m
  have k1 : V2.cell? ⟨w.heap.size + 1, 2, none⟩ = some (.int .i64 (c : Int)) := cc.cell 2 (by simp)
  clear m cc rr xx bb M2 C2 R2 X2 B2
  rw [rounds_succ]
  go_wp2
  go_quiet (first | (go_at_call 44; with_reducible exact Calls.quiet_of_same (P2.out _)))
  go_wp2_with fail
  refine (S2.out _).mono ?_
  rintro e w3 ⟨rfl, o⟩
  have bo : Bel V2 w3 := ((Bel.refl _).drewN _).trans o.b
  have M3 : Hid (Holds w3 w.heap.size L) := MM.out.bel bo
  have C3 : Hid (Holds w3 (w.heap.size + 1) [(a : Int), (b : Int), (c : Int)]) := CC.out.bel bo
  have R3 : Hid (Holds w3 (w.heap.size + 2) [0, 0, 0]) := RR.out.bel bo
  have X3 : Hid (Holds w3 (w.heap.size + 3) [x, y, 0]) := XX.out.bel bo
  have B3 : Hid (Bel w w3) := BB.out.trans bo
  have cx : w3.cell? ⟨w.heap.size + 3, 2, none⟩ = some (.int .i64 0) := X3.out.cell 2 (by simp)
  have fx : w3.frozen? ⟨w.heap.size + 3, 2, none⟩ = false := X3.out.free 2 (by simp)
  clear k0 k1 bo o MM CC RR XX BB
  go_wp2_with fail
  clear cx fx
  have HS : Hid (Holds (w3.setCell ⟨w.heap.size + 3, 2, none⟩ (.int .i64 z)) (w.heap.size + 3) [x, y, z]) := X3.out.set 2 (by simp) z
  have HR : Hid (Holds (w3.setCell ⟨w.heap.size + 3, 2, none⟩ (.int .i64 z)) (w.heap.size + 2) [0, 0, 0]) := R3.out.other _ _ (by omega) _
  have HB : Hid (Bel w (w3.setCell ⟨w.heap.size + 3, 2, none⟩ (.int .i64 z))) := B3.out.setCell (by simp) _
  clear X3 R3 B3 M3 C3 P0 P1 P2 S0 S1 S2 D0 D1 D2
  generalize w3.setCell ⟨w.heap.size + 3, 2, none⟩ (.int .i64 z) = W3 at *
  have c0 : W3.cell? ⟨w.heap.size + 3, 0, none⟩ = some (.int .i64 x) := HS.out.cell 0 (by simp)
  have c1 : W3.cell? ⟨w.heap.size + 3, 1, none⟩ = some (.int .i64 y) := HS.out.cell 1 (by simp)
  have c2 : W3.cell? ⟨w.heap.size + 3, 2, none⟩ = some (.int .i64 z) := HS.out.cell 2 (by simp)
  have d0 : W3.cell? ⟨w.heap.size + 2, 0, none⟩ = some (.int .i64 0) := HR.out.cell 0 (by simp)
  have d1 : W3.cell? ⟨w.heap.size + 2, 1, none⟩ = some (.int .i64 0) := HR.out.cell 1 (by simp)
  have d2 : W3.cell? ⟨w.heap.size + 2, 2, none⟩ = some (.int .i64 0) := HR.out.cell 2 (by simp)
  have f0 : W3.frozen? ⟨w.heap.size + 2, 0, none⟩ = false := HR.out.free 0 (by simp)
  have f1 : W3.frozen? ⟨w.heap.size + 2, 1, none⟩ = false := HR.out.free 1 (by simp)
  have f2 : W3.frozen? ⟨w.heap.size + 2, 2, none⟩ = false := HR.out.free 2 (by simp)
  rw [rounds_succ]
  go_wp2
  refine bodyPost_ret (v := .agg #[.int .i64 x, .int .i64 y, .int .i64 z]) (results_three Tryd.results24 rfl (all3 HR.out)) rfl ⟨rfl, ?_⟩
  exact ((HB.out.setCell (Nat.le_add_right _ 2) _).setCell (Nat.le_add_right _ 2) _).setCell (Nat.le_add_right _ 2) _

end Go.Proofs.YtnldnkcfeclmpaaDoor.Mod
