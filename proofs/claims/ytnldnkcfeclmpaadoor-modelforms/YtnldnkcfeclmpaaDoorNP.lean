/-
  The contract of model.P. Condition: the package's table is laid as its text lays it.
-/
import Derived.Test.YtnldnkcfeclmpaaDoorNIn
import Derived.Deep.RegionHeld3
namespace Go.Proofs.YtnldnkcfeclmpaaDoor.Mod
open Go.RowKit Go.Sort
set_option linter.unusedVariables false
set_option linter.unusedSimpArgs false

/-- The chance that a model tells, in a context. -/
def tell (L : List Int) (a b c : Nat) : Int := Mix.dot (L.getD 192 0) (L.getD 193 0) (L.getD 194 0) (inp (L.getD a 0)) (inp (L.getD (64 + b) 0)) (inp (L.getD (128 + c) 0))

theorem view_len {L : List Int} (hL : L.length = 195) (a b c : Int) : (L ++ [a, b, c]).length = 198 := by simp [hL]
theorem view_get {L : List Int} (hL : L.length = 195) (a b c : Int) (k : Nat) (hk : k < 195) : (L ++ [a, b, c]).getD k 0 = L.getD k 0 := by
  simp [List.getD_eq_getElem?_getD, List.getElem?_append_left, hL, hk]
theorem view_at {L : List Int} (hL : L.length = 195) (a b c : Int) : (L ++ [a, b, c]).getD 195 0 = a ∧ (L ++ [a, b, c]).getD 196 0 = b ∧ (L ++ [a, b, c]).getD 197 0 = c := by
  refine ⟨?_, ?_, ?_⟩ <;> simp [List.getD_eq_getElem?_getD, List.getElem?_append_right, hL]

/-- Inputs may be, with weights that may be. -/
theorem may_in {x y z : Int} (h : Mix.May x y z 0 0 0) (p q r : Int) : Mix.May x y z (inp p) (inp q) (inp r) := ⟨h.1, h.2.1, h.2.2.1, inp_range p, inp_range q, inp_range r⟩

/-- What the three inputs of a view are. -/
theorem rows_ok (L : List Int) (hL : L.length = 195) (a b c : Nat) (ha : a < 64) (hb : b < 64) (hc : c < 64) (hm : mayM L = true) (B : Nat) (w : World) (T : Str.Tab w) (h : Holds w B (L ++ [(a : Int), (b : Int), (c : Int)])) :
    Calls Tryd.prog 20 #[.func (.func 21) #[.pointer (some ⟨B, 0, none⟩)] #[]] w fun e w' => e = .returned (.agg #[.int .i64 (inp (L.getD a 0)), .int .i64 (inp (L.getD (64 + b) 0)), .int .i64 (inp (L.getD (128 + c) 0))]) ∧ Bel w w' := by
  have vl := view_len hL (a : Int) (b : Int) (c : Int)
  obtain ⟨v0, v1, v2⟩ := view_at hL (a : Int) (b : Int) (c : Int)
  have r0 := mayM_row hm 0 (.inl rfl) a ha
  rw [Nat.zero_add] at r0
  have r1 := mayM_row hm 64 (.inr (.inl rfl)) b hb
  have r2 := mayM_row hm 128 (.inr (.inr rfl)) c hc
  refine byRow_ok B _ _ _ w _ T h (fun w T h => ?_) (fun w T h => ?_) (fun w T h => ?_)
  · have h1 := h.cell 195 (by omega)
    have h2 := h.cell a (by omega)
    rw [v0] at h1
    rw [view_get hL _ _ _ a (by omega)] at h2
    exact input_0 B a ha _ r0.1 r0.2 w T h1 h2
  · have h1 := h.cell 196 (by omega)
    have h2 := h.cell (64 + b) (by omega)
    rw [v1] at h1
    rw [view_get hL _ _ _ (64 + b) (by omega)] at h2
    exact input_1 B b hb _ r1.1 r1.2 w T h1 h2
  · have h1 := h.cell 197 (by omega)
    have h2 := h.cell (128 + c) (by omega)
    rw [v2] at h1
    rw [view_get hL _ _ _ (128 + c) (by omega)] at h2
    exact input_2 B c hc _ r2.1 r2.2 w T h1 h2

theorem ctx_yes {a b c : Nat} (ha : a < 64) (hb : b < 64) (hc : c < 64) : ctxB (a : Int) (b : Int) (c : Int) = true := by
  simp only [ctxB, noPlace, Bool.not_eq_true', Bool.or_eq_false_iff, decide_eq_false_iff_not]
  omega

set_option maxHeartbeats 1000000 in
theorem p_no (L : List Int) (hL : L.length = 195) (a b c : Int) (no : (ctxB a b c && mayM L) = false) (w : World) (T : Str.Tab w) :
    Calls Tryd.prog 8 #[mdl L, .agg #[.int .i64 a, .int .i64 b, .int .i64 c]] w fun e w' => e = .returned (.tuple #[.int .i64 0, .int .i64 900]) ∧ Bel w w' := by
  have TT : Hid (Str.Tab w) := T
  have NL : Hid (L.length = 195) := hL
  have NZ : Hid (zeros8.length = 198) := zeros8_len
  have z := zero47
  have VV : Hid (∀ (B : Nat) (w : World), Str.Tab w → Holds w B (L ++ [a, b, c]) → Calls Tryd.prog 18 #[.pointer (some ⟨B, 0, none⟩)] w fun e w' => e = .returned (.bool false) ∧ Bel w w') := fun B w T h => no ▸ view_ok L hL a b c B w T h
  have VL : Hid ((L ++ [a, b, c]).length = 198) := view_len hL _ _ _
  have H1 : Hid (Holds ((w.alloc (.cells (vals L).toArray 26)).alloc (.cells #[.int .i64 a, .int .i64 b, .int .i64 c] 24)) w.heap.size L) := (holds_new w L 26).bel ((Bel.refl _).alloc _)
  generalize zeros8 = Z at *
  clear T hL no
  go_enter Tryd.func8, Tryd.ntmps8
  go_wp2_with (first
    | (with_reducible refine wpl_load26' H1.out NL.out rfl ?_)
    | (with_reducible refine wpl_build47 NL.out rfl rfl ?_)
    | ((with_reducible refine wpl_store47 (B := w.heap.size + 2) (L := Z) ?hh NZ.out VL.out rfl rfl ?hk); (case hh => exact holds_at (by simp) Z 47)))
  have h2 : Holds ((((w.alloc (.cells (vals L).toArray 26)).alloc (.cells #[.int .i64 a, .int .i64 b, .int .i64 c] 24)).alloc (.cells (vals Z).toArray 47)).setCells (w.heap.size + 2) 0 (vals (L ++ [a, b, c]))) (w.heap.size + 2) (L ++ [a, b, c]) := holds_all (holds_at (by simp) Z 47) _ (NZ.out.trans VL.out.symm)
  have b2 : Bel w ((((w.alloc (.cells (vals L).toArray 26)).alloc (.cells #[.int .i64 a, .int .i64 b, .int .i64 c] 24)).alloc (.cells (vals Z).toArray 47)).setCells (w.heap.size + 2) 0 (vals (L ++ [a, b, c]))) := Bel.setCells (by omega) _ _ ((((Bel.refl _).alloc _).alloc _).alloc _)
  generalize (((w.alloc (.cells (vals L).toArray 26)).alloc (.cells #[.int .i64 a, .int .i64 b, .int .i64 c] 24)).alloc (.cells (vals Z).toArray 47)).setCells (w.heap.size + 2) 0 (vals (L ++ [a, b, c])) = W at *
  have H2 : Hid (Holds W (w.heap.size + 2) (L ++ [a, b, c])) := h2
  have B2 : Hid (Bel w W) := b2
  clear h2 b2 z
  refine (VV.out _ _ (tab_bel TT.out B2.out) H2.out).mono ?_
  rintro e w1 ⟨rfl, b1⟩
  have B1 : Hid (Bel w w1) := B2.out.trans b1
  have H3 : Hid (Holds w1 (w.heap.size + 2) (L ++ [a, b, c])) := H2.out.bel b1
  clear b1 B2 H2
  go_wp2
  go_ret2
  exact ⟨rfl, B1.out⟩

set_option maxHeartbeats 2000000 in
theorem p_yes (L : List Int) (hL : L.length = 195) (a b c : Nat) (ha : a < 64) (hb : b < 64) (hc : c < 64) (hm : mayM L = true) (w : World) (T : Str.Tab w) :
    Calls Tryd.prog 8 #[mdl L, .agg #[.int .i64 (a : Int), .int .i64 (b : Int), .int .i64 (c : Int)]] w fun e w' => e = .returned (.tuple #[.int .i64 (tell L a b c), .int .i64 0]) ∧ Bel w w' := by
  have TT : Hid (Str.Tab w) := T
  have NL : Hid (L.length = 195) := hL
  have NZ : Hid (zeros8.length = 198) := zeros8_len
  have z := zero47
  have VV : Hid (∀ (B : Nat) (w : World), Str.Tab w → Holds w B (L ++ [(a : Int), (b : Int), (c : Int)]) → Calls Tryd.prog 18 #[.pointer (some ⟨B, 0, none⟩)] w fun e w' => e = .returned (.bool true) ∧ Bel w w') := fun B w T h => by have := view_ok L hL (a : Int) (b : Int) (c : Int) B w T h; rwa [show (ctxB (a : Int) (b : Int) (c : Int) && mayM L) = true by rw [hm, ctx_yes ha hb hc]; rfl] at this
  have VL : Hid ((L ++ [(a : Int), (b : Int), (c : Int)]).length = 198) := view_len hL _ _ _
  have H1 : Hid (Holds ((w.alloc (.cells (vals L).toArray 26)).alloc (.cells #[.int .i64 (a : Int), .int .i64 (b : Int), .int .i64 (c : Int)] 24)) w.heap.size L) := (holds_new w L 26).bel ((Bel.refl _).alloc _)
  generalize zeros8 = Z at *
  have RR : Hid (∀ (B : Nat) (w : World), Str.Tab w → Holds w B (L ++ [(a : Int), (b : Int), (c : Int)]) → Calls Tryd.prog 20 #[.func (.func 21) #[.pointer (some ⟨B, 0, none⟩)] #[]] w fun e w' => e = .returned (.agg #[.int .i64 (inp (L.getD a 0)), .int .i64 (inp (L.getD (64 + b) 0)), .int .i64 (inp (L.getD (128 + c) 0))]) ∧ Bel w w') := rows_ok L hL a b c ha hb hc hm
  have DD : Hid (∀ (w : World), Str.Tab w → Calls Tryd.prog 19 #[.agg #[.int .i64 (L.getD 192 0), .int .i64 (L.getD 193 0), .int .i64 (L.getD 194 0)], .agg #[.int .i64 (inp (L.getD a 0)), .int .i64 (inp (L.getD (64 + b) 0)), .int .i64 (inp (L.getD (128 + c) 0))]] w fun e w' => e = .returned (.tuple #[.int .i64 (tell L a b c), .int .i64 0]) ∧ Onto w w') := Mix.dot_yes _ _ _ _ _ _ (may_in (mayM_wts hm) _ _ _)
  have W0 : Hid ((L ++ [(a : Int), (b : Int), (c : Int)]).getD 192 0 = L.getD 192 0 ∧ (L ++ [(a : Int), (b : Int), (c : Int)]).getD 193 0 = L.getD 193 0 ∧ (L ++ [(a : Int), (b : Int), (c : Int)]).getD 194 0 = L.getD 194 0) := ⟨view_get hL _ _ _ _ (by decide), view_get hL _ _ _ _ (by decide), view_get hL _ _ _ _ (by decide)⟩
  clear T hL hm ha hb hc
  generalize tell L a b c = p at *
  generalize inp (L.getD a 0) = x at *
  generalize inp (L.getD (64 + b) 0) = y at *
  generalize inp (L.getD (128 + c) 0) = u at *
  go_enter Tryd.func8, Tryd.ntmps8
  go_wp2_with (first
    | (with_reducible refine wpl_load26' H1.out NL.out rfl ?_)
    | (with_reducible refine wpl_build47 NL.out rfl rfl ?_)
    | ((with_reducible refine wpl_store47 (B := w.heap.size + 2) (L := Z) ?hh NZ.out VL.out rfl rfl ?hk); (case hh => exact holds_at (by simp) Z 47)))
  have h2 : Holds ((((w.alloc (.cells (vals L).toArray 26)).alloc (.cells #[.int .i64 (a : Int), .int .i64 (b : Int), .int .i64 (c : Int)] 24)).alloc (.cells (vals Z).toArray 47)).setCells (w.heap.size + 2) 0 (vals (L ++ [(a : Int), (b : Int), (c : Int)]))) (w.heap.size + 2) (L ++ [(a : Int), (b : Int), (c : Int)]) := holds_all (holds_at (by simp) Z 47) _ (NZ.out.trans VL.out.symm)
  have b2 : Bel w ((((w.alloc (.cells (vals L).toArray 26)).alloc (.cells #[.int .i64 (a : Int), .int .i64 (b : Int), .int .i64 (c : Int)] 24)).alloc (.cells (vals Z).toArray 47)).setCells (w.heap.size + 2) 0 (vals (L ++ [(a : Int), (b : Int), (c : Int)]))) := Bel.setCells (by omega) _ _ ((((Bel.refl _).alloc _).alloc _).alloc _)
  generalize (((w.alloc (.cells (vals L).toArray 26)).alloc (.cells #[.int .i64 (a : Int), .int .i64 (b : Int), .int .i64 (c : Int)] 24)).alloc (.cells (vals Z).toArray 47)).setCells (w.heap.size + 2) 0 (vals (L ++ [(a : Int), (b : Int), (c : Int)])) = W at *
  have H2 : Hid (Holds W (w.heap.size + 2) (L ++ [(a : Int), (b : Int), (c : Int)])) := h2
  have B2 : Hid (Bel w W) := b2
  clear h2 b2 z
  refine (VV.out _ _ (tab_bel TT.out B2.out) H2.out).mono ?_
  rintro e w1 ⟨rfl, b1⟩
  have B1 : Hid (Bel w w1) := B2.out.trans b1
  have H3 : Hid (Holds w1 (w.heap.size + 2) (L ++ [(a : Int), (b : Int), (c : Int)])) := H2.out.bel b1
  clear b1 B2 H2
  have k0 := H3.out.cell 192 (by rw [VL.out]; decide)
  have k1 := H3.out.cell 193 (by rw [VL.out]; decide)
  have k2 := H3.out.cell 194 (by rw [VL.out]; decide)
  rw [W0.out.1] at k0
  rw [W0.out.2.1] at k1
  rw [W0.out.2.2] at k2
  generalize L.getD 192 0 = x0 at *
  generalize L.getD 193 0 = x1 at *
  generalize L.getD 194 0 = x2 at *
  have SO : Hid (∀ wx, Bel w1 wx → wx.cell? ⟨w.heap.size + 2, 192, none⟩ = some (.int .i64 x0) ∧ wx.cell? ⟨w.heap.size + 2, 193, none⟩ = some (.int .i64 x1) ∧ wx.cell? ⟨w.heap.size + 2, 194, none⟩ = some (.int .i64 x2)) := fun wx o => ⟨o.keep k0, o.keep k1, o.keep k2⟩
  go_wp2_with fail
  go_region_held3 (fun wx => wx.cell? ⟨w.heap.size + 2, 192, none⟩ = some (.int .i64 x0) ∧ wx.cell? ⟨w.heap.size + 2, 193, none⟩ = some (.int .i64 x1) ∧ wx.cell? ⟨w.heap.size + 2, 194, none⟩ = some (.int .i64 x2))
    ((refine SO.out _ ?_; first | (with_reducible exact Bel.refl _) | (with_reducible exact (Bel.refl _).drew) | (with_reducible exact bq2) | (with_reducible exact bq3)))
    (first
      | (go_at_call 20; (with_reducible refine (RR.out _ _ (tab_bel TT.out B1.out.drew) (H3.out.drew)).mono ?_); rintro e w2 ⟨rfl, b⟩; have bq2 : Bel w1 w2 := (Bel.refl w1).drew.trans b; clear b)
      | (go_at_call 19; (with_reducible refine (DD.out _ (tab_bel TT.out (B1.out.trans bq2))).mono ?_); rintro e w3 ⟨rfl, b⟩; have bq3 : Bel w1 w3 := bq2.trans b.b; clear b))
  all_goals go_wp2
  all_goals go_ret2
  all_goals exact ⟨rfl, B1.out.trans bq3⟩

end Go.Proofs.YtnldnkcfeclmpaaDoor.Mod
