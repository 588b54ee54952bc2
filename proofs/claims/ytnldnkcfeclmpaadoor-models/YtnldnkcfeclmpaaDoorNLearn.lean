/-
  The contract of model.Learn. Condition: the package's table is laid as its text lays it.
-/
import Derived.Test.YtnldnkcfeclmpaaDoorNP
import Derived.Deep.CutRange
namespace Go.Proofs.YtnldnkcfeclmpaaDoor.Mod
open Go.RowKit Go.Sort
set_option linter.unusedVariables false
set_option linter.unusedSimpArgs false

/-- A model whose weights are turned. -/
def setW (L : List Int) (x y z : Int) : List Int := ((L.set 192 x).set 193 y).set 194 z
/-- What becomes of the three weights. -/
def trnW (L : List Int) (a b c : Nat) (bit : Int) (k x : Int) : Int := Mix.trn k (inp x) (4096 * bit - tell L a b c)
/-- A model that has learned a bit. -/
def learn (L : List Int) (a b c : Nat) (bit : Int) : List Int :=
  (((setW L (trnW L a b c bit (L.getD 192 0) (L.getD a 0)) (trnW L a b c bit (L.getD 193 0) (L.getD (64 + b) 0)) (trnW L a b c bit (L.getD 194 0) (L.getD (128 + c) 0))).set a (Cnt.step (L.getD a 0) bit)).set (64 + b) (Cnt.step (L.getD (64 + b) 0) bit)).set (128 + c) (Cnt.step (L.getD (128 + c) 0) bit)
theorem setW_len (L : List Int) (x y z : Int) : (setW L x y z).length = L.length := by simp [setW]
theorem learn_len (L : List Int) (a b c : Nat) (bit : Int) : (learn L a b c bit).length = L.length := by simp [learn, setW_len]
theorem set_view {L : List Int} (hL : L.length = 195) (X : List Int) (k : Nat) (hk : k < 195) (x : Int) : (L ++ X).set k x = L.set k x ++ X :=
  List.set_append_left k x (by omega)

set_option maxHeartbeats 400000 in
theorem isBit_ok (b : Int) (w : World) :
    Calls Tryd.prog 25 #[.int .i64 b] w fun e w' => e = .returned (.bool (Cnt.bitB b)) ∧ w' = w := by
  by_cases h0 : b = 0
  · subst h0
    go_enter Tryd.func25, Tryd.ntmps25
    go_wp2
    go_ret
    exact ⟨rfl, rfl⟩
  · by_cases h1 : b = 1
    · subst h1
      go_enter Tryd.func25, Tryd.ntmps25
      go_wp2
      go_ret
      exact ⟨rfl, rfl⟩
    · have e0 : (b == 0) = false := by simpa using h0
      have e1 : (b == 1) = false := by simpa using h1
      have e : Cnt.bitB b = false := decide_eq_false fun k => k.elim h0 h1
      rw [e]
      clear h0 h1 e
      go_enter Tryd.func25, Tryd.ntmps25
      go_wp2
      go_ret
      exact ⟨rfl, rfl⟩

theorem wpl_load26v {ops : Array Oper} {rest : List Oper} {dst : Option Tmp} {a : Act} {w : World} {Q : Exit → Act → World → Prop} {ty : TypeId} {pos : String} {after : Array Edge} {x : Operand} {B : Nat} {M X : List Int}
    (h : Holds w B (M ++ X)) (hM : M.length = 195) (hx : a.eval x = .pointer (some ⟨B, 0, none⟩)) (k : wpList Tryd.prog ops Q rest (a.put dst (mdl M)) w) :
    wpList Tryd.prog ops Q ({ dst := dst, op := .load 26 x, type := ty, pos := pos, after := after, guard := none } :: rest) a w :=
  wpl_load26 h (by rw [List.length_append]; omega) hx (by rwa [show (M ++ X).take 195 = M by rw [← hM]; exact List.take_left])

theorem ix0 (p q r : Value) (w : World) : (Instr.index 24 (.agg #[p, q, r]) (.int .i64 0)).run Tryd.prog w = .ok p w := by kernel_rfl
theorem ix1 (p q r : Value) (w : World) : (Instr.index 24 (.agg #[p, q, r]) (.int .i64 1)).run Tryd.prog w = .ok q w := by kernel_rfl
theorem ix2 (p q r : Value) (w : World) : (Instr.index 24 (.agg #[p, q, r]) (.int .i64 2)).run Tryd.prog w = .ok r w := by kernel_rfl

theorem results_model2 {fn : Func} {t u : Tmp} (hf : fn.results = #[.cell t 26, .tmp u]) {tmps : Array Value} {b : Nat} {w : World} {L : List Int} {v : Value} (ht : tmps[t]?.getD undef = .pointer (some ⟨b, 0, none⟩)) (hv : tmps[u]?.getD undef = v)
    (h : Holds w b L) (hL : L.length = 195) : (results fn tmps).run Tryd.prog w = .ok (.tuple #[mdl L, v]) w := by
  have h3 := h.range
  have := run_loadVar_mid (P := Tryd.prog) w b 0 26 (vals L) _ h3 Tryd.underlying26 rfl (by rw [size26, vals_length, hL])
  simp [results, hf, ht, hv, this, Sem.run_bind, asAddr]

set_option maxHeartbeats 1000000 in
theorem learn_no (L : List Int) (hL : L.length = 195) (a b c bit : Int) (no : (ctxB a b c && mayM L) = false) (w : World) (T : Str.Tab w) :
    Calls Tryd.prog 10 #[mdl L, .agg #[.int .i64 a, .int .i64 b, .int .i64 c], .int .i64 bit] w fun e w' => e = .returned (.tuple #[mdl zeros, .int .i64 900]) ∧ Bel w w' := by
  have TT : Hid (Str.Tab w) := T
  have NL : Hid (L.length = 195) := hL
  have NZ : Hid (zeros8.length = 198) := zeros8_len
  have z := zero47
  have VV : Hid (∀ (B : Nat) (w : World), Str.Tab w → Holds w B (L ++ [a, b, c]) → Calls Tryd.prog 18 #[.pointer (some ⟨B, 0, none⟩)] w fun e w' => e = .returned (.bool false) ∧ Bel w w') := fun B w T h => no ▸ view_ok L hL a b c B w T h
  have VL : Hid ((L ++ [a, b, c]).length = 198) := view_len hL _ _ _
  have N6 : Hid (zeros.length = 195) := zeros_len
  have z6 := zero26
  have H1 : Hid (Holds (((w.alloc (.cells (vals L).toArray 26)).alloc (.cells #[.int .i64 a, .int .i64 b, .int .i64 c] 24)).alloc (.cells (vals zeros).toArray 26)) w.heap.size L) := (holds_new w L 26).bel (((Bel.refl _).alloc _).alloc _)
  generalize zeros8 = Z at *
  clear T hL no
  go_enter Tryd.func10, Tryd.ntmps10
  go_wp2_with (first
    | (with_reducible refine wpl_load26' H1.out NL.out rfl ?_)
    | (with_reducible refine wpl_build47 NL.out rfl rfl ?_)
    | ((with_reducible refine wpl_store47 (B := w.heap.size + 3) (L := Z) ?hh NZ.out VL.out rfl rfl ?hk); (case hh => exact holds_at (by simp) Z 47)))
  have h2 : Holds (((((w.alloc (.cells (vals L).toArray 26)).alloc (.cells #[.int .i64 a, .int .i64 b, .int .i64 c] 24)).alloc (.cells (vals zeros).toArray 26)).alloc (.cells (vals Z).toArray 47)).setCells (w.heap.size + 3) 0 (vals (L ++ [a, b, c]))) (w.heap.size + 3) (L ++ [a, b, c]) := holds_all (holds_at (by simp) Z 47) _ (NZ.out.trans VL.out.symm)
  have h6 : Holds (((((w.alloc (.cells (vals L).toArray 26)).alloc (.cells #[.int .i64 a, .int .i64 b, .int .i64 c] 24)).alloc (.cells (vals zeros).toArray 26)).alloc (.cells (vals Z).toArray 47)).setCells (w.heap.size + 3) 0 (vals (L ++ [a, b, c]))) (w.heap.size + 2) zeros := Holds.others (by omega) _ _ ((holds_at (by simp) zeros 26).bel ((Bel.refl _).alloc _))
  have b2 : Bel w (((((w.alloc (.cells (vals L).toArray 26)).alloc (.cells #[.int .i64 a, .int .i64 b, .int .i64 c] 24)).alloc (.cells (vals zeros).toArray 26)).alloc (.cells (vals Z).toArray 47)).setCells (w.heap.size + 3) 0 (vals (L ++ [a, b, c]))) := Bel.setCells (by omega) _ _ (((((Bel.refl _).alloc _).alloc _).alloc _).alloc _)
  generalize ((((w.alloc (.cells (vals L).toArray 26)).alloc (.cells #[.int .i64 a, .int .i64 b, .int .i64 c] 24)).alloc (.cells (vals zeros).toArray 26)).alloc (.cells (vals Z).toArray 47)).setCells (w.heap.size + 3) 0 (vals (L ++ [a, b, c])) = W at *
  have H2 : Hid (Holds W (w.heap.size + 3) (L ++ [a, b, c])) := h2
  have H6 : Hid (Holds W (w.heap.size + 2) zeros) := h6
  have B2 : Hid (Bel w W) := b2
  clear h2 b2 z h6
  refine (VV.out _ _ (tab_bel TT.out B2.out) H2.out).mono ?_
  rintro e w1 ⟨rfl, b1⟩
  have B1 : Hid (Bel w w1) := B2.out.trans b1
  have H3 : Hid (Holds w1 (w.heap.size + 3) (L ++ [a, b, c])) := H2.out.bel b1
  have R1 : Hid (Holds w1 (w.heap.size + 2) zeros) := H6.out.bel b1
  clear b1 B2 H2 H6
  go_wp2_with (first
    | (with_reducible refine wpl_build26 ?_)
    | (with_reducible refine wpl_store26 R1.out N6.out N6.out rfl rfl ?_))
  have R2 := holds_all R1.out zeros rfl
  exact bodyPost_ret (v := .tuple #[mdl zeros, .int .i64 900]) (results_model2 Tryd.results10 rfl rfl R2 N6.out) rfl ⟨rfl, Bel.setCells (by omega) _ _ B1.out⟩

set_option maxHeartbeats 1000000 in
theorem learn_bit (L : List Int) (hL : L.length = 195) (a b c bit : Int) (yes : (ctxB a b c && mayM L) = true) (hbit : Cnt.bitB bit = false) (w : World) (T : Str.Tab w) :
    Calls Tryd.prog 10 #[mdl L, .agg #[.int .i64 a, .int .i64 b, .int .i64 c], .int .i64 bit] w fun e w' => e = .returned (.tuple #[mdl zeros, .int .i64 900]) ∧ Bel w w' := by
  have TT : Hid (Str.Tab w) := T
  have NL : Hid (L.length = 195) := hL
  have NZ : Hid (zeros8.length = 198) := zeros8_len
  have z := zero47
  have VV : Hid (∀ (B : Nat) (w : World), Str.Tab w → Holds w B (L ++ [a, b, c]) → Calls Tryd.prog 18 #[.pointer (some ⟨B, 0, none⟩)] w fun e w' => e = .returned (.bool true) ∧ Bel w w') := fun B w T h => yes ▸ view_ok L hL a b c B w T h
  have VL : Hid ((L ++ [a, b, c]).length = 198) := view_len hL _ _ _
  have N6 : Hid (zeros.length = 195) := zeros_len
  have z6 := zero26
  have H1 : Hid (Holds (((w.alloc (.cells (vals L).toArray 26)).alloc (.cells #[.int .i64 a, .int .i64 b, .int .i64 c] 24)).alloc (.cells (vals zeros).toArray 26)) w.heap.size L) := (holds_new w L 26).bel (((Bel.refl _).alloc _).alloc _)
  generalize zeros8 = Z at *
  have BB : Hid (∀ w, Calls Tryd.prog 25 #[.int .i64 bit] w fun e w' => e = .returned (.bool false) ∧ w' = w) := hbit ▸ isBit_ok bit
  clear T hL yes hbit
  go_enter Tryd.func10, Tryd.ntmps10
  go_wp2_with (first
    | (with_reducible refine wpl_load26' H1.out NL.out rfl ?_)
    | (with_reducible refine wpl_build47 NL.out rfl rfl ?_)
    | ((with_reducible refine wpl_store47 (B := w.heap.size + 3) (L := Z) ?hh NZ.out VL.out rfl rfl ?hk); (case hh => exact holds_at (by simp) Z 47)))
  have h2 : Holds (((((w.alloc (.cells (vals L).toArray 26)).alloc (.cells #[.int .i64 a, .int .i64 b, .int .i64 c] 24)).alloc (.cells (vals zeros).toArray 26)).alloc (.cells (vals Z).toArray 47)).setCells (w.heap.size + 3) 0 (vals (L ++ [a, b, c]))) (w.heap.size + 3) (L ++ [a, b, c]) := holds_all (holds_at (by simp) Z 47) _ (NZ.out.trans VL.out.symm)
  have h6 : Holds (((((w.alloc (.cells (vals L).toArray 26)).alloc (.cells #[.int .i64 a, .int .i64 b, .int .i64 c] 24)).alloc (.cells (vals zeros).toArray 26)).alloc (.cells (vals Z).toArray 47)).setCells (w.heap.size + 3) 0 (vals (L ++ [a, b, c]))) (w.heap.size + 2) zeros := Holds.others (by omega) _ _ ((holds_at (by simp) zeros 26).bel ((Bel.refl _).alloc _))
  have b2 : Bel w (((((w.alloc (.cells (vals L).toArray 26)).alloc (.cells #[.int .i64 a, .int .i64 b, .int .i64 c] 24)).alloc (.cells (vals zeros).toArray 26)).alloc (.cells (vals Z).toArray 47)).setCells (w.heap.size + 3) 0 (vals (L ++ [a, b, c]))) := Bel.setCells (by omega) _ _ (((((Bel.refl _).alloc _).alloc _).alloc _).alloc _)
  generalize ((((w.alloc (.cells (vals L).toArray 26)).alloc (.cells #[.int .i64 a, .int .i64 b, .int .i64 c] 24)).alloc (.cells (vals zeros).toArray 26)).alloc (.cells (vals Z).toArray 47)).setCells (w.heap.size + 3) 0 (vals (L ++ [a, b, c])) = W at *
  have H2 : Hid (Holds W (w.heap.size + 3) (L ++ [a, b, c])) := h2
  have H6 : Hid (Holds W (w.heap.size + 2) zeros) := h6
  have B2 : Hid (Bel w W) := b2
  clear h2 b2 z h6
  refine (VV.out _ _ (tab_bel TT.out B2.out) H2.out).mono ?_
  rintro e w1 ⟨rfl, b1⟩
  have B1 : Hid (Bel w w1) := B2.out.trans b1
  have H3 : Hid (Holds w1 (w.heap.size + 3) (L ++ [a, b, c])) := H2.out.bel b1
  have R1 : Hid (Holds w1 (w.heap.size + 2) zeros) := H6.out.bel b1
  clear b1 B2 H2 H6
  go_wp2_with fail
  refine (BB.out _).mono ?_
  rintro e w9 ⟨rfl, rfl⟩
  go_wp2_with (first
    | (with_reducible refine wpl_build26 ?_)
    | (with_reducible refine wpl_store26 R1.out N6.out N6.out rfl rfl ?_))
  have R2 := holds_all R1.out zeros rfl
  exact bodyPost_ret (v := .tuple #[mdl zeros, .int .i64 900]) (results_model2 Tryd.results10 rfl rfl R2 N6.out) rfl ⟨rfl, Bel.setCells (by omega) _ _ B1.out⟩

end Go.Proofs.YtnldnkcfeclmpaaDoor.Mod
