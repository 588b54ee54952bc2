/-
  The inputs that a view's counters make: the contracts of a view's input, of byRow over it. Condition: the package's table is laid as its text lays it; the view's counters and places may be.
-/
import Derived.Test.YtnldnkcfeclmpaaDoorNMayM
import Derived.Test.YtnldnkcfeclmpaaDoorSSearch
namespace Go.Proofs.YtnldnkcfeclmpaaDoor.Mod
open Go.RowKit Go.Sort
set_option linter.unusedVariables false
set_option linter.unusedSimpArgs false

/-- A counter's input. -/
def inp (c : Int) : Int := Str.st (Cnt.chance c)
theorem inp_range (c : Int) : -2047 ≤ inp c ∧ inp c ≤ 2047 := ⟨(Str.st_least _).1, (Str.st_least _).2.1⟩
theorem chance_range (c : Int) (h0 : 0 ≤ c) (h1 : c ≤ 65535) : 0 ≤ Cnt.chance c ∧ Cnt.chance c ≤ 4095 := by
  unfold Cnt.chance
  split <;> omega

set_option maxHeartbeats 1000000 in
theorem input_0 (B i : Nat) (hi : i < 64) (c : Int) (hc0 : 0 ≤ c) (hc1 : c ≤ 65535) (w : World) (T : Str.Tab w) (h1 : w.cell? ⟨B, 195, none⟩ = some (.int .i64 (i : Int))) (h2 : w.cell? ⟨B, i, none⟩ = some (.int .i64 c)) :
    Calls Tryd.prog 21 #[.pointer (some ⟨B, 0, none⟩), .int .i64 0] w fun e w' => e = .returned (.int .i64 (inp c)) ∧ Bel w w' := by
  have TT : Hid (Str.Tab w) := T
  obtain ⟨y0, y1⟩ := chance_range c hc0 hc1
  have q := Cnt.p_ok c
  have e2 : Cnt.pAns c = .tuple #[.int .i64 (Cnt.chance c), .int .i64 0] := if_pos (decide_eq_true ⟨hc0, hc1⟩)
  rw [e2] at q
  have Q : Hid (∀ w, Calls Tryd.prog 39 #[.int .i64 c] w fun e w' => e = .returned (.tuple #[.int .i64 (Cnt.chance c), .int .i64 0]) ∧ w' = w) := q
  have S : Hid (∀ w, Str.Tab w → Calls Tryd.prog 40 #[.int .i64 (Cnt.chance c)] w fun e w' => e = .returned (.tuple #[.int .i64 (inp c), .int .i64 0]) ∧ Onto w w') := Str.stretch_ok (Cnt.chance c) y0 y1
  clear q e2 T y0 y1
  generalize inp c = x at *
  generalize Cnt.chance c = y at *
  go_enter Tryd.func21, Tryd.ntmps21
  go_wp2
  go_quiet (first | (go_at_call 39; with_reducible exact Calls.quiet_of_same (Q.out _)))
  go_wp2_with fail
  refine (S.out _ (TT.out.drewN _)).mono ?_
  rintro e w1 ⟨rfl, o⟩
  have B1 : Hid (Bel w w1) := ((Bel.refl w).drewN _).trans o.b
  clear o
  go_wp2
  go_ret
  exact ⟨rfl, B1.out⟩

set_option maxHeartbeats 1000000 in
theorem input_1 (B i : Nat) (hi : i < 64) (c : Int) (hc0 : 0 ≤ c) (hc1 : c ≤ 65535) (w : World) (T : Str.Tab w) (h1 : w.cell? ⟨B, 196, none⟩ = some (.int .i64 (i : Int))) (h2 : w.cell? ⟨B, 64 + i, none⟩ = some (.int .i64 c)) :
    Calls Tryd.prog 21 #[.pointer (some ⟨B, 0, none⟩), .int .i64 1] w fun e w' => e = .returned (.int .i64 (inp c)) ∧ Bel w w' := by
  have TT : Hid (Str.Tab w) := T
  obtain ⟨y0, y1⟩ := chance_range c hc0 hc1
  have q := Cnt.p_ok c
  have e2 : Cnt.pAns c = .tuple #[.int .i64 (Cnt.chance c), .int .i64 0] := if_pos (decide_eq_true ⟨hc0, hc1⟩)
  rw [e2] at q
  have Q : Hid (∀ w, Calls Tryd.prog 39 #[.int .i64 c] w fun e w' => e = .returned (.tuple #[.int .i64 (Cnt.chance c), .int .i64 0]) ∧ w' = w) := q
  have S : Hid (∀ w, Str.Tab w → Calls Tryd.prog 40 #[.int .i64 (Cnt.chance c)] w fun e w' => e = .returned (.tuple #[.int .i64 (inp c), .int .i64 0]) ∧ Onto w w') := Str.stretch_ok (Cnt.chance c) y0 y1
  clear q e2 T y0 y1
  generalize inp c = x at *
  generalize Cnt.chance c = y at *
  go_enter Tryd.func21, Tryd.ntmps21
  go_wp2
  go_quiet (first | (go_at_call 39; with_reducible exact Calls.quiet_of_same (Q.out _)))
  go_wp2_with fail
  refine (S.out _ (TT.out.drewN _)).mono ?_
  rintro e w1 ⟨rfl, o⟩
  have B1 : Hid (Bel w w1) := ((Bel.refl w).drewN _).trans o.b
  clear o
  go_wp2
  go_ret
  exact ⟨rfl, B1.out⟩

set_option maxHeartbeats 1000000 in
theorem input_2 (B i : Nat) (hi : i < 64) (c : Int) (hc0 : 0 ≤ c) (hc1 : c ≤ 65535) (w : World) (T : Str.Tab w) (h1 : w.cell? ⟨B, 197, none⟩ = some (.int .i64 (i : Int))) (h2 : w.cell? ⟨B, 128 + i, none⟩ = some (.int .i64 c)) :
    Calls Tryd.prog 21 #[.pointer (some ⟨B, 0, none⟩), .int .i64 2] w fun e w' => e = .returned (.int .i64 (inp c)) ∧ Bel w w' := by
  have TT : Hid (Str.Tab w) := T
  obtain ⟨y0, y1⟩ := chance_range c hc0 hc1
  have q := Cnt.p_ok c
  have e2 : Cnt.pAns c = .tuple #[.int .i64 (Cnt.chance c), .int .i64 0] := if_pos (decide_eq_true ⟨hc0, hc1⟩)
  rw [e2] at q
  have Q : Hid (∀ w, Calls Tryd.prog 39 #[.int .i64 c] w fun e w' => e = .returned (.tuple #[.int .i64 (Cnt.chance c), .int .i64 0]) ∧ w' = w) := q
  have S : Hid (∀ w, Str.Tab w → Calls Tryd.prog 40 #[.int .i64 (Cnt.chance c)] w fun e w' => e = .returned (.tuple #[.int .i64 (inp c), .int .i64 0]) ∧ Onto w w') := Str.stretch_ok (Cnt.chance c) y0 y1
  clear q e2 T y0 y1
  generalize inp c = x at *
  generalize Cnt.chance c = y at *
  go_enter Tryd.func21, Tryd.ntmps21
  go_wp2
  go_quiet (first | (go_at_call 39; with_reducible exact Calls.quiet_of_same (Q.out _)))
  go_wp2_with fail
  refine (S.out _ (TT.out.drewN _)).mono ?_
  rintro e w1 ⟨rfl, o⟩
  have B1 : Hid (Bel w w1) := ((Bel.refl w).drewN _).trans o.b
  clear o
  go_wp2
  go_ret
  exact ⟨rfl, B1.out⟩

theorem results_three {fn : Func} {t : Tmp} (hf : fn.results = #[.cell t 24]) {tmps : Array Value} {b : Nat} {w : World} {x y z : Int} (ht : tmps[t]?.getD undef = .pointer (some ⟨b, 0, none⟩))
    (h : Holds w b [x, y, z]) : (results fn tmps).run Tryd.prog w = .ok (.agg #[.int .i64 x, .int .i64 y, .int .i64 z]) w := by
  have c0 : w.cell? ⟨b, 0, none⟩ = some (.int .i64 x) := h.cell 0 (by simp)
  have c1 : w.cell? ⟨b, 1, none⟩ = some (.int .i64 y) := h.cell 1 (by simp)
  have c2 : w.cell? ⟨b, 2, none⟩ = some (.int .i64 z) := h.cell 2 (by simp)
  simp [results, hf, ht, go_sem, c0, c1, c2]

theorem all3 {w : World} {B : Nat} {x y z p q r : Int} (h : Holds w B [p, q, r]) : Holds (((w.setCell ⟨B, 0, none⟩ (.int .i64 x)).setCell ⟨B, 1, none⟩ (.int .i64 y)).setCell ⟨B, 2, none⟩ (.int .i64 z)) B [x, y, z] :=
  ((h.set 0 (by simp) x).set 1 (by simp) y).set 2 (by simp) z

set_option maxHeartbeats 2000000 in
/-- byRow over a view's input: the three inputs. -/
theorem byRow_ok (B : Nat) (x y z : Int) (w : World) (V : List Int) (T : Str.Tab w) (h : Holds w B V)
    (I0 : ∀ w, Str.Tab w → Holds w B V → Calls Tryd.prog 21 #[.pointer (some ⟨B, 0, none⟩), .int .i64 0] w fun e w' => e = .returned (.int .i64 x) ∧ Bel w w')
    (I1 : ∀ w, Str.Tab w → Holds w B V → Calls Tryd.prog 21 #[.pointer (some ⟨B, 0, none⟩), .int .i64 1] w fun e w' => e = .returned (.int .i64 y) ∧ Bel w w')
    (I2 : ∀ w, Str.Tab w → Holds w B V → Calls Tryd.prog 21 #[.pointer (some ⟨B, 0, none⟩), .int .i64 2] w fun e w' => e = .returned (.int .i64 z) ∧ Bel w w') :
    Calls Tryd.prog 20 #[.func (.func 21) #[.pointer (some ⟨B, 0, none⟩)] #[]] w fun e w' => e = .returned (.agg #[.int .i64 x, .int .i64 y, .int .i64 z]) ∧ Bel w w' := by
  have TT : Hid (Str.Tab w) := T
  have HV : Hid (Holds w B V) := h
  have J0 : Hid (∀ w, Str.Tab w → Holds w B V → Calls Tryd.prog 21 #[.pointer (some ⟨B, 0, none⟩), .int .i64 0] w fun e w' => e = .returned (.int .i64 x) ∧ Bel w w') := I0
  have J1 : Hid (∀ w, Str.Tab w → Holds w B V → Calls Tryd.prog 21 #[.pointer (some ⟨B, 0, none⟩), .int .i64 1] w fun e w' => e = .returned (.int .i64 y) ∧ Bel w w') := I1
  have J2 : Hid (∀ w, Str.Tab w → Holds w B V → Calls Tryd.prog 21 #[.pointer (some ⟨B, 0, none⟩), .int .i64 2] w fun e w' => e = .returned (.int .i64 z) ∧ Bel w w') := I2
  clear T h I0 I1 I2
  go_enter Tryd.func20, Tryd.ntmps20
  go_wp2_with fail
  have h0 : Holds ((w.alloc (.cells #[.int .i64 0, .int .i64 0, .int .i64 0] 24)).alloc (.cells #[.int .i64 0, .int .i64 0, .int .i64 0] 24)) w.heap.size [0, 0, 0] := (holds_at rfl [0, 0, 0] 24).bel ((Bel.refl _).alloc _)
  have h1 : Holds ((w.alloc (.cells #[.int .i64 0, .int .i64 0, .int .i64 0] 24)).alloc (.cells #[.int .i64 0, .int .i64 0, .int .i64 0] 24)) (w.heap.size + 1) [0, 0, 0] := holds_at (by simp) [0, 0, 0] 24
  have b0 : Bel w ((w.alloc (.cells #[.int .i64 0, .int .i64 0, .int .i64 0] 24)).alloc (.cells #[.int .i64 0, .int .i64 0, .int .i64 0] 24)) := ((Bel.refl _).alloc _).alloc _
  generalize (w.alloc (.cells #[.int .i64 0, .int .i64 0, .int .i64 0] 24)).alloc (.cells #[.int .i64 0, .int .i64 0, .int .i64 0] 24) = W at *
  have R0 : Hid (Holds W w.heap.size [0, 0, 0]) := h0
  have S0 : Hid (Holds W (w.heap.size + 1) [0, 0, 0]) := h1
  have B0 : Hid (Bel w W) := b0
  clear h0 h1 b0
  refine wp_loop_rounds 4 ?_
  rw [rounds_succ]
  go_wp2_with fail
  refine (J0.out _ (tab_bel TT.out B0.out) (HV.out.bel B0.out)).mono ?_
  rintro e w1 ⟨rfl, b⟩
  have B1 : Hid (Bel w w1) := Bel.trans B0.out b
  have R1 : Hid (Holds w1 w.heap.size [0, 0, 0]) := Holds.bel R0.out b
  have S1 : Hid (Holds w1 (w.heap.size + 1) [0, 0, 0]) := Holds.bel S0.out b
  have c : w1.cell? ⟨w.heap.size + 1, 0, none⟩ = some (.int .i64 0) := S1.out.cell 0 (by simp)
  have f : w1.frozen? ⟨w.heap.size + 1, 0, none⟩ = false := S1.out.free 0 (by simp)
  clear b
  go_wp2_with fail
  clear c f
  rw [rounds_succ]
  go_wp2_with fail
  refine (J1.out _ (tab_bel TT.out (B1.out.setCell (by simp) _)) (HV.out.bel (B1.out.setCell (by simp) _))).mono ?_
  rintro e w2 ⟨rfl, b⟩
  have B2 : Hid (Bel w w2) := Bel.trans (B1.out.setCell (by simp) _) b
  have R2 : Hid (Holds w2 w.heap.size [0, 0, 0]) := Holds.bel (R1.out.other _ _ (by omega) _) b
  have S2 : Hid (Holds w2 (w.heap.size + 1) [x, 0, 0]) := Holds.bel (S1.out.set 0 (by simp) x) b
  have c : w2.cell? ⟨w.heap.size + 1, 1, none⟩ = some (.int .i64 0) := S2.out.cell 1 (by simp)
  have f : w2.frozen? ⟨w.heap.size + 1, 1, none⟩ = false := S2.out.free 1 (by simp)
  clear b
  go_wp2_with fail
  clear c f
  rw [rounds_succ]
  go_wp2_with fail
  refine (J2.out _ (tab_bel TT.out (B2.out.setCell (by simp) _)) (HV.out.bel (B2.out.setCell (by simp) _))).mono ?_
  rintro e w3 ⟨rfl, b⟩
  have B3 : Hid (Bel w w3) := Bel.trans (B2.out.setCell (by simp) _) b
  have R3 : Hid (Holds w3 w.heap.size [0, 0, 0]) := Holds.bel (R2.out.other _ _ (by omega) _) b
  have S3 : Hid (Holds w3 (w.heap.size + 1) [x, y, 0]) := Holds.bel (S2.out.set 1 (by simp) y) b
  have c : w3.cell? ⟨w.heap.size + 1, 2, none⟩ = some (.int .i64 0) := S3.out.cell 2 (by simp)
  have f : w3.frozen? ⟨w.heap.size + 1, 2, none⟩ = false := S3.out.free 2 (by simp)
  clear b
  go_wp2_with fail
  have HS : Hid (Holds (w3.setCell ⟨w.heap.size + 1, 2, none⟩ (.int .i64 z)) (w.heap.size + 1) [x, y, z]) := S3.out.set 2 (by simp) z
  have HR : Hid (Holds (w3.setCell ⟨w.heap.size + 1, 2, none⟩ (.int .i64 z)) w.heap.size [0, 0, 0]) := R3.out.other _ _ (by omega) _
  have HB : Hid (Bel w (w3.setCell ⟨w.heap.size + 1, 2, none⟩ (.int .i64 z))) := B3.out.setCell (by simp) _
  clear c f S3 R3 B3 S2 R2 B2 S1 R1 B1 S0 R0 B0 J0 J1 J2
  generalize w3.setCell ⟨w.heap.size + 1, 2, none⟩ (.int .i64 z) = W3 at *
  have c0 : W3.cell? ⟨w.heap.size + 1, 0, none⟩ = some (.int .i64 x) := HS.out.cell 0 (by simp)
  have c1 : W3.cell? ⟨w.heap.size + 1, 1, none⟩ = some (.int .i64 y) := HS.out.cell 1 (by simp)
  have c2 : W3.cell? ⟨w.heap.size + 1, 2, none⟩ = some (.int .i64 z) := HS.out.cell 2 (by simp)
  have d0 : W3.cell? ⟨w.heap.size, 0, none⟩ = some (.int .i64 0) := HR.out.cell 0 (by simp)
  have d1 : W3.cell? ⟨w.heap.size, 1, none⟩ = some (.int .i64 0) := HR.out.cell 1 (by simp)
  have d2 : W3.cell? ⟨w.heap.size, 2, none⟩ = some (.int .i64 0) := HR.out.cell 2 (by simp)
  have f0 : W3.frozen? ⟨w.heap.size, 0, none⟩ = false := HR.out.free 0 (by simp)
  have f1 : W3.frozen? ⟨w.heap.size, 1, none⟩ = false := HR.out.free 1 (by simp)
  have f2 : W3.frozen? ⟨w.heap.size, 2, none⟩ = false := HR.out.free 2 (by simp)
  rw [rounds_succ]
  go_wp2
  refine bodyPost_ret (v := .agg #[.int .i64 x, .int .i64 y, .int .i64 z]) (results_three Tryd.results20 rfl (all3 HR.out)) rfl ⟨rfl, ?_⟩
  exact ((HB.out.setCell (Nat.le_refl _) _).setCell (Nat.le_refl _) _).setCell (Nat.le_refl _) _

end Go.Proofs.YtnldnkcfeclmpaaDoor.Mod
