/-
  The contracts of wave's number and format, and of frame.Bytes. Condition: the text's length is an int.
-/
import Derived.Test.YthbjjjpleongbaaWvOnl
import Derived.Lib.QuietBelow
import Derived.BigQuiet
namespace Go.Proofs.Ythbjjjpleongbaa.Wav
open Go.RowKit Go.Sort Go.Proofs.Ythbjjjpleongbaa.Mod Go.Proofs.Ythbjjjpleongbaa.Num Go.Proofs.Ythbjjjpleongbaa.Chk
open Go.Proofs.Ythbjjjpleongbaa.Pcm (okF fC fQ okF_yes okF_nat fmt may_ok rmay_ok rframe_ok)
set_option linter.unusedVariables false
set_option linter.unusedSimpArgs false

set_option maxHeartbeats 400000 in
theorem bytes_ok (c b : Int) (h : okF c b = true) (w : World) : Calls Try.prog 20 #[fmt c b] w fun e w' => e = .returned (.int .i64 ((fC c * fQ b : Nat) : Int)) ∧ Bel w w' := by
  obtain ⟨h1, h2⟩ := okF_yes h
  clear h
  rcases h1 with rfl | rfl <;> rcases h2 with rfl | rfl
  all_goals
    go_enter Try.func20, Try.ntmps20
    go_wp2
    go_ret
    exact ⟨rfl, (Bel.refl _).alloc _⟩

set_option maxHeartbeats 400000 in
theorem nat_ok (s : ByteArray) (M : List UInt8) (hs : s.data.toList = M) (hx : s.size ≤ maxLen) (i : Nat) (h : i + 2 ≤ M.length) (w : World) :
    Calls Try.prog 32 #[.string s, .int .i64 (i : Int)] w fun e w' => e = .returned (.int .i64 (nAt M i)) ∧ w' = w := by
  have hn := size_len s M hs
  unfold maxLen at hx
  have e1 : (s.extract i (i + 2)).data.toList = (M.drop i).take 2 := by rw [ext_mid, hs, Nat.add_sub_cancel_left]
  have z1 := size_len _ _ e1
  have G : Hid (∀ w, Calls Try.prog 41 #[.string (s.extract i (i + 2))] w fun e w' => e = .returned (.tuple #[.int .i64 (nAt M i), .int .i64 0]) ∧ w' = w) := fun w => by
    have hl : ((M.drop i).take 2).length = 2 := by rw [List.length_take, List.length_drop]; omega
    have := Field.get_ok (s.extract i (i + 2)) (by omega) (by omega) w
    rw [e1] at this
    exact this
  rw [← hn] at h
  have hd2 : decide ((s.size : Int) < (i : Int) + 2) = false := decide_eq_false (by omega)
  have hd3 : decide (s.size < i + 2) = false := decide_eq_false (by omega)
  generalize nAt M i = v at *
  clear e1 z1 hs hn
  go_enter Try.func32, Try.ntmps32
  go_wp2_with fail
  refine (G.out _).mono ?_
  rintro e w1 ⟨rfl, rfl⟩
  go_wp2
  go_ret
  exact ⟨rfl, rfl⟩

theorem results_fm {fn : Func} {t u : Tmp} (hf : fn.results = #[.cell t 23, .tmp u]) {tmps : Array Value} {b : Nat} {w : World} {x y v : Value} (ht : tmps[t]?.getD undef = .pointer (some ⟨b, 0, none⟩)) (hv : tmps[u]?.getD undef = v)
    (c0 : w.cell? ⟨b, 0, none⟩ = some x) (c1 : w.cell? ⟨b, 1, none⟩ = some y) : (results fn tmps).run Try.prog w = .ok (.tuple #[.agg #[x, y], v]) w := by
  simp [results, hf, ht, hv, go_sem, c0, c1]

/-- A format in a variable, that may be written. -/
def BoxQ (w : World) (g : Nat) (c b : Int) : Prop := (w.cell? ⟨g, 0, none⟩ = some (.int .i64 c) ∧ w.cell? ⟨g, 1, none⟩ = some (.int .i64 b)) ∧ w.frozen? ⟨g, 0, none⟩ = false ∧ w.frozen? ⟨g, 1, none⟩ = false
theorem BoxQ.bel {w w' : World} {g : Nat} {c b : Int} (h : BoxQ w g c b) (k : Bel w w') : BoxQ w' g c b := ⟨⟨k.keep h.1.1, k.keep h.1.2⟩, k.free h.1.1 h.2.1, k.free h.1.2 h.2.2⟩
theorem boxQ_new (w : World) (c b : Int) : BoxQ (w.alloc (.cells #[.int .i64 c, .int .i64 b] 23)) w.heap.size c b := by
  have h : ∀ k, (w.alloc (.cells #[.int .i64 c, .int .i64 b] 23)).cell? ⟨w.heap.size, k, none⟩ = (#[Value.int .i64 c, Value.int .i64 b])[k]? := fun k => cell_of_row _ w.heap.size k _ 23 (0, 0) (heap_alloc_new w _)
  exact ⟨⟨h 0, h 1⟩, by simp, by simp⟩
theorem BoxQ.set {w : World} {g : Nat} {c b : Int} (h : BoxQ w g c b) (x y : Int) : BoxQ ((w.setCell ⟨g, 0, none⟩ (.int .i64 x)).setCell ⟨g, 1, none⟩ (.int .i64 y)) g x y := by
  have n01 : (⟨g, 0, none⟩ : Addr) ≠ ⟨g, 1, none⟩ := by simp
  have a1 : (w.setCell ⟨g, 0, none⟩ (.int .i64 x)).cell? ⟨g, 1, none⟩ = some (.int .i64 b) := by rw [World.cell?_setCell_other (h := n01)]; exact h.1.2
  refine ⟨⟨?_, ?_⟩, ?_, ?_⟩
  · rw [World.cell?_setCell_other (h := n01.symm), World.cell?_setCell_same (h := h.1.1)]
  · rw [World.cell?_setCell_same (h := a1)]
  · rw [World.frozen?_setCell, World.frozen?_setCell]; exact h.2.1
  · rw [World.frozen?_setCell, World.frozen?_setCell]; exact h.2.2

set_option maxRecDepth 8000 in
set_option maxHeartbeats 2000000 in
theorem format_ok (s : ByteArray) (M : List UInt8) (hs : s.data.toList = M) (hx : s.size ≤ maxLen) (w : World) :
    Calls Try.prog 19 #[.string s] w fun e w' => e = .returned (.tuple #[fmt ((fmtOf M).getD (0, 0)).1 ((fmtOf M).getD (0, 0)).2, .bool (fmtOf M).isSome]) ∧ Bel w w' := by
  have hn := size_len s M hs
  have BX : Hid (∀ w1, Bel (w.alloc (.cells #[.int .i64 0, .int .i64 0] 23)) w1 → BoxQ w1 w.heap.size 0 0) := fun w1 k => (boxQ_new w 0 0).bel k
  obtain ⟨⟨y0, y1⟩, g0, g1⟩ := boxQ_new w 0 0
  have Y0 : Hid _ := y0
  have Y1 : Hid _ := y1
  by_cases h16 : M.length = 16
  · have hs16 : s.size = 16 := by omega
    have N0 : Hid (∀ w, Calls Try.prog 32 #[.string s, .int .i64 0] w fun e w' => e = .returned (.int .i64 (nAt M 0)) ∧ w' = w) := fun w => nat_ok s M hs hx 0 (by omega) w
    have N2 : Hid (∀ w, Calls Try.prog 32 #[.string s, .int .i64 2] w fun e w' => e = .returned (.int .i64 (nAt M 2)) ∧ w' = w) := fun w => nat_ok s M hs hx 2 (by omega) w
    have N12 : Hid (∀ w, Calls Try.prog 32 #[.string s, .int .i64 12] w fun e w' => e = .returned (.int .i64 (nAt M 12)) ∧ Bel w w') := fun w => (nat_ok s M hs hx 12 (by omega) w).mono (by rintro e w1 ⟨h1, rfl⟩; exact ⟨h1, Bel.refl _⟩)
    have N14 : Hid (∀ w, Calls Try.prog 32 #[.string s, .int .i64 14] w fun e w' => e = .returned (.int .i64 (nAt M 14)) ∧ w' = w) := fun w => nat_ok s M hs hx 14 (by omega) w
    have MY : Hid (∀ w, Calls Try.prog 33 #[.agg #[.int .i64 (nAt M 2), .int .i64 (nAt M 14)]] w fun e w' => e = .returned (.bool (okF (nAt M 2) (nAt M 14))) ∧ Bel w w') := fun w => may_ok _ _ w
    have FR : Hid (okF (nAt M 2) (nAt M 14) = true → ∀ w, Calls Try.prog 20 #[.agg #[.int .i64 (nAt M 2), .int .i64 (nAt M 14)]] w fun e w' => e = .returned (.int .i64 ((fC (nAt M 2) * fQ (nAt M 14) : Nat) : Int)) ∧ Bel w w') := fun h w => bytes_ok _ _ h w
    have FX : Hid (fmtOf M = if nAt M 0 = 1 ∧ okF (nAt M 2) (nAt M 14) = true ∧ nAt M 12 = ((fC (nAt M 2) * fQ (nAt M 14) : Nat) : Int) then some (nAt M 2, nAt M 14) else none) := (by
      unfold fmtOf
      by_cases q : nAt M 0 = 1 ∧ okF (nAt M 2) (nAt M 14) = true ∧ nAt M 12 = ((fC (nAt M 2) * fQ (nAt M 14) : Nat) : Int)
      · rw [if_pos q, if_pos ⟨h16, q⟩]
      · rw [if_neg q, if_neg (fun r => q r.2)] : _ = _)
    have hsi : ((s.size : Int) != 16) = false := by rw [hs16]; rfl
    generalize nAt M 0 = v0 at *
    generalize nAt M 2 = c at *
    generalize nAt M 14 = b at *
    generalize nAt M 12 = v12 at *
    generalize ((fC c * fQ b : Nat) : Int) = f at *
    obtain ⟨R, hR⟩ : ∃ R, fmtOf M = R := ⟨_, rfl⟩
    rw [hR] at FX
    rw [hR]
    clear hR hs hn hx h16 y0 y1 g0 g1
    by_cases h0 : v0 = 1
    · have d0 : (v0 != 1) = false := by rw [h0]; rfl
      cases hok : okF c b
      · have RN : Hid (R = none) := (by rw [FX.out, if_neg]; rw [hok]; intro q; cases q.2.1 : _ = _)
        have MY2 : Hid (∀ w, Calls Try.prog 33 #[.agg #[.int .i64 c, .int .i64 b]] w fun e w' => e = .returned (.bool false) ∧ Bel w w') := fun w => by have := MY.out w; rw [hok] at this; exact this
        clear FX MY FR h0 hok
        go_enter Try.func19, Try.ntmps19
        go_wp2_with fail
        refine (N0.out _).mono ?_
        rintro e w1 ⟨rfl, rfl⟩
        go_wp2_with fail
        refine (N2.out _).mono ?_
        rintro e w1 ⟨rfl, rfl⟩
        go_wp2_with fail
        refine (N14.out _).mono ?_
        rintro e w1 ⟨rfl, rfl⟩
        go_upto_region 4 with fail
        obtain ⟨V, hV⟩ : ∃ V, V = (w.alloc (.cells #[.int .i64 0, .int .i64 0] 23)).alloc (.cells #[.int .i64 c, .int .i64 b] 23) := ⟨_, rfl⟩
        rw [← hV]
        have B0 : Hid (Bel w V) := hV ▸ ((Bel.refl _).alloc _).alloc _
        have X0 : Hid (BoxQ V w.heap.size 0 0) := hV ▸ BX.out _ ((Bel.refl _).alloc _)
        have F0 : V.cell? ⟨w.heap.size + 1, 0, none⟩ = some (.int .i64 c) := by rw [hV]; go_simp
        have F1 : V.cell? ⟨w.heap.size + 1, 1, none⟩ = some (.int .i64 b) := by rw [hV]; go_simp
        have FF : Hid (V.cell? ⟨w.heap.size + 1, 0, none⟩ = some (.int .i64 c) ∧ V.cell? ⟨w.heap.size + 1, 1, none⟩ = some (.int .i64 b)) := ⟨F0, F1⟩
        have l0 := cell_regrown F0
        have l1 := cell_regrown F1
        clear hV BX Y0 Y1 N0 N2 N14 F0 F1
        refine wp_region_quiet_below (by kernel_rfl) (by kernel_rfl) ?_
        repeat (go_big_quiet_step (first
          | (go_at_call 33; with_reducible exact Calls.regrown_of (MY2.out _))))
        refine wpQuiet_nil ?_
        intro _ hw'
        obtain ⟨⟨dq, osq⟩, hw''⟩ := hw'
        subst hw''
        have BB : Hid (Bel w (grow (redrawn V dq) osq)) := B0.out.trans (below_regrown V dq osq)
        have XX : Hid (BoxQ (grow (redrawn V dq) osq) w.heap.size 0 0) := X0.out.bel (below_regrown V dq osq)
        have k0 := Bel.keep (below_regrown V dq osq) FF.out.1
        have k1 := Bel.keep (below_regrown V dq osq) FF.out.2
        show Exit.then _ _ _ _ (grow (redrawn V dq) osq)
        generalize grow (redrawn V dq) osq = w4 at *
        obtain ⟨⟨c0, c1⟩, f0, f1⟩ := XX.out
        go_wp2
        obtain ⟨⟨d0, d1⟩, _⟩ := XX.out.set 0 0
        refine bodyPost_ret (v := .tuple #[fmt 0 0, .bool false]) (results_fm Try.results19 rfl rfl d0 d1) rfl ⟨by rw [RN.out]; rfl, ?_⟩
        exact (BB.out.setCell (Nat.le_refl _) _).setCell (Nat.le_refl _) _
      · have MY2 : Hid (∀ w, Calls Try.prog 33 #[.agg #[.int .i64 c, .int .i64 b]] w fun e w' => e = .returned (.bool true) ∧ Bel w w') := fun w => by have := MY.out w; rw [hok] at this; exact this
        have FR2 : Hid (∀ w, Calls Try.prog 20 #[.agg #[.int .i64 c, .int .i64 b]] w fun e w' => e = .returned (.int .i64 f) ∧ Bel w w') := FR.out hok
        clear MY FR
        by_cases h12 : v12 = f
        · have d12 : (v12 != f) = false := by rw [h12]; simp
          have RN : Hid (R = some (c, b)) := (by rw [FX.out, if_pos ⟨h0, hok, h12⟩] : _ = _)
          clear FX h0 hok h12
          go_enter Try.func19, Try.ntmps19
          go_wp2_with fail
          refine (N0.out _).mono ?_
          rintro e w1 ⟨rfl, rfl⟩
          go_wp2_with fail
          refine (N2.out _).mono ?_
          rintro e w1 ⟨rfl, rfl⟩
          go_wp2_with fail
          refine (N14.out _).mono ?_
          rintro e w1 ⟨rfl, rfl⟩
          go_upto_region 4 with fail
          obtain ⟨V, hV⟩ : ∃ V, V = (w.alloc (.cells #[.int .i64 0, .int .i64 0] 23)).alloc (.cells #[.int .i64 c, .int .i64 b] 23) := ⟨_, rfl⟩
          rw [← hV]
          have B0 : Hid (Bel w V) := hV ▸ ((Bel.refl _).alloc _).alloc _
          have X0 : Hid (BoxQ V w.heap.size 0 0) := hV ▸ BX.out _ ((Bel.refl _).alloc _)
          have F0 : V.cell? ⟨w.heap.size + 1, 0, none⟩ = some (.int .i64 c) := by rw [hV]; go_simp
          have F1 : V.cell? ⟨w.heap.size + 1, 1, none⟩ = some (.int .i64 b) := by rw [hV]; go_simp
          have FF : Hid (V.cell? ⟨w.heap.size + 1, 0, none⟩ = some (.int .i64 c) ∧ V.cell? ⟨w.heap.size + 1, 1, none⟩ = some (.int .i64 b)) := ⟨F0, F1⟩
          have l0 := cell_regrown F0
          have l1 := cell_regrown F1
          clear hV BX Y0 Y1 N0 N2 N14 F0 F1
          refine wp_region_quiet_below (by kernel_rfl) (by kernel_rfl) ?_
          repeat (go_big_quiet_step (first
            | (go_at_call 33; with_reducible exact Calls.regrown_of (MY2.out _))
            | (go_at_call 32; with_reducible exact Calls.regrown_of (N12.out _))
            | (go_at_call 20; with_reducible exact Calls.regrown_of (FR2.out _))))
          refine wpQuiet_nil ?_
          intro _ hw'
          obtain ⟨⟨dq, osq⟩, hw''⟩ := hw'
          subst hw''
          have BB : Hid (Bel w (grow (redrawn V dq) osq)) := B0.out.trans (below_regrown V dq osq)
          have XX : Hid (BoxQ (grow (redrawn V dq) osq) w.heap.size 0 0) := X0.out.bel (below_regrown V dq osq)
          have k0 := Bel.keep (below_regrown V dq osq) FF.out.1
          have k1 := Bel.keep (below_regrown V dq osq) FF.out.2
          show Exit.then _ _ _ _ (grow (redrawn V dq) osq)
          generalize grow (redrawn V dq) osq = w4 at *
          obtain ⟨⟨c0, c1⟩, f0, f1⟩ := XX.out
          go_wp2
          obtain ⟨⟨d0, d1⟩, _⟩ := XX.out.set c b
          refine bodyPost_ret (v := .tuple #[fmt c b, .bool true]) (results_fm Try.results19 rfl rfl d0 d1) rfl ⟨by rw [RN.out]; rfl, ?_⟩
          exact (BB.out.setCell (Nat.le_refl _) _).setCell (Nat.le_refl _) _
        · have d12 : (v12 != f) = true := by simpa using h12
          have RN : Hid (R = none) := (by rw [FX.out, if_neg (fun q => h12 q.2.2)] : _ = _)
          clear FX h0 hok h12
          go_enter Try.func19, Try.ntmps19
          go_wp2_with fail
          refine (N0.out _).mono ?_
          rintro e w1 ⟨rfl, rfl⟩
          go_wp2_with fail
          refine (N2.out _).mono ?_
          rintro e w1 ⟨rfl, rfl⟩
          go_wp2_with fail
          refine (N14.out _).mono ?_
          rintro e w1 ⟨rfl, rfl⟩
          go_upto_region 4 with fail
          obtain ⟨V, hV⟩ : ∃ V, V = (w.alloc (.cells #[.int .i64 0, .int .i64 0] 23)).alloc (.cells #[.int .i64 c, .int .i64 b] 23) := ⟨_, rfl⟩
          rw [← hV]
          have B0 : Hid (Bel w V) := hV ▸ ((Bel.refl _).alloc _).alloc _
          have X0 : Hid (BoxQ V w.heap.size 0 0) := hV ▸ BX.out _ ((Bel.refl _).alloc _)
          have F0 : V.cell? ⟨w.heap.size + 1, 0, none⟩ = some (.int .i64 c) := by rw [hV]; go_simp
          have F1 : V.cell? ⟨w.heap.size + 1, 1, none⟩ = some (.int .i64 b) := by rw [hV]; go_simp
          have FF : Hid (V.cell? ⟨w.heap.size + 1, 0, none⟩ = some (.int .i64 c) ∧ V.cell? ⟨w.heap.size + 1, 1, none⟩ = some (.int .i64 b)) := ⟨F0, F1⟩
          have l0 := cell_regrown F0
          have l1 := cell_regrown F1
          clear hV BX Y0 Y1 N0 N2 N14 F0 F1
          refine wp_region_quiet_below (by kernel_rfl) (by kernel_rfl) ?_
          repeat (go_big_quiet_step (first
            | (go_at_call 33; with_reducible exact Calls.regrown_of (MY2.out _))
            | (go_at_call 32; with_reducible exact Calls.regrown_of (N12.out _))
            | (go_at_call 20; with_reducible exact Calls.regrown_of (FR2.out _))))
          refine wpQuiet_nil ?_
          intro _ hw'
          obtain ⟨⟨dq, osq⟩, hw''⟩ := hw'
          subst hw''
          have BB : Hid (Bel w (grow (redrawn V dq) osq)) := B0.out.trans (below_regrown V dq osq)
          have XX : Hid (BoxQ (grow (redrawn V dq) osq) w.heap.size 0 0) := X0.out.bel (below_regrown V dq osq)
          have k0 := Bel.keep (below_regrown V dq osq) FF.out.1
          have k1 := Bel.keep (below_regrown V dq osq) FF.out.2
          show Exit.then _ _ _ _ (grow (redrawn V dq) osq)
          generalize grow (redrawn V dq) osq = w4 at *
          obtain ⟨⟨c0, c1⟩, f0, f1⟩ := XX.out
          go_wp2
          obtain ⟨⟨d0, d1⟩, _⟩ := XX.out.set 0 0
          refine bodyPost_ret (v := .tuple #[fmt 0 0, .bool false]) (results_fm Try.results19 rfl rfl d0 d1) rfl ⟨by rw [RN.out]; rfl, ?_⟩
          exact (BB.out.setCell (Nat.le_refl _) _).setCell (Nat.le_refl _) _
    · have d0 : (v0 != 1) = true := by simpa using h0
      have RN : Hid (R = none) := (by rw [FX.out, if_neg (fun q => h0 q.1)] : _ = _)
      clear FX h0
      go_enter Try.func19, Try.ntmps19
      go_wp2_with fail
      refine (N0.out _).mono ?_
      rintro e w1 ⟨rfl, rfl⟩
      go_wp2
      refine bodyPost_ret (v := .tuple #[fmt 0 0, .bool false]) (results_fm Try.results19 rfl rfl Y0.out Y1.out) rfl ⟨by rw [RN.out]; rfl, ?_⟩
      exact (Bel.refl _).alloc _
  · have RN : Hid (fmtOf M = none) := (by unfold fmtOf; rw [if_neg (fun q => h16 q.1)] : _ = _)
    have hsi : ((s.size : Int) != 16) = true := by simp; omega
    clear hs hn h16
    go_enter Try.func19, Try.ntmps19
    go_wp2
    refine bodyPost_ret (v := .tuple #[fmt 0 0, .bool false]) (results_fm Try.results19 rfl rfl Y0.out Y1.out) rfl ⟨by rw [RN.out]; rfl, ?_⟩
    exact (Bel.refl _).alloc _

end Go.Proofs.Ythbjjjpleongbaa.Wav
