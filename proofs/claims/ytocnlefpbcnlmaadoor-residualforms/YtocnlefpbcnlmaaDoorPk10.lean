/-
  The contracts of the decoder's small functions, of New, and of the reference's like ones. Conditions: texts no longer than an int can tell, places within an int.
  The contracts of decoder.New and of the reference's NewDecoder: what they answer at every text. Condition: the text is no longer than an int can tell.
-/
import Derived.Test.YtocnlefpbcnlmaaDoorPk9

namespace Go.Proofs.YtocnlefpbcnlmaaDoor.Deco
open Go.Proofs.YtocnlefpbcnlmaaDoor.Coder Go.RowKit Go.Proofs.YtocnlefpbcnlmaaDoor.Num
set_option linter.unusedVariables false

/-- Five cells that are stored, read again. -/
theorem put5 {w : World} {b : Nat} (x0 x1 x2 x3 x4 : Value) {y0 y1 y2 y3 y4 : Value} (d0 : w.cell? ⟨b, 0, none⟩ = some y0) (d1 : w.cell? ⟨b, 1, none⟩ = some y1) (d2 : w.cell? ⟨b, 2, none⟩ = some y2) (d3 : w.cell? ⟨b, 3, none⟩ = some y3) (d4 : w.cell? ⟨b, 4, none⟩ = some y4) :
    (((((w.setCell ⟨b, 0, none⟩ x0).setCell ⟨b, 1, none⟩ x1).setCell ⟨b, 2, none⟩ x2).setCell ⟨b, 3, none⟩ x3).setCell ⟨b, 4, none⟩ x4).cell? ⟨b, 0, none⟩ = some x0 ∧ (((((w.setCell ⟨b, 0, none⟩ x0).setCell ⟨b, 1, none⟩ x1).setCell ⟨b, 2, none⟩ x2).setCell ⟨b, 3, none⟩ x3).setCell ⟨b, 4, none⟩ x4).cell? ⟨b, 1, none⟩ = some x1 ∧ (((((w.setCell ⟨b, 0, none⟩ x0).setCell ⟨b, 1, none⟩ x1).setCell ⟨b, 2, none⟩ x2).setCell ⟨b, 3, none⟩ x3).setCell ⟨b, 4, none⟩ x4).cell? ⟨b, 2, none⟩ = some x2 ∧ (((((w.setCell ⟨b, 0, none⟩ x0).setCell ⟨b, 1, none⟩ x1).setCell ⟨b, 2, none⟩ x2).setCell ⟨b, 3, none⟩ x3).setCell ⟨b, 4, none⟩ x4).cell? ⟨b, 3, none⟩ = some x3 ∧ (((((w.setCell ⟨b, 0, none⟩ x0).setCell ⟨b, 1, none⟩ x1).setCell ⟨b, 2, none⟩ x2).setCell ⟨b, 3, none⟩ x3).setCell ⟨b, 4, none⟩ x4).cell? ⟨b, 4, none⟩ = some x4 := by
  have same : ∀ (W : World) (i : Nat) (x y : Value), W.cell? ⟨b, i, none⟩ = some y → (W.setCell ⟨b, i, none⟩ x).cell? ⟨b, i, none⟩ = some x := fun W i x y c => (World.cell?_setCell_same _ _ (h := c) _)
  have other : ∀ (W : World) (i j : Nat) (x y : Value), i ≠ j → W.cell? ⟨b, j, none⟩ = some y → (W.setCell ⟨b, i, none⟩ x).cell? ⟨b, j, none⟩ = some y := fun W i j x y n c => by
    rw [World.cell?_setCell_other (h := by intro k; injection k with _ k2 _; exact n k2)]; exact c
  refine ⟨?_, ?_, ?_, ?_, ?_⟩
  · exact other _ _ _ _ _ (by decide) (other _ _ _ _ _ (by decide) (other _ _ _ _ _ (by decide) (other _ _ _ _ _ (by decide) (same _ _ _ _ d0))))
  · exact other _ _ _ _ _ (by decide) (other _ _ _ _ _ (by decide) (other _ _ _ _ _ (by decide) (same _ _ _ _ (other _ _ _ _ _ (by decide) d1))))
  · exact other _ _ _ _ _ (by decide) (other _ _ _ _ _ (by decide) (same _ _ _ _ (other _ _ _ _ _ (by decide) (other _ _ _ _ _ (by decide) d2))))
  · exact other _ _ _ _ _ (by decide) (same _ _ _ _ (other _ _ _ _ _ (by decide) (other _ _ _ _ _ (by decide) (other _ _ _ _ _ (by decide) d3))))
  · exact same _ _ _ _ (other _ _ _ _ _ (by decide) (other _ _ _ _ _ (by decide) (other _ _ _ _ _ (by decide) (other _ _ _ _ _ (by decide) d4))))

/-- A cell of another block reads as it did. -/
theorem away5 {w : World} {b : Nat} {x0 x1 x2 x3 x4 v : Value} {a : Addr} (h : a.block ≠ b) (c : w.cell? a = some v) : (((((w.setCell ⟨b, 0, none⟩ x0).setCell ⟨b, 1, none⟩ x1).setCell ⟨b, 2, none⟩ x2).setCell ⟨b, 3, none⟩ x3).setCell ⟨b, 4, none⟩ x4).cell? a = some v := by
  rw [World.cell?_setCell_other (h := by intro k; exact h (by rw [← k])), World.cell?_setCell_other (h := by intro k; exact h (by rw [← k])), World.cell?_setCell_other (h := by intro k; exact h (by rw [← k])), World.cell?_setCell_other (h := by intro k; exact h (by rw [← k])), World.cell?_setCell_other (h := by intro k; exact h (by rw [← k]))]
  exact c

theorem bel5 {w0 w : World} (h : Bel w0 w) {b : Nat} (hb : w0.heap.size ≤ b) (x0 x1 x2 x3 x4 : Value) : Bel w0 (((((w.setCell ⟨b, 0, none⟩ x0).setCell ⟨b, 1, none⟩ x1).setCell ⟨b, 2, none⟩ x2).setCell ⟨b, 3, none⟩ x3).setCell ⟨b, 4, none⟩ x4) :=
  ((((h.setCell hb _).setCell hb _).setCell hb _).setCell hb _).setCell hb _

theorem free5 {w : World} {b : Nat} {x0 x1 x2 x3 x4 : Value} {a : Addr} (f : w.frozen? a = false) : (((((w.setCell ⟨b, 0, none⟩ x0).setCell ⟨b, 1, none⟩ x1).setCell ⟨b, 2, none⟩ x2).setCell ⟨b, 3, none⟩ x3).setCell ⟨b, 4, none⟩ x4).frozen? a = false := by simp [f]

/-- A decoder that is handed back out of a variable. -/
theorem results_dec2 {fn : Func} {t u : Tmp} (hf : fn.results = #[.cell t 78, .tmp u]) {tmps : Array Value} {b : Nat} {w : World} {x0 x1 x2 x3 x4 v : Value} (ht : tmps[t]?.getD undef = .pointer (some ⟨b, 0, none⟩)) (hv : tmps[u]?.getD undef = v)
    (c : w.cell? ⟨b, 0, none⟩ = some x0 ∧ w.cell? ⟨b, 1, none⟩ = some x1 ∧ w.cell? ⟨b, 2, none⟩ = some x2 ∧ w.cell? ⟨b, 3, none⟩ = some x3 ∧ w.cell? ⟨b, 4, none⟩ = some x4) : (results fn tmps).run Tryd.prog w = .ok (.tuple #[.agg #[x0, x1, x2, x3, x4], v]) w := by
  obtain ⟨c0, c1, c2, c3, c4⟩ := c
  simp [results, hf, ht, hv, go_sem, c0, c1, c2, c3, c4]

theorem results_dec3 {fn : Func} {t u v : Tmp} (hf : fn.results = #[.cell t 78, .tmp u, .tmp v]) {tmps : Array Value} {b : Nat} {w : World} {x0 x1 x2 x3 x4 y z : Value} (ht : tmps[t]?.getD undef = .pointer (some ⟨b, 0, none⟩)) (hu : tmps[u]?.getD undef = y) (hv : tmps[v]?.getD undef = z)
    (c : w.cell? ⟨b, 0, none⟩ = some x0 ∧ w.cell? ⟨b, 1, none⟩ = some x1 ∧ w.cell? ⟨b, 2, none⟩ = some x2 ∧ w.cell? ⟨b, 3, none⟩ = some x3 ∧ w.cell? ⟨b, 4, none⟩ = some x4) : (results fn tmps).run Tryd.prog w = .ok (.tuple #[.agg #[x0, x1, x2, x3, x4], y, z]) w := by
  obtain ⟨c0, c1, c2, c3, c4⟩ := c
  simp [results, hf, ht, hu, hv, go_sem, c0, c1, c2, c3, c4]

set_option maxHeartbeats 400000 in
theorem left_ok (l h x a : Int) (s : ByteArray) (w : World) :
    Calls Tryd.prog 82 #[.agg #[.int .i64 l, .int .i64 h, .int .i64 x, .string s, .int .i64 a]] w fun e w' => e = .returned (.agg #[.int .i64 l, .int .i64 h]) ∧ Bel w w' := by
  go_enter Tryd.func82, Tryd.ntmps82
  go_wp2
  refine bodyPost_ret (v := .agg #[.int .i64 l, .int .i64 h]) (by simp [results, Tryd.results82, go_sem]) rfl ⟨rfl, ?_⟩
  exact ((Bel.refl _).alloc _).alloc _

/-- What May answers. -/
def dmayB (l h x : Int) (s : ByteArray) (a : Int) : Bool := decide ((0 ≤ l ∧ h ≤ 4294967295 ∧ l / 16777216 < h / 16777216) ∧ l ≤ x ∧ x ≤ h ∧ s.size ≤ 65536 ∧ 4 ≤ a ∧ a ≤ 65544)

set_option maxHeartbeats 1000000 in
theorem may_ok (l h x a : Int) (s : ByteArray) (hs : s.size ≤ maxLen) (w : World) :
    Calls Tryd.prog 81 #[.agg #[.int .i64 l, .int .i64 h, .int .i64 x, .string s, .int .i64 a]] w fun e w' => e = .returned (.bool (dmayB l h x s a)) ∧ Bel w w' := by
  unfold maxLen at hs
  by_cases hb : Between l h
  · by_cases c0 : l ≤ x
    · by_cases c1 : x ≤ h
      · by_cases c2 : s.size ≤ 65536
        · by_cases c3 : 4 ≤ a
          · by_cases c4 : a ≤ 65544
            · have e : dmayB l h x s a = true := decide_eq_true ⟨hb, c0, c1, c2, c3, c4⟩
              rw [e]
              have d0 : decide (l ≤ x) = true := by simp; omega
              have d1 : decide (x ≤ h) = true := by simp; omega
              have d2 : decide ((s.size : Int) ≤ 65536) = true := by simp; omega
              have d3 : decide (4 ≤ a) = true := by simp; omega
              have d4 : decide (a ≤ 65544) = true := by simp; omega
              have HB : Hid (Between l h) := hb
              clear hb e c0 c1 c2 c3 c4
              go_enter Tryd.func81, Tryd.ntmps81
              go_wp2_with fail
              refine (left_ok l h x a s _).mono ?_
              rintro e w1 ⟨rfl, b1⟩
              go_wp2_with fail
              refine (span_may_yes l h HB.out _).mono ?_
              rintro e w2 ⟨rfl, b2⟩
              have b := b1.trans b2
              have c0 : w2.cell? ⟨w.heap.size, 0, none⟩ = some (.int .i64 l) := b.keep (by simp)
              have c1 : w2.cell? ⟨w.heap.size, 1, none⟩ = some (.int .i64 h) := b.keep (by simp)
              have c2 : w2.cell? ⟨w.heap.size, 2, none⟩ = some (.int .i64 x) := b.keep (by simp)
              have c3 : w2.cell? ⟨w.heap.size, 3, none⟩ = some (.string s) := b.keep (by simp)
              have c4 : w2.cell? ⟨w.heap.size, 4, none⟩ = some (.int .i64 a) := b.keep (by simp)
              have HB2 : Hid (Bel w w2) := Bel.trans ((Bel.refl _).alloc _) b
              clear b b1 b2
              go_wp2
              go_ret
              exact ⟨rfl, HB2.out⟩
            · have e : dmayB l h x s a = false := decide_eq_false fun k => c4 k.2.2.2.2.2
              rw [e]
              have d0 : decide (l ≤ x) = true := by simp; omega
              have d1 : decide (x ≤ h) = true := by simp; omega
              have d2 : decide ((s.size : Int) ≤ 65536) = true := by simp; omega
              have d3 : decide (4 ≤ a) = true := by simp; omega
              have d4 : decide (a ≤ 65544) = false := by simp; omega
              have HB : Hid (Between l h) := hb
              clear hb e c0 c1 c2 c3 c4
              go_enter Tryd.func81, Tryd.ntmps81
              go_wp2_with fail
              refine (left_ok l h x a s _).mono ?_
              rintro e w1 ⟨rfl, b1⟩
              go_wp2_with fail
              refine (span_may_yes l h HB.out _).mono ?_
              rintro e w2 ⟨rfl, b2⟩
              have b := b1.trans b2
              have c0 : w2.cell? ⟨w.heap.size, 0, none⟩ = some (.int .i64 l) := b.keep (by simp)
              have c1 : w2.cell? ⟨w.heap.size, 1, none⟩ = some (.int .i64 h) := b.keep (by simp)
              have c2 : w2.cell? ⟨w.heap.size, 2, none⟩ = some (.int .i64 x) := b.keep (by simp)
              have c3 : w2.cell? ⟨w.heap.size, 3, none⟩ = some (.string s) := b.keep (by simp)
              have c4 : w2.cell? ⟨w.heap.size, 4, none⟩ = some (.int .i64 a) := b.keep (by simp)
              have HB2 : Hid (Bel w w2) := Bel.trans ((Bel.refl _).alloc _) b
              clear b b1 b2
              go_wp2
              go_ret
              exact ⟨rfl, HB2.out⟩
          · have e : dmayB l h x s a = false := decide_eq_false fun k => c3 k.2.2.2.2.1
            rw [e]
            have d0 : decide (l ≤ x) = true := by simp; omega
            have d1 : decide (x ≤ h) = true := by simp; omega
            have d2 : decide ((s.size : Int) ≤ 65536) = true := by simp; omega
            have d3 : decide (4 ≤ a) = false := by simp; omega
            have HB : Hid (Between l h) := hb
            clear hb e c0 c1 c2 c3
            go_enter Tryd.func81, Tryd.ntmps81
            go_wp2_with fail
            refine (left_ok l h x a s _).mono ?_
            rintro e w1 ⟨rfl, b1⟩
            go_wp2_with fail
            refine (span_may_yes l h HB.out _).mono ?_
            rintro e w2 ⟨rfl, b2⟩
            have b := b1.trans b2
            have c0 : w2.cell? ⟨w.heap.size, 0, none⟩ = some (.int .i64 l) := b.keep (by simp)
            have c1 : w2.cell? ⟨w.heap.size, 1, none⟩ = some (.int .i64 h) := b.keep (by simp)
            have c2 : w2.cell? ⟨w.heap.size, 2, none⟩ = some (.int .i64 x) := b.keep (by simp)
            have c3 : w2.cell? ⟨w.heap.size, 3, none⟩ = some (.string s) := b.keep (by simp)
            have c4 : w2.cell? ⟨w.heap.size, 4, none⟩ = some (.int .i64 a) := b.keep (by simp)
            have HB2 : Hid (Bel w w2) := Bel.trans ((Bel.refl _).alloc _) b
            clear b b1 b2
            go_wp2
            go_ret
            exact ⟨rfl, HB2.out⟩
        · have e : dmayB l h x s a = false := decide_eq_false fun k => c2 k.2.2.2.1
          rw [e]
          have d0 : decide (l ≤ x) = true := by simp; omega
          have d1 : decide (x ≤ h) = true := by simp; omega
          have d2 : decide ((s.size : Int) ≤ 65536) = false := by simp; omega
          have HB : Hid (Between l h) := hb
          clear hb e c0 c1 c2
          go_enter Tryd.func81, Tryd.ntmps81
          go_wp2_with fail
          refine (left_ok l h x a s _).mono ?_
          rintro e w1 ⟨rfl, b1⟩
          go_wp2_with fail
          refine (span_may_yes l h HB.out _).mono ?_
          rintro e w2 ⟨rfl, b2⟩
          have b := b1.trans b2
          have c0 : w2.cell? ⟨w.heap.size, 0, none⟩ = some (.int .i64 l) := b.keep (by simp)
          have c1 : w2.cell? ⟨w.heap.size, 1, none⟩ = some (.int .i64 h) := b.keep (by simp)
          have c2 : w2.cell? ⟨w.heap.size, 2, none⟩ = some (.int .i64 x) := b.keep (by simp)
          have c3 : w2.cell? ⟨w.heap.size, 3, none⟩ = some (.string s) := b.keep (by simp)
          have c4 : w2.cell? ⟨w.heap.size, 4, none⟩ = some (.int .i64 a) := b.keep (by simp)
          have HB2 : Hid (Bel w w2) := Bel.trans ((Bel.refl _).alloc _) b
          clear b b1 b2
          go_wp2
          go_ret
          exact ⟨rfl, HB2.out⟩
      · have e : dmayB l h x s a = false := decide_eq_false fun k => c1 k.2.2.1
        rw [e]
        have d0 : decide (l ≤ x) = true := by simp; omega
        have d1 : decide (x ≤ h) = false := by simp; omega
        have HB : Hid (Between l h) := hb
        clear hb e c0 c1
        go_enter Tryd.func81, Tryd.ntmps81
        go_wp2_with fail
        refine (left_ok l h x a s _).mono ?_
        rintro e w1 ⟨rfl, b1⟩
        go_wp2_with fail
        refine (span_may_yes l h HB.out _).mono ?_
        rintro e w2 ⟨rfl, b2⟩
        have b := b1.trans b2
        have c0 : w2.cell? ⟨w.heap.size, 0, none⟩ = some (.int .i64 l) := b.keep (by simp)
        have c1 : w2.cell? ⟨w.heap.size, 1, none⟩ = some (.int .i64 h) := b.keep (by simp)
        have c2 : w2.cell? ⟨w.heap.size, 2, none⟩ = some (.int .i64 x) := b.keep (by simp)
        have c3 : w2.cell? ⟨w.heap.size, 3, none⟩ = some (.string s) := b.keep (by simp)
        have c4 : w2.cell? ⟨w.heap.size, 4, none⟩ = some (.int .i64 a) := b.keep (by simp)
        have HB2 : Hid (Bel w w2) := Bel.trans ((Bel.refl _).alloc _) b
        clear b b1 b2
        go_wp2
        go_ret
        exact ⟨rfl, HB2.out⟩
    · have e : dmayB l h x s a = false := decide_eq_false fun k => c0 k.2.1
      rw [e]
      have d0 : decide (l ≤ x) = false := by simp; omega
      have HB : Hid (Between l h) := hb
      clear hb e c0
      go_enter Tryd.func81, Tryd.ntmps81
      go_wp2_with fail
      refine (left_ok l h x a s _).mono ?_
      rintro e w1 ⟨rfl, b1⟩
      go_wp2_with fail
      refine (span_may_yes l h HB.out _).mono ?_
      rintro e w2 ⟨rfl, b2⟩
      have b := b1.trans b2
      have c0 : w2.cell? ⟨w.heap.size, 0, none⟩ = some (.int .i64 l) := b.keep (by simp)
      have c1 : w2.cell? ⟨w.heap.size, 1, none⟩ = some (.int .i64 h) := b.keep (by simp)
      have c2 : w2.cell? ⟨w.heap.size, 2, none⟩ = some (.int .i64 x) := b.keep (by simp)
      have c3 : w2.cell? ⟨w.heap.size, 3, none⟩ = some (.string s) := b.keep (by simp)
      have c4 : w2.cell? ⟨w.heap.size, 4, none⟩ = some (.int .i64 a) := b.keep (by simp)
      have HB2 : Hid (Bel w w2) := Bel.trans ((Bel.refl _).alloc _) b
      clear b b1 b2
      go_wp2
      go_ret
      exact ⟨rfl, HB2.out⟩
  · have e : dmayB l h x s a = false := decide_eq_false fun k => hb k.1
    rw [e]
    have HB : Hid (¬ Between l h) := hb
    clear hb e
    go_enter Tryd.func81, Tryd.ntmps81
    go_wp2_with fail
    refine (left_ok l h x a s _).mono ?_
    rintro e w1 ⟨rfl, b1⟩
    go_wp2_with fail
    refine (span_may_no l h HB.out _).mono ?_
    rintro e w2 ⟨rfl, b2⟩
    have HB2 : Hid (Bel w w2) := Bel.trans ((Bel.refl _).alloc _) (b1.trans b2)
    clear b1 b2
    go_wp2
    go_ret
    exact ⟨rfl, HB2.out⟩

theorem idx (s : ByteArray) (k : Nat) (h : k < s.size) (w : World) :
    (Instr.index 9 (.string s) (.int .i64 (k : Int))).run Tryd.prog w = .ok (.int .u8 (bz s k)) w := by
  rw [run_index_string (P := Tryd.prog) w 9 s .i64 (k : Int) Tryd.underlying9]
  have hb : 0 ≤ (k : Int) ∧ (k : Int) < s.size := by omega
  rw [dif_pos hb]
  have hl : k < s.data.toList.length := by simpa using h
  unfold bz
  rw [List.getD_eq_getElem?_getD, List.getElem?_eq_getElem hl]
  rfl

set_option maxHeartbeats 400000 in
theorem byteAt_ok (s : ByteArray) (k : Nat) (hk : k ≤ 1000000) (hs : s.size ≤ maxLen) (w : World) :
    Calls Tryd.prog 63 #[.string s, .int .i64 (k : Int)] w fun e w' => e = .returned (.int .u8 (bz s k)) ∧ w' = w := by
  unfold maxLen at hs
  by_cases h : k < s.size
  · have hi := idx s k h
    have hd : decide ((k : Int) < (s.size : Int)) = true := by simp; omega
    generalize bz s k = b at *
    go_enter Tryd.func63, Tryd.ntmps63
    go_wp2
    go_ret
    exact ⟨rfl, rfl⟩
  · have hd : decide ((k : Int) < (s.size : Int)) = false := by simp; omega
    rw [bz_out s k (by omega)]
    go_enter Tryd.func63, Tryd.ntmps63
    go_wp2
    go_ret
    exact ⟨rfl, rfl⟩

end Go.Proofs.YtocnlefpbcnlmaaDoor.Deco

namespace Go.Proofs.YtocnlefpbcnlmaaDoor.Deco
open Go.Proofs.YtocnlefpbcnlmaaDoor.Coder Go.RowKit Go.Proofs.YtocnlefpbcnlmaaDoor.Num
set_option linter.unusedVariables false

/-- What New answers. -/
def newAns (s : ByteArray) : Value := if s.size ≤ 65536 then .tuple #[.agg #[.int .i64 0, .int .i64 4294967295, .int .i64 (win s 0), .string s, .int .i64 4], .int .i64 0] else .tuple #[.agg #[.int .i64 0, .int .i64 0, .int .i64 0, .string (⟨#[]⟩), .int .i64 0], .int .i64 500]

set_option maxHeartbeats 1000000 in
theorem new_ok (s : ByteArray) (hs : s.size ≤ maxLen) (w : World) :
    Calls Tryd.prog 36 #[.string s] w fun e w' => e = .returned (newAns s) ∧ Bel w w' := by
  have hs' := hs
  unfold maxLen at hs
  by_cases hz : s.size ≤ 65536
  · rw [newAns, if_pos hz]
    have hz' : decide (65536 < (s.size : Int)) = false := by simp; omega
    rw [← now_four s]
    have n := nowAt_in s 0 0 (by omega) (by omega)
    have B0 : Hid (∀ w, Calls Tryd.prog 63 #[.string s, .int .i64 0] w fun e w' => e = .returned (.int .u8 (bz s 0)) ∧ w' = w) := byteAt_ok s 0 (by omega) hs'
    have P0 : Hid (∀ w, Calls Tryd.prog 62 #[.int .i64 0, .int .u8 (bz s 0)] w fun e w' => e = .returned (.int .i64 (nowAt s 0 0 1)) ∧ w' = w) := push_ok (nowAt s 0 0 0) (bz s 0) (n 0).1 (n 0).2 (bz_bounds s 0).1 (bz_bounds s 0).2
    have B1 : Hid (∀ w, Calls Tryd.prog 63 #[.string s, .int .i64 1] w fun e w' => e = .returned (.int .u8 (bz s 1)) ∧ w' = w) := byteAt_ok s 1 (by omega) hs'
    have P1 : Hid (∀ w, Calls Tryd.prog 62 #[.int .i64 (nowAt s 0 0 1), .int .u8 (bz s 1)] w fun e w' => e = .returned (.int .i64 (nowAt s 0 0 2)) ∧ w' = w) := push_ok (nowAt s 0 0 1) (bz s 1) (n 1).1 (n 1).2 (bz_bounds s 1).1 (bz_bounds s 1).2
    have B2 : Hid (∀ w, Calls Tryd.prog 63 #[.string s, .int .i64 2] w fun e w' => e = .returned (.int .u8 (bz s 2)) ∧ w' = w) := byteAt_ok s 2 (by omega) hs'
    have P2 : Hid (∀ w, Calls Tryd.prog 62 #[.int .i64 (nowAt s 0 0 2), .int .u8 (bz s 2)] w fun e w' => e = .returned (.int .i64 (nowAt s 0 0 3)) ∧ w' = w) := push_ok (nowAt s 0 0 2) (bz s 2) (n 2).1 (n 2).2 (bz_bounds s 2).1 (bz_bounds s 2).2
    have B3 : Hid (∀ w, Calls Tryd.prog 63 #[.string s, .int .i64 3] w fun e w' => e = .returned (.int .u8 (bz s 3)) ∧ w' = w) := byteAt_ok s 3 (by omega) hs'
    have P3 : Hid (∀ w, Calls Tryd.prog 62 #[.int .i64 (nowAt s 0 0 3), .int .u8 (bz s 3)] w fun e w' => e = .returned (.int .i64 (nowAt s 0 0 4)) ∧ w' = w) := push_ok (nowAt s 0 0 3) (bz s 3) (n 3).1 (n 3).2 (bz_bounds s 3).1 (bz_bounds s 3).2
    generalize bz s 0 = b0 at *
    generalize bz s 1 = b1 at *
    generalize bz s 2 = b2 at *
    generalize bz s 3 = b3 at *
    generalize nowAt s 0 0 1 = x1 at *
    generalize nowAt s 0 0 2 = x2 at *
    generalize nowAt s 0 0 3 = x3 at *
    generalize nowAt s 0 0 4 = x4 at *
    clear hs' n
    go_enter Tryd.func36, Tryd.ntmps36
    go_wp2
    refine wp_loop_rounds 5 ?_
    rw [rounds_succ]
    go_wp2_with fail
    refine (B0.out _).mono ?_
    rintro e w1 ⟨rfl, rfl⟩
    go_wp2_with fail
    refine (P0.out _).mono ?_
    rintro e w1 ⟨rfl, rfl⟩
    go_wp2_with fail
    rw [rounds_succ]
    go_wp2_with fail
    refine (B1.out _).mono ?_
    rintro e w1 ⟨rfl, rfl⟩
    go_wp2_with fail
    refine (P1.out _).mono ?_
    rintro e w1 ⟨rfl, rfl⟩
    go_wp2_with fail
    rw [rounds_succ]
    go_wp2_with fail
    refine (B2.out _).mono ?_
    rintro e w1 ⟨rfl, rfl⟩
    go_wp2_with fail
    refine (P2.out _).mono ?_
    rintro e w1 ⟨rfl, rfl⟩
    go_wp2_with fail
    rw [rounds_succ]
    go_wp2_with fail
    refine (B3.out _).mono ?_
    rintro e w1 ⟨rfl, rfl⟩
    go_wp2_with fail
    refine (P3.out _).mono ?_
    rintro e w1 ⟨rfl, rfl⟩
    go_wp2_with fail
    rw [rounds_succ]
    go_wp2_with fail
    refine (whole_ok _).mono ?_
    rintro e w1 ⟨rfl, b1⟩
    have d0 : w1.cell? ⟨w.heap.size, 0, none⟩ = some (.int .i64 0) := b1.keep (by simp)
    have f0 : w1.frozen? ⟨w.heap.size, 0, none⟩ = false := by rw [b1.frozen (by simp)]; simp
    have d1 : w1.cell? ⟨w.heap.size, 1, none⟩ = some (.int .i64 0) := b1.keep (by simp)
    have f1 : w1.frozen? ⟨w.heap.size, 1, none⟩ = false := by rw [b1.frozen (by simp)]; simp
    have d2 : w1.cell? ⟨w.heap.size, 2, none⟩ = some (.int .i64 0) := b1.keep (by simp)
    have f2 : w1.frozen? ⟨w.heap.size, 2, none⟩ = false := by rw [b1.frozen (by simp)]; simp
    have d3 : w1.cell? ⟨w.heap.size, 3, none⟩ = some (.string ⟨#[]⟩) := b1.keep (by simp)
    have f3 : w1.frozen? ⟨w.heap.size, 3, none⟩ = false := by rw [b1.frozen (by simp)]; simp
    have d4 : w1.cell? ⟨w.heap.size, 4, none⟩ = some (.int .i64 0) := b1.keep (by simp)
    have f4 : w1.frozen? ⟨w.heap.size, 4, none⟩ = false := by rw [b1.frozen (by simp)]; simp
    have hlt : w.heap.size < w1.heap.size := block_lt_of_cell d0
    have HB1 : Hid (Bel w w1) := Bel.trans ((Bel.refl _).alloc _) b1
    clear b1
    go_wp2
    have r := put5 (.int .i64 0) (.int .i64 4294967295) (.int .i64 x4) (.string s) (.int .i64 4) d0 d1 d2 d3 d4
    have ba := (Bel.refl (((((w1.setCell ⟨w.heap.size, 0, none⟩ (.int .i64 0)).setCell ⟨w.heap.size, 1, none⟩ (.int .i64 4294967295)).setCell ⟨w.heap.size, 2, none⟩ (.int .i64 x4)).setCell ⟨w.heap.size, 3, none⟩ (.string s)).setCell ⟨w.heap.size, 4, none⟩ (.int .i64 4))).alloc (.cells #[.int .i64 0, .int .i64 4294967295] 64)
    refine bodyPost_ret (results_dec2 Tryd.results36 rfl rfl ⟨ba.keep r.1, ba.keep r.2.1, ba.keep r.2.2.1, ba.keep r.2.2.2.1, ba.keep r.2.2.2.2⟩) rfl ⟨rfl, ?_⟩
    exact (bel5 HB1.out (Nat.le_refl _) _ _ _ _ _).trans ba
  · rw [newAns, if_neg hz]
    have hz' : decide (65536 < (s.size : Int)) = true := by simp; omega
    go_enter Tryd.func36, Tryd.ntmps36
    go_wp2
    refine bodyPost_ret (results_dec2 Tryd.results36 rfl rfl ⟨by simp, by simp, by simp, by simp, by simp⟩) rfl ⟨rfl, ?_⟩
    exact (Bel.refl _).alloc _

end Go.Proofs.YtocnlefpbcnlmaaDoor.Deco
