/-
  The contracts of the decoder's small functions, of New, and of the reference's like ones. Conditions: texts no longer than an int can tell, places within an int.
-/
import Derived.Test.YtoldedbfoechlaaGreatDoorKRef
import Derived.Test.YtoldedbfoechlaaGreatDoorDNum
namespace Go.Proofs.YtoldedbfoechlaaGreatDoor.Deco
open Go.Proofs.YtoldedbfoechlaaGreatDoor.Coder Go.RowKit Go.Proofs.YtoldedbfoechlaaGreatDoor.Num
set_option linter.unusedVariables false

/-- Five cells that are stored, read again. -/
theorem put5 {w : World} {b : Nat} (x0 x1 x2 x3 x4 : Value) {y0 y1 y2 y3 y4 : Value} (d0 : w.cell? ⟨b, 0, none⟩ = some y0) (d1 : w.cell? ⟨b, 1, none⟩ = some y1) (d2 : w.cell? ⟨b, 2, none⟩ = some y2) (d3 : w.cell? ⟨b, 3, none⟩ = some y3) (d4 : w.cell? ⟨b, 4, none⟩ = some y4) :
    (((((w.setCell ⟨b, 0, none⟩ x0).setCell ⟨b, 1, none⟩ x1).setCell ⟨b, 2, none⟩ x2).setCell ⟨b, 3, none⟩ x3).setCell ⟨b, 4, none⟩ x4).cell? ⟨b, 0, none⟩ = some x0 ∧ (((((w.setCell ⟨b, 0, none⟩ x0).setCell ⟨b, 1, none⟩ x1).setCell ⟨b, 2, none⟩ x2).setCell ⟨b, 3, none⟩ x3).setCell ⟨b, 4, none⟩ x4).cell? ⟨b, 1, none⟩ = some x1 ∧ (((((w.setCell ⟨b, 0, none⟩ x0).setCell ⟨b, 1, none⟩ x1).setCell ⟨b, 2, none⟩ x2).setCell ⟨b, 3, none⟩ x3).setCell ⟨b, 4, none⟩ x4).cell? ⟨b, 2, none⟩ = some x2 ∧ (((((w.setCell ⟨b, 0, none⟩ x0).setCell ⟨b, 1, none⟩ x1).setCell ⟨b, 2, none⟩ x2).setCell ⟨b, 3, none⟩ x3).setCell ⟨b, 4, none⟩ x4).cell? ⟨b, 3, none⟩ = some x3 ∧ (((((w.setCell ⟨b, 0, none⟩ x0).setCell ⟨b, 1, none⟩ x1).setCell ⟨b, 2, none⟩ x2).setCell ⟨b, 3, none⟩ x3).setCell ⟨b, 4, none⟩ x4).cell? ⟨b, 4, none⟩ = some x4 := by
  have same : ∀ (W : World) (i : Nat) (x y : Value), W.cell? ⟨b, i, none⟩ = some y → (W.setCell ⟨b, i, none⟩ x).cell? ⟨b, i, none⟩ = some x := fun W i x y c => (World.cell?_setCell_same _ _ (h := c) _)
  have other : ∀ (W : World) (i j : Nat) (x y : Value), i ≠ j → W.cell? ⟨b, j, none⟩ = some y → (W.setCell ⟨b, i, none⟩ x).cell? ⟨b, j, none⟩ = some y := fun W i j x y n c => by
    rw [World.cell?_setCell_other (h := by intro k; injection k with _ k2 _; exact n k2)]; exact c
  refine ⟨?_, ?_, ?_, ?_, ?_⟩
  · exact other _ _ _ _ _ (by decide) (other _ _ _ _ _ (by decide) (other _ _ _ _ _ (by decide) (other _ _ _ _ _ (by decide) (same _ _ _ _ d0))))
  · exact other _ _ _ _ _ (by decide) (other _ _ _ _ _ (by decide) (other _ _ _ _ _ (by decide) (same _ _ _ _ (other _ _ _ _ _ (by decide) d1))))
  · exact other _ _ _ _ _ (by decide) (other _ _ _ _ _ (by decide) (same _ _ _ _ (other _ _ _ _ _ (by decide) (other _ _ _ _ _ (by decide) d2))))
  · exact other _ _ _ _ _ (by decide) (same _ _ _ _ (other _ _ _ _ _ (by decide) (other _ _ _ _ _ (by decide) (other _ _ _ _ _ (by decide) d3))))
  · exact same _ _ _ _ (other _ _ _ _ _ (by decide) (other _ _ _ _ _ (by decide) (other _ _ _ _ _ (by decide) (other _ _ _ _ _ (by decide) d4))))

/-- A cell of another block reads as it did. -/
theorem away5 {w : World} {b : Nat} {x0 x1 x2 x3 x4 v : Value} {a : Addr} (h : a.block ≠ b) (c : w.cell? a = some v) : (((((w.setCell ⟨b, 0, none⟩ x0).setCell ⟨b, 1, none⟩ x1).setCell ⟨b, 2, none⟩ x2).setCell ⟨b, 3, none⟩ x3).setCell ⟨b, 4, none⟩ x4).cell? a = some v := by
  rw [World.cell?_setCell_other (h := by intro k; exact h (by rw [← k])), World.cell?_setCell_other (h := by intro k; exact h (by rw [← k])), World.cell?_setCell_other (h := by intro k; exact h (by rw [← k])), World.cell?_setCell_other (h := by intro k; exact h (by rw [← k])), World.cell?_setCell_other (h := by intro k; exact h (by rw [← k]))]
  exact c

theorem bel5 {w0 w : World} (h : Bel w0 w) {b : Nat} (hb : w0.heap.size ≤ b) (x0 x1 x2 x3 x4 : Value) : Bel w0 (((((w.setCell ⟨b, 0, none⟩ x0).setCell ⟨b, 1, none⟩ x1).setCell ⟨b, 2, none⟩ x2).setCell ⟨b, 3, none⟩ x3).setCell ⟨b, 4, none⟩ x4) :=
  ((((h.setCell hb _).setCell hb _).setCell hb _).setCell hb _).setCell hb _

theorem free5 {w : World} {b : Nat} {x0 x1 x2 x3 x4 : Value} {a : Addr} (f : w.frozen? a = false) : (((((w.setCell ⟨b, 0, none⟩ x0).setCell ⟨b, 1, none⟩ x1).setCell ⟨b, 2, none⟩ x2).setCell ⟨b, 3, none⟩ x3).setCell ⟨b, 4, none⟩ x4).frozen? a = false := by simp [f]

/-- A decoder that is handed back out of a variable. -/
theorem results_dec2 {fn : Func} {t u : Tmp} (hf : fn.results = #[.cell t 76, .tmp u]) {tmps : Array Value} {b : Nat} {w : World} {x0 x1 x2 x3 x4 v : Value} (ht : tmps[t]?.getD undef = .pointer (some ⟨b, 0, none⟩)) (hv : tmps[u]?.getD undef = v)
    (c : w.cell? ⟨b, 0, none⟩ = some x0 ∧ w.cell? ⟨b, 1, none⟩ = some x1 ∧ w.cell? ⟨b, 2, none⟩ = some x2 ∧ w.cell? ⟨b, 3, none⟩ = some x3 ∧ w.cell? ⟨b, 4, none⟩ = some x4) : (results fn tmps).run Tryz.prog w = .ok (.tuple #[.agg #[x0, x1, x2, x3, x4], v]) w := by
  obtain ⟨c0, c1, c2, c3, c4⟩ := c
  simp [results, hf, ht, hv, go_sem, c0, c1, c2, c3, c4]

theorem results_dec3 {fn : Func} {t u v : Tmp} (hf : fn.results = #[.cell t 76, .tmp u, .tmp v]) {tmps : Array Value} {b : Nat} {w : World} {x0 x1 x2 x3 x4 y z : Value} (ht : tmps[t]?.getD undef = .pointer (some ⟨b, 0, none⟩)) (hu : tmps[u]?.getD undef = y) (hv : tmps[v]?.getD undef = z)
    (c : w.cell? ⟨b, 0, none⟩ = some x0 ∧ w.cell? ⟨b, 1, none⟩ = some x1 ∧ w.cell? ⟨b, 2, none⟩ = some x2 ∧ w.cell? ⟨b, 3, none⟩ = some x3 ∧ w.cell? ⟨b, 4, none⟩ = some x4) : (results fn tmps).run Tryz.prog w = .ok (.tuple #[.agg #[x0, x1, x2, x3, x4], y, z]) w := by
  obtain ⟨c0, c1, c2, c3, c4⟩ := c
  simp [results, hf, ht, hu, hv, go_sem, c0, c1, c2, c3, c4]

set_option maxHeartbeats 400000 in
theorem left_ok (l h x a : Int) (s : ByteArray) (w : World) :
    Calls Tryz.prog 117 #[.agg #[.int .i64 l, .int .i64 h, .int .i64 x, .string s, .int .i64 a]] w fun e w' => e = .returned (.agg #[.int .i64 l, .int .i64 h]) ∧ Bel w w' := by
  go_enter Tryz.func117, Tryz.ntmps117
  go_wp2
  refine bodyPost_ret (v := .agg #[.int .i64 l, .int .i64 h]) (by simp [results, Tryz.results117, go_sem]) rfl ⟨rfl, ?_⟩
  exact ((Bel.refl _).alloc _).alloc _

/-- What May answers. -/
def dmayB (l h x : Int) (s : ByteArray) (a : Int) : Bool := decide ((0 ≤ l ∧ h ≤ 4294967295 ∧ l / 16777216 < h / 16777216) ∧ l ≤ x ∧ x ≤ h ∧ s.size ≤ 65536 ∧ 4 ≤ a ∧ a ≤ 65544)

set_option maxHeartbeats 1000000 in
theorem may_ok (l h x a : Int) (s : ByteArray) (hs : s.size ≤ maxLen) (w : World) :
    Calls Tryz.prog 116 #[.agg #[.int .i64 l, .int .i64 h, .int .i64 x, .string s, .int .i64 a]] w fun e w' => e = .returned (.bool (dmayB l h x s a)) ∧ Bel w w' := by
  unfold maxLen at hs
  by_cases hb : Between l h
  · by_cases c0 : l ≤ x
    · by_cases c1 : x ≤ h
      · by_cases c2 : s.size ≤ 65536
        · by_cases c3 : 4 ≤ a
          · by_cases c4 : a ≤ 65544
            · have e : dmayB l h x s a = true := decide_eq_true ⟨hb, c0, c1, c2, c3, c4⟩
              rw [e]
              have d0 : decide (l ≤ x) = true := by simp; omega
              have d1 : decide (x ≤ h) = true := by simp; omega
              have d2 : decide ((s.size : Int) ≤ 65536) = true := by simp; omega
              have d3 : decide (4 ≤ a) = true := by simp; omega
              have d4 : decide (a ≤ 65544) = true := by simp; omega
              have HB : Hid (Between l h) := hb
              clear hb e c0 c1 c2 c3 c4
              go_enter Tryz.func116, Tryz.ntmps116
              go_wp2_with fail
              refine (left_ok l h x a s _).mono ?_
              rintro e w1 ⟨rfl, b1⟩
              go_wp2_with fail
              refine (span_may_yes l h HB.out _).mono ?_
              rintro e w2 ⟨rfl, b2⟩
              have b := b1.trans b2
              have c0 : w2.cell? ⟨w.heap.size, 0, none⟩ = some (.int .i64 l) := b.keep (by simp)
              have c1 : w2.cell? ⟨w.heap.size, 1, none⟩ = some (.int .i64 h) := b.keep (by simp)
              have c2 : w2.cell? ⟨w.heap.size, 2, none⟩ = some (.int .i64 x) := b.keep (by simp)
              have c3 : w2.cell? ⟨w.heap.size, 3, none⟩ = some (.string s) := b.keep (by simp)
              have c4 : w2.cell? ⟨w.heap.size, 4, none⟩ = some (.int .i64 a) := b.keep (by simp)
              have HB2 : Hid (Bel w w2) := Bel.trans ((Bel.refl _).alloc _) b
              clear b b1 b2
              go_wp2
              go_ret
              exact ⟨rfl, HB2.out⟩
            · have e : dmayB l h x s a = false := decide_eq_false fun k => c4 k.2.2.2.2.2
              rw [e]
              have d0 : decide (l ≤ x) = true := by simp; omega
              have d1 : decide (x ≤ h) = true := by simp; omega
              have d2 : decide ((s.size : Int) ≤ 65536) = true := by simp; omega
              have d3 : decide (4 ≤ a) = true := by simp; omega
              have d4 : decide (a ≤ 65544) = false := by simp; omega
              have HB : Hid (Between l h) := hb
              clear hb e c0 c1 c2 c3 c4
              go_enter Tryz.func116, Tryz.ntmps116
              go_wp2_with fail
              refine (left_ok l h x a s _).mono ?_
              rintro e w1 ⟨rfl, b1⟩
              go_wp2_with fail
              refine (span_may_yes l h HB.out _).mono ?_
              rintro e w2 ⟨rfl, b2⟩
              have b := b1.trans b2
              have c0 : w2.cell? ⟨w.heap.size, 0, none⟩ = some (.int .i64 l) := b.keep (by simp)
              have c1 : w2.cell? ⟨w.heap.size, 1, none⟩ = some (.int .i64 h) := b.keep (by simp)
              have c2 : w2.cell? ⟨w.heap.size, 2, none⟩ = some (.int .i64 x) := b.keep (by simp)
              have c3 : w2.cell? ⟨w.heap.size, 3, none⟩ = some (.string s) := b.keep (by simp)
              have c4 : w2.cell? ⟨w.heap.size, 4, none⟩ = some (.int .i64 a) := b.keep (by simp)
              have HB2 : Hid (Bel w w2) := Bel.trans ((Bel.refl _).alloc _) b
              clear b b1 b2
              go_wp2
              go_ret
              exact ⟨rfl, HB2.out⟩
          · have e : dmayB l h x s a = false := decide_eq_false fun k => c3 k.2.2.2.2.1
            rw [e]
            have d0 : decide (l ≤ x) = true := by simp; omega
            have d1 : decide (x ≤ h) = true := by simp; omega
            have d2 : decide ((s.size : Int) ≤ 65536) = true := by simp; omega
            have d3 : decide (4 ≤ a) = false := by simp; omega
            have HB : Hid (Between l h) := hb
            clear hb e c0 c1 c2 c3
            go_enter Tryz.func116, Tryz.ntmps116
            go_wp2_with fail
            refine (left_ok l h x a s _).mono ?_
            rintro e w1 ⟨rfl, b1⟩
            go_wp2_with fail
            refine (span_may_yes l h HB.out _).mono ?_
            rintro e w2 ⟨rfl, b2⟩
            have b := b1.trans b2
            have c0 : w2.cell? ⟨w.heap.size, 0, none⟩ = some (.int .i64 l) := b.keep (by simp)
            have c1 : w2.cell? ⟨w.heap.size, 1, none⟩ = some (.int .i64 h) := b.keep (by simp)
            have c2 : w2.cell? ⟨w.heap.size, 2, none⟩ = some (.int .i64 x) := b.keep (by simp)
            have c3 : w2.cell? ⟨w.heap.size, 3, none⟩ = some (.string s) := b.keep (by simp)
            have c4 : w2.cell? ⟨w.heap.size, 4, none⟩ = some (.int .i64 a) := b.keep (by simp)
            have HB2 : Hid (Bel w w2) := Bel.trans ((Bel.refl _).alloc _) b
            clear b b1 b2
            go_wp2
            go_ret
            exact ⟨rfl, HB2.out⟩
        · have e : dmayB l h x s a = false := decide_eq_false fun k => c2 k.2.2.2.1
          rw [e]
          have d0 : decide (l ≤ x) = true := by simp; omega
          have d1 : decide (x ≤ h) = true := by simp; omega
          have d2 : decide ((s.size : Int) ≤ 65536) = false := by simp; omega
          have HB : Hid (Between l h) := hb
          clear hb e c0 c1 c2
          go_enter Tryz.func116, Tryz.ntmps116
          go_wp2_with fail
          refine (left_ok l h x a s _).mono ?_
          rintro e w1 ⟨rfl, b1⟩
          go_wp2_with fail
          refine (span_may_yes l h HB.out _).mono ?_
          rintro e w2 ⟨rfl, b2⟩
          have b := b1.trans b2
          have c0 : w2.cell? ⟨w.heap.size, 0, none⟩ = some (.int .i64 l) := b.keep (by simp)
          have c1 : w2.cell? ⟨w.heap.size, 1, none⟩ = some (.int .i64 h) := b.keep (by simp)
          have c2 : w2.cell? ⟨w.heap.size, 2, none⟩ = some (.int .i64 x) := b.keep (by simp)
          have c3 : w2.cell? ⟨w.heap.size, 3, none⟩ = some (.string s) := b.keep (by simp)
          have c4 : w2.cell? ⟨w.heap.size, 4, none⟩ = some (.int .i64 a) := b.keep (by simp)
          have HB2 : Hid (Bel w w2) := Bel.trans ((Bel.refl _).alloc _) b
          clear b b1 b2
          go_wp2
          go_ret
          exact ⟨rfl, HB2.out⟩
      · have e : dmayB l h x s a = false := decide_eq_false fun k => c1 k.2.2.1
        rw [e]
        have d0 : decide (l ≤ x) = true := by simp; omega
        have d1 : decide (x ≤ h) = false := by simp; omega
        have HB : Hid (Between l h) := hb
        clear hb e c0 c1
        go_enter Tryz.func116, Tryz.ntmps116
        go_wp2_with fail
        refine (left_ok l h x a s _).mono ?_
        rintro e w1 ⟨rfl, b1⟩
        go_wp2_with fail
        refine (span_may_yes l h HB.out _).mono ?_
        rintro e w2 ⟨rfl, b2⟩
        have b := b1.trans b2
        have c0 : w2.cell? ⟨w.heap.size, 0, none⟩ = some (.int .i64 l) := b.keep (by simp)
        have c1 : w2.cell? ⟨w.heap.size, 1, none⟩ = some (.int .i64 h) := b.keep (by simp)
        have c2 : w2.cell? ⟨w.heap.size, 2, none⟩ = some (.int .i64 x) := b.keep (by simp)
        have c3 : w2.cell? ⟨w.heap.size, 3, none⟩ = some (.string s) := b.keep (by simp)
        have c4 : w2.cell? ⟨w.heap.size, 4, none⟩ = some (.int .i64 a) := b.keep (by simp)
        have HB2 : Hid (Bel w w2) := Bel.trans ((Bel.refl _).alloc _) b
        clear b b1 b2
        go_wp2
        go_ret
        exact ⟨rfl, HB2.out⟩
    · have e : dmayB l h x s a = false := decide_eq_false fun k => c0 k.2.1
      rw [e]
      have d0 : decide (l ≤ x) = false := by simp; omega
      have HB : Hid (Between l h) := hb
      clear hb e c0
      go_enter Tryz.func116, Tryz.ntmps116
      go_wp2_with fail
      refine (left_ok l h x a s _).mono ?_
      rintro e w1 ⟨rfl, b1⟩
      go_wp2_with fail
      refine (span_may_yes l h HB.out _).mono ?_
      rintro e w2 ⟨rfl, b2⟩
      have b := b1.trans b2
      have c0 : w2.cell? ⟨w.heap.size, 0, none⟩ = some (.int .i64 l) := b.keep (by simp)
      have c1 : w2.cell? ⟨w.heap.size, 1, none⟩ = some (.int .i64 h) := b.keep (by simp)
      have c2 : w2.cell? ⟨w.heap.size, 2, none⟩ = some (.int .i64 x) := b.keep (by simp)
      have c3 : w2.cell? ⟨w.heap.size, 3, none⟩ = some (.string s) := b.keep (by simp)
      have c4 : w2.cell? ⟨w.heap.size, 4, none⟩ = some (.int .i64 a) := b.keep (by simp)
      have HB2 : Hid (Bel w w2) := Bel.trans ((Bel.refl _).alloc _) b
      clear b b1 b2
      go_wp2
      go_ret
      exact ⟨rfl, HB2.out⟩
  · have e : dmayB l h x s a = false := decide_eq_false fun k => hb k.1
    rw [e]
    have HB : Hid (¬ Between l h) := hb
    clear hb e
    go_enter Tryz.func116, Tryz.ntmps116
    go_wp2_with fail
    refine (left_ok l h x a s _).mono ?_
    rintro e w1 ⟨rfl, b1⟩
    go_wp2_with fail
    refine (span_may_no l h HB.out _).mono ?_
    rintro e w2 ⟨rfl, b2⟩
    have HB2 : Hid (Bel w w2) := Bel.trans ((Bel.refl _).alloc _) (b1.trans b2)
    clear b1 b2
    go_wp2
    go_ret
    exact ⟨rfl, HB2.out⟩

set_option maxHeartbeats 1000000 in
theorem decoderMay_ok (l h x a : Int) (s : ByteArray) (hs : s.size ≤ maxLen) (w : World) :
    Calls Tryz.prog 68 #[.agg #[.int .i64 l, .int .i64 h, .int .i64 x, .string s, .int .i64 a]] w fun e w' => e = .returned (.bool (dmayB l h x s a)) ∧ Bel w w' := by
  unfold maxLen at hs
  have q1 := between_ok l h
  have q2 := upTo_ok x l h
  have q3 := upTo_ok a 4 65544
  cases hb : betweenB l h with
  | false =>
    have e : dmayB l h x s a = false := decide_eq_false fun k => of_decide_eq_false hb k.1
    rw [e]
    rw [hb] at q1
    have Q1 : Hid (∀ w, Calls Tryz.prog 96 #[.int .i64 l, .int .i64 h] w fun e w' => e = .returned (.bool false) ∧ w' = w) := q1
    clear q1 q2 q3 e hb
    go_enter Tryz.func68, Tryz.ntmps68
    go_wp2_with fail
    refine (Q1.out _).mono ?_
    rintro e w1 ⟨rfl, rfl⟩
    go_wp2
    go_ret
    exact ⟨rfl, (Bel.refl _).alloc _⟩
  | true =>
   cases hx : decide (l ≤ x ∧ x ≤ h) with
   | false =>
    have e : dmayB l h x s a = false := decide_eq_false fun k => of_decide_eq_false hx ⟨k.2.1, k.2.2.1⟩
    rw [e]
    rw [hb] at q1
    rw [hx] at q2
    have Q1 : Hid (∀ w, Calls Tryz.prog 96 #[.int .i64 l, .int .i64 h] w fun e w' => e = .returned (.bool true) ∧ w' = w) := q1
    have Q2 : Hid (∀ w, Calls Tryz.prog 51 #[.int .i64 x, .int .i64 l, .int .i64 h] w fun e w' => e = .returned (.bool false) ∧ w' = w) := q2
    clear q1 q2 q3 e hb hx
    go_enter Tryz.func68, Tryz.ntmps68
    go_wp2_with fail
    refine (Q1.out _).mono ?_
    rintro e w1 ⟨rfl, rfl⟩
    go_wp2_with fail
    refine (Q2.out _).mono ?_
    rintro e w1 ⟨rfl, rfl⟩
    go_wp2
    go_ret
    exact ⟨rfl, (Bel.refl _).alloc _⟩
   | true =>
    by_cases hz : s.size ≤ 65536
    · cases ha : decide (4 ≤ a ∧ a ≤ 65544) with
      | false =>
        have e : dmayB l h x s a = false := decide_eq_false fun k => of_decide_eq_false ha ⟨k.2.2.2.2.1, k.2.2.2.2.2⟩
        rw [e]
        have hz' : decide ((s.size : Int) ≤ 65536) = true := by simp; omega
        rw [hb] at q1
        rw [hx] at q2
        rw [ha] at q3
        have Q1 : Hid (∀ w, Calls Tryz.prog 96 #[.int .i64 l, .int .i64 h] w fun e w' => e = .returned (.bool true) ∧ w' = w) := q1
        have Q2 : Hid (∀ w, Calls Tryz.prog 51 #[.int .i64 x, .int .i64 l, .int .i64 h] w fun e w' => e = .returned (.bool true) ∧ w' = w) := q2
        have Q3 : Hid (∀ w, Calls Tryz.prog 51 #[.int .i64 a, .int .i64 4, .int .i64 65544] w fun e w' => e = .returned (.bool false) ∧ w' = w) := q3
        clear q1 q2 q3 e hb hx hz ha
        go_enter Tryz.func68, Tryz.ntmps68
        go_wp2_with fail
        refine (Q1.out _).mono ?_
        rintro e w1 ⟨rfl, rfl⟩
        go_wp2_with fail
        refine (Q2.out _).mono ?_
        rintro e w1 ⟨rfl, rfl⟩
        go_wp2_with fail
        refine (Q3.out _).mono ?_
        rintro e w1 ⟨rfl, rfl⟩
        go_wp2
        go_ret
        exact ⟨rfl, (Bel.refl _).alloc _⟩
      | true =>
        have e : dmayB l h x s a = true := decide_eq_true ⟨of_decide_eq_true hb, (of_decide_eq_true hx).1, (of_decide_eq_true hx).2, hz, (of_decide_eq_true ha).1, (of_decide_eq_true ha).2⟩
        rw [e]
        have hz' : decide ((s.size : Int) ≤ 65536) = true := by simp; omega
        rw [hb] at q1
        rw [hx] at q2
        rw [ha] at q3
        have Q1 : Hid (∀ w, Calls Tryz.prog 96 #[.int .i64 l, .int .i64 h] w fun e w' => e = .returned (.bool true) ∧ w' = w) := q1
        have Q2 : Hid (∀ w, Calls Tryz.prog 51 #[.int .i64 x, .int .i64 l, .int .i64 h] w fun e w' => e = .returned (.bool true) ∧ w' = w) := q2
        have Q3 : Hid (∀ w, Calls Tryz.prog 51 #[.int .i64 a, .int .i64 4, .int .i64 65544] w fun e w' => e = .returned (.bool true) ∧ w' = w) := q3
        clear q1 q2 q3 e hb hx hz ha
        go_enter Tryz.func68, Tryz.ntmps68
        go_wp2_with fail
        refine (Q1.out _).mono ?_
        rintro e w1 ⟨rfl, rfl⟩
        go_wp2_with fail
        refine (Q2.out _).mono ?_
        rintro e w1 ⟨rfl, rfl⟩
        go_wp2_with fail
        refine (Q3.out _).mono ?_
        rintro e w1 ⟨rfl, rfl⟩
        go_wp2
        go_ret
        exact ⟨rfl, (Bel.refl _).alloc _⟩
    · have e : dmayB l h x s a = false := decide_eq_false fun k => hz k.2.2.2.1
      rw [e]
      have hz' : decide ((s.size : Int) ≤ 65536) = false := by simp; omega
      rw [hb] at q1
      rw [hx] at q2
      have Q1 : Hid (∀ w, Calls Tryz.prog 96 #[.int .i64 l, .int .i64 h] w fun e w' => e = .returned (.bool true) ∧ w' = w) := q1
      have Q2 : Hid (∀ w, Calls Tryz.prog 51 #[.int .i64 x, .int .i64 l, .int .i64 h] w fun e w' => e = .returned (.bool true) ∧ w' = w) := q2
      clear q1 q2 q3 e hb hx hz
      go_enter Tryz.func68, Tryz.ntmps68
      go_wp2_with fail
      refine (Q1.out _).mono ?_
      rintro e w1 ⟨rfl, rfl⟩
      go_wp2_with fail
      refine (Q2.out _).mono ?_
      rintro e w1 ⟨rfl, rfl⟩
      go_wp2
      go_ret
      exact ⟨rfl, (Bel.refl _).alloc _⟩

theorem idx (s : ByteArray) (k : Nat) (h : k < s.size) (w : World) :
    (Instr.index 9 (.string s) (.int .i64 (k : Int))).run Tryz.prog w = .ok (.int .u8 (bz s k)) w := by
  rw [run_index_string (P := Tryz.prog) w 9 s .i64 (k : Int) Tryz.underlying9]
  have hb : 0 ≤ (k : Int) ∧ (k : Int) < s.size := by omega
  rw [dif_pos hb]
  have hl : k < s.data.toList.length := by simpa using h
  unfold bz
  rw [List.getD_eq_getElem?_getD, List.getElem?_eq_getElem hl]
  rfl

set_option maxHeartbeats 400000 in
theorem byteAt_ok (s : ByteArray) (k : Nat) (hk : k ≤ 1000000) (hs : s.size ≤ maxLen) (w : World) :
    Calls Tryz.prog 98 #[.string s, .int .i64 (k : Int)] w fun e w' => e = .returned (.int .u8 (bz s k)) ∧ w' = w := by
  unfold maxLen at hs
  by_cases h : k < s.size
  · have hi := idx s k h
    have hd : decide ((k : Int) < (s.size : Int)) = true := by simp; omega
    generalize bz s k = b at *
    go_enter Tryz.func98, Tryz.ntmps98
    go_wp2
    go_ret
    exact ⟨rfl, rfl⟩
  · have hd : decide ((k : Int) < (s.size : Int)) = false := by simp; omega
    rw [bz_out s k (by omega)]
    go_enter Tryz.func98, Tryz.ntmps98
    go_wp2
    go_ret
    exact ⟨rfl, rfl⟩

set_option maxHeartbeats 400000 in
theorem rbyteAt_ok (s : ByteArray) (k : Nat) (hk : k ≤ 1000000) (hs : s.size ≤ maxLen) (w : World) :
    Calls Tryz.prog 67 #[.string s, .int .i64 (k : Int)] w fun e w' => e = .returned (.int .i64 (bz s k)) ∧ w' = w := by
  unfold maxLen at hs
  by_cases h : k < s.size
  · have hi := idx s k h
    have hd : decide ((s.size : Int) ≤ (k : Int)) = false := by simp; omega
    have hb := bz_bounds s k
    obtain ⟨hb0, hb1⟩ := hb
    generalize bz s k = b at *
    go_enter Tryz.func67, Tryz.ntmps67
    go_wp2
    go_ret
    exact ⟨rfl, rfl⟩
  · have hd : decide ((s.size : Int) ≤ (k : Int)) = true := by simp; omega
    rw [bz_out s k (by omega)]
    go_enter Tryz.func67, Tryz.ntmps67
    go_wp2
    go_ret
    exact ⟨rfl, rfl⟩

end Go.Proofs.YtoldedbfoechlaaGreatDoor.Deco
