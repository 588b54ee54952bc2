/-
  The contracts of package span and of coder's small functions. Conditions: numbers within what each asks for.
-/
import Derived.Test.YtoldedbfoechlaaGreatDoorKNum
import Derived.Test.YtoldedbfoechlaaGreatDoorNum
import Derived.Test.YtoldedbfoechlaaGreatDoorRows
import Derived.WalkLawsBesides
import Derived.WalkSpells
import Derived.ProofKit
import Derived.Lib.QuietBelow
import Derived.BigQuiet
import Derived.Deep.RegionHeld3
namespace Go.Proofs.YtoldedbfoechlaaGreatDoor.Coder
open Go.RowKit Go.Proofs.YtoldedbfoechlaaGreatDoor.Num
set_option linter.unusedVariables false

set_option maxHeartbeats 400000 in
theorem left_ok (l h : Int) (s : ByteArray) (w : World) :
    Calls Tryz.prog 84 #[.agg #[.int .i64 l, .int .i64 h, .string s]] w fun e w' => e = .returned (.agg #[.int .i64 l, .int .i64 h]) ∧ Bel w w' := by
  go_enter Tryz.func84, Tryz.ntmps84
  go_wp2
  refine bodyPost_ret (v := .agg #[.int .i64 l, .int .i64 h]) (by simp [results, Tryz.results84, go_sem]) rfl ⟨rfl, ?_⟩
  exact ((Bel.refl _).alloc _).alloc _

set_option maxHeartbeats 400000 in
theorem span_may_yes (l h : Int) (hb : Between l h) (w : World) :
    Calls Tryz.prog 89 #[.agg #[.int .i64 l, .int .i64 h]] w fun e w' => e = .returned (.bool true) ∧ Bel w w' := by
  obtain ⟨h0, h1, h2⟩ := hb
  go_enter Tryz.func89, Tryz.ntmps89
  go_wp2
  go_ret
  exact ⟨rfl, (Bel.refl _).alloc _⟩

set_option maxHeartbeats 400000 in
theorem span_may_no (l h : Int) (hb : ¬ Between l h) (w : World) :
    Calls Tryz.prog 89 #[.agg #[.int .i64 l, .int .i64 h]] w fun e w' => e = .returned (.bool false) ∧ Bel w w' := by
  by_cases h0 : 0 ≤ l
  · by_cases h1 : h ≤ 4294967295
    · have h2 : decide (l / 16777216 < h / 16777216) = false := decide_eq_false fun k => hb ⟨h0, h1, k⟩
      clear hb
      go_enter Tryz.func89, Tryz.ntmps89
      go_wp2
      go_ret
      exact ⟨rfl, (Bel.refl _).alloc _⟩
    · have h3 : decide (h ≤ 4294967295) = false := decide_eq_false h1
      clear hb
      go_enter Tryz.func89, Tryz.ntmps89
      go_wp2
      go_ret
      exact ⟨rfl, (Bel.refl _).alloc _⟩
  · have h3 : decide (0 ≤ l) = false := decide_eq_false h0
    clear hb
    go_enter Tryz.func89, Tryz.ntmps89
    go_wp2
    go_ret
    exact ⟨rfl, (Bel.refl _).alloc _⟩

/-- What May answers. -/
def mayB (l h : Int) (s : ByteArray) : Bool := decide ((0 ≤ l ∧ h ≤ 4294967295 ∧ l / 16777216 < h / 16777216) ∧ s.size ≤ 65536)

set_option maxHeartbeats 400000 in
theorem may_ok (l h : Int) (s : ByteArray) (hs : s.size ≤ maxLen) (w : World) :
    Calls Tryz.prog 50 #[.agg #[.int .i64 l, .int .i64 h, .string s]] w fun e w' => e = .returned (.bool (mayB l h s)) ∧ Bel w w' := by
  unfold maxLen at hs
  by_cases hb : Between l h
  · by_cases hz : s.size ≤ 65536
    · have e : mayB l h s = true := decide_eq_true ⟨hb, hz⟩
      rw [e]
      have hz' : decide ((s.size : Int) ≤ 65536) = true := by simp; omega
      have HB : Hid (Between l h) := hb
      clear hb e
      go_enter Tryz.func50, Tryz.ntmps50
      go_wp2_with fail
      refine (left_ok l h s _).mono ?_
      rintro e w1 ⟨rfl, b1⟩
      have B1 := Bel.trans ((Bel.refl _).alloc _) b1
      have c1 : w1.cell? ⟨w.heap.size, 2, none⟩ = some (.string s) := by rw [b1.cell (by simp)]; simp
      have HB1 : Hid (Bel w w1) := B1
      clear b1 B1
      go_wp2_with fail
      refine (span_may_yes l h HB.out _).mono ?_
      rintro e w2 ⟨rfl, b2⟩
      have c2 : w2.cell? ⟨w.heap.size, 2, none⟩ = some (.string s) := by rw [b2.cell (block_lt_of_cell c1)]; exact c1
      have HB2 : Hid (Bel w w2) := HB1.out.trans b2
      clear b2 c1
      go_wp2
      go_ret
      exact ⟨rfl, HB2.out⟩
    · have e : mayB l h s = false := decide_eq_false fun k => hz k.2
      rw [e]
      have HB : Hid (Between l h) := hb
      have hz' : decide ((s.size : Int) ≤ 65536) = false := by simp; omega
      clear hb e
      go_enter Tryz.func50, Tryz.ntmps50
      go_wp2_with fail
      refine (left_ok l h s _).mono ?_
      rintro e w1 ⟨rfl, b1⟩
      have B1 := Bel.trans ((Bel.refl _).alloc _) b1
      have c1 : w1.cell? ⟨w.heap.size, 2, none⟩ = some (.string s) := by rw [b1.cell (by simp)]; simp
      have HB1 : Hid (Bel w w1) := B1
      clear b1 B1
      go_wp2_with fail
      refine (span_may_yes l h HB.out _).mono ?_
      rintro e w2 ⟨rfl, b2⟩
      have c2 : w2.cell? ⟨w.heap.size, 2, none⟩ = some (.string s) := by rw [b2.cell (block_lt_of_cell c1)]; exact c1
      have HB2 : Hid (Bel w w2) := HB1.out.trans b2
      clear b2 c1
      go_wp2
      go_ret
      exact ⟨rfl, HB2.out⟩
  · have e : mayB l h s = false := decide_eq_false fun k => hb k.1
    rw [e]
    have HB : Hid (¬ Between l h) := hb
    clear hb e
    go_enter Tryz.func50, Tryz.ntmps50
    go_wp2_with fail
    refine (left_ok l h s _).mono ?_
    rintro e w1 ⟨rfl, b1⟩
    have HB1 : Hid (Bel w w1) := Bel.trans ((Bel.refl _).alloc _) b1
    clear b1
    go_wp2_with fail
    refine (span_may_no l h HB.out _).mono ?_
    rintro e w2 ⟨rfl, b2⟩
    have HB2 : Hid (Bel w w2) := HB1.out.trans b2
    clear b2
    go_wp2
    go_ret
    exact ⟨rfl, HB2.out⟩

/-- What isBit, IsChance answer. -/
def bitB (b : Int) : Bool := decide (b = 0 ∨ b = 1)
def chanceB (p : Int) : Bool := decide (1 ≤ p ∧ p ≤ 4095)

set_option maxHeartbeats 400000 in
theorem isBit_ok (b : Int) (w : World) :
    Calls Tryz.prog 82 #[.int .i64 b] w fun e w' => e = .returned (.bool (bitB b)) ∧ w' = w := by
  by_cases h0 : b = 0
  · subst h0
    go_enter Tryz.func82, Tryz.ntmps82
    go_wp2
    go_ret
    exact ⟨rfl, rfl⟩
  · by_cases h1 : b = 1
    · subst h1
      go_enter Tryz.func82, Tryz.ntmps82
      go_wp2
      go_ret
      exact ⟨rfl, rfl⟩
    · have e0 : (b == 0) = false := by simpa using h0
      have e1 : (b == 1) = false := by simpa using h1
      have e : bitB b = false := decide_eq_false fun k => k.elim h0 h1
      rw [e]
      clear e
      go_enter Tryz.func82, Tryz.ntmps82
      go_wp2
      go_ret
      exact ⟨rfl, rfl⟩

set_option maxHeartbeats 400000 in
theorem isChance_ok (p : Int) (w : World) :
    Calls Tryz.prog 83 #[.int .i64 p] w fun e w' => e = .returned (.bool (chanceB p)) ∧ w' = w := by
  by_cases h0 : 1 ≤ p
  · by_cases h1 : p ≤ 4095
    · have e : chanceB p = true := decide_eq_true ⟨h0, h1⟩
      rw [e]
      clear e
      go_enter Tryz.func83, Tryz.ntmps83
      go_wp2
      go_ret
      exact ⟨rfl, rfl⟩
    · have e1 : decide (p ≤ 4095) = false := decide_eq_false h1
      have e : chanceB p = false := decide_eq_false fun k => h1 k.2
      rw [e]
      clear e
      go_enter Tryz.func83, Tryz.ntmps83
      go_wp2
      go_ret
      exact ⟨rfl, rfl⟩
  · have e1 : decide (1 ≤ p) = false := decide_eq_false h0
    have e : chanceB p = false := decide_eq_false fun k => h0 k.1
    rw [e]
    clear e
    go_enter Tryz.func83, Tryz.ntmps83
    go_wp2
    go_ret
    exact ⟨rfl, rfl⟩

set_option maxHeartbeats 400000 in
theorem middle_ok (l h p : Int) (hb : Between l h) (h1 : 1 ≤ p) (h2 : p ≤ 4095) (w : World) :
    Calls Tryz.prog 114 #[.agg #[.int .i64 l, .int .i64 h], .int .i64 p] w fun e w' => e = .returned (.int .i64 (mid l h p)) ∧ Bel w w' := by
  obtain ⟨b0, b1, b2⟩ := hb
  obtain ⟨f1, f2, f3, f4, f5⟩ := mid_facts (h - l) p h1 h2 (by omega) (by omega)
  have hd : (h - l).tdiv 4096 = (h - l) / 4096 := Int.tdiv_eq_ediv_of_nonneg (by omega)
  have hm : (h - l).tmod 4096 = (h - l) % 4096 := Int.tmod_eq_emod_of_nonneg (by omega)
  have hq : ((h - l) % 4096 * p).tdiv 4096 = (h - l) % 4096 * p / 4096 := Int.tdiv_eq_ediv_of_nonneg (by omega)
  go_enter Tryz.func114, Tryz.ntmps114
  go_wp2
  go_ret
  exact ⟨rfl, (Bel.refl _).alloc _⟩

/-- Two cells that are stored, read again. -/
theorem set2 {w : World} {b : Nat} {x y u v : Value} (d0 : w.cell? ⟨b, 0, none⟩ = some u) (d1 : w.cell? ⟨b, 1, none⟩ = some v) :
    (w.setCell ⟨b, 0, none⟩ x).cell? ⟨b, 0, none⟩ = some x ∧ (w.setCell ⟨b, 0, none⟩ x).cell? ⟨b, 1, none⟩ = some v ∧ ((w.setCell ⟨b, 0, none⟩ x).setCell ⟨b, 1, none⟩ y).cell? ⟨b, 1, none⟩ = some y ∧ ((w.setCell ⟨b, 0, none⟩ x).setCell ⟨b, 1, none⟩ y).cell? ⟨b, 0, none⟩ = some x := by
  have e0 : (w.setCell ⟨b, 0, none⟩ x).cell? ⟨b, 0, none⟩ = some x := (World.cell?_setCell_same _ _ (h := d0) _)
  have e1 : (w.setCell ⟨b, 0, none⟩ x).cell? ⟨b, 1, none⟩ = some v := by
    rw [World.cell?_setCell_other (h := by intro k; injection k with _ k2 _; omega)]; exact d1
  refine ⟨e0, e1, (World.cell?_setCell_same _ _ (h := e1) _), ?_⟩
  rw [World.cell?_setCell_other (h := by intro k; injection k with _ k2 _; omega)]; exact e0

theorem set3 {w : World} {b : Nat} {x y z u v t : Value} (d0 : w.cell? ⟨b, 0, none⟩ = some u) (d1 : w.cell? ⟨b, 1, none⟩ = some v) (d2 : w.cell? ⟨b, 2, none⟩ = some t) :
    (((w.setCell ⟨b, 0, none⟩ x).setCell ⟨b, 1, none⟩ y).setCell ⟨b, 2, none⟩ z).cell? ⟨b, 0, none⟩ = some x ∧ (((w.setCell ⟨b, 0, none⟩ x).setCell ⟨b, 1, none⟩ y).setCell ⟨b, 2, none⟩ z).cell? ⟨b, 1, none⟩ = some y ∧ (((w.setCell ⟨b, 0, none⟩ x).setCell ⟨b, 1, none⟩ y).setCell ⟨b, 2, none⟩ z).cell? ⟨b, 2, none⟩ = some z := by
  obtain ⟨_, _, r2, r3⟩ := set2 (x := x) (y := y) d0 d1
  have e2 : ((w.setCell ⟨b, 0, none⟩ x).setCell ⟨b, 1, none⟩ y).cell? ⟨b, 2, none⟩ = some t := by
    rw [World.cell?_setCell_other (h := by intro k; injection k with _ k2 _; omega), World.cell?_setCell_other (h := by intro k; injection k with _ k2 _; omega)]; exact d2
  refine ⟨?_, ?_, (World.cell?_setCell_same _ _ (h := e2) _)⟩
  · rw [World.cell?_setCell_other (h := by intro k; injection k with _ k2 _; omega)]; exact r3
  · rw [World.cell?_setCell_other (h := by intro k; injection k with _ k2 _; omega)]; exact r2

/-- A cell that was there reads as it did. -/
theorem Bel.keep {w w' : World} (h : Bel w w') {a : Addr} {v : Value} (c : w.cell? a = some v) : w'.cell? a = some v := by rw [h.cell (block_lt_of_cell c)]; exact c
theorem Bel.free {w w' : World} (h : Bel w w') {a : Addr} {v : Value} (c : w.cell? a = some v) (f : w.frozen? a = false) : w'.frozen? a = false := by rw [h.frozen (block_lt_of_cell c)]; exact f

/-- A coder that is handed back out of a variable. -/
theorem results_coder {fn : Func} {t : Tmp} (hf : fn.results = #[.cell t 51]) {tmps : Array Value} {b : Nat} {w : World} {x y z : Value} (ht : tmps[t]?.getD undef = .pointer (some ⟨b, 0, none⟩))
    (c0 : w.cell? ⟨b, 0, none⟩ = some x) (c1 : w.cell? ⟨b, 1, none⟩ = some y) (c2 : w.cell? ⟨b, 2, none⟩ = some z) : (results fn tmps).run Tryz.prog w = .ok (.agg #[x, y, z]) w := by
  simp [results, hf, ht, go_sem, c0, c1, c2]

theorem results_coder2 {fn : Func} {t u : Tmp} (hf : fn.results = #[.cell t 51, .tmp u]) {tmps : Array Value} {b : Nat} {w : World} {x y z v : Value} (ht : tmps[t]?.getD undef = .pointer (some ⟨b, 0, none⟩)) (hv : tmps[u]?.getD undef = v)
    (c0 : w.cell? ⟨b, 0, none⟩ = some x) (c1 : w.cell? ⟨b, 1, none⟩ = some y) (c2 : w.cell? ⟨b, 2, none⟩ = some z) : (results fn tmps).run Tryz.prog w = .ok (.tuple #[.agg #[x, y, z], v]) w := by
  simp [results, hf, ht, hv, go_sem, c0, c1, c2]

set_option maxHeartbeats 400000 in
theorem narrow_ok (l h bit p : Int) (hb : Between l h) (h1 : 1 ≤ p) (h2 : p ≤ 4095) (w : World) :
    Calls Tryz.prog 85 #[.agg #[.int .i64 l, .int .i64 h], .int .i64 bit, .int .i64 p] w fun e w' => e = .returned (.agg #[.int .i64 (narrow l h bit p).1, .int .i64 (narrow l h bit p).2]) ∧ Bel w w' := by
  have HB : Hid (Between l h) := hb
  have hm : 0 ≤ mid l h p ∧ mid l h p ≤ 4294967295 := by
    obtain ⟨b0, b1, b2⟩ := hb
    obtain ⟨f1, f2, f3, f4, f5⟩ := mid_facts (h - l) p h1 h2 (by omega) (by omega)
    unfold mid; omega
  obtain ⟨hm0, hm1⟩ := hm
  clear hb
  obtain ⟨m, hmm⟩ : ∃ m, m = mid l h p := ⟨_, rfl⟩
  have hmid := middle_ok l h p HB.out h1 h2
  rw [← hmm] at hm0 hm1 hmid
  have HM : Hid (∀ w, Calls Tryz.prog 114 #[.agg #[.int .i64 l, .int .i64 h], .int .i64 p] w fun e w' => e = .returned (.int .i64 m) ∧ Bel w w') := hmid
  clear hmid
  by_cases hbit : bit = 1
  · subst hbit
    have e : narrow l h 1 p = (l, m) := by rw [narrow, if_pos rfl, hmm]
    rw [e]
    clear e hmm
    go_enter Tryz.func85, Tryz.ntmps85
    go_wp2_with fail
    refine (HM.out _).mono ?_
    rintro e w1 ⟨rfl, b1⟩
    have HB1 : Hid (Bel w w1) := Bel.trans (((Bel.refl _).alloc _).alloc _) b1
    have c0 : w1.cell? ⟨w.heap.size, 0, none⟩ = some (.int .i64 l) := by rw [b1.cell (by simp; omega)]; simp
    have d0 : w1.cell? ⟨w.heap.size + 1, 0, none⟩ = some (.int .i64 0) := by rw [b1.cell (by simp)]; simp
    have d1 : w1.cell? ⟨w.heap.size + 1, 1, none⟩ = some (.int .i64 0) := by rw [b1.cell (by simp)]; simp
    have f0 : w1.frozen? ⟨w.heap.size + 1, 0, none⟩ = false := by rw [b1.frozen (by simp)]; simp
    have f1 : w1.frozen? ⟨w.heap.size + 1, 1, none⟩ = false := by rw [b1.frozen (by simp)]; simp
    clear b1
    go_wp2
    obtain ⟨r0, r1, r2, r3⟩ := set2 (x := .int .i64 l) (y := .int .i64 m) d0 d1
    refine bodyPost_ret (v := .agg #[.int .i64 l, .int .i64 m]) (by simp [results, Tryz.results85, go_sem, r2, r3]) rfl ⟨rfl, ?_⟩
    exact (HB1.out.setCell (by simp) _).setCell (by simp) _
  · have e : narrow l h bit p = (m + 1, h) := by rw [narrow, if_neg hbit, hmm]
    rw [e]
    have hb' : (bit == 1) = false := by simpa using hbit
    clear e hmm
    go_enter Tryz.func85, Tryz.ntmps85
    go_wp2_with fail
    refine (HM.out _).mono ?_
    rintro e w1 ⟨rfl, b1⟩
    have HB1 : Hid (Bel w w1) := Bel.trans (((Bel.refl _).alloc _).alloc _) b1
    have c0 : w1.cell? ⟨w.heap.size, 1, none⟩ = some (.int .i64 h) := by rw [b1.cell (by simp; omega)]; simp
    have d0 : w1.cell? ⟨w.heap.size + 1, 0, none⟩ = some (.int .i64 0) := by rw [b1.cell (by simp)]; simp
    have d1 : w1.cell? ⟨w.heap.size + 1, 1, none⟩ = some (.int .i64 0) := by rw [b1.cell (by simp)]; simp
    have f0 : w1.frozen? ⟨w.heap.size + 1, 0, none⟩ = false := by rw [b1.frozen (by simp)]; simp
    have f1 : w1.frozen? ⟨w.heap.size + 1, 1, none⟩ = false := by rw [b1.frozen (by simp)]; simp
    clear b1
    go_wp2
    obtain ⟨r0, r1, r2, r3⟩ := set2 (x := .int .i64 (m + 1)) (y := .int .i64 h) d0 d1
    refine bodyPost_ret (v := .agg #[.int .i64 (m + 1), .int .i64 h]) (by simp [results, Tryz.results85, go_sem, r2, r3]) rfl ⟨rfl, ?_⟩
    exact (HB1.out.setCell (by simp) _).setCell (by simp) _

set_option maxHeartbeats 400000 in
theorem isSettled_ok (l h : Int) (w : World) :
    Calls Tryz.prog 86 #[.agg #[.int .i64 l, .int .i64 h]] w fun e w' => e = .returned (.bool (l / 16777216 == h / 16777216)) ∧ Bel w w' := by
  go_enter Tryz.func86, Tryz.ntmps86
  go_wp2
  go_ret
  exact ⟨rfl, (Bel.refl _).alloc _⟩

set_option maxHeartbeats 400000 in
theorem settled_ok (l h : Int) (h0 : 0 ≤ l) (h1 : l ≤ 4294967295) (w : World) :
    Calls Tryz.prog 87 #[.agg #[.int .i64 l, .int .i64 h]] w fun e w' => e = .returned (.int .u8 (l / 16777216)) ∧ Bel w w' := by
  go_enter Tryz.func87, Tryz.ntmps87
  go_wp2
  go_ret
  exact ⟨rfl, (Bel.refl _).alloc _⟩

set_option maxHeartbeats 400000 in
theorem push_ok (x b : Int) (h0 : 0 ≤ x) (h1 : x ≤ 4294967295) (hb0 : 0 ≤ b) (hb1 : b ≤ 255) (w : World) :
    Calls Tryz.prog 97 #[.int .i64 x, .int .u8 b] w fun e w' => e = .returned (.int .i64 (x * 256 % 4294967296 + b)) ∧ w' = w := by
  have ha := and32 (x * 256)
  have ho := or8 (x * 256 % 4294967296) b (by omega) (by omega) (by omega) hb0 (by omega)
  go_enter Tryz.func97, Tryz.ntmps97
  go_wp2
  go_ret
  exact ⟨rfl, rfl⟩

set_option maxHeartbeats 1000000 in
theorem up_ok (l h : Int) (h0 : 0 ≤ l) (h1 : l ≤ 4294967295) (k0 : 0 ≤ h) (k1 : h ≤ 4294967295) (w : World) :
    Calls Tryz.prog 88 #[.agg #[.int .i64 l, .int .i64 h]] w fun e w' => e = .returned (.agg #[.int .i64 (l * 256 % 4294967296), .int .i64 (h * 256 % 4294967296 + 255)]) ∧ Bel w w' := by
  have P1 := push_ok l 0 h0 h1 (by omega) (by omega)
  have P2 := push_ok h 255 k0 k1 (by omega) (by omega)
  rw [Int.add_zero] at P1
  generalize l * 256 % 4294967296 = x at *
  generalize h * 256 % 4294967296 + 255 = y at *
  have Q1 : Hid (∀ w, Calls Tryz.prog 97 #[.int .i64 l, .int .u8 0] w fun e w' => e = .returned (.int .i64 x) ∧ w' = w) := P1
  have Q2 : Hid (∀ w, Calls Tryz.prog 97 #[.int .i64 h, .int .u8 255] w fun e w' => e = .returned (.int .i64 y) ∧ w' = w) := P2
  clear P1 P2
  go_enter Tryz.func88, Tryz.ntmps88
  go_wp2
  go_region_held3 (fun w' => w'.cell? ⟨w.heap.size, 0, none⟩ = some (.int .i64 l) ∧ w'.cell? ⟨w.heap.size, 1, none⟩ = some (.int .i64 h)) (go_keep)
    (first | (go_at_call 97; with_reducible refine (Q1.out _).mono ?_; rintro e w' ⟨rfl, rfl⟩) | (go_at_call 97; with_reducible refine (Q2.out _).mono ?_; rintro e w' ⟨rfl, rfl⟩))
  all_goals go_wp2
  all_goals (refine bodyPost_ret (v := .agg #[.int .i64 x, .int .i64 y]) (by simp [results, Tryz.results88, go_sem]) rfl ⟨rfl, ?_⟩)
  all_goals exact (((Bel.refl _).alloc _).alloc _).drew

set_option maxHeartbeats 400000 in
theorem whole_ok (w : World) :
    Calls Tryz.prog 43 #[] w fun e w' => e = .returned (.agg #[.int .i64 0, .int .i64 4294967295]) ∧ Bel w w' := by
  go_enter Tryz.func43, Tryz.ntmps43
  go_wp2
  refine bodyPost_ret (v := .agg #[.int .i64 0, .int .i64 4294967295]) (by simp [results, Tryz.results43, go_sem]) rfl ⟨rfl, ?_⟩
  exact (Bel.refl _).alloc _

set_option maxHeartbeats 400000 in
theorem new_ok (w : World) :
    Calls Tryz.prog 19 #[] w fun e w' => e = .returned (.agg #[.int .i64 0, .int .i64 4294967295, .string ⟨#[]⟩]) ∧ Bel w w' := by
  go_enter Tryz.func19, Tryz.ntmps19
  go_wp2_with fail
  refine (whole_ok _).mono ?_
  rintro e w1 ⟨rfl, b1⟩
  have d0 : w1.cell? ⟨w.heap.size, 0, none⟩ = some (.int .i64 0) := by rw [b1.cell (by simp)]; simp
  have d1 : w1.cell? ⟨w.heap.size, 1, none⟩ = some (.int .i64 0) := by rw [b1.cell (by simp)]; simp
  have d2 : w1.cell? ⟨w.heap.size, 2, none⟩ = some (.string ⟨#[]⟩) := by rw [b1.cell (by simp)]; simp
  have f0 : w1.frozen? ⟨w.heap.size, 0, none⟩ = false := by rw [b1.frozen (by simp)]; simp
  have f1 : w1.frozen? ⟨w.heap.size, 1, none⟩ = false := by rw [b1.frozen (by simp)]; simp
  have f2 : w1.frozen? ⟨w.heap.size, 2, none⟩ = false := by rw [b1.frozen (by simp)]; simp
  have hlt : w.heap.size < w1.heap.size := block_lt_of_cell d0
  have HB1 : Hid (Bel w w1) := Bel.trans ((Bel.refl _).alloc _) b1
  clear b1
  go_wp2
  obtain ⟨r0, r1, r2⟩ := set3 (x := .int .i64 0) (y := .int .i64 4294967295) (z := .string ⟨#[]⟩) d0 d1 d2
  have k0 := ((Bel.refl _).alloc (.cells #[.int .i64 0, .int .i64 4294967295] 85)).keep r0
  have k1 := ((Bel.refl _).alloc (.cells #[.int .i64 0, .int .i64 4294967295] 85)).keep r1
  have k2 := ((Bel.refl _).alloc (.cells #[.int .i64 0, .int .i64 4294967295] 85)).keep r2
  refine bodyPost_ret (v := .agg #[.int .i64 0, .int .i64 4294967295, .string ⟨#[]⟩]) (results_coder Tryz.results19 rfl k0 k1 k2) rfl ⟨rfl, ?_⟩
  exact (((HB1.out.setCell (Nat.le_refl _) _).setCell (Nat.le_refl _) _).setCell (Nat.le_refl _) _).alloc _

end Go.Proofs.YtoldedbfoechlaaGreatDoor.Coder
