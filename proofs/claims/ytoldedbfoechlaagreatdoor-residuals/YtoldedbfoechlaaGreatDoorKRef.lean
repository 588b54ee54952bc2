/-
  The contracts of the reference's small functions for coders. Conditions: numbers within what each asks for.
-/
import Derived.Test.YtoldedbfoechlaaGreatDoorKEnd
namespace Go.Proofs.YtoldedbfoechlaaGreatDoor.Coder
open Go.RowKit Go.Proofs.YtoldedbfoechlaaGreatDoor.Num
set_option linter.unusedVariables false

set_option maxHeartbeats 400000 in
theorem upTo_ok (x a b : Int) (w : World) :
    Calls Tryz.prog 51 #[.int .i64 x, .int .i64 a, .int .i64 b] w fun e w' => e = .returned (.bool (decide (a ≤ x ∧ x ≤ b))) ∧ w' = w := by
  by_cases h0 : a ≤ x
  · by_cases h1 : x ≤ b
    · have e : decide (a ≤ x ∧ x ≤ b) = true := decide_eq_true ⟨h0, h1⟩
      rw [e]
      clear e
      go_enter Tryz.func51, Tryz.ntmps51
      go_wp2
      go_ret
      exact ⟨rfl, rfl⟩
    · have e1 : decide (x ≤ b) = false := decide_eq_false h1
      have e : decide (a ≤ x ∧ x ≤ b) = false := decide_eq_false fun k => h1 k.2
      rw [e]
      clear e
      go_enter Tryz.func51, Tryz.ntmps51
      go_wp2
      go_ret
      exact ⟨rfl, rfl⟩
  · have e1 : decide (a ≤ x) = false := decide_eq_false h0
    have e : decide (a ≤ x ∧ x ≤ b) = false := decide_eq_false fun k => h0 k.1
    rw [e]
    clear e
    go_enter Tryz.func51, Tryz.ntmps51
    go_wp2
    go_ret
    exact ⟨rfl, rfl⟩

def wordB (x : Int) : Bool := decide (0 ≤ x ∧ x ≤ 4294967295)

set_option maxHeartbeats 400000 in
theorem word_ok (x : Int) (w : World) :
    Calls Tryz.prog 115 #[.int .i64 x] w fun e w' => e = .returned (.bool (wordB x)) ∧ w' = w := by
  obtain ⟨b, hb⟩ : ∃ b, b = wordB x := ⟨_, rfl⟩
  have q : Hid (∀ w, Calls Tryz.prog 51 #[.int .i64 x, .int .i64 0, .int .i64 4294967295] w fun e w' => e = .returned (.bool b) ∧ w' = w) := by
    show ∀ w, _
    rw [hb]
    exact upTo_ok x 0 4294967295
  rw [← hb]
  clear hb
  go_enter Tryz.func115, Tryz.ntmps115
  go_wp2_with fail
  refine (q.out _).mono ?_
  rintro e w1 ⟨rfl, rfl⟩
  go_wp2
  go_ret
  exact ⟨rfl, rfl⟩

set_option maxHeartbeats 400000 in
theorem rchance_ok (x : Int) (w : World) :
    Calls Tryz.prog 58 #[.int .i64 x] w fun e w' => e = .returned (.bool (chanceB x)) ∧ w' = w := by
  obtain ⟨b, hb⟩ : ∃ b, b = chanceB x := ⟨_, rfl⟩
  have q : Hid (∀ w, Calls Tryz.prog 51 #[.int .i64 x, .int .i64 1, .int .i64 4095] w fun e w' => e = .returned (.bool b) ∧ w' = w) := by
    show ∀ w, _
    rw [hb]
    exact upTo_ok x 1 4095
  rw [← hb]
  clear hb
  go_enter Tryz.func58, Tryz.ntmps58
  go_wp2_with fail
  refine (q.out _).mono ?_
  rintro e w1 ⟨rfl, rfl⟩
  go_wp2
  go_ret
  exact ⟨rfl, rfl⟩

set_option maxHeartbeats 400000 in
theorem bitMay_ok (b : Int) (w : World) :
    Calls Tryz.prog 52 #[.int .i64 b] w fun e w' => e = .returned (.bool (bitB b)) ∧ w' = w := by
  by_cases h0 : b = 0
  · subst h0
    go_enter Tryz.func52, Tryz.ntmps52
    go_wp2
    go_ret
    exact ⟨rfl, rfl⟩
  · by_cases h1 : b = 1
    · subst h1
      go_enter Tryz.func52, Tryz.ntmps52
      go_wp2
      go_ret
      exact ⟨rfl, rfl⟩
    · have e0 : (b == 0) = false := by simpa using h0
      have e1 : (b == 1) = false := by simpa using h1
      have e : bitB b = false := decide_eq_false fun k => k.elim h0 h1
      rw [e]
      clear e
      go_enter Tryz.func52, Tryz.ntmps52
      go_wp2
      go_ret
      exact ⟨rfl, rfl⟩

def betweenB (l h : Int) : Bool := decide (0 ≤ l ∧ h ≤ 4294967295 ∧ l / 16777216 < h / 16777216)

set_option maxHeartbeats 400000 in
theorem between_ok (l h : Int) (w : World) :
    Calls Tryz.prog 96 #[.int .i64 l, .int .i64 h] w fun e w' => e = .returned (.bool (betweenB l h)) ∧ w' = w := by
  have q1 := word_ok l
  have q2 := word_ok h
  cases hl : wordB l with
  | false =>
    have e : betweenB l h = false := decide_eq_false fun ⟨k0, k1, k2⟩ => of_decide_eq_false hl ⟨k0, by omega⟩
    rw [e]
    rw [hl] at q1
    have Q1 : Hid (∀ w, Calls Tryz.prog 115 #[.int .i64 l] w fun e w' => e = .returned (.bool false) ∧ w' = w) := q1
    clear q1 q2 hl e
    go_enter Tryz.func96, Tryz.ntmps96
    go_wp2_with fail
    refine (Q1.out _).mono ?_
    rintro e w1 ⟨rfl, rfl⟩
    go_wp2
    go_ret
    exact ⟨rfl, rfl⟩
  | true => cases hh : wordB h with
    | false =>
      have e : betweenB l h = false := decide_eq_false fun ⟨k0, k1, k2⟩ => of_decide_eq_false hh ⟨by omega, k1⟩
      rw [e]
      rw [hl] at q1
      rw [hh] at q2
      have Q1 : Hid (∀ w, Calls Tryz.prog 115 #[.int .i64 l] w fun e w' => e = .returned (.bool true) ∧ w' = w) := q1
      have Q2 : Hid (∀ w, Calls Tryz.prog 115 #[.int .i64 h] w fun e w' => e = .returned (.bool false) ∧ w' = w) := q2
      clear q1 q2 hl hh e
      go_enter Tryz.func96, Tryz.ntmps96
      go_wp2_with fail
      refine (Q1.out _).mono ?_
      rintro e w1 ⟨rfl, rfl⟩
      go_wp2_with fail
      refine (Q2.out _).mono ?_
      rintro e w1 ⟨rfl, rfl⟩
      go_wp2
      go_ret
      exact ⟨rfl, rfl⟩
    | true =>
      have hl' := of_decide_eq_true hl
      have hh' := of_decide_eq_true hh
      rw [hl] at q1
      rw [hh] at q2
      have Q1 : Hid (∀ w, Calls Tryz.prog 115 #[.int .i64 l] w fun e w' => e = .returned (.bool true) ∧ w' = w) := q1
      have Q2 : Hid (∀ w, Calls Tryz.prog 115 #[.int .i64 h] w fun e w' => e = .returned (.bool true) ∧ w' = w) := q2
      have e : betweenB l h = decide (l / 16777216 < h / 16777216) := by
        unfold betweenB
        simp [hl'.1, hh'.2]
      rw [e]
      clear q1 q2 hl hh e
      obtain ⟨x0, x1⟩ := hl'
      obtain ⟨y0, y1⟩ := hh'
      go_enter Tryz.func96, Tryz.ntmps96
      go_wp2_with fail
      refine (Q1.out _).mono ?_
      rintro e w1 ⟨rfl, rfl⟩
      go_wp2_with fail
      refine (Q2.out _).mono ?_
      rintro e w1 ⟨rfl, rfl⟩
      go_wp2
      go_ret
      exact ⟨rfl, rfl⟩

set_option maxHeartbeats 400000 in
theorem coderMay_ok (l h : Int) (s : ByteArray) (hs : s.size ≤ maxLen) (w : World) :
    Calls Tryz.prog 57 #[.agg #[.int .i64 l, .int .i64 h, .string s]] w fun e w' => e = .returned (.bool (mayB l h s)) ∧ Bel w w' := by
  unfold maxLen at hs
  have q := between_ok l h
  cases hb : betweenB l h with
  | false =>
    have e : mayB l h s = false := decide_eq_false fun k => of_decide_eq_false hb k.1
    rw [e]
    rw [hb] at q
    have Q : Hid (∀ w, Calls Tryz.prog 96 #[.int .i64 l, .int .i64 h] w fun e w' => e = .returned (.bool false) ∧ w' = w) := q
    clear q e hb
    go_enter Tryz.func57, Tryz.ntmps57
    go_wp2_with fail
    refine (Q.out _).mono ?_
    rintro e w1 ⟨rfl, rfl⟩
    go_wp2
    go_ret
    exact ⟨rfl, (Bel.refl _).alloc _⟩
  | true =>
    have e : mayB l h s = decide ((s.size : Int) ≤ 65536) := by
      unfold mayB
      have hb' := of_decide_eq_true hb
      simp only [hb', true_and]
      congr 1
      exact propext ⟨by omega, by omega⟩
    rw [e]
    rw [hb] at q
    have Q : Hid (∀ w, Calls Tryz.prog 96 #[.int .i64 l, .int .i64 h] w fun e w' => e = .returned (.bool true) ∧ w' = w) := q
    clear q e hb
    go_enter Tryz.func57, Tryz.ntmps57
    go_wp2_with fail
    refine (Q.out _).mono ?_
    rintro e w1 ⟨rfl, rfl⟩
    go_wp2
    go_ret
    exact ⟨rfl, (Bel.refl _).alloc _⟩

set_option maxHeartbeats 400000 in
theorem newCoder_ok (w : World) :
    Calls Tryz.prog 26 #[] w fun e w' => e = .returned (.agg #[.int .i64 0, .int .i64 4294967295, .string ⟨#[]⟩]) ∧ Bel w w' := by
  go_enter Tryz.func26, Tryz.ntmps26
  go_wp2
  refine bodyPost_ret (results_coder Tryz.results26 rfl (by simp) (by simp) (by simp)) rfl ⟨rfl, ?_⟩
  exact (Bel.refl _).alloc _

set_option maxHeartbeats 400000 in
theorem rmiddle_ok (l h p : Int) (hb : Between l h) (h1 : 1 ≤ p) (h2 : p ≤ 4095) (w : World) :
    Calls Tryz.prog 59 #[.int .i64 l, .int .i64 h, .int .i64 p] w fun e w' => e = .returned (.int .i64 (mid l h p)) ∧ w' = w := by
  obtain ⟨b0, b1, b2⟩ := hb
  obtain ⟨f1, f2, f3, f4, f5⟩ := mid_facts (h - l) p h1 h2 (by omega) (by omega)
  have hd : (h - l).tdiv 4096 = (h - l) / 4096 := Int.tdiv_eq_ediv_of_nonneg (by omega)
  have hm : (h - l).tmod 4096 = (h - l) % 4096 := Int.tmod_eq_emod_of_nonneg (by omega)
  have hq : ((h - l) % 4096 * p).tdiv 4096 = (h - l) % 4096 * p / 4096 := Int.tdiv_eq_ediv_of_nonneg (by omega)
  go_enter Tryz.func59, Tryz.ntmps59
  go_wp2
  go_ret
  exact ⟨rfl, rfl⟩

theorem mk1 (w : World) : (Instr.makeSlice 99 (.int .i64 1) (.int .i64 1)).run Tryz.prog w = .ok (.slice (some ⟨w.heap.size, 0, none⟩) 1 1) (w.alloc (.cells #[.int .u8 0] 5)) := by kernel_rfl
theorem cv1 (w : World) (a : Int) : (convert 99 9 (.slice (some ⟨w.heap.size, 0, none⟩) 1 1)).run Tryz.prog (w.alloc (.cells #[.int .u8 a] 5)) = .ok (.string (strOfNums [a])) (w.alloc (.cells #[.int .u8 a] 5)) := by
  refine run_convert_bytes_arg (P := Tryz.prog) _ 99 5 Tryz.underlying99 Tryz.underlying5 w.heap.size 0 1 1 [a] rfl ?_ 9 Tryz.underlying9
  intro i hi
  match i, hi with
  | 0, _ => simp

set_option maxHeartbeats 400000 in
theorem low_ok (x : Int) (h0 : 0 ≤ x) (h1 : x ≤ 4294967295) (w : World) :
    Calls Tryz.prog 60 #[.int .i64 x, .int .i64 1] w fun e w' => e = .returned (.string (strOfNums [x % 256])) ∧ Bel w w' := by
  have hmk := mk1
  have hcv := cv1 w (x % 256)
  go_enter Tryz.func60, Tryz.ntmps60
  go_wp2
  refine wp_loop_rounds 2 ?_
  rw [rounds_succ]
  go_wp2
  rw [rounds_succ]
  go_wp2
  go_ret
  exact ⟨rfl, (Bel.refl _).alloc _⟩

end Go.Proofs.YtoldedbfoechlaaGreatDoor.Coder
