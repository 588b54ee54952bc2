/-
  The contract of coder.End: what it answers at every coder. Condition: the text is no longer than an int can tell.
  The contracts of the reference's small functions for coders. Conditions: numbers within what each asks for.
  Plain facts on a decoder: the number that its next four bytes tell, how it goes up a byte, that it stays within what is left; what a coder's bits leave, and that its end is decoded to them. No condition.
  The contracts of the decoder's small functions, of New, and of the reference's like ones. Conditions: texts no longer than an int can tell, places within an int.
  The contracts of decoder.New and of the reference's NewDecoder: what they answer at every text. Condition: the text is no longer than an int can tell.
-/
import Derived.Test.YtocnlefpbcnlmaaGreatDoorPk8

namespace Go.Proofs.YtocnlefpbcnlmaaGreatDoor.Coder
open Go.RowKit Go.Proofs.YtocnlefpbcnlmaaGreatDoor.Num
set_option linter.unusedVariables false

/-- Low in four bytes, the highest first. -/
def four (l : Int) : ByteArray := strOfNums [l / 16777216, l / 65536 % 256, l / 256 % 256, l % 256]

def endAns (l h : Int) (s : ByteArray) : Value := if mayB l h s = true then .tuple #[.string (s ++ four l), .int .i64 0] else .tuple #[.string ⟨#[]⟩, .int .i64 400]

theorem mk44 (w : World) : (Instr.makeSlice 99 (.int .i64 4) (.int .i64 4)).run Tryz.prog w = .ok (.slice (some ⟨w.heap.size, 0, none⟩) 4 4) (w.alloc (.cells #[.int .u8 0, .int .u8 0, .int .u8 0, .int .u8 0] 5)) := by kernel_rfl
theorem cv44 (w : World) (a b c d : Int) : (convert 99 9 (.slice (some ⟨w.heap.size, 0, none⟩) 4 4)).run Tryz.prog (w.alloc (.cells #[.int .u8 a, .int .u8 b, .int .u8 c, .int .u8 d] 5)) = .ok (.string (strOfNums [a, b, c, d])) (w.alloc (.cells #[.int .u8 a, .int .u8 b, .int .u8 c, .int .u8 d] 5)) := by
  refine run_convert_bytes_arg (P := Tryz.prog) _ 99 5 Tryz.underlying99 Tryz.underlying5 w.heap.size 0 4 4 [a, b, c, d] rfl ?_ 9 Tryz.underlying9
  intro i hi
  match i, hi with
  | 0, _ => simp
  | 1, _ => simp
  | 2, _ => simp
  | 3, _ => simp

set_option maxHeartbeats 1000000 in
theorem end_may (l h : Int) (s : ByteArray) (hb : Between l h) (hz : s.size ≤ 65536) (w : World) :
    Calls Tryz.prog 24 #[.agg #[.int .i64 l, .int .i64 h, .string s]] w fun e w' => e = .returned (.tuple #[.string (s ++ four l), .int .i64 0]) ∧ Bel w w' := by
  have q1 := may_ok l h s (by unfold maxLen; omega)
  rw [show mayB l h s = true from decide_eq_true ⟨hb, hz⟩] at q1
  have QM : Hid (∀ w, Calls Tryz.prog 50 #[.agg #[.int .i64 l, .int .i64 h, .string s]] w fun e w' => e = .returned (.bool true) ∧ Bel w w') := q1
  obtain ⟨b0, b1, b2⟩ := hb
  have l0 : 0 ≤ l := b0
  have l1 : l ≤ 4294967295 := by omega
  clear q1 b0 b1 b2
  have hmk := mk44
  go_enter Tryz.func24, Tryz.ntmps24
  go_wp2_with fail
  refine (QM.out _).mono ?_
  rintro e w1 ⟨rfl, b1⟩
  have a0 : w1.cell? ⟨w.heap.size, 0, none⟩ = some (.int .i64 l) := b1.keep (by simp)
  have a2 : w1.cell? ⟨w.heap.size, 2, none⟩ = some (.string s) := b1.keep (by simp)
  have HB : Hid (Bel w w1) := Bel.trans ((Bel.refl _).alloc _) b1
  have hlt : w.heap.size < w1.heap.size := block_lt_of_cell a0
  clear b1
  go_wp2
  refine wp_loop_rounds 5 ?_
  rw [rounds_succ]
  go_wp2
  rw [rounds_succ]
  go_wp2
  rw [rounds_succ]
  go_wp2
  rw [rounds_succ]
  go_wp2
  rw [rounds_succ]
  have hcv := cv44 w1 (l / 16777216) (l / 65536 % 256) (l / 256 % 256) (l % 256)
  have hsz : (strOfNums [l / 16777216, l / 65536 % 256, l / 256 % 256, l % 256]).size = 4 := strOfNums_size _
  have hn : ¬ 9223372036854775807 < s.size + 4 := by omega
  go_wp2
  go_ret2
  exact ⟨rfl, HB.out.alloc _⟩

set_option maxHeartbeats 1000000 in
theorem end_no (l h : Int) (s : ByteArray) (hs : s.size ≤ maxLen) (hm : mayB l h s = false) (w : World) :
    Calls Tryz.prog 24 #[.agg #[.int .i64 l, .int .i64 h, .string s]] w fun e w' => e = .returned (.tuple #[.string ⟨#[]⟩, .int .i64 400]) ∧ Bel w w' := by
  have q1 := may_ok l h s hs
  rw [hm] at q1
  have QM : Hid (∀ w, Calls Tryz.prog 50 #[.agg #[.int .i64 l, .int .i64 h, .string s]] w fun e w' => e = .returned (.bool false) ∧ Bel w w') := q1
  clear q1 hm
  go_enter Tryz.func24, Tryz.ntmps24
  go_wp2_with fail
  refine (QM.out _).mono ?_
  rintro e w1 ⟨rfl, b1⟩
  have HB : Hid (Bel w w1) := Bel.trans ((Bel.refl _).alloc _) b1
  clear b1
  go_wp2
  go_ret2
  exact ⟨rfl, HB.out⟩

theorem end_ok (l h : Int) (s : ByteArray) (hs : s.size ≤ maxLen) (w : World) :
    Calls Tryz.prog 24 #[.agg #[.int .i64 l, .int .i64 h, .string s]] w fun e w' => e = .returned (endAns l h s) ∧ Bel w w' := by
  cases hm : mayB l h s with
  | false => rw [endAns, if_neg (by rw [hm]; simp)]; exact end_no l h s hs hm w
  | true =>
    rw [endAns, if_pos hm]
    have m := of_decide_eq_true hm
    exact end_may l h s m.1 m.2 w

end Go.Proofs.YtocnlefpbcnlmaaGreatDoor.Coder

namespace Go.Proofs.YtocnlefpbcnlmaaGreatDoor.Coder
open Go.RowKit Go.Proofs.YtocnlefpbcnlmaaGreatDoor.Num
set_option linter.unusedVariables false

set_option maxHeartbeats 400000 in
theorem upTo_ok (x a b : Int) (w : World) :
    Calls Tryz.prog 51 #[.int .i64 x, .int .i64 a, .int .i64 b] w fun e w' => e = .returned (.bool (decide (a ≤ x ∧ x ≤ b))) ∧ w' = w := by
  by_cases h0 : a ≤ x
  · by_cases h1 : x ≤ b
    · have e : decide (a ≤ x ∧ x ≤ b) = true := decide_eq_true ⟨h0, h1⟩
      rw [e]
      clear e
      go_enter Tryz.func51, Tryz.ntmps51
      go_wp2
      go_ret
      exact ⟨rfl, rfl⟩
    · have e1 : decide (x ≤ b) = false := decide_eq_false h1
      have e : decide (a ≤ x ∧ x ≤ b) = false := decide_eq_false fun k => h1 k.2
      rw [e]
      clear e
      go_enter Tryz.func51, Tryz.ntmps51
      go_wp2
      go_ret
      exact ⟨rfl, rfl⟩
  · have e1 : decide (a ≤ x) = false := decide_eq_false h0
    have e : decide (a ≤ x ∧ x ≤ b) = false := decide_eq_false fun k => h0 k.1
    rw [e]
    clear e
    go_enter Tryz.func51, Tryz.ntmps51
    go_wp2
    go_ret
    exact ⟨rfl, rfl⟩

def wordB (x : Int) : Bool := decide (0 ≤ x ∧ x ≤ 4294967295)

set_option maxHeartbeats 400000 in
theorem word_ok (x : Int) (w : World) :
    Calls Tryz.prog 115 #[.int .i64 x] w fun e w' => e = .returned (.bool (wordB x)) ∧ w' = w := by
  obtain ⟨b, hb⟩ : ∃ b, b = wordB x := ⟨_, rfl⟩
  have q : Hid (∀ w, Calls Tryz.prog 51 #[.int .i64 x, .int .i64 0, .int .i64 4294967295] w fun e w' => e = .returned (.bool b) ∧ w' = w) := by
    show ∀ w, _
    rw [hb]
    exact upTo_ok x 0 4294967295
  rw [← hb]
  clear hb
  go_enter Tryz.func115, Tryz.ntmps115
  go_wp2_with fail
  refine (q.out _).mono ?_
  rintro e w1 ⟨rfl, rfl⟩
  go_wp2
  go_ret
  exact ⟨rfl, rfl⟩

set_option maxHeartbeats 400000 in
theorem rchance_ok (x : Int) (w : World) :
    Calls Tryz.prog 58 #[.int .i64 x] w fun e w' => e = .returned (.bool (chanceB x)) ∧ w' = w := by
  obtain ⟨b, hb⟩ : ∃ b, b = chanceB x := ⟨_, rfl⟩
  have q : Hid (∀ w, Calls Tryz.prog 51 #[.int .i64 x, .int .i64 1, .int .i64 4095] w fun e w' => e = .returned (.bool b) ∧ w' = w) := by
    show ∀ w, _
    rw [hb]
    exact upTo_ok x 1 4095
  rw [← hb]
  clear hb
  go_enter Tryz.func58, Tryz.ntmps58
  go_wp2_with fail
  refine (q.out _).mono ?_
  rintro e w1 ⟨rfl, rfl⟩
  go_wp2
  go_ret
  exact ⟨rfl, rfl⟩

set_option maxHeartbeats 400000 in
theorem bitMay_ok (b : Int) (w : World) :
    Calls Tryz.prog 52 #[.int .i64 b] w fun e w' => e = .returned (.bool (bitB b)) ∧ w' = w := by
  by_cases h0 : b = 0
  · subst h0
    go_enter Tryz.func52, Tryz.ntmps52
    go_wp2
    go_ret
    exact ⟨rfl, rfl⟩
  · by_cases h1 : b = 1
    · subst h1
      go_enter Tryz.func52, Tryz.ntmps52
      go_wp2
      go_ret
      exact ⟨rfl, rfl⟩
    · have e0 : (b == 0) = false := by simpa using h0
      have e1 : (b == 1) = false := by simpa using h1
      have e : bitB b = false := decide_eq_false fun k => k.elim h0 h1
      rw [e]
      clear e
      go_enter Tryz.func52, Tryz.ntmps52
      go_wp2
      go_ret
      exact ⟨rfl, rfl⟩

def betweenB (l h : Int) : Bool := decide (0 ≤ l ∧ h ≤ 4294967295 ∧ l / 16777216 < h / 16777216)

set_option maxHeartbeats 400000 in
theorem between_ok (l h : Int) (w : World) :
    Calls Tryz.prog 96 #[.int .i64 l, .int .i64 h] w fun e w' => e = .returned (.bool (betweenB l h)) ∧ w' = w := by
  have q1 := word_ok l
  have q2 := word_ok h
  cases hl : wordB l with
  | false =>
    have e : betweenB l h = false := decide_eq_false fun ⟨k0, k1, k2⟩ => of_decide_eq_false hl ⟨k0, by omega⟩
    rw [e]
    rw [hl] at q1
    have Q1 : Hid (∀ w, Calls Tryz.prog 115 #[.int .i64 l] w fun e w' => e = .returned (.bool false) ∧ w' = w) := q1
    clear q1 q2 hl e
    go_enter Tryz.func96, Tryz.ntmps96
    go_wp2_with fail
    refine (Q1.out _).mono ?_
    rintro e w1 ⟨rfl, rfl⟩
    go_wp2
    go_ret
    exact ⟨rfl, rfl⟩
  | true => cases hh : wordB h with
    | false =>
      have e : betweenB l h = false := decide_eq_false fun ⟨k0, k1, k2⟩ => of_decide_eq_false hh ⟨by omega, k1⟩
      rw [e]
      rw [hl] at q1
      rw [hh] at q2
      have Q1 : Hid (∀ w, Calls Tryz.prog 115 #[.int .i64 l] w fun e w' => e = .returned (.bool true) ∧ w' = w) := q1
      have Q2 : Hid (∀ w, Calls Tryz.prog 115 #[.int .i64 h] w fun e w' => e = .returned (.bool false) ∧ w' = w) := q2
      clear q1 q2 hl hh e
      go_enter Tryz.func96, Tryz.ntmps96
      go_wp2_with fail
      refine (Q1.out _).mono ?_
      rintro e w1 ⟨rfl, rfl⟩
      go_wp2_with fail
      refine (Q2.out _).mono ?_
      rintro e w1 ⟨rfl, rfl⟩
      go_wp2
      go_ret
      exact ⟨rfl, rfl⟩
    | true =>
      have hl' := of_decide_eq_true hl
      have hh' := of_decide_eq_true hh
      rw [hl] at q1
      rw [hh] at q2
      have Q1 : Hid (∀ w, Calls Tryz.prog 115 #[.int .i64 l] w fun e w' => e = .returned (.bool true) ∧ w' = w) := q1
      have Q2 : Hid (∀ w, Calls Tryz.prog 115 #[.int .i64 h] w fun e w' => e = .returned (.bool true) ∧ w' = w) := q2
      have e : betweenB l h = decide (l / 16777216 < h / 16777216) := by
        unfold betweenB
        simp [hl'.1, hh'.2]
      rw [e]
      clear q1 q2 hl hh e
      obtain ⟨x0, x1⟩ := hl'
      obtain ⟨y0, y1⟩ := hh'
      go_enter Tryz.func96, Tryz.ntmps96
      go_wp2_with fail
      refine (Q1.out _).mono ?_
      rintro e w1 ⟨rfl, rfl⟩
      go_wp2_with fail
      refine (Q2.out _).mono ?_
      rintro e w1 ⟨rfl, rfl⟩
      go_wp2
      go_ret
      exact ⟨rfl, rfl⟩

set_option maxHeartbeats 400000 in
theorem coderMay_ok (l h : Int) (s : ByteArray) (hs : s.size ≤ maxLen) (w : World) :
    Calls Tryz.prog 57 #[.agg #[.int .i64 l, .int .i64 h, .string s]] w fun e w' => e = .returned (.bool (mayB l h s)) ∧ Bel w w' := by
  unfold maxLen at hs
  have q := between_ok l h
  cases hb : betweenB l h with
  | false =>
    have e : mayB l h s = false := decide_eq_false fun k => of_decide_eq_false hb k.1
    rw [e]
    rw [hb] at q
    have Q : Hid (∀ w, Calls Tryz.prog 96 #[.int .i64 l, .int .i64 h] w fun e w' => e = .returned (.bool false) ∧ w' = w) := q
    clear q e hb
    go_enter Tryz.func57, Tryz.ntmps57
    go_wp2_with fail
    refine (Q.out _).mono ?_
    rintro e w1 ⟨rfl, rfl⟩
    go_wp2
    go_ret
    exact ⟨rfl, (Bel.refl _).alloc _⟩
  | true =>
    have e : mayB l h s = decide ((s.size : Int) ≤ 65536) := by
      unfold mayB
      have hb' := of_decide_eq_true hb
      simp only [hb', true_and]
      congr 1
      exact propext ⟨by omega, by omega⟩
    rw [e]
    rw [hb] at q
    have Q : Hid (∀ w, Calls Tryz.prog 96 #[.int .i64 l, .int .i64 h] w fun e w' => e = .returned (.bool true) ∧ w' = w) := q
    clear q e hb
    go_enter Tryz.func57, Tryz.ntmps57
    go_wp2_with fail
    refine (Q.out _).mono ?_
    rintro e w1 ⟨rfl, rfl⟩
    go_wp2
    go_ret
    exact ⟨rfl, (Bel.refl _).alloc _⟩

set_option maxHeartbeats 400000 in
theorem newCoder_ok (w : World) :
    Calls Tryz.prog 26 #[] w fun e w' => e = .returned (.agg #[.int .i64 0, .int .i64 4294967295, .string ⟨#[]⟩]) ∧ Bel w w' := by
  go_enter Tryz.func26, Tryz.ntmps26
  go_wp2
  refine bodyPost_ret (results_coder Tryz.results26 rfl (by simp) (by simp) (by simp)) rfl ⟨rfl, ?_⟩
  exact (Bel.refl _).alloc _

set_option maxHeartbeats 400000 in
theorem rmiddle_ok (l h p : Int) (hb : Between l h) (h1 : 1 ≤ p) (h2 : p ≤ 4095) (w : World) :
    Calls Tryz.prog 59 #[.int .i64 l, .int .i64 h, .int .i64 p] w fun e w' => e = .returned (.int .i64 (mid l h p)) ∧ w' = w := by
  obtain ⟨b0, b1, b2⟩ := hb
  obtain ⟨f1, f2, f3, f4, f5⟩ := mid_facts (h - l) p h1 h2 (by omega) (by omega)
  have hd : (h - l).tdiv 4096 = (h - l) / 4096 := Int.tdiv_eq_ediv_of_nonneg (by omega)
  have hm : (h - l).tmod 4096 = (h - l) % 4096 := Int.tmod_eq_emod_of_nonneg (by omega)
  have hq : ((h - l) % 4096 * p).tdiv 4096 = (h - l) % 4096 * p / 4096 := Int.tdiv_eq_ediv_of_nonneg (by omega)
  go_enter Tryz.func59, Tryz.ntmps59
  go_wp2
  go_ret
  exact ⟨rfl, rfl⟩

theorem mk1 (w : World) : (Instr.makeSlice 99 (.int .i64 1) (.int .i64 1)).run Tryz.prog w = .ok (.slice (some ⟨w.heap.size, 0, none⟩) 1 1) (w.alloc (.cells #[.int .u8 0] 5)) := by kernel_rfl
theorem cv1 (w : World) (a : Int) : (convert 99 9 (.slice (some ⟨w.heap.size, 0, none⟩) 1 1)).run Tryz.prog (w.alloc (.cells #[.int .u8 a] 5)) = .ok (.string (strOfNums [a])) (w.alloc (.cells #[.int .u8 a] 5)) := by
  refine run_convert_bytes_arg (P := Tryz.prog) _ 99 5 Tryz.underlying99 Tryz.underlying5 w.heap.size 0 1 1 [a] rfl ?_ 9 Tryz.underlying9
  intro i hi
  match i, hi with
  | 0, _ => simp

set_option maxHeartbeats 400000 in
theorem low_ok (x : Int) (h0 : 0 ≤ x) (h1 : x ≤ 4294967295) (w : World) :
    Calls Tryz.prog 60 #[.int .i64 x, .int .i64 1] w fun e w' => e = .returned (.string (strOfNums [x % 256])) ∧ Bel w w' := by
  have hmk := mk1
  have hcv := cv1 w (x % 256)
  go_enter Tryz.func60, Tryz.ntmps60
  go_wp2
  refine wp_loop_rounds 2 ?_
  rw [rounds_succ]
  go_wp2
  rw [rounds_succ]
  go_wp2
  go_ret
  exact ⟨rfl, (Bel.refl _).alloc _⟩

end Go.Proofs.YtocnlefpbcnlmaaGreatDoor.Coder

namespace Go.Proofs.YtocnlefpbcnlmaaGreatDoor.Coder
open Go.RowKit
set_option linter.unusedVariables false

/-- A text's byte at k; 0 behind its end. -/
def bz (s : ByteArray) (k : Nat) : Int := ((s.data.toList.getD k 0).toNat : Nat)

theorem bz_bounds (s : ByteArray) (k : Nat) : 0 ≤ bz s k ∧ bz s k ≤ 255 := by
  unfold bz
  have := (s.data.toList.getD k 0).toNat_lt
  omega

theorem bz_out (s : ByteArray) (k : Nat) (h : s.size ≤ k) : bz s k = 0 := by
  unfold bz
  have : s.data.toList.length ≤ k := by simpa using h
  rw [List.getD_eq_getElem?_getD, List.getElem?_eq_none this]
  rfl

/-- Now behind k bytes more. -/
def nowAt (s : ByteArray) (x : Int) (a : Nat) : Nat → Int
  | 0 => x
  | n + 1 => nowAt s x a n * 256 % 4294967296 + bz s (a + n)

theorem nowAt_in (s : ByteArray) (x : Int) (a : Nat) (h0 : 0 ≤ x) (h1 : x ≤ 4294967295) : ∀ n, 0 ≤ nowAt s x a n ∧ nowAt s x a n ≤ 4294967295
  | 0 => ⟨h0, h1⟩
  | n + 1 => by
    have hb := bz_bounds s (a + n)
    unfold nowAt
    omega

/-- The number that four bytes tell. -/
def win (s : ByteArray) (k : Nat) : Int := bz s k * 16777216 + bz s (k + 1) * 65536 + bz s (k + 2) * 256 + bz s (k + 3)

theorem win_in (s : ByteArray) (k : Nat) : 0 ≤ win s k ∧ win s k ≤ 4294967295 := by
  have h0 := bz_bounds s k
  have h1 := bz_bounds s (k + 1)
  have h2 := bz_bounds s (k + 2)
  have h3 := bz_bounds s (k + 3)
  unfold win
  omega

theorem win_next (s : ByteArray) (k : Nat) : win s k * 256 % 4294967296 + bz s (k + 4) = win s (k + 1) := by
  have h0 := bz_bounds s k
  have h1 := bz_bounds s (k + 1)
  have h2 := bz_bounds s (k + 2)
  have h3 := bz_bounds s (k + 3)
  unfold win
  simp only [Nat.add_assoc, Nat.reduceAdd]
  omega

theorem nowAt_win (s : ByteArray) (k : Nat) : ∀ n, nowAt s (win s k) (k + 4) n = win s (k + n)
  | 0 => rfl
  | n + 1 => by
    unfold nowAt
    rw [nowAt_win s k n, show k + 4 + n = k + n + 4 by omega, win_next]
    rfl

theorem win_top (s : ByteArray) (k : Nat) : win s k / 16777216 = bz s k := by
  have h0 := bz_bounds s k
  have h1 := bz_bounds s (k + 1)
  have h2 := bz_bounds s (k + 2)
  have h3 := bz_bounds s (k + 3)
  unfold win
  omega

/-- Now at the start. -/
theorem now_four (s : ByteArray) : nowAt s 0 0 4 = win s 0 := by
  have h0 := bz_bounds s 0
  have h1 := bz_bounds s 1
  have h2 := bz_bounds s 2
  have h3 := bz_bounds s 3
  simp only [nowAt, win, Nat.zero_add]
  omega

/-- A round keeps Now between both. -/
theorem in_next {u v x b : Int} (h0 : 0 ≤ u) (h1 : v ≤ 4294967295) (hu : u ≤ x) (hv : x ≤ v) (e : u / 16777216 = v / 16777216) (b0 : 0 ≤ b) (b1 : b ≤ 255) :
    u * 256 % 4294967296 ≤ x * 256 % 4294967296 + b ∧ x * 256 % 4294967296 + b ≤ v * 256 % 4294967296 + 255 := by
  have hx : u / 16777216 = x / 16777216 := by omega
  omega

/-- The walk through 'settle' with Now beside it. -/
theorem settle_now (s : ByteArray) : ∀ (n : Nat) (u v x : Int) (a : Nat), 0 ≤ u → v ≤ 4294967295 → u ≤ x → x ≤ v →
    (settle n u v).2.1 ≤ nowAt s x a (settle n u v).1.length ∧ nowAt s x a (settle n u v).1.length ≤ (settle n u v).2.2
  | 0, u, v, x, a, h0, h1, hu, hv => ⟨hu, hv⟩
  | n + 1, u, v, x, a, h0, h1, hu, hv => by
    rw [settle]
    split
    · next e =>
      have hb := bz_bounds s a
      obtain ⟨k1, k2⟩ := in_next h0 h1 hu hv e hb.1 hb.2
      have hl : v * 256 % 4294967296 + 255 ≤ 4294967295 := by omega
      have ih := settle_now s n _ _ _ (a + 1) (by omega) hl k1 k2
      have e1 : ∀ m, nowAt s (x * 256 % 4294967296 + bz s a) (a + 1) m = nowAt s x a (m + 1) := by
        intro m
        induction m with
        | zero => rfl
        | succ m ih =>
          rw [nowAt, ih]
          show _ = nowAt s x a (m + 1) * 256 % 4294967296 + bz s (a + (m + 1))
          rw [show a + 1 + m = a + (m + 1) by omega]
      rw [e1] at ih
      simpa using ih
    · exact ⟨hu, hv⟩

/-- The bytes that are settled while Now is between both are Now's own, one after the other. -/
theorem settle_own (s : ByteArray) : ∀ (n : Nat) (u v : Int) (a : Nat), 0 ≤ u → v ≤ 4294967295 → u ≤ win s a → win s a ≤ v →
    ∀ i, i < (settle n u v).1.length → (((settle n u v).1.getD i 0).toNat : Int) = bz s (a + i) := by
  intro n
  induction n with
  | zero => intro u v a h0 h1 hu hv i hi; simp [settle] at hi
  | succ n ihn =>
    intro u v a h0 h1 hu hv i hi
    rw [settle] at hi ⊢
    split at hi
    · next e =>
      rw [if_pos e]
      have hb := bz_bounds s (a + 4)
      obtain ⟨k1, k2⟩ := in_next h0 h1 hu hv e hb.1 hb.2
      rw [win_next] at k1 k2
      have ih := ihn _ _ (a + 1) (by omega) (by omega) k1 k2
      have hw := win_top s a
      have hb0 := bz_bounds s a
      match i, hi with
      | 0, _ =>
        have ht : u / 16777216 = bz s a := by omega
        rw [ht]
        simp only [List.getD_cons_zero, Nat.add_zero]
        rw [UInt8.toNat_ofNat', Nat.mod_eq_of_lt (by omega)]
        omega
      | i + 1, hi =>
        have := ih i (by simpa using hi)
        rw [show a + 1 + i = a + (i + 1) by omega] at this
        simpa using this
    · next e => simp at hi

/-- Backwards: where the text goes on with the bytes that are settled, and is between what is left behind them, it was between both ahead of them. -/
theorem settle_back (s : ByteArray) : ∀ (n : Nat) (u v : Int) (a : Nat), 0 ≤ u → u ≤ v → v ≤ 4294967295 →
    (∀ i, i < (settle n u v).1.length → (((settle n u v).1.getD i 0).toNat : Int) = bz s (a + i)) →
    (settle n u v).2.1 ≤ win s (a + (settle n u v).1.length) → win s (a + (settle n u v).1.length) ≤ (settle n u v).2.2 → u ≤ win s a ∧ win s a ≤ v := by
  intro n
  induction n with
  | zero => intro u v a h0 hl h1 hb hu hv; exact ⟨hu, hv⟩
  | succ n ihn =>
    intro u v a h0 hl h1 hb hu hv
    rw [settle] at hb hu hv
    split at hb
    · next e =>
      rw [if_pos e] at hu hv
      have hb0 := hb 0 (by simp)
      have ih := ihn (u * 256 % 4294967296) (v * 256 % 4294967296 + 255) (a + 1) (by omega) (by omega) (by omega) (by
        intro i hi
        have := hb (i + 1) (by simpa using hi)
        rw [show a + 1 + i = a + (i + 1) by omega]
        simpa using this) (by
        rw [show a + 1 + (settle n (u * 256 % 4294967296) (v * 256 % 4294967296 + 255)).1.length = a + ((settle n (u * 256 % 4294967296) (v * 256 % 4294967296 + 255)).1.length + 1) by omega]
        simpa using hu) (by
        rw [show a + 1 + (settle n (u * 256 % 4294967296) (v * 256 % 4294967296 + 255)).1.length = a + ((settle n (u * 256 % 4294967296) (v * 256 % 4294967296 + 255)).1.length + 1) by omega]
        simpa using hv)
      have hw := win_top s a
      have hn := win_next s a
      have hb4 := bz_bounds s (a + 4)
      have hbz := bz_bounds s a
      have hin := win_in s a
      simp only [List.getD_cons_zero, Nat.add_zero] at hb0
      rw [UInt8.toNat_ofNat', Nat.mod_eq_of_lt (by omega)] at hb0
      generalize win s a = W at *
      generalize win s (a + 1) = W1 at *
      omega
    · next e =>
      rw [if_neg e] at hu hv
      exact ⟨hu, hv⟩

/-- The bit that Now tells. -/
def bitOf (l h x p : Int) : Int := if x ≤ mid l h p then 1 else 0

theorem narrow_now {l h x p : Int} (hl : l ≤ x) (hh : x ≤ h) : (narrow l h (bitOf l h x p) p).1 ≤ x ∧ x ≤ (narrow l h (bitOf l h x p) p).2 := by
  unfold narrow bitOf
  by_cases e : x ≤ mid l h p
  · simp [e, hl]
  · simp [e, hh]
    omega

/-- Now between what a bit leaves tells that bit. -/
theorem bitOf_narrow {l h x p bit : Int} (hb : bit = 0 ∨ bit = 1) (h1 : (narrow l h bit p).1 ≤ x) (h2 : x ≤ (narrow l h bit p).2) : bitOf l h x p = bit := by
  unfold narrow at h1 h2
  unfold bitOf
  rcases hb with rfl | rfl
  · simp at h1 h2
    rw [if_neg (by omega)]
  · simp at h1 h2
    rw [if_pos h2]

theorem narrow_sub {l h bit p : Int} (b : Between l h) (h1 : 1 ≤ p) (h2 : p ≤ 4095) : l ≤ (narrow l h bit p).1 ∧ (narrow l h bit p).2 ≤ h := by
  obtain ⟨b0, b1, b2⟩ := b
  obtain ⟨f1, f2, f3, f4, f5⟩ := mid_facts (h - l) p h1 h2 (by omega) (by omega)
  unfold narrow mid
  split
  · simp only; omega
  · simp only; omega

/-- A coder behind some bits: Low, High, the bytes told. -/
def coded (bs ps : Nat → Int) : Nat → List UInt8 × Int × Int
  | 0 => ([], 0, 4294967295)
  | n + 1 => ((coded bs ps n).1 ++ (settle 5 (narrow (coded bs ps n).2.1 (coded bs ps n).2.2 (bs n) (ps n)).1 (narrow (coded bs ps n).2.1 (coded bs ps n).2.2 (bs n) (ps n)).2).1,
      (settle 5 (narrow (coded bs ps n).2.1 (coded bs ps n).2.2 (bs n) (ps n)).1 (narrow (coded bs ps n).2.1 (coded bs ps n).2.2 (bs n) (ps n)).2).2)

theorem coded_facts (bs ps : Nat → Int) (hp : ∀ i, 1 ≤ ps i ∧ ps i ≤ 4095) : ∀ n, Between (coded bs ps n).2.1 (coded bs ps n).2.2 ∧ (coded bs ps n).1.length ≤ 4 * n
  | 0 => ⟨⟨show (0 : Int) ≤ 0 by decide, show (4294967295 : Int) ≤ 4294967295 by decide, show (0 : Int) / 16777216 < 4294967295 / 16777216 by decide⟩, by simp [coded]⟩
  | n + 1 => by
    obtain ⟨ih1, ih2⟩ := coded_facts bs ps hp n
    have k := narrow_in ih1 (bs n) (ps n) (hp n).1 (hp n).2
    obtain ⟨f1, f2⟩ := settle_facts k.1 k.2.1 k.2.2
    refine ⟨f2, ?_⟩
    simp only [coded, List.length_append]
    omega

/-- What is told is only added to. -/
theorem coded_grows (bs ps : Nat → Int) : ∀ (d n : Nat), ∃ r, (coded bs ps (n + d)).1 = (coded bs ps n).1 ++ r
  | 0, n => ⟨[], by simp⟩
  | d + 1, n => by
    obtain ⟨r, hr⟩ := coded_grows bs ps d n
    refine ⟨r ++ (settle 5 (narrow (coded bs ps (n + d)).2.1 (coded bs ps (n + d)).2.2 (bs (n + d)) (ps (n + d))).1 (narrow (coded bs ps (n + d)).2.1 (coded bs ps (n + d)).2.2 (bs (n + d)) (ps (n + d))).2).1, ?_⟩
    show (coded bs ps (n + d + 1)).1 = _
    rw [coded, hr]
    simp

/-- The text t begins with what is told behind k bits, and goes on between what is left: so it does at every bit ahead. -/
theorem coded_back (bs ps : Nat → Int) (hp : ∀ i, 1 ≤ ps i ∧ ps i ≤ 4095) (t : ByteArray) (k : Nat)
    (ht : ∀ i, i < (coded bs ps k).1.length → bz t i = (((coded bs ps k).1.getD i 0).toNat : Int))
    (h1 : (coded bs ps k).2.1 ≤ win t (coded bs ps k).1.length) (h2 : win t (coded bs ps k).1.length ≤ (coded bs ps k).2.2) :
    ∀ (d j : Nat), j + d = k → ((coded bs ps j).2.1 ≤ win t (coded bs ps j).1.length ∧ win t (coded bs ps j).1.length ≤ (coded bs ps j).2.2) ∧
      (j < k → (narrow (coded bs ps j).2.1 (coded bs ps j).2.2 (bs j) (ps j)).1 ≤ win t (coded bs ps j).1.length ∧ win t (coded bs ps j).1.length ≤ (narrow (coded bs ps j).2.1 (coded bs ps j).2.2 (bs j) (ps j)).2)
  | 0, j, hj => by
    obtain rfl : j = k := by omega
    exact ⟨⟨h1, h2⟩, fun h => by omega⟩
  | d + 1, j, hj => by
    obtain ⟨⟨i1, i2⟩, _⟩ := coded_back bs ps hp t k ht h1 h2 d (j + 1) (by omega)
    obtain ⟨fb, _⟩ := coded_facts bs ps hp j
    have kk := narrow_in fb (bs j) (ps j) (hp j).1 (hp j).2
    have sub := narrow_sub (bit := bs j) fb (hp j).1 (hp j).2
    obtain ⟨r, hr⟩ := coded_grows bs ps d (j + 1)
    rw [show j + 1 + d = k by omega] at hr
    simp only [coded, List.length_append] at i1 i2
    have key := settle_back t 5 _ _ (coded bs ps j).1.length kk.1 kk.2.1 kk.2.2 (by
      intro i hi
      rw [ht _ (by rw [hr]; simp only [coded, List.length_append]; omega), hr]
      simp only [coded]
      rw [List.append_assoc, List.getD_eq_getElem?_getD, List.getD_eq_getElem?_getD, List.getElem?_append_right (by omega), Nat.add_sub_cancel_left, List.getElem?_append_left hi]) i1 i2
    exact ⟨⟨by omega, by omega⟩, fun _ => key⟩

end Go.Proofs.YtocnlefpbcnlmaaGreatDoor.Coder

namespace Go.Proofs.YtocnlefpbcnlmaaGreatDoor.Deco
open Go.Proofs.YtocnlefpbcnlmaaGreatDoor.Coder Go.RowKit Go.Proofs.YtocnlefpbcnlmaaGreatDoor.Num
set_option linter.unusedVariables false

/-- Five cells that are stored, read again. -/
theorem put5 {w : World} {b : Nat} (x0 x1 x2 x3 x4 : Value) {y0 y1 y2 y3 y4 : Value} (d0 : w.cell? ⟨b, 0, none⟩ = some y0) (d1 : w.cell? ⟨b, 1, none⟩ = some y1) (d2 : w.cell? ⟨b, 2, none⟩ = some y2) (d3 : w.cell? ⟨b, 3, none⟩ = some y3) (d4 : w.cell? ⟨b, 4, none⟩ = some y4) :
    (((((w.setCell ⟨b, 0, none⟩ x0).setCell ⟨b, 1, none⟩ x1).setCell ⟨b, 2, none⟩ x2).setCell ⟨b, 3, none⟩ x3).setCell ⟨b, 4, none⟩ x4).cell? ⟨b, 0, none⟩ = some x0 ∧ (((((w.setCell ⟨b, 0, none⟩ x0).setCell ⟨b, 1, none⟩ x1).setCell ⟨b, 2, none⟩ x2).setCell ⟨b, 3, none⟩ x3).setCell ⟨b, 4, none⟩ x4).cell? ⟨b, 1, none⟩ = some x1 ∧ (((((w.setCell ⟨b, 0, none⟩ x0).setCell ⟨b, 1, none⟩ x1).setCell ⟨b, 2, none⟩ x2).setCell ⟨b, 3, none⟩ x3).setCell ⟨b, 4, none⟩ x4).cell? ⟨b, 2, none⟩ = some x2 ∧ (((((w.setCell ⟨b, 0, none⟩ x0).setCell ⟨b, 1, none⟩ x1).setCell ⟨b, 2, none⟩ x2).setCell ⟨b, 3, none⟩ x3).setCell ⟨b, 4, none⟩ x4).cell? ⟨b, 3, none⟩ = some x3 ∧ (((((w.setCell ⟨b, 0, none⟩ x0).setCell ⟨b, 1, none⟩ x1).setCell ⟨b, 2, none⟩ x2).setCell ⟨b, 3, none⟩ x3).setCell ⟨b, 4, none⟩ x4).cell? ⟨b, 4, none⟩ = some x4 := by
  have same : ∀ (W : World) (i : Nat) (x y : Value), W.cell? ⟨b, i, none⟩ = some y → (W.setCell ⟨b, i, none⟩ x).cell? ⟨b, i, none⟩ = some x := fun W i x y c => (World.cell?_setCell_same _ _ (h := c) _)
  have other : ∀ (W : World) (i j : Nat) (x y : Value), i ≠ j → W.cell? ⟨b, j, none⟩ = some y → (W.setCell ⟨b, i, none⟩ x).cell? ⟨b, j, none⟩ = some y := fun W i j x y n c => by
    rw [World.cell?_setCell_other (h := by intro k; injection k with _ k2 _; exact n k2)]; exact c
  refine ⟨?_, ?_, ?_, ?_, ?_⟩
  · exact other _ _ _ _ _ (by decide) (other _ _ _ _ _ (by decide) (other _ _ _ _ _ (by decide) (other _ _ _ _ _ (by decide) (same _ _ _ _ d0))))
  · exact other _ _ _ _ _ (by decide) (other _ _ _ _ _ (by decide) (other _ _ _ _ _ (by decide) (same _ _ _ _ (other _ _ _ _ _ (by decide) d1))))
  · exact other _ _ _ _ _ (by decide) (other _ _ _ _ _ (by decide) (same _ _ _ _ (other _ _ _ _ _ (by decide) (other _ _ _ _ _ (by decide) d2))))
  · exact other _ _ _ _ _ (by decide) (same _ _ _ _ (other _ _ _ _ _ (by decide) (other _ _ _ _ _ (by decide) (other _ _ _ _ _ (by decide) d3))))
  · exact same _ _ _ _ (other _ _ _ _ _ (by decide) (other _ _ _ _ _ (by decide) (other _ _ _ _ _ (by decide) (other _ _ _ _ _ (by decide) d4))))

/-- A cell of another block reads as it did. -/
theorem away5 {w : World} {b : Nat} {x0 x1 x2 x3 x4 v : Value} {a : Addr} (h : a.block ≠ b) (c : w.cell? a = some v) : (((((w.setCell ⟨b, 0, none⟩ x0).setCell ⟨b, 1, none⟩ x1).setCell ⟨b, 2, none⟩ x2).setCell ⟨b, 3, none⟩ x3).setCell ⟨b, 4, none⟩ x4).cell? a = some v := by
  rw [World.cell?_setCell_other (h := by intro k; exact h (by rw [← k])), World.cell?_setCell_other (h := by intro k; exact h (by rw [← k])), World.cell?_setCell_other (h := by intro k; exact h (by rw [← k])), World.cell?_setCell_other (h := by intro k; exact h (by rw [← k])), World.cell?_setCell_other (h := by intro k; exact h (by rw [← k]))]
  exact c

theorem bel5 {w0 w : World} (h : Bel w0 w) {b : Nat} (hb : w0.heap.size ≤ b) (x0 x1 x2 x3 x4 : Value) : Bel w0 (((((w.setCell ⟨b, 0, none⟩ x0).setCell ⟨b, 1, none⟩ x1).setCell ⟨b, 2, none⟩ x2).setCell ⟨b, 3, none⟩ x3).setCell ⟨b, 4, none⟩ x4) :=
  ((((h.setCell hb _).setCell hb _).setCell hb _).setCell hb _).setCell hb _

theorem free5 {w : World} {b : Nat} {x0 x1 x2 x3 x4 : Value} {a : Addr} (f : w.frozen? a = false) : (((((w.setCell ⟨b, 0, none⟩ x0).setCell ⟨b, 1, none⟩ x1).setCell ⟨b, 2, none⟩ x2).setCell ⟨b, 3, none⟩ x3).setCell ⟨b, 4, none⟩ x4).frozen? a = false := by simp [f]

/-- A decoder that is handed back out of a variable. -/
theorem results_dec2 {fn : Func} {t u : Tmp} (hf : fn.results = #[.cell t 76, .tmp u]) {tmps : Array Value} {b : Nat} {w : World} {x0 x1 x2 x3 x4 v : Value} (ht : tmps[t]?.getD undef = .pointer (some ⟨b, 0, none⟩)) (hv : tmps[u]?.getD undef = v)
    (c : w.cell? ⟨b, 0, none⟩ = some x0 ∧ w.cell? ⟨b, 1, none⟩ = some x1 ∧ w.cell? ⟨b, 2, none⟩ = some x2 ∧ w.cell? ⟨b, 3, none⟩ = some x3 ∧ w.cell? ⟨b, 4, none⟩ = some x4) : (results fn tmps).run Tryz.prog w = .ok (.tuple #[.agg #[x0, x1, x2, x3, x4], v]) w := by
  obtain ⟨c0, c1, c2, c3, c4⟩ := c
  simp [results, hf, ht, hv, go_sem, c0, c1, c2, c3, c4]

theorem results_dec3 {fn : Func} {t u v : Tmp} (hf : fn.results = #[.cell t 76, .tmp u, .tmp v]) {tmps : Array Value} {b : Nat} {w : World} {x0 x1 x2 x3 x4 y z : Value} (ht : tmps[t]?.getD undef = .pointer (some ⟨b, 0, none⟩)) (hu : tmps[u]?.getD undef = y) (hv : tmps[v]?.getD undef = z)
    (c : w.cell? ⟨b, 0, none⟩ = some x0 ∧ w.cell? ⟨b, 1, none⟩ = some x1 ∧ w.cell? ⟨b, 2, none⟩ = some x2 ∧ w.cell? ⟨b, 3, none⟩ = some x3 ∧ w.cell? ⟨b, 4, none⟩ = some x4) : (results fn tmps).run Tryz.prog w = .ok (.tuple #[.agg #[x0, x1, x2, x3, x4], y, z]) w := by
  obtain ⟨c0, c1, c2, c3, c4⟩ := c
  simp [results, hf, ht, hu, hv, go_sem, c0, c1, c2, c3, c4]

set_option maxHeartbeats 400000 in
theorem left_ok (l h x a : Int) (s : ByteArray) (w : World) :
    Calls Tryz.prog 117 #[.agg #[.int .i64 l, .int .i64 h, .int .i64 x, .string s, .int .i64 a]] w fun e w' => e = .returned (.agg #[.int .i64 l, .int .i64 h]) ∧ Bel w w' := by
  go_enter Tryz.func117, Tryz.ntmps117
  go_wp2
  refine bodyPost_ret (v := .agg #[.int .i64 l, .int .i64 h]) (by simp [results, Tryz.results117, go_sem]) rfl ⟨rfl, ?_⟩
  exact ((Bel.refl _).alloc _).alloc _

/-- What May answers. -/
def dmayB (l h x : Int) (s : ByteArray) (a : Int) : Bool := decide ((0 ≤ l ∧ h ≤ 4294967295 ∧ l / 16777216 < h / 16777216) ∧ l ≤ x ∧ x ≤ h ∧ s.size ≤ 65536 ∧ 4 ≤ a ∧ a ≤ 65544)

set_option maxHeartbeats 1000000 in
theorem may_ok (l h x a : Int) (s : ByteArray) (hs : s.size ≤ maxLen) (w : World) :
    Calls Tryz.prog 116 #[.agg #[.int .i64 l, .int .i64 h, .int .i64 x, .string s, .int .i64 a]] w fun e w' => e = .returned (.bool (dmayB l h x s a)) ∧ Bel w w' := by
  unfold maxLen at hs
  by_cases hb : Between l h
  · by_cases c0 : l ≤ x
    · by_cases c1 : x ≤ h
      · by_cases c2 : s.size ≤ 65536
        · by_cases c3 : 4 ≤ a
          · by_cases c4 : a ≤ 65544
            · have e : dmayB l h x s a = true := decide_eq_true ⟨hb, c0, c1, c2, c3, c4⟩
              rw [e]
              have d0 : decide (l ≤ x) = true := by simp; omega
              have d1 : decide (x ≤ h) = true := by simp; omega
              have d2 : decide ((s.size : Int) ≤ 65536) = true := by simp; omega
              have d3 : decide (4 ≤ a) = true := by simp; omega
              have d4 : decide (a ≤ 65544) = true := by simp; omega
              have HB : Hid (Between l h) := hb
              clear hb e c0 c1 c2 c3 c4
              go_enter Tryz.func116, Tryz.ntmps116
              go_wp2_with fail
              refine (left_ok l h x a s _).mono ?_
              rintro e w1 ⟨rfl, b1⟩
              go_wp2_with fail
              refine (span_may_yes l h HB.out _).mono ?_
              rintro e w2 ⟨rfl, b2⟩
              have b := b1.trans b2
              have c0 : w2.cell? ⟨w.heap.size, 0, none⟩ = some (.int .i64 l) := b.keep (by simp)
              have c1 : w2.cell? ⟨w.heap.size, 1, none⟩ = some (.int .i64 h) := b.keep (by simp)
              have c2 : w2.cell? ⟨w.heap.size, 2, none⟩ = some (.int .i64 x) := b.keep (by simp)
              have c3 : w2.cell? ⟨w.heap.size, 3, none⟩ = some (.string s) := b.keep (by simp)
              have c4 : w2.cell? ⟨w.heap.size, 4, none⟩ = some (.int .i64 a) := b.keep (by simp)
              have HB2 : Hid (Bel w w2) := Bel.trans ((Bel.refl _).alloc _) b
              clear b b1 b2
              go_wp2
              go_ret
              exact ⟨rfl, HB2.out⟩
            · have e : dmayB l h x s a = false := decide_eq_false fun k => c4 k.2.2.2.2.2
              rw [e]
              have d0 : decide (l ≤ x) = true := by simp; omega
              have d1 : decide (x ≤ h) = true := by simp; omega
              have d2 : decide ((s.size : Int) ≤ 65536) = true := by simp; omega
              have d3 : decide (4 ≤ a) = true := by simp; omega
              have d4 : decide (a ≤ 65544) = false := by simp; omega
              have HB : Hid (Between l h) := hb
              clear hb e c0 c1 c2 c3 c4
              go_enter Tryz.func116, Tryz.ntmps116
              go_wp2_with fail
              refine (left_ok l h x a s _).mono ?_
              rintro e w1 ⟨rfl, b1⟩
              go_wp2_with fail
              refine (span_may_yes l h HB.out _).mono ?_
              rintro e w2 ⟨rfl, b2⟩
              have b := b1.trans b2
              have c0 : w2.cell? ⟨w.heap.size, 0, none⟩ = some (.int .i64 l) := b.keep (by simp)
              have c1 : w2.cell? ⟨w.heap.size, 1, none⟩ = some (.int .i64 h) := b.keep (by simp)
              have c2 : w2.cell? ⟨w.heap.size, 2, none⟩ = some (.int .i64 x) := b.keep (by simp)
              have c3 : w2.cell? ⟨w.heap.size, 3, none⟩ = some (.string s) := b.keep (by simp)
              have c4 : w2.cell? ⟨w.heap.size, 4, none⟩ = some (.int .i64 a) := b.keep (by simp)
              have HB2 : Hid (Bel w w2) := Bel.trans ((Bel.refl _).alloc _) b
              clear b b1 b2
              go_wp2
              go_ret
              exact ⟨rfl, HB2.out⟩
          · have e : dmayB l h x s a = false := decide_eq_false fun k => c3 k.2.2.2.2.1
            rw [e]
            have d0 : decide (l ≤ x) = true := by simp; omega
            have d1 : decide (x ≤ h) = true := by simp; omega
            have d2 : decide ((s.size : Int) ≤ 65536) = true := by simp; omega
            have d3 : decide (4 ≤ a) = false := by simp; omega
            have HB : Hid (Between l h) := hb
            clear hb e c0 c1 c2 c3
            go_enter Tryz.func116, Tryz.ntmps116
            go_wp2_with fail
            refine (left_ok l h x a s _).mono ?_
            rintro e w1 ⟨rfl, b1⟩
            go_wp2_with fail
            refine (span_may_yes l h HB.out _).mono ?_
            rintro e w2 ⟨rfl, b2⟩
            have b := b1.trans b2
            have c0 : w2.cell? ⟨w.heap.size, 0, none⟩ = some (.int .i64 l) := b.keep (by simp)
            have c1 : w2.cell? ⟨w.heap.size, 1, none⟩ = some (.int .i64 h) := b.keep (by simp)
            have c2 : w2.cell? ⟨w.heap.size, 2, none⟩ = some (.int .i64 x) := b.keep (by simp)
            have c3 : w2.cell? ⟨w.heap.size, 3, none⟩ = some (.string s) := b.keep (by simp)
            have c4 : w2.cell? ⟨w.heap.size, 4, none⟩ = some (.int .i64 a) := b.keep (by simp)
            have HB2 : Hid (Bel w w2) := Bel.trans ((Bel.refl _).alloc _) b
            clear b b1 b2
            go_wp2
            go_ret
            exact ⟨rfl, HB2.out⟩
        · have e : dmayB l h x s a = false := decide_eq_false fun k => c2 k.2.2.2.1
          rw [e]
          have d0 : decide (l ≤ x) = true := by simp; omega
          have d1 : decide (x ≤ h) = true := by simp; omega
          have d2 : decide ((s.size : Int) ≤ 65536) = false := by simp; omega
          have HB : Hid (Between l h) := hb
          clear hb e c0 c1 c2
          go_enter Tryz.func116, Tryz.ntmps116
          go_wp2_with fail
          refine (left_ok l h x a s _).mono ?_
          rintro e w1 ⟨rfl, b1⟩
          go_wp2_with fail
          refine (span_may_yes l h HB.out _).mono ?_
          rintro e w2 ⟨rfl, b2⟩
          have b := b1.trans b2
          have c0 : w2.cell? ⟨w.heap.size, 0, none⟩ = some (.int .i64 l) := b.keep (by simp)
          have c1 : w2.cell? ⟨w.heap.size, 1, none⟩ = some (.int .i64 h) := b.keep (by simp)
          have c2 : w2.cell? ⟨w.heap.size, 2, none⟩ = some (.int .i64 x) := b.keep (by simp)
          have c3 : w2.cell? ⟨w.heap.size, 3, none⟩ = some (.string s) := b.keep (by simp)
          have c4 : w2.cell? ⟨w.heap.size, 4, none⟩ = some (.int .i64 a) := b.keep (by simp)
          have HB2 : Hid (Bel w w2) := Bel.trans ((Bel.refl _).alloc _) b
          clear b b1 b2
          go_wp2
          go_ret
          exact ⟨rfl, HB2.out⟩
      · have e : dmayB l h x s a = false := decide_eq_false fun k => c1 k.2.2.1
        rw [e]
        have d0 : decide (l ≤ x) = true := by simp; omega
        have d1 : decide (x ≤ h) = false := by simp; omega
        have HB : Hid (Between l h) := hb
        clear hb e c0 c1
        go_enter Tryz.func116, Tryz.ntmps116
        go_wp2_with fail
        refine (left_ok l h x a s _).mono ?_
        rintro e w1 ⟨rfl, b1⟩
        go_wp2_with fail
        refine (span_may_yes l h HB.out _).mono ?_
        rintro e w2 ⟨rfl, b2⟩
        have b := b1.trans b2
        have c0 : w2.cell? ⟨w.heap.size, 0, none⟩ = some (.int .i64 l) := b.keep (by simp)
        have c1 : w2.cell? ⟨w.heap.size, 1, none⟩ = some (.int .i64 h) := b.keep (by simp)
        have c2 : w2.cell? ⟨w.heap.size, 2, none⟩ = some (.int .i64 x) := b.keep (by simp)
        have c3 : w2.cell? ⟨w.heap.size, 3, none⟩ = some (.string s) := b.keep (by simp)
        have c4 : w2.cell? ⟨w.heap.size, 4, none⟩ = some (.int .i64 a) := b.keep (by simp)
        have HB2 : Hid (Bel w w2) := Bel.trans ((Bel.refl _).alloc _) b
        clear b b1 b2
        go_wp2
        go_ret
        exact ⟨rfl, HB2.out⟩
    · have e : dmayB l h x s a = false := decide_eq_false fun k => c0 k.2.1
      rw [e]
      have d0 : decide (l ≤ x) = false := by simp; omega
      have HB : Hid (Between l h) := hb
      clear hb e c0
      go_enter Tryz.func116, Tryz.ntmps116
      go_wp2_with fail
      refine (left_ok l h x a s _).mono ?_
      rintro e w1 ⟨rfl, b1⟩
      go_wp2_with fail
      refine (span_may_yes l h HB.out _).mono ?_
      rintro e w2 ⟨rfl, b2⟩
      have b := b1.trans b2
      have c0 : w2.cell? ⟨w.heap.size, 0, none⟩ = some (.int .i64 l) := b.keep (by simp)
      have c1 : w2.cell? ⟨w.heap.size, 1, none⟩ = some (.int .i64 h) := b.keep (by simp)
      have c2 : w2.cell? ⟨w.heap.size, 2, none⟩ = some (.int .i64 x) := b.keep (by simp)
      have c3 : w2.cell? ⟨w.heap.size, 3, none⟩ = some (.string s) := b.keep (by simp)
      have c4 : w2.cell? ⟨w.heap.size, 4, none⟩ = some (.int .i64 a) := b.keep (by simp)
      have HB2 : Hid (Bel w w2) := Bel.trans ((Bel.refl _).alloc _) b
      clear b b1 b2
      go_wp2
      go_ret
      exact ⟨rfl, HB2.out⟩
  · have e : dmayB l h x s a = false := decide_eq_false fun k => hb k.1
    rw [e]
    have HB : Hid (¬ Between l h) := hb
    clear hb e
    go_enter Tryz.func116, Tryz.ntmps116
    go_wp2_with fail
    refine (left_ok l h x a s _).mono ?_
    rintro e w1 ⟨rfl, b1⟩
    go_wp2_with fail
    refine (span_may_no l h HB.out _).mono ?_
    rintro e w2 ⟨rfl, b2⟩
    have HB2 : Hid (Bel w w2) := Bel.trans ((Bel.refl _).alloc _) (b1.trans b2)
    clear b1 b2
    go_wp2
    go_ret
    exact ⟨rfl, HB2.out⟩

set_option maxHeartbeats 1000000 in
theorem decoderMay_ok (l h x a : Int) (s : ByteArray) (hs : s.size ≤ maxLen) (w : World) :
    Calls Tryz.prog 68 #[.agg #[.int .i64 l, .int .i64 h, .int .i64 x, .string s, .int .i64 a]] w fun e w' => e = .returned (.bool (dmayB l h x s a)) ∧ Bel w w' := by
  unfold maxLen at hs
  have q1 := between_ok l h
  have q2 := upTo_ok x l h
  have q3 := upTo_ok a 4 65544
  cases hb : betweenB l h with
  | false =>
    have e : dmayB l h x s a = false := decide_eq_false fun k => of_decide_eq_false hb k.1
    rw [e]
    rw [hb] at q1
    have Q1 : Hid (∀ w, Calls Tryz.prog 96 #[.int .i64 l, .int .i64 h] w fun e w' => e = .returned (.bool false) ∧ w' = w) := q1
    clear q1 q2 q3 e hb
    go_enter Tryz.func68, Tryz.ntmps68
    go_wp2_with fail
    refine (Q1.out _).mono ?_
    rintro e w1 ⟨rfl, rfl⟩
    go_wp2
    go_ret
    exact ⟨rfl, (Bel.refl _).alloc _⟩
  | true =>
   cases hx : decide (l ≤ x ∧ x ≤ h) with
   | false =>
    have e : dmayB l h x s a = false := decide_eq_false fun k => of_decide_eq_false hx ⟨k.2.1, k.2.2.1⟩
    rw [e]
    rw [hb] at q1
    rw [hx] at q2
    have Q1 : Hid (∀ w, Calls Tryz.prog 96 #[.int .i64 l, .int .i64 h] w fun e w' => e = .returned (.bool true) ∧ w' = w) := q1
    have Q2 : Hid (∀ w, Calls Tryz.prog 51 #[.int .i64 x, .int .i64 l, .int .i64 h] w fun e w' => e = .returned (.bool false) ∧ w' = w) := q2
    clear q1 q2 q3 e hb hx
    go_enter Tryz.func68, Tryz.ntmps68
    go_wp2_with fail
    refine (Q1.out _).mono ?_
    rintro e w1 ⟨rfl, rfl⟩
    go_wp2_with fail
    refine (Q2.out _).mono ?_
    rintro e w1 ⟨rfl, rfl⟩
    go_wp2
    go_ret
    exact ⟨rfl, (Bel.refl _).alloc _⟩
   | true =>
    by_cases hz : s.size ≤ 65536
    · cases ha : decide (4 ≤ a ∧ a ≤ 65544) with
      | false =>
        have e : dmayB l h x s a = false := decide_eq_false fun k => of_decide_eq_false ha ⟨k.2.2.2.2.1, k.2.2.2.2.2⟩
        rw [e]
        have hz' : decide ((s.size : Int) ≤ 65536) = true := by simp; omega
        rw [hb] at q1
        rw [hx] at q2
        rw [ha] at q3
        have Q1 : Hid (∀ w, Calls Tryz.prog 96 #[.int .i64 l, .int .i64 h] w fun e w' => e = .returned (.bool true) ∧ w' = w) := q1
        have Q2 : Hid (∀ w, Calls Tryz.prog 51 #[.int .i64 x, .int .i64 l, .int .i64 h] w fun e w' => e = .returned (.bool true) ∧ w' = w) := q2
        have Q3 : Hid (∀ w, Calls Tryz.prog 51 #[.int .i64 a, .int .i64 4, .int .i64 65544] w fun e w' => e = .returned (.bool false) ∧ w' = w) := q3
        clear q1 q2 q3 e hb hx hz ha
        go_enter Tryz.func68, Tryz.ntmps68
        go_wp2_with fail
        refine (Q1.out _).mono ?_
        rintro e w1 ⟨rfl, rfl⟩
        go_wp2_with fail
        refine (Q2.out _).mono ?_
        rintro e w1 ⟨rfl, rfl⟩
        go_wp2_with fail
        refine (Q3.out _).mono ?_
        rintro e w1 ⟨rfl, rfl⟩
        go_wp2
        go_ret
        exact ⟨rfl, (Bel.refl _).alloc _⟩
      | true =>
        have e : dmayB l h x s a = true := decide_eq_true ⟨of_decide_eq_true hb, (of_decide_eq_true hx).1, (of_decide_eq_true hx).2, hz, (of_decide_eq_true ha).1, (of_decide_eq_true ha).2⟩
        rw [e]
        have hz' : decide ((s.size : Int) ≤ 65536) = true := by simp; omega
        rw [hb] at q1
        rw [hx] at q2
        rw [ha] at q3
        have Q1 : Hid (∀ w, Calls Tryz.prog 96 #[.int .i64 l, .int .i64 h] w fun e w' => e = .returned (.bool true) ∧ w' = w) := q1
        have Q2 : Hid (∀ w, Calls Tryz.prog 51 #[.int .i64 x, .int .i64 l, .int .i64 h] w fun e w' => e = .returned (.bool true) ∧ w' = w) := q2
        have Q3 : Hid (∀ w, Calls Tryz.prog 51 #[.int .i64 a, .int .i64 4, .int .i64 65544] w fun e w' => e = .returned (.bool true) ∧ w' = w) := q3
        clear q1 q2 q3 e hb hx hz ha
        go_enter Tryz.func68, Tryz.ntmps68
        go_wp2_with fail
        refine (Q1.out _).mono ?_
        rintro e w1 ⟨rfl, rfl⟩
        go_wp2_with fail
        refine (Q2.out _).mono ?_
        rintro e w1 ⟨rfl, rfl⟩
        go_wp2_with fail
        refine (Q3.out _).mono ?_
        rintro e w1 ⟨rfl, rfl⟩
        go_wp2
        go_ret
        exact ⟨rfl, (Bel.refl _).alloc _⟩
    · have e : dmayB l h x s a = false := decide_eq_false fun k => hz k.2.2.2.1
      rw [e]
      have hz' : decide ((s.size : Int) ≤ 65536) = false := by simp; omega
      rw [hb] at q1
      rw [hx] at q2
      have Q1 : Hid (∀ w, Calls Tryz.prog 96 #[.int .i64 l, .int .i64 h] w fun e w' => e = .returned (.bool true) ∧ w' = w) := q1
      have Q2 : Hid (∀ w, Calls Tryz.prog 51 #[.int .i64 x, .int .i64 l, .int .i64 h] w fun e w' => e = .returned (.bool true) ∧ w' = w) := q2
      clear q1 q2 q3 e hb hx hz
      go_enter Tryz.func68, Tryz.ntmps68
      go_wp2_with fail
      refine (Q1.out _).mono ?_
      rintro e w1 ⟨rfl, rfl⟩
      go_wp2_with fail
      refine (Q2.out _).mono ?_
      rintro e w1 ⟨rfl, rfl⟩
      go_wp2
      go_ret
      exact ⟨rfl, (Bel.refl _).alloc _⟩

theorem idx (s : ByteArray) (k : Nat) (h : k < s.size) (w : World) :
    (Instr.index 9 (.string s) (.int .i64 (k : Int))).run Tryz.prog w = .ok (.int .u8 (bz s k)) w := by
  rw [run_index_string (P := Tryz.prog) w 9 s .i64 (k : Int) Tryz.underlying9]
  have hb : 0 ≤ (k : Int) ∧ (k : Int) < s.size := by omega
  rw [dif_pos hb]
  have hl : k < s.data.toList.length := by simpa using h
  unfold bz
  rw [List.getD_eq_getElem?_getD, List.getElem?_eq_getElem hl]
  rfl

set_option maxHeartbeats 400000 in
theorem byteAt_ok (s : ByteArray) (k : Nat) (hk : k ≤ 1000000) (hs : s.size ≤ maxLen) (w : World) :
    Calls Tryz.prog 98 #[.string s, .int .i64 (k : Int)] w fun e w' => e = .returned (.int .u8 (bz s k)) ∧ w' = w := by
  unfold maxLen at hs
  by_cases h : k < s.size
  · have hi := idx s k h
    have hd : decide ((k : Int) < (s.size : Int)) = true := by simp; omega
    generalize bz s k = b at *
    go_enter Tryz.func98, Tryz.ntmps98
    go_wp2
    go_ret
    exact ⟨rfl, rfl⟩
  · have hd : decide ((k : Int) < (s.size : Int)) = false := by simp; omega
    rw [bz_out s k (by omega)]
    go_enter Tryz.func98, Tryz.ntmps98
    go_wp2
    go_ret
    exact ⟨rfl, rfl⟩

set_option maxHeartbeats 400000 in
theorem rbyteAt_ok (s : ByteArray) (k : Nat) (hk : k ≤ 1000000) (hs : s.size ≤ maxLen) (w : World) :
    Calls Tryz.prog 67 #[.string s, .int .i64 (k : Int)] w fun e w' => e = .returned (.int .i64 (bz s k)) ∧ w' = w := by
  unfold maxLen at hs
  by_cases h : k < s.size
  · have hi := idx s k h
    have hd : decide ((s.size : Int) ≤ (k : Int)) = false := by simp; omega
    have hb := bz_bounds s k
    obtain ⟨hb0, hb1⟩ := hb
    generalize bz s k = b at *
    go_enter Tryz.func67, Tryz.ntmps67
    go_wp2
    go_ret
    exact ⟨rfl, rfl⟩
  · have hd : decide ((s.size : Int) ≤ (k : Int)) = true := by simp; omega
    rw [bz_out s k (by omega)]
    go_enter Tryz.func67, Tryz.ntmps67
    go_wp2
    go_ret
    exact ⟨rfl, rfl⟩

end Go.Proofs.YtocnlefpbcnlmaaGreatDoor.Deco

namespace Go.Proofs.YtocnlefpbcnlmaaGreatDoor.Deco
open Go.Proofs.YtocnlefpbcnlmaaGreatDoor.Coder Go.RowKit Go.Proofs.YtocnlefpbcnlmaaGreatDoor.Num
set_option linter.unusedVariables false

/-- What New answers. -/
def newAns (s : ByteArray) : Value := if s.size ≤ 65536 then .tuple #[.agg #[.int .i64 0, .int .i64 4294967295, .int .i64 (win s 0), .string s, .int .i64 4], .int .i64 0] else .tuple #[.agg #[.int .i64 0, .int .i64 0, .int .i64 0, .string (⟨#[]⟩), .int .i64 0], .int .i64 500]

set_option maxHeartbeats 1000000 in
theorem new_ok (s : ByteArray) (hs : s.size ≤ maxLen) (w : World) :
    Calls Tryz.prog 63 #[.string s] w fun e w' => e = .returned (newAns s) ∧ Bel w w' := by
  have hs' := hs
  unfold maxLen at hs
  by_cases hz : s.size ≤ 65536
  · rw [newAns, if_pos hz]
    have hz' : decide (65536 < (s.size : Int)) = false := by simp; omega
    rw [← now_four s]
    have n := nowAt_in s 0 0 (by omega) (by omega)
    have B0 : Hid (∀ w, Calls Tryz.prog 98 #[.string s, .int .i64 0] w fun e w' => e = .returned (.int .u8 (bz s 0)) ∧ w' = w) := byteAt_ok s 0 (by omega) hs'
    have P0 : Hid (∀ w, Calls Tryz.prog 97 #[.int .i64 0, .int .u8 (bz s 0)] w fun e w' => e = .returned (.int .i64 (nowAt s 0 0 1)) ∧ w' = w) := push_ok (nowAt s 0 0 0) (bz s 0) (n 0).1 (n 0).2 (bz_bounds s 0).1 (bz_bounds s 0).2
    have B1 : Hid (∀ w, Calls Tryz.prog 98 #[.string s, .int .i64 1] w fun e w' => e = .returned (.int .u8 (bz s 1)) ∧ w' = w) := byteAt_ok s 1 (by omega) hs'
    have P1 : Hid (∀ w, Calls Tryz.prog 97 #[.int .i64 (nowAt s 0 0 1), .int .u8 (bz s 1)] w fun e w' => e = .returned (.int .i64 (nowAt s 0 0 2)) ∧ w' = w) := push_ok (nowAt s 0 0 1) (bz s 1) (n 1).1 (n 1).2 (bz_bounds s 1).1 (bz_bounds s 1).2
    have B2 : Hid (∀ w, Calls Tryz.prog 98 #[.string s, .int .i64 2] w fun e w' => e = .returned (.int .u8 (bz s 2)) ∧ w' = w) := byteAt_ok s 2 (by omega) hs'
    have P2 : Hid (∀ w, Calls Tryz.prog 97 #[.int .i64 (nowAt s 0 0 2), .int .u8 (bz s 2)] w fun e w' => e = .returned (.int .i64 (nowAt s 0 0 3)) ∧ w' = w) := push_ok (nowAt s 0 0 2) (bz s 2) (n 2).1 (n 2).2 (bz_bounds s 2).1 (bz_bounds s 2).2
    have B3 : Hid (∀ w, Calls Tryz.prog 98 #[.string s, .int .i64 3] w fun e w' => e = .returned (.int .u8 (bz s 3)) ∧ w' = w) := byteAt_ok s 3 (by omega) hs'
    have P3 : Hid (∀ w, Calls Tryz.prog 97 #[.int .i64 (nowAt s 0 0 3), .int .u8 (bz s 3)] w fun e w' => e = .returned (.int .i64 (nowAt s 0 0 4)) ∧ w' = w) := push_ok (nowAt s 0 0 3) (bz s 3) (n 3).1 (n 3).2 (bz_bounds s 3).1 (bz_bounds s 3).2
    generalize bz s 0 = b0 at *
    generalize bz s 1 = b1 at *
    generalize bz s 2 = b2 at *
    generalize bz s 3 = b3 at *
    generalize nowAt s 0 0 1 = x1 at *
    generalize nowAt s 0 0 2 = x2 at *
    generalize nowAt s 0 0 3 = x3 at *
    generalize nowAt s 0 0 4 = x4 at *
    clear hs' n
    go_enter Tryz.func63, Tryz.ntmps63
    go_wp2
    refine wp_loop_rounds 5 ?_
    rw [rounds_succ]
    go_wp2_with fail
    refine (B0.out _).mono ?_
    rintro e w1 ⟨rfl, rfl⟩
    go_wp2_with fail
    refine (P0.out _).mono ?_
    rintro e w1 ⟨rfl, rfl⟩
    go_wp2_with fail
    rw [rounds_succ]
    go_wp2_with fail
    refine (B1.out _).mono ?_
    rintro e w1 ⟨rfl, rfl⟩
    go_wp2_with fail
    refine (P1.out _).mono ?_
    rintro e w1 ⟨rfl, rfl⟩
    go_wp2_with fail
    rw [rounds_succ]
    go_wp2_with fail
    refine (B2.out _).mono ?_
    rintro e w1 ⟨rfl, rfl⟩
    go_wp2_with fail
    refine (P2.out _).mono ?_
    rintro e w1 ⟨rfl, rfl⟩
    go_wp2_with fail
    rw [rounds_succ]
    go_wp2_with fail
    refine (B3.out _).mono ?_
    rintro e w1 ⟨rfl, rfl⟩
    go_wp2_with fail
    refine (P3.out _).mono ?_
    rintro e w1 ⟨rfl, rfl⟩
    go_wp2_with fail
    rw [rounds_succ]
    go_wp2_with fail
    refine (whole_ok _).mono ?_
    rintro e w1 ⟨rfl, b1⟩
    have d0 : w1.cell? ⟨w.heap.size, 0, none⟩ = some (.int .i64 0) := b1.keep (by simp)
    have f0 : w1.frozen? ⟨w.heap.size, 0, none⟩ = false := by rw [b1.frozen (by simp)]; simp
    have d1 : w1.cell? ⟨w.heap.size, 1, none⟩ = some (.int .i64 0) := b1.keep (by simp)
    have f1 : w1.frozen? ⟨w.heap.size, 1, none⟩ = false := by rw [b1.frozen (by simp)]; simp
    have d2 : w1.cell? ⟨w.heap.size, 2, none⟩ = some (.int .i64 0) := b1.keep (by simp)
    have f2 : w1.frozen? ⟨w.heap.size, 2, none⟩ = false := by rw [b1.frozen (by simp)]; simp
    have d3 : w1.cell? ⟨w.heap.size, 3, none⟩ = some (.string ⟨#[]⟩) := b1.keep (by simp)
    have f3 : w1.frozen? ⟨w.heap.size, 3, none⟩ = false := by rw [b1.frozen (by simp)]; simp
    have d4 : w1.cell? ⟨w.heap.size, 4, none⟩ = some (.int .i64 0) := b1.keep (by simp)
    have f4 : w1.frozen? ⟨w.heap.size, 4, none⟩ = false := by rw [b1.frozen (by simp)]; simp
    have hlt : w.heap.size < w1.heap.size := block_lt_of_cell d0
    have HB1 : Hid (Bel w w1) := Bel.trans ((Bel.refl _).alloc _) b1
    clear b1
    go_wp2
    have r := put5 (.int .i64 0) (.int .i64 4294967295) (.int .i64 x4) (.string s) (.int .i64 4) d0 d1 d2 d3 d4
    have ba := (Bel.refl (((((w1.setCell ⟨w.heap.size, 0, none⟩ (.int .i64 0)).setCell ⟨w.heap.size, 1, none⟩ (.int .i64 4294967295)).setCell ⟨w.heap.size, 2, none⟩ (.int .i64 x4)).setCell ⟨w.heap.size, 3, none⟩ (.string s)).setCell ⟨w.heap.size, 4, none⟩ (.int .i64 4))).alloc (.cells #[.int .i64 0, .int .i64 4294967295] 85)
    refine bodyPost_ret (results_dec2 Tryz.results63 rfl rfl ⟨ba.keep r.1, ba.keep r.2.1, ba.keep r.2.2.1, ba.keep r.2.2.2.1, ba.keep r.2.2.2.2⟩) rfl ⟨rfl, ?_⟩
    exact (bel5 HB1.out (Nat.le_refl _) _ _ _ _ _).trans ba
  · rw [newAns, if_neg hz]
    have hz' : decide (65536 < (s.size : Int)) = true := by simp; omega
    go_enter Tryz.func63, Tryz.ntmps63
    go_wp2
    refine bodyPost_ret (results_dec2 Tryz.results63 rfl rfl ⟨by simp, by simp, by simp, by simp, by simp⟩) rfl ⟨rfl, ?_⟩
    exact (Bel.refl _).alloc _

set_option maxHeartbeats 1000000 in
theorem newDecoder_ok (s : ByteArray) (hs : s.size ≤ maxLen) (w : World) :
    Calls Tryz.prog 36 #[.string s] w fun e w' => e = .returned (newAns s) ∧ Bel w w' := by
  have hs' := hs
  unfold maxLen at hs
  by_cases hz : s.size ≤ 65536
  · rw [newAns, if_pos hz]
    have hz' : decide (65536 < (s.size : Int)) = false := by simp; omega
    rw [win]
    have B0 : Hid (∀ w, Calls Tryz.prog 67 #[.string s, .int .i64 0] w fun e w' => e = .returned (.int .i64 (bz s 0)) ∧ w' = w) := rbyteAt_ok s 0 (by omega) hs'
    obtain ⟨k0, m0⟩ := bz_bounds s 0
    have B1 : Hid (∀ w, Calls Tryz.prog 67 #[.string s, .int .i64 1] w fun e w' => e = .returned (.int .i64 (bz s 1)) ∧ w' = w) := rbyteAt_ok s 1 (by omega) hs'
    obtain ⟨k1, m1⟩ := bz_bounds s 1
    have B2 : Hid (∀ w, Calls Tryz.prog 67 #[.string s, .int .i64 2] w fun e w' => e = .returned (.int .i64 (bz s 2)) ∧ w' = w) := rbyteAt_ok s 2 (by omega) hs'
    obtain ⟨k2, m2⟩ := bz_bounds s 2
    have B3 : Hid (∀ w, Calls Tryz.prog 67 #[.string s, .int .i64 3] w fun e w' => e = .returned (.int .i64 (bz s 3)) ∧ w' = w) := rbyteAt_ok s 3 (by omega) hs'
    obtain ⟨k3, m3⟩ := bz_bounds s 3
    simp only [Nat.zero_add]
    generalize bz s 0 = b0 at *
    generalize bz s 1 = b1 at *
    generalize bz s 2 = b2 at *
    generalize bz s 3 = b3 at *
    have o1 := or_join 24 (by decide) (b0 * 16777216) (b1 * 65536) (by omega) (by omega) (by omega) (by omega) (by omega)
    have o2 := or_join 16 (by decide) (b0 * 16777216 + b1 * 65536) (b2 * 256) (by omega) (by omega) (by omega) (by omega) (by omega)
    have o3 := or_join 8 (by decide) (b0 * 16777216 + b1 * 65536 + b2 * 256) b3 (by omega) (by omega) (by omega) (by omega) (by omega)
    clear hs'
    go_enter Tryz.func36, Tryz.ntmps36
    go_wp2_with fail
    refine (B0.out _).mono ?_
    rintro e w1 ⟨rfl, rfl⟩
    go_wp2_with fail
    refine (B1.out _).mono ?_
    rintro e w1 ⟨rfl, rfl⟩
    go_wp2_with fail
    refine (B2.out _).mono ?_
    rintro e w1 ⟨rfl, rfl⟩
    go_wp2_with fail
    refine (B3.out _).mono ?_
    rintro e w1 ⟨rfl, rfl⟩
    go_wp2
    refine bodyPost_ret (results_dec2 Tryz.results36 rfl rfl ⟨by simp, by simp, by simp, by simp, by simp⟩) rfl ⟨rfl, ?_⟩
    exact (Bel.refl _).alloc _
  · rw [newAns, if_neg hz]
    have hz' : decide (65536 < (s.size : Int)) = true := by simp; omega
    go_enter Tryz.func36, Tryz.ntmps36
    go_wp2
    refine bodyPost_ret (results_dec2 Tryz.results36 rfl rfl ⟨by simp, by simp, by simp, by simp, by simp⟩) rfl ⟨rfl, ?_⟩
    exact (Bel.refl _).alloc _

end Go.Proofs.YtocnlefpbcnlmaaGreatDoor.Deco
