/-
  The walk of DecoderZeros: it answers true for any text and any row of ints, a nil one too. Conditions: the text is within the reach; the row is there.
-/
import Derived.Test.YtckhehiaoodkoaaDCell
namespace Go.Proofs.Ytckhehiaoodkoaa.Coder
open Go.RowKit Go.Proofs.Ytckhehiaoodkoaa.Num
set_option linter.unusedVariables false
attribute [local go_sem ↓] Go.wp_at_zero Go.wp_at_succ

theorem bz_zeros (s : ByteArray) (i : Nat) : bz (s ++ ⟨#[0, 0, 0]⟩) i = bz s i := by
  have hz : s.data.toList.length = s.size := by simp
  by_cases h : i < s.size
  · have := bz_left s.data.toList ⟨#[0, 0, 0]⟩ i (by omega)
    simpa [bz] using this
  · rw [bz_out s i (by omega)]
    obtain ⟨d, rfl⟩ : ∃ d, i = s.data.toList.length + d := ⟨i - s.size, by omega⟩
    have := bz_right s.data.toList ⟨#[0, 0, 0]⟩ d
    have e : (⟨s.data.toList.toArray⟩ : ByteArray) = s := by cases s; simp
    rw [e] at this
    rw [this]
    match d with
    | 0 => rfl
    | 1 => rfl
    | 2 => rfl
    | d + 3 => exact bz_out _ _ (by show 3 ≤ d + 3; omega)

theorem win_zeros (s : ByteArray) (q : Nat) : win (s ++ ⟨#[0, 0, 0]⟩) q = win s q := by
  unfold win
  simp only [bz_zeros]

/-- Both texts' decoders go on alike. -/
theorem zeros_step {l h p : Int} {s : ByteArray} {q : Nat} (hb : Between l h) (h1 : l ≤ win s q) (h2 : win s q ≤ h) (hs : s.size + 3 ≤ 65536) (hq : q ≤ 60000) (hp : 1 ≤ p ∧ p ≤ 4095) :
    ∃ (n : Nat) (u v b : Int), decBit l h (win s q) s ((q + 4 : Nat) : Int) p = .tuple #[.agg #[.int .i64 u, .int .i64 v, .int .i64 (win s (q + n)), .string s, .int .i64 ((q + n + 4 : Nat) : Int)], .int .i64 b, .int .i64 0] ∧
      decBit l h (win s q) (s ++ ⟨#[0, 0, 0]⟩) ((q + 4 : Nat) : Int) p = .tuple #[.agg #[.int .i64 u, .int .i64 v, .int .i64 (win s (q + n)), .string (s ++ ⟨#[0, 0, 0]⟩), .int .i64 ((q + n + 4 : Nat) : Int)], .int .i64 b, .int .i64 0] ∧
      Between u v ∧ u ≤ win s (q + n) ∧ win s (q + n) ≤ v ∧ n ≤ 4 := by
  have tz : (s ++ ⟨#[0, 0, 0]⟩ : ByteArray).size = s.size + 3 := ByteArray.size_append
  obtain ⟨cs, u, v, he, hd, f1, f2, f3, f4, _⟩ := dec_step (p := p) hb h1 h2 (by omega) hq hp
  obtain ⟨cs', u', v', he', hd', _⟩ := dec_step (p := p) (s := s ++ ⟨#[0, 0, 0]⟩) (q := q) hb (by rw [win_zeros]; exact h1) (by rw [win_zeros]; exact h2) (by omega) hq hp
  rw [win_zeros] at he' hd'
  rw [he] at he'
  injection he' with e1 e2
  injection e2 with e2 e3
  subst e1 e2 e3
  rw [win_zeros] at hd'
  exact ⟨cs.length, u, v, _, hd, hd', f1, f2, f3, f4⟩

set_option maxRecDepth 20000 in
set_option maxHeartbeats 1000000 in
theorem zeros_long (s : ByteArray) (a1 : Option Addr) (n1 c1' : Nat) (hs : s.size ≤ 140737488351232) (hn1 : n1 ≤ maxLen) (hx : 65536 < s.size) (w : World) :
    Calls Try.prog 6 #[.string s, .slice a1 n1 c1'] w fun e w' => e = .returned (.bool true) ∧ Bel w w' := by
  unfold maxLen at hn1
  have hcat : ¬ 9223372036854775807 < s.size + 3 := by omega
  have q1 := new_ok s (by unfold maxLen; omega)
  have tz : (s ++ ⟨#[0, 0, 0]⟩ : ByteArray).size = s.size + 3 := ByteArray.size_append
  have q2 := new_ok (s ++ ⟨#[0, 0, 0]⟩) (by unfold maxLen; omega)
  rw [newAns, if_neg (by omega)] at q1
  rw [newAns, if_neg (by omega)] at q2
  obtain ⟨s', hcc⟩ : ∃ s', s ++ ⟨#[0, 0, 0]⟩ = s' := ⟨_, rfl⟩
  rw [hcc] at q2 tz
  have Q1 : Hid (∀ w, Calls Try.prog 10 #[.string s] w fun e w' => e = .returned (.tuple #[.agg #[.int .i64 0, .int .i64 0, .int .i64 0, .string (⟨#[]⟩), .int .i64 0], .int .i64 500]) ∧ Bel w w') := q1
  have Q2 : Hid (∀ w, Calls Try.prog 10 #[.string s'] w fun e w' => e = .returned (.tuple #[.agg #[.int .i64 0, .int .i64 0, .int .i64 0, .string (⟨#[]⟩), .int .i64 0], .int .i64 500]) ∧ Bel w w') := q2
  have hd : decide (65536 < (s.size : Int) + 3) = true := by simp; omega
  clear q1 q2
  go_enter Try.func6, Try.ntmps6
  go_wp2_with fail
  refine (awake_true _).mono ?_
  rintro e w1 ⟨rfl, b1⟩
  have HB1 : Hid (Bel w w1) := b1
  clear b1
  go_wp2_with fail
  refine (Q1.out _).mono ?_
  rintro e w2 ⟨rfl, b2⟩
  have HB2 : Hid (Bel w w2) := HB1.out.trans b2
  clear b2 HB1
  go_wp2_with fail
  try rw [hcc]
  clear hcc
  with_reducible refine (Q2.out _).mono ?_
  rintro e w3 ⟨rfl, b3⟩
  have HB3 : Hid (Bel w w3) := (HB2.out.alloc _).trans b3
  clear b3 HB2
  go_wp2_with fail
  refine (num_ok _ _).mono ?_
  rintro e w4 ⟨rfl, rfl⟩
  go_wp2
  go_ret
  exact ⟨rfl, HB3.out.alloc _⟩

set_option maxRecDepth 20000 in
set_option maxHeartbeats 1000000 in
theorem zeros_edge (s : ByteArray) (a1 : Option Addr) (n1 c1' : Nat) (hs : s.size ≤ 140737488351232) (hn1 : n1 ≤ maxLen) (hx : 65536 < s.size + 3) (hy : s.size ≤ 65536) (w : World) :
    Calls Try.prog 6 #[.string s, .slice a1 n1 c1'] w fun e w' => e = .returned (.bool true) ∧ Bel w w' := by
  unfold maxLen at hn1
  have hcat : ¬ 9223372036854775807 < s.size + 3 := by omega
  have q1 := new_ok s (by unfold maxLen; omega)
  have tz : (s ++ ⟨#[0, 0, 0]⟩ : ByteArray).size = s.size + 3 := ByteArray.size_append
  have q2 := new_ok (s ++ ⟨#[0, 0, 0]⟩) (by unfold maxLen; omega)
  rw [newAns, if_pos (by omega)] at q1
  rw [newAns, if_neg (by omega)] at q2
  obtain ⟨s', hcc⟩ : ∃ s', s ++ ⟨#[0, 0, 0]⟩ = s' := ⟨_, rfl⟩
  rw [hcc] at q2 tz
  generalize win s 0 = x0 at *
  have Q1 : Hid (∀ w, Calls Try.prog 10 #[.string s] w fun e w' => e = .returned (.tuple #[.agg #[.int .i64 0, .int .i64 4294967295, .int .i64 x0, .string s, .int .i64 4], .int .i64 0]) ∧ Bel w w') := q1
  have Q2 : Hid (∀ w, Calls Try.prog 10 #[.string s'] w fun e w' => e = .returned (.tuple #[.agg #[.int .i64 0, .int .i64 0, .int .i64 0, .string (⟨#[]⟩), .int .i64 0], .int .i64 500]) ∧ Bel w w') := q2
  have hd : decide (65536 < (s.size : Int) + 3) = true := by simp; omega
  clear q1 q2
  go_enter Try.func6, Try.ntmps6
  go_wp2_with fail
  refine (awake_true _).mono ?_
  rintro e w1 ⟨rfl, b1⟩
  have HB1 : Hid (Bel w w1) := b1
  clear b1
  go_wp2_with fail
  refine (Q1.out _).mono ?_
  rintro e w2 ⟨rfl, b2⟩
  have HB2 : Hid (Bel w w2) := HB1.out.trans b2
  clear b2 HB1
  go_wp2_with fail
  try rw [hcc]
  clear hcc
  with_reducible refine (Q2.out _).mono ?_
  rintro e w3 ⟨rfl, b3⟩
  have HB3 : Hid (Bel w w3) := (HB2.out.alloc _).trans b3
  clear b3 HB2
  go_wp2_with fail
  refine (num_ok _ _).mono ?_
  rintro e w4 ⟨rfl, rfl⟩
  go_wp2_with fail
  refine (num_ok _ _).mono ?_
  rintro e w4 ⟨rfl, rfl⟩
  go_wp2
  go_ret
  exact ⟨rfl, HB3.out.alloc _⟩

set_option maxRecDepth 20000 in
set_option maxHeartbeats 1500000 in
theorem zeros_rows (s : ByteArray) (a1 : Option Addr) (n1 c1' : Nat) (hs : s.size ≤ 140737488351232) (hn1 : n1 ≤ maxLen) (hx : s.size + 3 ≤ 65536) (z1 : Nat → Int) (m : Nat) (hm1 : m ≤ n1) (hm2 : m ≤ 60) (hm : m = n1 ∨ m = 60) (w : World)
    (hz1 : ∀ i, i < m → ∃ x, a1 = some x ∧ w.cell? (x.add i) = some (.int .i64 (z1 i))) :
    Calls Try.prog 6 #[.string s, .slice a1 n1 c1'] w fun e w' => e = .returned (.bool true) ∧ Bel w w' := by
  unfold maxLen at hn1
  have hcat : ¬ 9223372036854775807 < s.size + 3 := by omega
  have q1 := new_ok s (by unfold maxLen; omega)
  have tz : (s ++ ⟨#[0, 0, 0]⟩ : ByteArray).size = s.size + 3 := ByteArray.size_append
  have q2 := new_ok (s ++ ⟨#[0, 0, 0]⟩) (by unfold maxLen; omega)
  rw [newAns, if_pos (by omega)] at q1
  rw [newAns, if_pos (by omega), win_zeros] at q2
  have HST : Hid (∀ (l h p : Int) (q : Nat), Between l h → l ≤ win s q → win s q ≤ h → q ≤ 60000 → 1 ≤ p ∧ p ≤ 4095 → ∃ (n : Nat) (u v b : Int), decBit l h (win s q) s ((q + 4 : Nat) : Int) p = .tuple #[.agg #[.int .i64 u, .int .i64 v, .int .i64 (win s (q + n)), .string s, .int .i64 ((q + n + 4 : Nat) : Int)], .int .i64 b, .int .i64 0] ∧
      decBit l h (win s q) (s ++ ⟨#[0, 0, 0]⟩) ((q + 4 : Nat) : Int) p = .tuple #[.agg #[.int .i64 u, .int .i64 v, .int .i64 (win s (q + n)), .string (s ++ ⟨#[0, 0, 0]⟩), .int .i64 ((q + n + 4 : Nat) : Int)], .int .i64 b, .int .i64 0] ∧
      Between u v ∧ u ≤ win s (q + n) ∧ win s (q + n) ≤ v ∧ n ≤ 4) := fun l h p q hb h1 h2 hq hp => zeros_step hb h1 h2 hx hq hp
  have HPS : Hid (∀ i : Nat, 0 ≤ bits .and .i64 (z1 i) 4094 ∧ bits .and .i64 (z1 i) 4094 ≤ 4094) := fun i => and4094 _
  have HZ1 : Hid (∀ i, i < m → ∃ x, a1 = some x ∧ w.cell? (x.add i) = some (.int .i64 (z1 i))) := hz1
  have HW0 : Hid (0 ≤ win s 0 ∧ win s 0 ≤ 4294967295) := win_in s 0
  obtain ⟨s', hcc⟩ : ∃ s', s ++ ⟨#[0, 0, 0]⟩ = s' := ⟨_, rfl⟩
  rw [hcc] at q2 tz HST
  have Q1 : Hid (∀ w, Calls Try.prog 10 #[.string s] w fun e w' => e = .returned (.tuple #[.agg #[.int .i64 0, .int .i64 4294967295, .int .i64 (win s 0), .string s, .int .i64 4], .int .i64 0]) ∧ Bel w w') := q1
  have Q2 : Hid (∀ w, Calls Try.prog 10 #[.string s'] w fun e w' => e = .returned (.tuple #[.agg #[.int .i64 0, .int .i64 4294967295, .int .i64 (win s 0), .string s', .int .i64 4], .int .i64 0]) ∧ Bel w w') := q2
  clear q1 q2 hz1
  go_enter Try.func6, Try.ntmps6
  go_wp2_with fail
  refine (awake_true _).mono ?_
  rintro e w1 ⟨rfl, b1⟩
  have HB1 : Hid (Bel w w1) := b1
  clear b1
  go_wp2_with fail
  refine (Q1.out _).mono ?_
  rintro e w2 ⟨rfl, b2⟩
  have HB2 : Hid (Bel w w2) := HB1.out.trans b2
  clear b2 HB1
  go_wp2_with fail
  try rw [hcc]
  clear hcc
  with_reducible refine (Q2.out _).mono ?_
  rintro e w3 ⟨rfl, b3⟩
  have hAB : w2.heap.size < w3.heap.size := block_lt_of_cell (b3.keep (a := ⟨w2.heap.size, 0, none⟩) (v := .int .i64 0) (by simp))
  have HDA : Hid (DD w3 w2.heap.size 0 4294967295 (win s 0) s 4) := (DD.made w2 _ _ _ _ _).keep b3
  have HB3 : Hid (Bel w w3) := (HB2.out.alloc _).trans b3
  have hwA : w.heap.size ≤ w2.heap.size := HB2.out.size
  clear b3 HB2
  go_wp2_with fail
  refine (num_ok _ _).mono ?_
  rintro e w4 ⟨rfl, rfl⟩
  go_wp2_with fail
  refine (num_ok _ _).mono ?_
  rintro e w4 ⟨rfl, rfl⟩
  go_wp2_with fail
  go_loopw [9] (fun i wr => ∃ (j q : Nat) (l h : Int), j ≤ m ∧ i = .int .i64 (j : Int) ∧ q ≤ 4 * j ∧ Bel w wr ∧ Between l h ∧ l ≤ win s q ∧ win s q ≤ h ∧ DD wr w2.heap.size l h (win s q) s ((q + 4 : Nat) : Int) ∧ DD wr w3.heap.size l h (win s q) s' ((q + 4 : Nat) : Int)) (fun i _ => m - (intOf i).toNat)
  case atStart =>
    exact ⟨0, 0, 0, 4294967295, Nat.zero_le _, rfl, Nat.le_refl _, HB3.out.alloc _, ⟨by decide, by decide, by decide⟩, HW0.out.1, HW0.out.2, HDA.out.keep ((Bel.refl _).alloc _), DD.made w3 0 4294967295 (win s 0) s' 4⟩
  case round =>
    obtain ⟨j, q, l, h, hj, rfl, hq, hb, hbet, hl1, hl2, CA, CB⟩ := hrel
    have hwB : w.heap.size ≤ w3.heap.size := HB3.out.size
    have HB : Hid (Bel w wr) := hb
    have HC : Hid (DD wr w2.heap.size l h (win s q) s ((q + 4 : Nat) : Int)) := CA
    have HCB : Hid (DD wr w3.heap.size l h (win s q) s' ((q + 4 : Nat) : Int)) := CB
    clear hb CA CB HB3 HDA
    by_cases hlt : j < m
    · have i0 : (j : Int) < (n1 : Int) := by omega
      have i2 : (j : Int) < 60 := by omega
      obtain ⟨x1, rfl, e1⟩ := HZ1.out j hlt
      replace e1 := HB.out.keep e1
      obtain ⟨v2, v3⟩ := HPS.out j
      obtain ⟨v1, m2⟩ : ∃ v1, bits .and .i64 (z1 j) 4094 = v1 := ⟨_, rfl⟩
      rw [m2] at v2 v3
      have mw : IntKind.i64.wrap (1 + v1) = 1 + v1 := wraps_i64 _ (by omega) (by omega)
      obtain ⟨n, u, v, b, hd1, hd2, g1, g2, g3, g4⟩ := HST.out l h (1 + v1) q hbet hl1 hl2 (by omega) ⟨by omega, by omega⟩
      have q1 := bit_ok l h (win s q) (1 + v1) s ((q + 4 : Nat) : Int) (by unfold maxLen; omega)
      have q2 := bit_ok l h (win s q) (1 + v1) s' ((q + 4 : Nat) : Int) (by unfold maxLen; omega)
      rw [hd1] at q1
      rw [hd2] at q2
      have HR : Hid (q + n ≤ 4 * (j + 1) ∧ Between u v ∧ u ≤ win s (q + n) ∧ win s (q + n) ≤ v) := ⟨by omega, g1, g2, g3⟩
      obtain ⟨c0, c1, c2, c3, c4, f0, f1, f2, f3, f4⟩ := HC.out
      obtain ⟨x', hx'⟩ : ∃ x', x' = win s (q + n) := ⟨_, rfl⟩
      obtain ⟨a', ha'⟩ : ∃ a' : Int, a' = ((q + n + 4 : Nat) : Int) := ⟨_, rfl⟩
      rw [← hx', ← ha'] at q1 q2
      have HUV : Hid (x' = win s (q + n) ∧ a' = ((q + n + 4 : Nat) : Int)) := ⟨hx', ha'⟩
      clear hd1 hd2 g1 g2 g3 g4 hx' ha' hl1 hl2 hbet
      generalize win s q = x at *
      generalize ((q + 4 : Nat) : Int) = a at *
      have Q1 : Hid (∀ w, Calls Try.prog 8 #[.agg #[.int .i64 l, .int .i64 h, .int .i64 x, .string s, .int .i64 a], .int .i64 (1 + v1)] w fun e w' => e = .returned (.tuple #[.agg #[.int .i64 u, .int .i64 v, .int .i64 x', .string s, .int .i64 a'], .int .i64 b, .int .i64 0]) ∧ Bel w w') := q1
      have Q2 : Hid (∀ w, Calls Try.prog 8 #[.agg #[.int .i64 l, .int .i64 h, .int .i64 x, .string s', .int .i64 a], .int .i64 (1 + v1)] w fun e w' => e = .returned (.tuple #[.agg #[.int .i64 u, .int .i64 v, .int .i64 x', .string s', .int .i64 a'], .int .i64 b, .int .i64 0]) ∧ Bel w w') := q2
      clear q1 q2 tz hcat
      go_wp2_with fail
      have nx : w2.heap.size ≠ wr.heap.size := Nat.ne_of_lt (block_lt_of_cell c0)
      have nx1 : (x1.add j).block ≠ wr.heap.size := Nat.ne_of_lt (block_lt_of_cell e1)
      go_region_held3 (fun w' => w'.cell? ⟨w2.heap.size, 0, none⟩ = some (.int .i64 l) ∧ w'.cell? ⟨w2.heap.size, 1, none⟩ = some (.int .i64 h) ∧ w'.cell? ⟨w2.heap.size, 2, none⟩ = some (.int .i64 x) ∧ w'.cell? ⟨w2.heap.size, 3, none⟩ = some (.string s) ∧ w'.cell? ⟨w2.heap.size, 4, none⟩ = some (.int .i64 a) ∧ w'.cell? (x1.add j) = some (.int .i64 (z1 j)))
        (first
          | (with_reducible exact ⟨k0, k1, k2, k3, k4, k5⟩)
          | (with_reducible exact ⟨(Bel.refl wr).drew.keep c0, (Bel.refl wr).drew.keep c1, (Bel.refl wr).drew.keep c2, (Bel.refl wr).drew.keep c3, (Bel.refl wr).drew.keep c4, (Bel.refl wr).drew.keep e1⟩)
          | (with_reducible exact ⟨((Bel.refl wy).alloc _).keep k0, ((Bel.refl wy).alloc _).keep k1, ((Bel.refl wy).alloc _).keep k2, ((Bel.refl wy).alloc _).keep k3, ((Bel.refl wy).alloc _).keep k4, ((Bel.refl wy).alloc _).keep k5⟩)
          | (with_reducible exact ⟨away5 nx k0, away5 nx k1, away5 nx k2, away5 nx k3, away5 nx k4, away5 nx1 k5⟩)
          | (with_reducible exact ⟨((Bel.refl wr).drew.alloc _).keep c0, ((Bel.refl wr).drew.alloc _).keep c1, ((Bel.refl wr).drew.alloc _).keep c2, ((Bel.refl wr).drew.alloc _).keep c3, ((Bel.refl wr).drew.alloc _).keep c4, ((Bel.refl wr).drew.alloc _).keep e1⟩)
          | (with_reducible exact ⟨((Bel.refl wr).alloc _).drew.keep c0, ((Bel.refl wr).alloc _).drew.keep c1, ((Bel.refl wr).alloc _).drew.keep c2, ((Bel.refl wr).alloc _).drew.keep c3, ((Bel.refl wr).alloc _).drew.keep c4, ((Bel.refl wr).alloc _).drew.keep e1⟩)
          | go_keep)
        (first
          | (go_at_call 8
             with_reducible refine (Q1.out _).mono ?_
             rintro e wy ⟨rfl, b3⟩
             have p0 : wy.cell? ⟨wr.heap.size, 0, none⟩ = some (.int .i64 0) := b3.keep (by simp)
             have p1 : wy.cell? ⟨wr.heap.size, 1, none⟩ = some (.int .i64 0) := b3.keep (by simp)
             have p2 : wy.cell? ⟨wr.heap.size, 2, none⟩ = some (.int .i64 0) := b3.keep (by simp)
             have p3 : wy.cell? ⟨wr.heap.size, 3, none⟩ = some (.string ⟨#[]⟩) := b3.keep (by simp)
             have p4 : wy.cell? ⟨wr.heap.size, 4, none⟩ = some (.int .i64 0) := b3.keep (by simp)
             have r0 : wy.frozen? ⟨wr.heap.size, 0, none⟩ = false := by rw [b3.frozen (by simp)]; simp
             have r1 : wy.frozen? ⟨wr.heap.size, 1, none⟩ = false := by rw [b3.frozen (by simp)]; simp
             have r2 : wy.frozen? ⟨wr.heap.size, 2, none⟩ = false := by rw [b3.frozen (by simp)]; simp
             have r3 : wy.frozen? ⟨wr.heap.size, 3, none⟩ = false := by rw [b3.frozen (by simp)]; simp
             have r4 : wy.frozen? ⟨wr.heap.size, 4, none⟩ = false := by rw [b3.frozen (by simp)]; simp
             have bb : Bel wr wy := ((Bel.refl wr).alloc _).drew.trans b3
             have k0 := bb.keep c0
             have k1 := bb.keep c1
             have k2 := bb.keep c2
             have k3 := bb.keep c3
             have k4 := bb.keep c4
             have k5 := bb.keep e1
             clear b3)
          | (go_at_call 8
             with_reducible refine (Q1.out _).mono ?_
             rintro e wy ⟨rfl, b3⟩
             have bb : Bel wr wy := (Bel.refl wr).drew.trans b3
             have k0 := bb.keep c0
             have k1 := bb.keep c1
             have k2 := bb.keep c2
             have k3 := bb.keep c3
             have k4 := bb.keep c4
             have k5 := bb.keep e1
             clear b3))
      · have A : DD (wy.alloc (.cells #[.int .i64 u, .int .i64 v, .int .i64 x', .string s, .int .i64 a'] 23)) wy.heap.size u v x' s a' := DD.made wy _ _ _ _ _
        have ba := (Bel.refl wy).alloc (.cells #[.int .i64 u, .int .i64 v, .int .i64 x', .string s, .int .i64 a'] 23)
        have KD := HC.out.keep (bb.trans ba)
        have ROW := ba.keep k5
        have BW := bb.trans ba
        have hne : w2.heap.size ≠ wy.heap.size := Nat.ne_of_lt (block_lt_of_cell k0)
        have HBW : Hid (Bel w (wy.alloc (.cells #[.int .i64 u, .int .i64 v, .int .i64 x', .string s, .int .i64 a'] 23))) := HB.out.trans BW
        have NBW : Hid (wr.heap.size ≤ wy.heap.size) := bb.size
        have HKA : Hid (DD (wy.alloc (.cells #[.int .i64 u, .int .i64 v, .int .i64 x', .string s, .int .i64 a'] 23)) w2.heap.size l h x s a) := KD
        have HXA : Hid (DD (wy.alloc (.cells #[.int .i64 u, .int .i64 v, .int .i64 x', .string s, .int .i64 a'] 23)) wy.heap.size u v x' s a') := A
        have C2 := HCB.out.keep BW
        have hlA : wy.heap.size ≠ w2.heap.size := Ne.symm hne
        clear ba bb k0 k1 k2 k3 k4 k5 nx nx1 BW NBW c0 c1 c2 c3 c4 f0 f1 f2 f3 f4 e1 HB HC HCB hne
        have HB := HBW
        have HC : Hid (DD (wy.alloc (.cells #[.int .i64 u, .int .i64 v, .int .i64 x', .string s, .int .i64 a'] 23)) w3.heap.size l h x s' a) := C2
        have e1 := ROW
        obtain ⟨c0, c1, c2, c3, c4, f0, f1, f2, f3, f4⟩ := C2
        clear A KD ROW HBW
        generalize wy.alloc (.cells #[.int .i64 u, .int .i64 v, .int .i64 x', .string s, .int .i64 a'] 23) = W at *
        generalize wy.heap.size = NX at *
        go_wp2_with fail
        have nx : w3.heap.size ≠ W.heap.size := Nat.ne_of_lt (block_lt_of_cell c0)
        have nx1 : (x1.add j).block ≠ W.heap.size := Nat.ne_of_lt (block_lt_of_cell e1)
        go_region_held3 (fun w' => w'.cell? ⟨w3.heap.size, 0, none⟩ = some (.int .i64 l) ∧ w'.cell? ⟨w3.heap.size, 1, none⟩ = some (.int .i64 h) ∧ w'.cell? ⟨w3.heap.size, 2, none⟩ = some (.int .i64 x) ∧ w'.cell? ⟨w3.heap.size, 3, none⟩ = some (.string s') ∧ w'.cell? ⟨w3.heap.size, 4, none⟩ = some (.int .i64 a) ∧ w'.cell? (x1.add j) = some (.int .i64 (z1 j)))
          (first
            | (with_reducible exact ⟨k0, k1, k2, k3, k4, k5⟩)
            | (with_reducible exact ⟨(Bel.refl W).drew.keep c0, (Bel.refl W).drew.keep c1, (Bel.refl W).drew.keep c2, (Bel.refl W).drew.keep c3, (Bel.refl W).drew.keep c4, (Bel.refl W).drew.keep e1⟩)
            | (with_reducible exact ⟨((Bel.refl wz).alloc _).keep k0, ((Bel.refl wz).alloc _).keep k1, ((Bel.refl wz).alloc _).keep k2, ((Bel.refl wz).alloc _).keep k3, ((Bel.refl wz).alloc _).keep k4, ((Bel.refl wz).alloc _).keep k5⟩)
            | (with_reducible exact ⟨away5 nx k0, away5 nx k1, away5 nx k2, away5 nx k3, away5 nx k4, away5 nx1 k5⟩)
            | (with_reducible exact ⟨((Bel.refl W).drew.alloc _).keep c0, ((Bel.refl W).drew.alloc _).keep c1, ((Bel.refl W).drew.alloc _).keep c2, ((Bel.refl W).drew.alloc _).keep c3, ((Bel.refl W).drew.alloc _).keep c4, ((Bel.refl W).drew.alloc _).keep e1⟩)
            | (with_reducible exact ⟨((Bel.refl W).alloc _).drew.keep c0, ((Bel.refl W).alloc _).drew.keep c1, ((Bel.refl W).alloc _).drew.keep c2, ((Bel.refl W).alloc _).drew.keep c3, ((Bel.refl W).alloc _).drew.keep c4, ((Bel.refl W).alloc _).drew.keep e1⟩)
            | go_keep)
          (first
            | (go_at_call 8
               with_reducible refine (Q2.out _).mono ?_
               rintro e wz ⟨rfl, b3⟩
               have p0 : wz.cell? ⟨W.heap.size, 0, none⟩ = some (.int .i64 0) := b3.keep (by simp)
               have p1 : wz.cell? ⟨W.heap.size, 1, none⟩ = some (.int .i64 0) := b3.keep (by simp)
               have p2 : wz.cell? ⟨W.heap.size, 2, none⟩ = some (.int .i64 0) := b3.keep (by simp)
               have p3 : wz.cell? ⟨W.heap.size, 3, none⟩ = some (.string ⟨#[]⟩) := b3.keep (by simp)
               have p4 : wz.cell? ⟨W.heap.size, 4, none⟩ = some (.int .i64 0) := b3.keep (by simp)
               have r0 : wz.frozen? ⟨W.heap.size, 0, none⟩ = false := by rw [b3.frozen (by simp)]; simp
               have r1 : wz.frozen? ⟨W.heap.size, 1, none⟩ = false := by rw [b3.frozen (by simp)]; simp
               have r2 : wz.frozen? ⟨W.heap.size, 2, none⟩ = false := by rw [b3.frozen (by simp)]; simp
               have r3 : wz.frozen? ⟨W.heap.size, 3, none⟩ = false := by rw [b3.frozen (by simp)]; simp
               have r4 : wz.frozen? ⟨W.heap.size, 4, none⟩ = false := by rw [b3.frozen (by simp)]; simp
               have bb : Bel W wz := ((Bel.refl W).alloc _).drew.trans b3
               have k0 := bb.keep c0
               have k1 := bb.keep c1
               have k2 := bb.keep c2
               have k3 := bb.keep c3
               have k4 := bb.keep c4
               have k5 := bb.keep e1
               clear b3)
            | (go_at_call 8
               with_reducible refine (Q2.out _).mono ?_
               rintro e wz ⟨rfl, b3⟩
               have bb : Bel W wz := (Bel.refl W).drew.trans b3
               have k0 := bb.keep c0
               have k1 := bb.keep c1
               have k2 := bb.keep c2
               have k3 := bb.keep c3
               have k4 := bb.keep c4
               have k5 := bb.keep e1
               clear b3))
        · have A : DD (wz.alloc (.cells #[.int .i64 u, .int .i64 v, .int .i64 x', .string s', .int .i64 a'] 23)) wz.heap.size u v x' s' a' := DD.made wz _ _ _ _ _
          have ba := (Bel.refl wz).alloc (.cells #[.int .i64 u, .int .i64 v, .int .i64 x', .string s', .int .i64 a'] 23)
          have KD := HC.out.keep (bb.trans ba)
          have ROW := ba.keep k5
          have BW := bb.trans ba
          have hne : w3.heap.size ≠ wz.heap.size := Nat.ne_of_lt (block_lt_of_cell k0)
          have HBW : Hid (Bel w (wz.alloc (.cells #[.int .i64 u, .int .i64 v, .int .i64 x', .string s', .int .i64 a'] 23))) := HB.out.trans BW
          have NBW : Hid (W.heap.size ≤ wz.heap.size) := bb.size
          have XA := HXA.out.keep BW
          have KA := HKA.out.keep BW
          have hZA : wz.heap.size ≠ w2.heap.size := by have h1 := NBW.out; have h2 : w2.heap.size < W.heap.size := block_lt_of_cell HKA.out.c0; omega
          clear ba bb k0 k1 k2 k3 k4 k5 nx nx1 BW NBW c0 c1 c2 c3 c4 f0 f1 f2 f3 f4 e1 HB HC HXA HKA ROW
          generalize wz.alloc (.cells #[.int .i64 u, .int .i64 v, .int .i64 x', .string s', .int .i64 a'] 23) = W2 at *
          generalize wz.heap.size = NZ at *
          have HKA2 : Hid (DD W2 w2.heap.size l h x s a) := KA
          have HKB2 : Hid (DD W2 w3.heap.size l h x s' a) := KD
          have B2 : DD (((((W2.setCell ⟨w2.heap.size, 0, none⟩ (.int .i64 u)).setCell ⟨w2.heap.size, 1, none⟩ (.int .i64 v)).setCell ⟨w2.heap.size, 2, none⟩ (.int .i64 x')).setCell ⟨w2.heap.size, 3, none⟩ (.string s)).setCell ⟨w2.heap.size, 4, none⟩ (.int .i64 a')) w3.heap.size l h x s' a := KD.away (by omega)
          have Z2 : DD (((((W2.setCell ⟨w2.heap.size, 0, none⟩ (.int .i64 u)).setCell ⟨w2.heap.size, 1, none⟩ (.int .i64 v)).setCell ⟨w2.heap.size, 2, none⟩ (.int .i64 x')).setCell ⟨w2.heap.size, 3, none⟩ (.string s)).setCell ⟨w2.heap.size, 4, none⟩ (.int .i64 a')) NZ u v x' s' a' := A.away hZA
          have HB2 : Hid (DD (((((W2.setCell ⟨w2.heap.size, 0, none⟩ (.int .i64 u)).setCell ⟨w2.heap.size, 1, none⟩ (.int .i64 v)).setCell ⟨w2.heap.size, 2, none⟩ (.int .i64 x')).setCell ⟨w2.heap.size, 3, none⟩ (.string s)).setCell ⟨w2.heap.size, 4, none⟩ (.int .i64 a')) w3.heap.size l h x s' a) := B2
          obtain ⟨X0, X1, X2, X3, X4, _, _, _, _, _⟩ := XA
          obtain ⟨A0, A1, A2, A3, A4, F0, F1, F2, F3, F4⟩ := KA
          obtain ⟨Z0, Z1, Z2', Z3, Z4, _, _, _, _, _⟩ := A
          obtain ⟨Y0, Y1, Y2, Y3, Y4, _, _, _, _, _⟩ := Z2
          obtain ⟨B0, B1, B2', B3', B4, _, _, _, _, _⟩ := B2
          obtain ⟨_, _, _, _, _, G0, G1, G2, G3, G4⟩ := KD
          go_wp2_with fail
          refine (num_ok _ _).mono ?_
          rintro e w8 ⟨rfl, rfl⟩
          go_wp2_with fail
          refine (num_ok _ _).mono ?_
          rintro e w8 ⟨rfl, rfl⟩
          go_wp2
          go_roundw
          case rel =>
            obtain ⟨hx', ha'⟩ := HUV.out
            obtain ⟨r1, r2, r3, r4⟩ := HR.out
            subst hx' ha'
            exact ⟨j + 1, q + n, u, v, by omega, by go_num, r1, bel5 (bel5 HBW.out hwA _ _ _ _ _) hwB _ _ _ _ _, r2, r3, r4, (HKA2.out.set _ _ _ _ _).away (by omega), HB2.out.set _ _ _ _ _⟩
          case measure => simp [intOf]; omega
        · have A : DD (((((wz.setCell ⟨W.heap.size, 0, none⟩ (.int .i64 u)).setCell ⟨W.heap.size, 1, none⟩ (.int .i64 v)).setCell ⟨W.heap.size, 2, none⟩ (.int .i64 x')).setCell ⟨W.heap.size, 3, none⟩ (.string s')).setCell ⟨W.heap.size, 4, none⟩ (.int .i64 a')) W.heap.size u v x' s' a' := DD.set (l := 0) (h := 0) (x := 0) (s := ⟨#[]⟩) (k := 0) ⟨p0, p1, p2, p3, p4, r0, r1, r2, r3, r4⟩ _ _ _ _ _
          have KD : DD (((((wz.setCell ⟨W.heap.size, 0, none⟩ (.int .i64 u)).setCell ⟨W.heap.size, 1, none⟩ (.int .i64 v)).setCell ⟨W.heap.size, 2, none⟩ (.int .i64 x')).setCell ⟨W.heap.size, 3, none⟩ (.string s')).setCell ⟨W.heap.size, 4, none⟩ (.int .i64 a')) w3.heap.size l h x s' a := (HC.out.keep bb).away nx
          have ROW : (((((wz.setCell ⟨W.heap.size, 0, none⟩ (.int .i64 u)).setCell ⟨W.heap.size, 1, none⟩ (.int .i64 v)).setCell ⟨W.heap.size, 2, none⟩ (.int .i64 x')).setCell ⟨W.heap.size, 3, none⟩ (.string s')).setCell ⟨W.heap.size, 4, none⟩ (.int .i64 a')).cell? (x1.add j) = some (.int .i64 (z1 j)) := away5 nx1 k5
          have hne : w3.heap.size ≠ W.heap.size := nx
          have BW : Bel W (((((wz.setCell ⟨W.heap.size, 0, none⟩ (.int .i64 u)).setCell ⟨W.heap.size, 1, none⟩ (.int .i64 v)).setCell ⟨W.heap.size, 2, none⟩ (.int .i64 x')).setCell ⟨W.heap.size, 3, none⟩ (.string s')).setCell ⟨W.heap.size, 4, none⟩ (.int .i64 a')) := bel5 bb (Nat.le_refl _) _ _ _ _ _
          have HBW : Hid (Bel w (((((wz.setCell ⟨W.heap.size, 0, none⟩ (.int .i64 u)).setCell ⟨W.heap.size, 1, none⟩ (.int .i64 v)).setCell ⟨W.heap.size, 2, none⟩ (.int .i64 x')).setCell ⟨W.heap.size, 3, none⟩ (.string s')).setCell ⟨W.heap.size, 4, none⟩ (.int .i64 a'))) := HB.out.trans BW
          have NBW : Hid (W.heap.size ≤ W.heap.size) := Nat.le_refl _
          have XA := HXA.out.keep BW
          have KA := HKA.out.keep BW
          have hZA : W.heap.size ≠ w2.heap.size := by have h1 := NBW.out; have h2 : w2.heap.size < W.heap.size := block_lt_of_cell HKA.out.c0; omega
          clear bb k0 k1 k2 k3 k4 k5 nx nx1 p0 p1 p2 p3 p4 r0 r1 r2 r3 r4 BW NBW c0 c1 c2 c3 c4 f0 f1 f2 f3 f4 e1 HB HC HXA HKA ROW
          generalize (((((wz.setCell ⟨W.heap.size, 0, none⟩ (.int .i64 u)).setCell ⟨W.heap.size, 1, none⟩ (.int .i64 v)).setCell ⟨W.heap.size, 2, none⟩ (.int .i64 x')).setCell ⟨W.heap.size, 3, none⟩ (.string s')).setCell ⟨W.heap.size, 4, none⟩ (.int .i64 a')) = W2 at *
          generalize W.heap.size = NZ at *
          have HKA2 : Hid (DD W2 w2.heap.size l h x s a) := KA
          have HKB2 : Hid (DD W2 w3.heap.size l h x s' a) := KD
          have B2 : DD (((((W2.setCell ⟨w2.heap.size, 0, none⟩ (.int .i64 u)).setCell ⟨w2.heap.size, 1, none⟩ (.int .i64 v)).setCell ⟨w2.heap.size, 2, none⟩ (.int .i64 x')).setCell ⟨w2.heap.size, 3, none⟩ (.string s)).setCell ⟨w2.heap.size, 4, none⟩ (.int .i64 a')) w3.heap.size l h x s' a := KD.away (by omega)
          have Z2 : DD (((((W2.setCell ⟨w2.heap.size, 0, none⟩ (.int .i64 u)).setCell ⟨w2.heap.size, 1, none⟩ (.int .i64 v)).setCell ⟨w2.heap.size, 2, none⟩ (.int .i64 x')).setCell ⟨w2.heap.size, 3, none⟩ (.string s)).setCell ⟨w2.heap.size, 4, none⟩ (.int .i64 a')) NZ u v x' s' a' := A.away hZA
          have HB2 : Hid (DD (((((W2.setCell ⟨w2.heap.size, 0, none⟩ (.int .i64 u)).setCell ⟨w2.heap.size, 1, none⟩ (.int .i64 v)).setCell ⟨w2.heap.size, 2, none⟩ (.int .i64 x')).setCell ⟨w2.heap.size, 3, none⟩ (.string s)).setCell ⟨w2.heap.size, 4, none⟩ (.int .i64 a')) w3.heap.size l h x s' a) := B2
          obtain ⟨X0, X1, X2, X3, X4, _, _, _, _, _⟩ := XA
          obtain ⟨A0, A1, A2, A3, A4, F0, F1, F2, F3, F4⟩ := KA
          obtain ⟨Z0, Z1, Z2', Z3, Z4, _, _, _, _, _⟩ := A
          obtain ⟨Y0, Y1, Y2, Y3, Y4, _, _, _, _, _⟩ := Z2
          obtain ⟨B0, B1, B2', B3', B4, _, _, _, _, _⟩ := B2
          obtain ⟨_, _, _, _, _, G0, G1, G2, G3, G4⟩ := KD
          go_wp2_with fail
          refine (num_ok _ _).mono ?_
          rintro e w8 ⟨rfl, rfl⟩
          go_wp2_with fail
          refine (num_ok _ _).mono ?_
          rintro e w8 ⟨rfl, rfl⟩
          go_wp2
          go_roundw
          case rel =>
            obtain ⟨hx', ha'⟩ := HUV.out
            obtain ⟨r1, r2, r3, r4⟩ := HR.out
            subst hx' ha'
            exact ⟨j + 1, q + n, u, v, by omega, by go_num, r1, bel5 (bel5 HBW.out hwA _ _ _ _ _) hwB _ _ _ _ _, r2, r3, r4, (HKA2.out.set _ _ _ _ _).away (by omega), HB2.out.set _ _ _ _ _⟩
          case measure => simp [intOf]; omega
      · have A : DD (((((wy.setCell ⟨wr.heap.size, 0, none⟩ (.int .i64 u)).setCell ⟨wr.heap.size, 1, none⟩ (.int .i64 v)).setCell ⟨wr.heap.size, 2, none⟩ (.int .i64 x')).setCell ⟨wr.heap.size, 3, none⟩ (.string s)).setCell ⟨wr.heap.size, 4, none⟩ (.int .i64 a')) wr.heap.size u v x' s a' := DD.set (l := 0) (h := 0) (x := 0) (s := ⟨#[]⟩) (k := 0) ⟨p0, p1, p2, p3, p4, r0, r1, r2, r3, r4⟩ _ _ _ _ _
        have KD : DD (((((wy.setCell ⟨wr.heap.size, 0, none⟩ (.int .i64 u)).setCell ⟨wr.heap.size, 1, none⟩ (.int .i64 v)).setCell ⟨wr.heap.size, 2, none⟩ (.int .i64 x')).setCell ⟨wr.heap.size, 3, none⟩ (.string s)).setCell ⟨wr.heap.size, 4, none⟩ (.int .i64 a')) w2.heap.size l h x s a := (HC.out.keep bb).away nx
        have ROW : (((((wy.setCell ⟨wr.heap.size, 0, none⟩ (.int .i64 u)).setCell ⟨wr.heap.size, 1, none⟩ (.int .i64 v)).setCell ⟨wr.heap.size, 2, none⟩ (.int .i64 x')).setCell ⟨wr.heap.size, 3, none⟩ (.string s)).setCell ⟨wr.heap.size, 4, none⟩ (.int .i64 a')).cell? (x1.add j) = some (.int .i64 (z1 j)) := away5 nx1 k5
        have hne : w2.heap.size ≠ wr.heap.size := nx
        have BW : Bel wr (((((wy.setCell ⟨wr.heap.size, 0, none⟩ (.int .i64 u)).setCell ⟨wr.heap.size, 1, none⟩ (.int .i64 v)).setCell ⟨wr.heap.size, 2, none⟩ (.int .i64 x')).setCell ⟨wr.heap.size, 3, none⟩ (.string s)).setCell ⟨wr.heap.size, 4, none⟩ (.int .i64 a')) := bel5 bb (Nat.le_refl _) _ _ _ _ _
        have HBW : Hid (Bel w (((((wy.setCell ⟨wr.heap.size, 0, none⟩ (.int .i64 u)).setCell ⟨wr.heap.size, 1, none⟩ (.int .i64 v)).setCell ⟨wr.heap.size, 2, none⟩ (.int .i64 x')).setCell ⟨wr.heap.size, 3, none⟩ (.string s)).setCell ⟨wr.heap.size, 4, none⟩ (.int .i64 a'))) := HB.out.trans BW
        have NBW : Hid (wr.heap.size ≤ wr.heap.size) := Nat.le_refl _
        have HKA : Hid (DD ((((((wy.setCell ⟨wr.heap.size, 0, none⟩ (.int .i64 u)).setCell ⟨wr.heap.size, 1, none⟩ (.int .i64 v)).setCell ⟨wr.heap.size, 2, none⟩ (.int .i64 x')).setCell ⟨wr.heap.size, 3, none⟩ (.string s)).setCell ⟨wr.heap.size, 4, none⟩ (.int .i64 a'))) w2.heap.size l h x s a) := KD
        have HXA : Hid (DD ((((((wy.setCell ⟨wr.heap.size, 0, none⟩ (.int .i64 u)).setCell ⟨wr.heap.size, 1, none⟩ (.int .i64 v)).setCell ⟨wr.heap.size, 2, none⟩ (.int .i64 x')).setCell ⟨wr.heap.size, 3, none⟩ (.string s)).setCell ⟨wr.heap.size, 4, none⟩ (.int .i64 a'))) wr.heap.size u v x' s a') := A
        have C2 := HCB.out.keep BW
        have hlA : wr.heap.size ≠ w2.heap.size := Ne.symm hne
        clear bb k0 k1 k2 k3 k4 k5 nx nx1 p0 p1 p2 p3 p4 r0 r1 r2 r3 r4 BW NBW c0 c1 c2 c3 c4 f0 f1 f2 f3 f4 e1 HB HC HCB hne
        have HB := HBW
        have HC : Hid (DD ((((((wy.setCell ⟨wr.heap.size, 0, none⟩ (.int .i64 u)).setCell ⟨wr.heap.size, 1, none⟩ (.int .i64 v)).setCell ⟨wr.heap.size, 2, none⟩ (.int .i64 x')).setCell ⟨wr.heap.size, 3, none⟩ (.string s)).setCell ⟨wr.heap.size, 4, none⟩ (.int .i64 a'))) w3.heap.size l h x s' a) := C2
        have e1 := ROW
        obtain ⟨c0, c1, c2, c3, c4, f0, f1, f2, f3, f4⟩ := C2
        clear A KD ROW HBW
        generalize (((((wy.setCell ⟨wr.heap.size, 0, none⟩ (.int .i64 u)).setCell ⟨wr.heap.size, 1, none⟩ (.int .i64 v)).setCell ⟨wr.heap.size, 2, none⟩ (.int .i64 x')).setCell ⟨wr.heap.size, 3, none⟩ (.string s)).setCell ⟨wr.heap.size, 4, none⟩ (.int .i64 a')) = W at *
        generalize wr.heap.size = NX at *
        go_wp2_with fail
        have nx : w3.heap.size ≠ W.heap.size := Nat.ne_of_lt (block_lt_of_cell c0)
        have nx1 : (x1.add j).block ≠ W.heap.size := Nat.ne_of_lt (block_lt_of_cell e1)
        go_region_held3 (fun w' => w'.cell? ⟨w3.heap.size, 0, none⟩ = some (.int .i64 l) ∧ w'.cell? ⟨w3.heap.size, 1, none⟩ = some (.int .i64 h) ∧ w'.cell? ⟨w3.heap.size, 2, none⟩ = some (.int .i64 x) ∧ w'.cell? ⟨w3.heap.size, 3, none⟩ = some (.string s') ∧ w'.cell? ⟨w3.heap.size, 4, none⟩ = some (.int .i64 a) ∧ w'.cell? (x1.add j) = some (.int .i64 (z1 j)))
          (first
            | (with_reducible exact ⟨k0, k1, k2, k3, k4, k5⟩)
            | (with_reducible exact ⟨(Bel.refl W).drew.keep c0, (Bel.refl W).drew.keep c1, (Bel.refl W).drew.keep c2, (Bel.refl W).drew.keep c3, (Bel.refl W).drew.keep c4, (Bel.refl W).drew.keep e1⟩)
            | (with_reducible exact ⟨((Bel.refl wz).alloc _).keep k0, ((Bel.refl wz).alloc _).keep k1, ((Bel.refl wz).alloc _).keep k2, ((Bel.refl wz).alloc _).keep k3, ((Bel.refl wz).alloc _).keep k4, ((Bel.refl wz).alloc _).keep k5⟩)
            | (with_reducible exact ⟨away5 nx k0, away5 nx k1, away5 nx k2, away5 nx k3, away5 nx k4, away5 nx1 k5⟩)
            | (with_reducible exact ⟨((Bel.refl W).drew.alloc _).keep c0, ((Bel.refl W).drew.alloc _).keep c1, ((Bel.refl W).drew.alloc _).keep c2, ((Bel.refl W).drew.alloc _).keep c3, ((Bel.refl W).drew.alloc _).keep c4, ((Bel.refl W).drew.alloc _).keep e1⟩)
            | (with_reducible exact ⟨((Bel.refl W).alloc _).drew.keep c0, ((Bel.refl W).alloc _).drew.keep c1, ((Bel.refl W).alloc _).drew.keep c2, ((Bel.refl W).alloc _).drew.keep c3, ((Bel.refl W).alloc _).drew.keep c4, ((Bel.refl W).alloc _).drew.keep e1⟩)
            | go_keep)
          (first
            | (go_at_call 8
               with_reducible refine (Q2.out _).mono ?_
               rintro e wz ⟨rfl, b3⟩
               have p0 : wz.cell? ⟨W.heap.size, 0, none⟩ = some (.int .i64 0) := b3.keep (by simp)
               have p1 : wz.cell? ⟨W.heap.size, 1, none⟩ = some (.int .i64 0) := b3.keep (by simp)
               have p2 : wz.cell? ⟨W.heap.size, 2, none⟩ = some (.int .i64 0) := b3.keep (by simp)
               have p3 : wz.cell? ⟨W.heap.size, 3, none⟩ = some (.string ⟨#[]⟩) := b3.keep (by simp)
               have p4 : wz.cell? ⟨W.heap.size, 4, none⟩ = some (.int .i64 0) := b3.keep (by simp)
               have r0 : wz.frozen? ⟨W.heap.size, 0, none⟩ = false := by rw [b3.frozen (by simp)]; simp
               have r1 : wz.frozen? ⟨W.heap.size, 1, none⟩ = false := by rw [b3.frozen (by simp)]; simp
               have r2 : wz.frozen? ⟨W.heap.size, 2, none⟩ = false := by rw [b3.frozen (by simp)]; simp
               have r3 : wz.frozen? ⟨W.heap.size, 3, none⟩ = false := by rw [b3.frozen (by simp)]; simp
               have r4 : wz.frozen? ⟨W.heap.size, 4, none⟩ = false := by rw [b3.frozen (by simp)]; simp
               have bb : Bel W wz := ((Bel.refl W).alloc _).drew.trans b3
               have k0 := bb.keep c0
               have k1 := bb.keep c1
               have k2 := bb.keep c2
               have k3 := bb.keep c3
               have k4 := bb.keep c4
               have k5 := bb.keep e1
               clear b3)
            | (go_at_call 8
               with_reducible refine (Q2.out _).mono ?_
               rintro e wz ⟨rfl, b3⟩
               have bb : Bel W wz := (Bel.refl W).drew.trans b3
               have k0 := bb.keep c0
               have k1 := bb.keep c1
               have k2 := bb.keep c2
               have k3 := bb.keep c3
               have k4 := bb.keep c4
               have k5 := bb.keep e1
               clear b3))
        · have A : DD (wz.alloc (.cells #[.int .i64 u, .int .i64 v, .int .i64 x', .string s', .int .i64 a'] 23)) wz.heap.size u v x' s' a' := DD.made wz _ _ _ _ _
          have ba := (Bel.refl wz).alloc (.cells #[.int .i64 u, .int .i64 v, .int .i64 x', .string s', .int .i64 a'] 23)
          have KD := HC.out.keep (bb.trans ba)
          have ROW := ba.keep k5
          have BW := bb.trans ba
          have hne : w3.heap.size ≠ wz.heap.size := Nat.ne_of_lt (block_lt_of_cell k0)
          have HBW : Hid (Bel w (wz.alloc (.cells #[.int .i64 u, .int .i64 v, .int .i64 x', .string s', .int .i64 a'] 23))) := HB.out.trans BW
          have NBW : Hid (W.heap.size ≤ wz.heap.size) := bb.size
          have XA := HXA.out.keep BW
          have KA := HKA.out.keep BW
          have hZA : wz.heap.size ≠ w2.heap.size := by have h1 := NBW.out; have h2 : w2.heap.size < W.heap.size := block_lt_of_cell HKA.out.c0; omega
          clear ba bb k0 k1 k2 k3 k4 k5 nx nx1 BW NBW c0 c1 c2 c3 c4 f0 f1 f2 f3 f4 e1 HB HC HXA HKA ROW
          generalize wz.alloc (.cells #[.int .i64 u, .int .i64 v, .int .i64 x', .string s', .int .i64 a'] 23) = W2 at *
          generalize wz.heap.size = NZ at *
          have HKA2 : Hid (DD W2 w2.heap.size l h x s a) := KA
          have HKB2 : Hid (DD W2 w3.heap.size l h x s' a) := KD
          have B2 : DD (((((W2.setCell ⟨w2.heap.size, 0, none⟩ (.int .i64 u)).setCell ⟨w2.heap.size, 1, none⟩ (.int .i64 v)).setCell ⟨w2.heap.size, 2, none⟩ (.int .i64 x')).setCell ⟨w2.heap.size, 3, none⟩ (.string s)).setCell ⟨w2.heap.size, 4, none⟩ (.int .i64 a')) w3.heap.size l h x s' a := KD.away (by omega)
          have Z2 : DD (((((W2.setCell ⟨w2.heap.size, 0, none⟩ (.int .i64 u)).setCell ⟨w2.heap.size, 1, none⟩ (.int .i64 v)).setCell ⟨w2.heap.size, 2, none⟩ (.int .i64 x')).setCell ⟨w2.heap.size, 3, none⟩ (.string s)).setCell ⟨w2.heap.size, 4, none⟩ (.int .i64 a')) NZ u v x' s' a' := A.away hZA
          have HB2 : Hid (DD (((((W2.setCell ⟨w2.heap.size, 0, none⟩ (.int .i64 u)).setCell ⟨w2.heap.size, 1, none⟩ (.int .i64 v)).setCell ⟨w2.heap.size, 2, none⟩ (.int .i64 x')).setCell ⟨w2.heap.size, 3, none⟩ (.string s)).setCell ⟨w2.heap.size, 4, none⟩ (.int .i64 a')) w3.heap.size l h x s' a) := B2
          obtain ⟨X0, X1, X2, X3, X4, _, _, _, _, _⟩ := XA
          obtain ⟨A0, A1, A2, A3, A4, F0, F1, F2, F3, F4⟩ := KA
          obtain ⟨Z0, Z1, Z2', Z3, Z4, _, _, _, _, _⟩ := A
          obtain ⟨Y0, Y1, Y2, Y3, Y4, _, _, _, _, _⟩ := Z2
          obtain ⟨B0, B1, B2', B3', B4, _, _, _, _, _⟩ := B2
          obtain ⟨_, _, _, _, _, G0, G1, G2, G3, G4⟩ := KD
          go_wp2_with fail
          refine (num_ok _ _).mono ?_
          rintro e w8 ⟨rfl, rfl⟩
          go_wp2_with fail
          refine (num_ok _ _).mono ?_
          rintro e w8 ⟨rfl, rfl⟩
          go_wp2
          go_roundw
          case rel =>
            obtain ⟨hx', ha'⟩ := HUV.out
            obtain ⟨r1, r2, r3, r4⟩ := HR.out
            subst hx' ha'
            exact ⟨j + 1, q + n, u, v, by omega, by go_num, r1, bel5 (bel5 HBW.out hwA _ _ _ _ _) hwB _ _ _ _ _, r2, r3, r4, (HKA2.out.set _ _ _ _ _).away (by omega), HB2.out.set _ _ _ _ _⟩
          case measure => simp [intOf]; omega
        · have A : DD (((((wz.setCell ⟨W.heap.size, 0, none⟩ (.int .i64 u)).setCell ⟨W.heap.size, 1, none⟩ (.int .i64 v)).setCell ⟨W.heap.size, 2, none⟩ (.int .i64 x')).setCell ⟨W.heap.size, 3, none⟩ (.string s')).setCell ⟨W.heap.size, 4, none⟩ (.int .i64 a')) W.heap.size u v x' s' a' := DD.set (l := 0) (h := 0) (x := 0) (s := ⟨#[]⟩) (k := 0) ⟨p0, p1, p2, p3, p4, r0, r1, r2, r3, r4⟩ _ _ _ _ _
          have KD : DD (((((wz.setCell ⟨W.heap.size, 0, none⟩ (.int .i64 u)).setCell ⟨W.heap.size, 1, none⟩ (.int .i64 v)).setCell ⟨W.heap.size, 2, none⟩ (.int .i64 x')).setCell ⟨W.heap.size, 3, none⟩ (.string s')).setCell ⟨W.heap.size, 4, none⟩ (.int .i64 a')) w3.heap.size l h x s' a := (HC.out.keep bb).away nx
          have ROW : (((((wz.setCell ⟨W.heap.size, 0, none⟩ (.int .i64 u)).setCell ⟨W.heap.size, 1, none⟩ (.int .i64 v)).setCell ⟨W.heap.size, 2, none⟩ (.int .i64 x')).setCell ⟨W.heap.size, 3, none⟩ (.string s')).setCell ⟨W.heap.size, 4, none⟩ (.int .i64 a')).cell? (x1.add j) = some (.int .i64 (z1 j)) := away5 nx1 k5
          have hne : w3.heap.size ≠ W.heap.size := nx
          have BW : Bel W (((((wz.setCell ⟨W.heap.size, 0, none⟩ (.int .i64 u)).setCell ⟨W.heap.size, 1, none⟩ (.int .i64 v)).setCell ⟨W.heap.size, 2, none⟩ (.int .i64 x')).setCell ⟨W.heap.size, 3, none⟩ (.string s')).setCell ⟨W.heap.size, 4, none⟩ (.int .i64 a')) := bel5 bb (Nat.le_refl _) _ _ _ _ _
          have HBW : Hid (Bel w (((((wz.setCell ⟨W.heap.size, 0, none⟩ (.int .i64 u)).setCell ⟨W.heap.size, 1, none⟩ (.int .i64 v)).setCell ⟨W.heap.size, 2, none⟩ (.int .i64 x')).setCell ⟨W.heap.size, 3, none⟩ (.string s')).setCell ⟨W.heap.size, 4, none⟩ (.int .i64 a'))) := HB.out.trans BW
          have NBW : Hid (W.heap.size ≤ W.heap.size) := Nat.le_refl _
          have XA := HXA.out.keep BW
          have KA := HKA.out.keep BW
          have hZA : W.heap.size ≠ w2.heap.size := by have h1 := NBW.out; have h2 : w2.heap.size < W.heap.size := block_lt_of_cell HKA.out.c0; omega
          clear bb k0 k1 k2 k3 k4 k5 nx nx1 p0 p1 p2 p3 p4 r0 r1 r2 r3 r4 BW NBW c0 c1 c2 c3 c4 f0 f1 f2 f3 f4 e1 HB HC HXA HKA ROW
          generalize (((((wz.setCell ⟨W.heap.size, 0, none⟩ (.int .i64 u)).setCell ⟨W.heap.size, 1, none⟩ (.int .i64 v)).setCell ⟨W.heap.size, 2, none⟩ (.int .i64 x')).setCell ⟨W.heap.size, 3, none⟩ (.string s')).setCell ⟨W.heap.size, 4, none⟩ (.int .i64 a')) = W2 at *
          generalize W.heap.size = NZ at *
          have HKA2 : Hid (DD W2 w2.heap.size l h x s a) := KA
          have HKB2 : Hid (DD W2 w3.heap.size l h x s' a) := KD
          have B2 : DD (((((W2.setCell ⟨w2.heap.size, 0, none⟩ (.int .i64 u)).setCell ⟨w2.heap.size, 1, none⟩ (.int .i64 v)).setCell ⟨w2.heap.size, 2, none⟩ (.int .i64 x')).setCell ⟨w2.heap.size, 3, none⟩ (.string s)).setCell ⟨w2.heap.size, 4, none⟩ (.int .i64 a')) w3.heap.size l h x s' a := KD.away (by omega)
          have Z2 : DD (((((W2.setCell ⟨w2.heap.size, 0, none⟩ (.int .i64 u)).setCell ⟨w2.heap.size, 1, none⟩ (.int .i64 v)).setCell ⟨w2.heap.size, 2, none⟩ (.int .i64 x')).setCell ⟨w2.heap.size, 3, none⟩ (.string s)).setCell ⟨w2.heap.size, 4, none⟩ (.int .i64 a')) NZ u v x' s' a' := A.away hZA
          have HB2 : Hid (DD (((((W2.setCell ⟨w2.heap.size, 0, none⟩ (.int .i64 u)).setCell ⟨w2.heap.size, 1, none⟩ (.int .i64 v)).setCell ⟨w2.heap.size, 2, none⟩ (.int .i64 x')).setCell ⟨w2.heap.size, 3, none⟩ (.string s)).setCell ⟨w2.heap.size, 4, none⟩ (.int .i64 a')) w3.heap.size l h x s' a) := B2
          obtain ⟨X0, X1, X2, X3, X4, _, _, _, _, _⟩ := XA
          obtain ⟨A0, A1, A2, A3, A4, F0, F1, F2, F3, F4⟩ := KA
          obtain ⟨Z0, Z1, Z2', Z3, Z4, _, _, _, _, _⟩ := A
          obtain ⟨Y0, Y1, Y2, Y3, Y4, _, _, _, _, _⟩ := Z2
          obtain ⟨B0, B1, B2', B3', B4, _, _, _, _, _⟩ := B2
          obtain ⟨_, _, _, _, _, G0, G1, G2, G3, G4⟩ := KD
          go_wp2_with fail
          refine (num_ok _ _).mono ?_
          rintro e w8 ⟨rfl, rfl⟩
          go_wp2_with fail
          refine (num_ok _ _).mono ?_
          rintro e w8 ⟨rfl, rfl⟩
          go_wp2
          go_roundw
          case rel =>
            obtain ⟨hx', ha'⟩ := HUV.out
            obtain ⟨r1, r2, r3, r4⟩ := HR.out
            subst hx' ha'
            exact ⟨j + 1, q + n, u, v, by omega, by go_num, r1, bel5 (bel5 HBW.out hwA _ _ _ _ _) hwB _ _ _ _ _, r2, r3, r4, (HKA2.out.set _ _ _ _ _).away (by omega), HB2.out.set _ _ _ _ _⟩
          case measure => simp [intOf]; omega
    · have hnn : ¬ j < m := hlt
      by_cases a0 : j < n1
      · have i0 : (j : Int) < (n1 : Int) := by omega
        have i2 : decide ((j : Int) < 60) = false := by simp; omega
        go_wp2
        go_ret
        exact ⟨rfl, HB.out⟩
      · have i0 : decide ((j : Int) < (n1 : Int)) = false := by simp; omega
        go_wp2
        go_ret
        exact ⟨rfl, HB.out⟩

/-- The whole. -/
theorem zeros_walk (s : ByteArray) (a1 : Option Addr) (len1 cap1 : Nat) (z1 : List Int) (w : World) (hs : s.size ≤ 140737488351232)
    (w1 : (a1 = none ∧ len1 = 0 ∧ cap1 = 0 ∧ z1 = []) ∨ ∃ x, a1 = some x ∧ len1 ≤ cap1 ∧ cap1 ≤ maxLen ∧ z1.length = cap1 ∧ (∀ i, i < z1.length → w.cell? (x.add i) = some (.int .i64 (z1.getD i 0))) ∧ ∀ n ∈ z1, (Lit.int .i64 n).wf = true) :
    Calls Try.prog 6 #[.string s, .slice a1 len1 cap1] w fun e w' => e = .returned (.bool true) ∧ Bel w w' := by
  have hn : len1 ≤ maxLen := by
    rcases w1 with ⟨_, rfl, _⟩ | ⟨x, _, h, h', _⟩
    · exact Nat.zero_le _
    · omega
  by_cases h1 : 65536 < s.size
  · exact zeros_long s a1 len1 cap1 hs hn h1 w
  · by_cases h2 : 65536 < s.size + 3
    · exact zeros_edge s a1 len1 cap1 hs hn h2 (by omega) w
    · refine zeros_rows s a1 len1 cap1 hs hn (by omega) (fun i => z1.getD i 0) (min len1 60) (by omega) (by omega) (by omega) w ?_
      intro i hi
      rcases w1 with ⟨_, rfl, _⟩ | ⟨x, hx, h, h', hl, hc, _⟩
      · omega
      · exact ⟨x, hx, hc i (by omega)⟩

end Go.Proofs.Ytckhehiaoodkoaa.Coder
