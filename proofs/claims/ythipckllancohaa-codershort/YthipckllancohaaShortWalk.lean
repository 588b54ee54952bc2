/-
  The walk of CoderShort: it answers true for every int and bool. No condition.
-/
import Derived.Test.YthipckllancohaaKAwake
namespace Go.Proofs.Ythipckllancohaa.Coder
open Go.RowKit Go.Proofs.Ythipckllancohaa.Num
set_option linter.unusedVariables false

theorem and511 (n : Int) : bits .and .i64 n 511 = n % 512 := and_mask 9 511 (by decide) (by decide) n

theorem settle_none {l h : Int} (e : ¬ l / 16777216 = h / 16777216) : settle 5 l h = ([], l, h) := by rw [settle, if_neg e]

/-- A bit that settles nothing. -/
theorem codeBit_still {l h bit p : Int} (hb : Between l h) (hbit : bit = 0 ∨ bit = 1) (h1 : 1 ≤ p) (h2 : p ≤ 4095) (l' h' : Int) (hn : narrow l h bit p = (l', h')) (e : ¬ l' / 16777216 = h' / 16777216) :
    codeBit l h bit p ⟨#[]⟩ = .tuple #[.agg #[.int .i64 l', .int .i64 h', .string ⟨#[]⟩], .int .i64 0] := by
  rw [codeBit, if_pos ⟨decide_eq_true ⟨hb, by decide⟩, decide_eq_true hbit, decide_eq_true ⟨h1, h2⟩⟩, hn]
  rw [settle_none e]
  rfl

/-- What is left behind i bits. -/
def Ones (i : Nat) (l h : Int) : Prop := l = 0 ∧ 4294967295 - (i : Int) * 1048578 ≤ h ∧ h ≤ 4294967295
def Zeros (i : Nat) (l h : Int) : Prop := h = 4294967295 ∧ 0 ≤ l ∧ l ≤ (i : Int) * 1048578

theorem ones_between {i : Nat} {l h : Int} (hi : i ≤ 511) (H : Ones i l h) : Between l h := by
  obtain ⟨rfl, h1, h2⟩ := H
  exact ⟨by omega, by omega, by omega⟩
theorem zeros_between {i : Nat} {l h : Int} (hi : i ≤ 511) (H : Zeros i l h) : Between l h := by
  obtain ⟨rfl, h1, h2⟩ := H
  exact ⟨by omega, by omega, by omega⟩

theorem ones_next {i : Nat} {l h : Int} (hi : i < 511) (H : Ones i l h) : ∃ l' h', codeBit l h 1 4095 ⟨#[]⟩ = .tuple #[.agg #[.int .i64 l', .int .i64 h', .string ⟨#[]⟩], .int .i64 0] ∧ Ones (i + 1) l' h' := by
  have b := ones_between (by omega) H
  obtain ⟨rfl, h1, h2⟩ := H
  have hn : narrow 0 h 1 4095 = (0, mid 0 h 4095) := by rw [narrow, if_pos rfl]
  have hm : mid 0 h 4095 = 0 + (h - 0) / 4096 * 4095 + (h - 0) % 4096 * 4095 / 4096 := rfl
  refine ⟨_, _, codeBit_still b (.inr rfl) (by omega) (by omega) _ _ hn ?_, rfl, ?_, ?_⟩
  · rw [hm]; omega
  · rw [hm]; omega
  · rw [hm]; omega

theorem zeros_next {i : Nat} {l h : Int} (hi : i < 511) (H : Zeros i l h) : ∃ l' h', codeBit l h 0 1 ⟨#[]⟩ = .tuple #[.agg #[.int .i64 l', .int .i64 h', .string ⟨#[]⟩], .int .i64 0] ∧ Zeros (i + 1) l' h' := by
  have b := zeros_between (by omega) H
  obtain ⟨rfl, h1, h2⟩ := H
  have hn : narrow l 4294967295 0 1 = (mid l 4294967295 1 + 1, 4294967295) := by rw [narrow, if_neg (by omega)]
  have hm : mid l 4294967295 1 = l + (4294967295 - l) / 4096 * 1 + (4294967295 - l) % 4096 * 1 / 4096 := rfl
  refine ⟨_, _, codeBit_still b (.inl rfl) (by omega) (by omega) _ _ hn ?_, rfl, ?_, ?_⟩
  · rw [hm]; omega
  · rw [hm]; omega
  · rw [hm]; omega

theorem size_four (l : Int) : ((⟨#[]⟩ : ByteArray) ++ four l).size = 4 := by rw [ByteArray.size_append]; rfl

set_option maxHeartbeats 4000000 in
theorem short_true (n : Int) (k : Nat) (hk : n % 512 = (k : Int)) (hk2 : k < 512) (w : World) :
    Calls Try.prog 6 #[.int .i64 n, .bool true] w fun e w' => e = .returned (.bool true) ∧ Bel w w' := by
  have ha := and511 n
  rw [hk] at ha
  clear hk
  have hkd : (k : Int).tdiv 64 = (k : Int) / 64 := Int.tdiv_eq_ediv_of_nonneg (by omega)
  have hle : decide ((4 : Int) ≤ 6 + (k : Int) / 64) = true := by simp; omega
  go_enter Try.func6, Try.ntmps6
  go_wp2_with fail
  refine (awake_true _).mono ?_
  rintro e w1 ⟨rfl, b1⟩
  have HB1 : Hid (Bel w w1) := b1
  clear b1
  go_wp2_with fail
  refine (new_ok _).mono ?_
  rintro e w2 ⟨rfl, b2⟩
  have HB2 : Hid (Bel w w2) := HB1.out.trans b2
  clear b2 HB1
  go_wp2_with fail
  go_loopw [9] (fun i wr => ∃ (j : Nat) (l h : Int), j ≤ k ∧ i = .int .i64 (j : Int) ∧ Ones j l h ∧ Bel w wr ∧ wr.cell? ⟨w2.heap.size, 0, none⟩ = some (.int .i64 l) ∧ wr.cell? ⟨w2.heap.size, 1, none⟩ = some (.int .i64 h) ∧ wr.cell? ⟨w2.heap.size, 2, none⟩ = some (.string ⟨#[]⟩) ∧
      wr.frozen? ⟨w2.heap.size, 0, none⟩ = false ∧ wr.frozen? ⟨w2.heap.size, 1, none⟩ = false ∧ wr.frozen? ⟨w2.heap.size, 2, none⟩ = false) (fun i _ => k - (intOf i).toNat)
  case atStart =>
    exact ⟨0, 0, 4294967295, by omega, rfl, by unfold Ones; omega, HB2.out.alloc _, by simp, by simp, by simp, by simp, by simp, by simp⟩
  case round =>
    obtain ⟨j, l, h, hj, rfl, H, hb, c0, c1, c2, f0, f1, f2⟩ := hrel
    have hw2 : w.heap.size ≤ w2.heap.size := HB2.out.size
    have HB : Hid (Bel w wr) := hb
    have hlt0 : w2.heap.size < wr.heap.size := block_lt_of_cell c0
    clear hb HB2
    by_cases hlt : j < k
    · obtain ⟨l', h', hc, H'⟩ := ones_next (by omega) H
      have q := bit_ok l h 1 4095 ⟨#[]⟩ (by decide)
      rw [hc] at q
      have Q : Hid (∀ w, Calls Try.prog 9 #[.agg #[.int .i64 l, .int .i64 h, .string ⟨#[]⟩], .int .i64 1, .int .i64 4095] w fun e w' => e = .returned (.tuple #[.agg #[.int .i64 l', .int .i64 h', .string ⟨#[]⟩], .int .i64 0]) ∧ Bel w w') := q
      have HH : Hid (Ones (j + 1) l' h') := H'
      clear q hc H H'
      go_wp2_with fail
      refine (Q.out _).mono ?_
      rintro e w3 ⟨rfl, b3⟩
      have bb := b3.alloc (.cells #[.int .i64 l', .int .i64 h', .string ⟨#[]⟩] 23)
      replace f0 := b3.free c0 f0
      replace f1 := b3.free c1 f1
      replace f2 := b3.free c2 f2
      replace c0 := b3.keep c0
      replace c1 := b3.keep c1
      replace c2 := b3.keep c2
      have hlt3 : w2.heap.size < w3.heap.size := block_lt_of_cell c0
      have HB3 : Hid (Bel w w3) := HB.out.trans b3
      clear b3 bb HB
      go_wp2
      go_roundw
      case rel =>
        obtain ⟨r0, r1, r2⟩ := set3 (x := .int .i64 l') (y := .int .i64 h') (z := .string ⟨#[]⟩) c0 c1 c2
        have bb : Bel (((w3.setCell ⟨w2.heap.size, 0, none⟩ (.int .i64 l')).setCell ⟨w2.heap.size, 1, none⟩ (.int .i64 h')).setCell ⟨w2.heap.size, 2, none⟩ (.string ⟨#[]⟩)) _ := (Bel.refl _).alloc (.cells #[.int .i64 l', .int .i64 h', .string ⟨#[]⟩] 23)
        refine ⟨j + 1, l', h', by omega, by go_num, HH.out, (((HB3.out.setCell hw2 _).setCell hw2 _).setCell hw2 _).trans bb, bb.keep r0, bb.keep r1, bb.keep r2, bb.free r0 (by simp [f0]), bb.free r1 (by simp [f1]), bb.free r2 (by simp [f2])⟩
      case measure => simp [intOf]; omega
    · obtain rfl : j = k := by omega
      have q := end_may l h ⟨#[]⟩ (ones_between (by omega) H) (by decide)
      have hz := size_four l
      generalize (⟨#[]⟩ : ByteArray) ++ four l = z at *
      have Q : Hid (∀ w, Calls Try.prog 11 #[.agg #[.int .i64 l, .int .i64 h, .string ⟨#[]⟩]] w fun e w' => e = .returned (.tuple #[.string z, .int .i64 0]) ∧ Bel w w') := q
      clear q H
      go_wp2_with fail
      refine (Q.out _).mono ?_
      rintro e w3 ⟨rfl, b3⟩
      have HB3 : Hid (Bel w w3) := HB.out.trans b3
      clear b3 HB
      go_wp2
      go_ret
      exact ⟨rfl, HB3.out⟩

set_option maxHeartbeats 4000000 in
theorem short_false (n : Int) (k : Nat) (hk : n % 512 = (k : Int)) (hk2 : k < 512) (w : World) :
    Calls Try.prog 6 #[.int .i64 n, .bool false] w fun e w' => e = .returned (.bool true) ∧ Bel w w' := by
  have ha := and511 n
  rw [hk] at ha
  clear hk
  have hkd : (k : Int).tdiv 64 = (k : Int) / 64 := Int.tdiv_eq_ediv_of_nonneg (by omega)
  have hle : decide ((4 : Int) ≤ 6 + (k : Int) / 64) = true := by simp; omega
  go_enter Try.func6, Try.ntmps6
  go_wp2_with fail
  refine (awake_true _).mono ?_
  rintro e w1 ⟨rfl, b1⟩
  have HB1 : Hid (Bel w w1) := b1
  clear b1
  go_wp2_with fail
  refine (new_ok _).mono ?_
  rintro e w2 ⟨rfl, b2⟩
  have HB2 : Hid (Bel w w2) := HB1.out.trans b2
  clear b2 HB1
  go_wp2_with fail
  go_loopw [9] (fun i wr => ∃ (j : Nat) (l h : Int), j ≤ k ∧ i = .int .i64 (j : Int) ∧ Zeros j l h ∧ Bel w wr ∧ wr.cell? ⟨w2.heap.size, 0, none⟩ = some (.int .i64 l) ∧ wr.cell? ⟨w2.heap.size, 1, none⟩ = some (.int .i64 h) ∧ wr.cell? ⟨w2.heap.size, 2, none⟩ = some (.string ⟨#[]⟩) ∧
      wr.frozen? ⟨w2.heap.size, 0, none⟩ = false ∧ wr.frozen? ⟨w2.heap.size, 1, none⟩ = false ∧ wr.frozen? ⟨w2.heap.size, 2, none⟩ = false) (fun i _ => k - (intOf i).toNat)
  case atStart =>
    exact ⟨0, 0, 4294967295, by omega, rfl, by unfold Zeros; omega, HB2.out.alloc _, by simp, by simp, by simp, by simp, by simp, by simp⟩
  case round =>
    obtain ⟨j, l, h, hj, rfl, H, hb, c0, c1, c2, f0, f1, f2⟩ := hrel
    have hw2 : w.heap.size ≤ w2.heap.size := HB2.out.size
    have HB : Hid (Bel w wr) := hb
    have hlt0 : w2.heap.size < wr.heap.size := block_lt_of_cell c0
    clear hb HB2
    by_cases hlt : j < k
    · obtain ⟨l', h', hc, H'⟩ := zeros_next (by omega) H
      have q := bit_ok l h 0 1 ⟨#[]⟩ (by decide)
      rw [hc] at q
      have Q : Hid (∀ w, Calls Try.prog 9 #[.agg #[.int .i64 l, .int .i64 h, .string ⟨#[]⟩], .int .i64 0, .int .i64 1] w fun e w' => e = .returned (.tuple #[.agg #[.int .i64 l', .int .i64 h', .string ⟨#[]⟩], .int .i64 0]) ∧ Bel w w') := q
      have HH : Hid (Zeros (j + 1) l' h') := H'
      clear q hc H H'
      go_wp2_with fail
      refine (Q.out _).mono ?_
      rintro e w3 ⟨rfl, b3⟩
      have bb := b3.alloc (.cells #[.int .i64 l', .int .i64 h', .string ⟨#[]⟩] 23)
      replace f0 := b3.free c0 f0
      replace f1 := b3.free c1 f1
      replace f2 := b3.free c2 f2
      replace c0 := b3.keep c0
      replace c1 := b3.keep c1
      replace c2 := b3.keep c2
      have hlt3 : w2.heap.size < w3.heap.size := block_lt_of_cell c0
      have HB3 : Hid (Bel w w3) := HB.out.trans b3
      clear b3 bb HB
      go_wp2
      go_roundw
      case rel =>
        obtain ⟨r0, r1, r2⟩ := set3 (x := .int .i64 l') (y := .int .i64 h') (z := .string ⟨#[]⟩) c0 c1 c2
        have bb : Bel (((w3.setCell ⟨w2.heap.size, 0, none⟩ (.int .i64 l')).setCell ⟨w2.heap.size, 1, none⟩ (.int .i64 h')).setCell ⟨w2.heap.size, 2, none⟩ (.string ⟨#[]⟩)) _ := (Bel.refl _).alloc (.cells #[.int .i64 l', .int .i64 h', .string ⟨#[]⟩] 23)
        refine ⟨j + 1, l', h', by omega, by go_num, HH.out, (((HB3.out.setCell hw2 _).setCell hw2 _).setCell hw2 _).trans bb, bb.keep r0, bb.keep r1, bb.keep r2, bb.free r0 (by simp [f0]), bb.free r1 (by simp [f1]), bb.free r2 (by simp [f2])⟩
      case measure => simp [intOf]; omega
    · obtain rfl : j = k := by omega
      have q := end_may l h ⟨#[]⟩ (zeros_between (by omega) H) (by decide)
      have hz := size_four l
      generalize (⟨#[]⟩ : ByteArray) ++ four l = z at *
      have Q : Hid (∀ w, Calls Try.prog 11 #[.agg #[.int .i64 l, .int .i64 h, .string ⟨#[]⟩]] w fun e w' => e = .returned (.tuple #[.string z, .int .i64 0]) ∧ Bel w w') := q
      clear q H
      go_wp2_with fail
      refine (Q.out _).mono ?_
      rintro e w3 ⟨rfl, b3⟩
      have HB3 : Hid (Bel w w3) := HB.out.trans b3
      clear b3 HB
      go_wp2
      go_ret
      exact ⟨rfl, HB3.out⟩

theorem short_walk (n : Int) (b : Bool) (w : World) :
    Calls Try.prog 6 #[.int .i64 n, .bool b] w fun e w' => e = .returned (.bool true) ∧ Bel w w' := by
  obtain ⟨k, hk⟩ : ∃ k : Nat, n % 512 = (k : Int) := ⟨(n % 512).toNat, by omega⟩
  cases b with
  | false => exact short_false n k hk (by omega) w
  | true => exact short_true n k hk (by omega) w

end Go.Proofs.Ythipckllancohaa.Coder
