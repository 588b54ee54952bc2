/-
  The contract of decoder.Bit: what it answers at every decoder and chance. Condition: the text is no longer than an int can tell.
-/
import Derived.Test.YtoldedbfoechlaaGreatDoorYNew
namespace Go.Proofs.YtoldedbfoechlaaGreatDoor.Deco
open Go.Proofs.YtoldedbfoechlaaGreatDoor.Coder Go.RowKit Go.Proofs.YtoldedbfoechlaaGreatDoor.Num
set_option linter.unusedVariables false

def decErr : Value := .tuple #[.agg #[.int .i64 0, .int .i64 0, .int .i64 0, .string (⟨#[]⟩), .int .i64 0], .int .i64 0, .int .i64 500]

/-- What Bit answers where the call may be. -/
def decAns (l h x : Int) (s : ByteArray) (a bit : Int) : Value := if a ≤ 65544 then .tuple #[.agg #[.int .i64 l, .int .i64 h, .int .i64 x, .string s, .int .i64 a], .int .i64 bit, .int .i64 0] else decErr

/-- What Bit answers. -/
def decBit (l h x : Int) (s : ByteArray) (a p : Int) : Value :=
  if dmayB l h x s a = true ∧ chanceB p = true then
    decAns (Coder.settle 5 (narrow l h (bitOf l h x p) p).1 (narrow l h (bitOf l h x p) p).2).2.1 (Coder.settle 5 (narrow l h (bitOf l h x p) p).1 (narrow l h (bitOf l h x p) p).2).2.2
      (nowAt s x a.toNat (Coder.settle 5 (narrow l h (bitOf l h x p) p).1 (narrow l h (bitOf l h x p) p).2).1.length) s (a + ((Coder.settle 5 (narrow l h (bitOf l h x p) p).1 (narrow l h (bitOf l h x p) p).2).1.length : Nat)) (bitOf l h x p)
  else decErr

/-- What lies in Bit's variables: d's Text at N, the result at N + 1, the span at S. -/
structure DCells (w : World) (N S : Nat) (s : ByteArray) (u v : Int) : Prop where
  s0 : w.cell? ⟨S, 0, none⟩ = some (.int .i64 u)
  s1 : w.cell? ⟨S, 1, none⟩ = some (.int .i64 v)
  g0 : w.frozen? ⟨S, 0, none⟩ = false
  g1 : w.frozen? ⟨S, 1, none⟩ = false
  a3 : w.cell? ⟨N, 3, none⟩ = some (.string s)
  c0 : w.cell? ⟨N + 1, 0, none⟩ = some (.int .i64 0)
  c1 : w.cell? ⟨N + 1, 1, none⟩ = some (.int .i64 0)
  c2 : w.cell? ⟨N + 1, 2, none⟩ = some (.int .i64 0)
  c3 : w.cell? ⟨N + 1, 3, none⟩ = some (.string ⟨#[]⟩)
  c4 : w.cell? ⟨N + 1, 4, none⟩ = some (.int .i64 0)
  f0 : w.frozen? ⟨N + 1, 0, none⟩ = false
  f1 : w.frozen? ⟨N + 1, 1, none⟩ = false
  f2 : w.frozen? ⟨N + 1, 2, none⟩ = false
  f3 : w.frozen? ⟨N + 1, 3, none⟩ = false
  f4 : w.frozen? ⟨N + 1, 4, none⟩ = false

theorem DCells.keep {w w' : World} {N S : Nat} {s : ByteArray} {u v : Int} (C : DCells w N S s u v) (b : Bel w w') : DCells w' N S s u v :=
  ⟨b.keep C.s0, b.keep C.s1, b.free C.s0 C.g0, b.free C.s1 C.g1, b.keep C.a3, b.keep C.c0, b.keep C.c1, b.keep C.c2, b.keep C.c3, b.keep C.c4, b.free C.c0 C.f0, b.free C.c1 C.f1, b.free C.c2 C.f2, b.free C.c3 C.f3, b.free C.c4 C.f4⟩

/-- Another span is stored. -/
theorem DCells.set {w : World} {N S : Nat} {s : ByteArray} {u v : Int} (C : DCells w N S s u v) (hN : N + 1 < S) (u' v' : Int) : DCells ((w.setCell ⟨S, 0, none⟩ (.int .i64 u')).setCell ⟨S, 1, none⟩ (.int .i64 v')) N S s u' v' := by
  obtain ⟨_, _, r2, r3⟩ := set2 (x := .int .i64 u') (y := .int .i64 v') C.s0 C.s1
  have o : ∀ (B i : Nat), B ≠ S → ((w.setCell ⟨S, 0, none⟩ (.int .i64 u')).setCell ⟨S, 1, none⟩ (.int .i64 v')).cell? ⟨B, i, none⟩ = w.cell? ⟨B, i, none⟩ := fun B i hB => by
    rw [World.cell?_setCell_other (h := by intro k; injection k with k1 _ _; omega), World.cell?_setCell_other (h := by intro k; injection k with k1 _ _; omega)]
  exact ⟨r3, r2, by simp [C.g0], by simp [C.g1], by rw [o _ _ (by omega)]; exact C.a3, by rw [o _ _ (by omega)]; exact C.c0, by rw [o _ _ (by omega)]; exact C.c1, by rw [o _ _ (by omega)]; exact C.c2, by rw [o _ _ (by omega)]; exact C.c3, by rw [o _ _ (by omega)]; exact C.c4, by simp [C.f0], by simp [C.f1], by simp [C.f2], by simp [C.f3], by simp [C.f4]⟩

set_option maxHeartbeats 4000000 in
theorem bit_may (l h x p : Int) (s : ByteArray) (a : Nat) (hb : Between l h) (hx : l ≤ x) (hh : x ≤ h) (hs : s.size ≤ 65536) (ha : 4 ≤ a) (ha2 : a ≤ 65544) (h1 : 1 ≤ p) (h2 : p ≤ 4095) (l1 r1 : Int) (bs : List UInt8) (hset : Coder.settle 5 (narrow l h (bitOf l h x p) p).1 (narrow l h (bitOf l h x p) p).2 = (bs, l1, r1)) (w : World) :
    Calls Tryz.prog 99 #[.agg #[.int .i64 l, .int .i64 h, .int .i64 x, .string s, .int .i64 (a : Int)], .int .i64 p] w fun e w' => e = .returned (decAns l1 r1 (nowAt s x a bs.length) s ((a : Int) + (bs.length : Nat)) (bitOf l h x p)) ∧ Bel w w' := by
  have hnar := narrow_ok l h (bitOf l h x p) p hb h1 h2
  have hin := narrow_in hb (bitOf l h x p) p h1 h2
  have q1 := may_ok l h x a s (by unfold maxLen; omega)
  have e1 : dmayB l h x s a = true := decide_eq_true ⟨hb, hx, hh, hs, by omega, by omega⟩
  have q3 := isChance_ok p
  have e3 : chanceB p = true := decide_eq_true ⟨h1, h2⟩
  have q4 := middle_ok l h p hb h1 h2
  have q5 : ∀ k : Nat, k ≤ 4 → ∀ w, Calls Tryz.prog 98 #[.string s, .int .i64 ((a + k : Nat) : Int)] w fun e w' => e = .returned (.int .u8 (bz s (a + k))) ∧ w' = w := fun k hk => byteAt_ok s (a + k) (by omega) (by unfold maxLen; omega)
  have q6 : ∀ (k : Nat) (w : World), Calls Tryz.prog 97 #[.int .i64 (nowAt s x a k), .int .u8 (bz s (a + k))] w fun e w' => e = .returned (.int .i64 (nowAt s x a (k + 1))) ∧ w' = w := fun k =>
    push_ok (nowAt s x a k) (bz s (a + k)) (nowAt_in s x a (by obtain ⟨b0, _, _⟩ := hb; omega) (by obtain ⟨_, b0, _⟩ := hb; omega) k).1 (nowAt_in s x a (by obtain ⟨b0, _, _⟩ := hb; omega) (by obtain ⟨_, b0, _⟩ := hb; omega) k).2 (bz_bounds s (a + k)).1 (bz_bounds s (a + k)).2
  rw [e1] at q1; rw [e3] at q3
  have q7 := left_ok l h x a s
  have Q7 : Hid (∀ w, Calls Tryz.prog 117 #[.agg #[.int .i64 l, .int .i64 h, .int .i64 x, .string s, .int .i64 (a : Int)]] w fun e w' => e = .returned (.agg #[.int .i64 l, .int .i64 h]) ∧ Bel w w') := q7
  have QM : Hid (∀ w, Calls Tryz.prog 116 #[.agg #[.int .i64 l, .int .i64 h, .int .i64 x, .string s, .int .i64 (a : Int)]] w fun e w' => e = .returned (.bool true) ∧ Bel w w') := q1
  have QC : Hid (∀ w, Calls Tryz.prog 83 #[.int .i64 p] w fun e w' => e = .returned (.bool true) ∧ w' = w) := q3
  have Q5 : Hid (∀ k : Nat, k ≤ 4 → ∀ w, Calls Tryz.prog 98 #[.string s, .int .i64 ((a + k : Nat) : Int)] w fun e w' => e = .returned (.int .u8 (bz s (a + k))) ∧ w' = w) := q5
  have Q6 : Hid (∀ (k : Nat) (w : World), Calls Tryz.prog 97 #[.int .i64 (nowAt s x a k), .int .u8 (bz s (a + k))] w fun e w' => e = .returned (.int .i64 (nowAt s x a (k + 1))) ∧ w' = w) := q6
  obtain ⟨m, hmm⟩ : ∃ m, m = mid l h p := ⟨_, rfl⟩
  have hbo : bitOf l h x p = if x ≤ m then 1 else 0 := by rw [bitOf, hmm]
  rw [← hmm] at q4
  have Q4 : Hid (∀ w, Calls Tryz.prog 114 #[.agg #[.int .i64 l, .int .i64 h], .int .i64 p] w fun e w' => e = .returned (.int .i64 m) ∧ Bel w w') := q4
  clear q1 q3 q4 q5 q6 q7 e1 e3 hb hmm
  by_cases hc : x ≤ m
  · rw [if_pos hc] at hbo
    rw [hbo] at hset hnar hin ⊢
    have hc' : decide (x ≤ m) = true := by simp; omega
    generalize (narrow l h 1 p).1 = X at *
    generalize (narrow l h 1 p).2 = Y at *
    have QN : Hid (∀ w, Calls Tryz.prog 85 #[.agg #[.int .i64 l, .int .i64 h], .int .i64 1, .int .i64 p] w fun e w' => e = .returned (.agg #[.int .i64 X, .int .i64 Y]) ∧ Bel w w') := hnar
    have HI : Hid (0 ≤ X ∧ X ≤ Y ∧ Y ≤ 4294967295) := hin
    have HS : Hid (Coder.settle 5 X Y = (bs, l1, r1)) := hset
    clear hnar hin hset hbo hc
    go_enter Tryz.func99, Tryz.ntmps99
    go_wp2_with fail
    refine (QM.out _).mono ?_
    rintro e w1 ⟨rfl, b1⟩
    have a0 : w1.cell? ⟨w.heap.size, 0, none⟩ = some (.int .i64 l) := b1.keep (by simp)
    have a1 : w1.cell? ⟨w.heap.size, 1, none⟩ = some (.int .i64 h) := b1.keep (by simp)
    have a2 : w1.cell? ⟨w.heap.size, 2, none⟩ = some (.int .i64 x) := b1.keep (by simp)
    have a3 : w1.cell? ⟨w.heap.size, 3, none⟩ = some (.string s) := b1.keep (by simp)
    have a4 : w1.cell? ⟨w.heap.size, 4, none⟩ = some (.int .i64 (a : Int)) := b1.keep (by simp)
    have c0 : w1.cell? ⟨w.heap.size + 1, 0, none⟩ = some (.int .i64 0) := b1.keep (by simp)
    have c1 : w1.cell? ⟨w.heap.size + 1, 1, none⟩ = some (.int .i64 0) := b1.keep (by simp)
    have c2 : w1.cell? ⟨w.heap.size + 1, 2, none⟩ = some (.int .i64 0) := b1.keep (by simp)
    have c3 : w1.cell? ⟨w.heap.size + 1, 3, none⟩ = some (.string ⟨#[]⟩) := b1.keep (by simp)
    have c4 : w1.cell? ⟨w.heap.size + 1, 4, none⟩ = some (.int .i64 0) := b1.keep (by simp)
    have f0 : w1.frozen? ⟨w.heap.size + 1, 0, none⟩ = false := by rw [b1.frozen (by simp)]; simp
    have f1 : w1.frozen? ⟨w.heap.size + 1, 1, none⟩ = false := by rw [b1.frozen (by simp)]; simp
    have f2 : w1.frozen? ⟨w.heap.size + 1, 2, none⟩ = false := by rw [b1.frozen (by simp)]; simp
    have f3 : w1.frozen? ⟨w.heap.size + 1, 3, none⟩ = false := by rw [b1.frozen (by simp)]; simp
    have f4 : w1.frozen? ⟨w.heap.size + 1, 4, none⟩ = false := by rw [b1.frozen (by simp)]; simp
    have HB : Hid (Bel w w1) := Bel.trans (((Bel.refl _).alloc _).alloc _) b1
    clear b1
    go_wp2_with fail
    refine (QC.out _).mono ?_
    rintro e w2 ⟨rfl, rfl⟩
    have k0 := cell_regrown a0
    have k1 := cell_regrown a1
    have k2 := cell_regrown a2
    have k3 := cell_regrown a3
    have k4 := cell_regrown a4
    go_wp2_with fail
    refine wp_region_quiet_below (by kernel_rfl) (by kernel_rfl) ?_
    repeat (quiet_step (first | (go_at_call 117; with_reducible exact Calls.regrown_of (Q7.out _)) | (go_at_call 114; with_reducible exact Calls.regrown_of (Q4.out _))))
    refine wpQuiet_nil ?_
    intro w3 hw'
    have bq : Bel w2 w3 := by obtain ⟨⟨dq, osq⟩, rfl⟩ := hw'; exact below_regrown w2 dq osq
    clear hw' k0 k1 k2 k3 k4
    replace HB : Hid (Bel w w3) := HB.out.trans bq
    replace f0 := bq.free c0 f0
    replace c0 := bq.keep c0
    replace a0 := bq.keep a0
    replace f1 := bq.free c1 f1
    replace c1 := bq.keep c1
    replace a1 := bq.keep a1
    replace f2 := bq.free c2 f2
    replace c2 := bq.keep c2
    replace a2 := bq.keep a2
    replace f3 := bq.free c3 f3
    replace c3 := bq.keep c3
    replace a3 := bq.keep a3
    replace f4 := bq.free c4 f4
    replace c4 := bq.keep c4
    replace a4 := bq.keep a4
    clear bq
    go_wp2_with fail
    refine (Q7.out _).mono ?_
    rintro e w4 ⟨rfl, b4⟩
    go_wp2_with fail
    refine (QN.out _).mono ?_
    rintro e w5 ⟨rfl, b5⟩
    have b := b4.trans b5
    replace f0 := b.free c0 f0
    replace c0 := b.keep c0
    replace a0 := b.keep a0
    replace f1 := b.free c1 f1
    replace c1 := b.keep c1
    replace a1 := b.keep a1
    replace f2 := b.free c2 f2
    replace c2 := b.keep c2
    replace a2 := b.keep a2
    replace f3 := b.free c3 f3
    replace c3 := b.keep c3
    replace a3 := b.keep a3
    replace f4 := b.free c4 f4
    replace c4 := b.keep c4
    replace a4 := b.keep a4
    replace HB : Hid (Bel w w5) := HB.out.trans b
    clear b4 b5 b
    go_wp2_with fail
    have z2 := ((Bel.refl w5).alloc (.cells #[.int .i64 X, .int .i64 Y] 85)).keep a2
    have z4 := ((Bel.refl w5).alloc (.cells #[.int .i64 X, .int .i64 Y] 85)).keep a4
    go_region
    clear z2 z4
    go_wp2_with fail
    go_loopw [9, 10] (fun t r wr => ∃ (k : Nat) (u v : Int) (cs : List UInt8), t = .int .i64 (nowAt s x a k) ∧ r = .int .i64 ((a + k : Nat) : Int) ∧ Mids X Y k u v cs ∧ Bel w wr ∧ DCells wr w.heap.size w5.heap.size s u v) (fun _ r _ => a + 4 - (intOf r).toNat)
    case atStart =>
      have bb : Bel w5 (w5.alloc (.cells #[.int .i64 X, .int .i64 Y] 85)) := (Bel.refl _).alloc _
      refine ⟨0, X, Y, [], rfl, by simp, Mids.start HI.out.1 HI.out.2.1 HI.out.2.2, HB.out.trans bb.drew, ?_⟩
      exact ⟨by simp, by simp, by simp, by simp, bb.drew.keep a3, bb.drew.keep c0, bb.drew.keep c1, bb.drew.keep c2, bb.drew.keep c3, bb.drew.keep c4, bb.drew.free c0 f0, bb.drew.free c1 f1, bb.drew.free c2 f2, bb.drew.free c3 f3, bb.drew.free c4 f4⟩
    case round =>
      obtain ⟨k, u, v, cs, rfl, rfl, M, hbel, C⟩ := hrel
      have hNS : w.heap.size + 1 < w5.heap.size := block_lt_of_cell c0
      clear a0 a1 a2 a3 a4 c0 c1 c2 c3 c4 f0 f1 f2 f3 f4
      have HBel : Hid (Bel w wr) := hbel
      have HM : Hid (Mids X Y k u v cs) := M
      have HC : Hid (DCells wr w.heap.size w5.heap.size s u v) := C
      have s0 := C.s0
      have s1 := C.s1
      have u0 := M.l0'
      have u1 : u ≤ 4294967295 := Int.le_trans M.lh M.h1
      have v0 : 0 ≤ v := Int.le_trans M.l0' M.lh
      have v1 := M.h1
      have hk4 := M.le4
      clear hbel M C
      have qs := isSettled_ok u v
      by_cases he : u / 16777216 = v / 16777216
      · rw [show (u / 16777216 == v / 16777216) = true from by simpa using he] at qs
        have QS : Hid (∀ w, Calls Tryz.prog 86 #[.agg #[.int .i64 u, .int .i64 v]] w fun e w' => e = .returned (.bool true) ∧ Bel w w') := qs
        have HE : Hid (u / 16777216 = v / 16777216) := he
        have hk : k < 4 := HM.out.lt he
        have QA := Q5.out k (by omega)
        have QP := Q6.out k
        clear qs he
        generalize bz s (a + k) = bb at *
        obtain ⟨x', hx'⟩ : ∃ x', x' = nowAt s x a (k + 1) := ⟨_, rfl⟩
        have HX' : Hid (x' = nowAt s x a (k + 1)) := hx'
        rw [← hx'] at QP
        generalize nowAt s x a k = x0 at *
        obtain ⟨n, hn⟩ : ∃ n, n = a + k := ⟨_, rfl⟩
        rw [← hn] at QA
        rw [← hn]
        have QA' : Hid (∀ w, Calls Tryz.prog 98 #[.string s, .int .i64 (n : Int)] w fun e w' => e = .returned (.int .u8 bb) ∧ w' = w) := QA
        have QP' : Hid (∀ w, Calls Tryz.prog 97 #[.int .i64 x0, .int .u8 bb] w fun e w' => e = .returned (.int .i64 x') ∧ w' = w) := QP
        have HNN : Hid (n = a + k) := hn
        have hn9 : (n : Int) ≤ 1000000 := by omega
        clear QA QP hx' hn
        go_wp2_with fail
        refine (QS.out _).mono ?_
        rintro e wa ⟨rfl, ba⟩
        replace s0 := ba.keep s0
        replace s1 := ba.keep s1
        go_wp2_with fail
        refine (up_ok u v u0 u1 v0 v1 _).mono ?_
        rintro e wc ⟨rfl, bc⟩
        have C4 := HC.out.keep (ba.trans bc)
        have HBel4 : Hid (Bel w wc) := HBel.out.trans (ba.trans bc)
        have HC4 : Hid (DCells wc w.heap.size w5.heap.size s u v) := C4
        have HN : Hid (Mids X Y (k + 1) (u * 256 % 4294967296) (v * 256 % 4294967296 + 255) (cs ++ [UInt8.ofNat (u / 16777216).toNat])) := HM.out.next HE.out
        replace s0 := C4.s0
        replace s1 := C4.s1
        have g0 := C4.g0
        have g1 := C4.g1
        clear ba bc C4 HC HBel
        generalize u * 256 % 4294967296 = u' at *
        generalize v * 256 % 4294967296 + 255 = v' at *
        have a3 := (HC4.out.set (by omega) u' v').a3
        go_wp2_with fail
        with_reducible refine (QA'.out _).mono ?_
        rintro e wd ⟨rfl, rfl⟩
        go_wp2_with fail
        with_reducible refine (QP'.out _).mono ?_
        rintro e wd ⟨rfl, rfl⟩
        go_wp2
        go_roundw
        case rel =>
          refine ⟨k + 1, u', v', _, by rw [HX'.out], by have hn := HNN.out; subst hn; go_num, HN.out, (HBel4.out.setCell (by show w.heap.size ≤ w5.heap.size; omega) _).setCell (by show w.heap.size ≤ w5.heap.size; omega) _, HC4.out.set (by omega) _ _⟩
        case measure => have hn := HNN.out; simp [intOf]; omega
      · rw [show (u / 16777216 == v / 16777216) = false from by simpa using he] at qs
        have QS : Hid (∀ w, Calls Tryz.prog 86 #[.agg #[.int .i64 u, .int .i64 v]] w fun e w' => e = .returned (.bool false) ∧ Bel w w') := qs
        have hd := HM.out.done he
        rw [HS.out] at hd
        injection hd with hd1 hd2
        injection hd2 with hd2 hd3
        subst hd1 hd2 hd3
        have hlen := HM.out.len
        clear qs he
        go_wp2_with fail
        refine (QS.out _).mono ?_
        rintro e wa ⟨rfl, ba⟩
        have HBel2 : Hid (Bel w wa) := HBel.out.trans ba
        obtain ⟨s0', s1', g0, g1, a3, c0, c1, c2, c3, c4, f0, f1, f2, f3, f4⟩ := HC.out.keep ba
        clear s0 s1 ba HC HBel
        have hle : w.heap.size ≤ w.heap.size + 1 := by omega
        by_cases hz : a + k ≤ 65544
        · have HA : Hid (decAns l1 r1 (nowAt s x a bs.length) s ((a : Int) + (bs.length : Nat)) 1 = .tuple #[.agg #[.int .i64 l1, .int .i64 r1, .int .i64 (nowAt s x a k), .string s, .int .i64 ((a + k : Nat) : Int)], .int .i64 1, .int .i64 0]) := by
            show _ = _
            rw [decAns, if_pos (by omega), hlen, show (a : Int) + (k : Nat) = ((a + k : Nat) : Int) by omega]
          generalize nowAt s x a k = x0 at *
          have hz' : decide (65544 < ((a + k : Nat) : Int)) = false := by simp; omega
          generalize a + k = n at *
          go_wp2
          refine bodyPost_ret (results_dec3 Tryz.results99 rfl rfl rfl (put5 (.int .i64 l1) (.int .i64 r1) (.int .i64 x0) (.string s) (.int .i64 (n : Int)) c0 c1 c2 c3 c4)) rfl ⟨congrArg Ending.returned HA.out.symm, ?_⟩
          exact bel5 HBel2.out hle _ _ _ _ _
        · have HA : Hid (decAns l1 r1 (nowAt s x a bs.length) s ((a : Int) + (bs.length : Nat)) 1 = decErr) := by
            show _ = _
            rw [decAns, if_neg (by omega)]
          have hz' : decide (65544 < ((a + k : Nat) : Int)) = true := by simp; omega
          generalize nowAt s x a k = x0 at *
          generalize a + k = n at *
          go_wp2
          refine bodyPost_ret (results_dec3 Tryz.results99 rfl rfl rfl (put5 (.int .i64 0) (.int .i64 0) (.int .i64 0) (.string ⟨#[]⟩) (.int .i64 0) c0 c1 c2 c3 c4)) rfl ⟨congrArg Ending.returned HA.out.symm, ?_⟩
          exact bel5 HBel2.out hle _ _ _ _ _
  · rw [if_neg hc] at hbo
    rw [hbo] at hset hnar hin ⊢
    have hc' : decide (x ≤ m) = false := by simp; omega
    generalize (narrow l h 0 p).1 = X at *
    generalize (narrow l h 0 p).2 = Y at *
    have QN : Hid (∀ w, Calls Tryz.prog 85 #[.agg #[.int .i64 l, .int .i64 h], .int .i64 0, .int .i64 p] w fun e w' => e = .returned (.agg #[.int .i64 X, .int .i64 Y]) ∧ Bel w w') := hnar
    have HI : Hid (0 ≤ X ∧ X ≤ Y ∧ Y ≤ 4294967295) := hin
    have HS : Hid (Coder.settle 5 X Y = (bs, l1, r1)) := hset
    clear hnar hin hset hbo hc
    go_enter Tryz.func99, Tryz.ntmps99
    go_wp2_with fail
    refine (QM.out _).mono ?_
    rintro e w1 ⟨rfl, b1⟩
    have a0 : w1.cell? ⟨w.heap.size, 0, none⟩ = some (.int .i64 l) := b1.keep (by simp)
    have a1 : w1.cell? ⟨w.heap.size, 1, none⟩ = some (.int .i64 h) := b1.keep (by simp)
    have a2 : w1.cell? ⟨w.heap.size, 2, none⟩ = some (.int .i64 x) := b1.keep (by simp)
    have a3 : w1.cell? ⟨w.heap.size, 3, none⟩ = some (.string s) := b1.keep (by simp)
    have a4 : w1.cell? ⟨w.heap.size, 4, none⟩ = some (.int .i64 (a : Int)) := b1.keep (by simp)
    have c0 : w1.cell? ⟨w.heap.size + 1, 0, none⟩ = some (.int .i64 0) := b1.keep (by simp)
    have c1 : w1.cell? ⟨w.heap.size + 1, 1, none⟩ = some (.int .i64 0) := b1.keep (by simp)
    have c2 : w1.cell? ⟨w.heap.size + 1, 2, none⟩ = some (.int .i64 0) := b1.keep (by simp)
    have c3 : w1.cell? ⟨w.heap.size + 1, 3, none⟩ = some (.string ⟨#[]⟩) := b1.keep (by simp)
    have c4 : w1.cell? ⟨w.heap.size + 1, 4, none⟩ = some (.int .i64 0) := b1.keep (by simp)
    have f0 : w1.frozen? ⟨w.heap.size + 1, 0, none⟩ = false := by rw [b1.frozen (by simp)]; simp
    have f1 : w1.frozen? ⟨w.heap.size + 1, 1, none⟩ = false := by rw [b1.frozen (by simp)]; simp
    have f2 : w1.frozen? ⟨w.heap.size + 1, 2, none⟩ = false := by rw [b1.frozen (by simp)]; simp
    have f3 : w1.frozen? ⟨w.heap.size + 1, 3, none⟩ = false := by rw [b1.frozen (by simp)]; simp
    have f4 : w1.frozen? ⟨w.heap.size + 1, 4, none⟩ = false := by rw [b1.frozen (by simp)]; simp
    have HB : Hid (Bel w w1) := Bel.trans (((Bel.refl _).alloc _).alloc _) b1
    clear b1
    go_wp2_with fail
    refine (QC.out _).mono ?_
    rintro e w2 ⟨rfl, rfl⟩
    have k0 := cell_regrown a0
    have k1 := cell_regrown a1
    have k2 := cell_regrown a2
    have k3 := cell_regrown a3
    have k4 := cell_regrown a4
    go_wp2_with fail
    refine wp_region_quiet_below (by kernel_rfl) (by kernel_rfl) ?_
    repeat (quiet_step (first | (go_at_call 117; with_reducible exact Calls.regrown_of (Q7.out _)) | (go_at_call 114; with_reducible exact Calls.regrown_of (Q4.out _))))
    refine wpQuiet_nil ?_
    intro w3 hw'
    have bq : Bel w2 w3 := by obtain ⟨⟨dq, osq⟩, rfl⟩ := hw'; exact below_regrown w2 dq osq
    clear hw' k0 k1 k2 k3 k4
    replace HB : Hid (Bel w w3) := HB.out.trans bq
    replace f0 := bq.free c0 f0
    replace c0 := bq.keep c0
    replace a0 := bq.keep a0
    replace f1 := bq.free c1 f1
    replace c1 := bq.keep c1
    replace a1 := bq.keep a1
    replace f2 := bq.free c2 f2
    replace c2 := bq.keep c2
    replace a2 := bq.keep a2
    replace f3 := bq.free c3 f3
    replace c3 := bq.keep c3
    replace a3 := bq.keep a3
    replace f4 := bq.free c4 f4
    replace c4 := bq.keep c4
    replace a4 := bq.keep a4
    clear bq
    go_wp2_with fail
    refine (Q7.out _).mono ?_
    rintro e w4 ⟨rfl, b4⟩
    go_wp2_with fail
    refine (QN.out _).mono ?_
    rintro e w5 ⟨rfl, b5⟩
    have b := b4.trans b5
    replace f0 := b.free c0 f0
    replace c0 := b.keep c0
    replace a0 := b.keep a0
    replace f1 := b.free c1 f1
    replace c1 := b.keep c1
    replace a1 := b.keep a1
    replace f2 := b.free c2 f2
    replace c2 := b.keep c2
    replace a2 := b.keep a2
    replace f3 := b.free c3 f3
    replace c3 := b.keep c3
    replace a3 := b.keep a3
    replace f4 := b.free c4 f4
    replace c4 := b.keep c4
    replace a4 := b.keep a4
    replace HB : Hid (Bel w w5) := HB.out.trans b
    clear b4 b5 b
    go_wp2_with fail
    have z2 := ((Bel.refl w5).alloc (.cells #[.int .i64 X, .int .i64 Y] 85)).keep a2
    have z4 := ((Bel.refl w5).alloc (.cells #[.int .i64 X, .int .i64 Y] 85)).keep a4
    go_region
    clear z2 z4
    go_wp2_with fail
    go_loopw [9, 10] (fun t r wr => ∃ (k : Nat) (u v : Int) (cs : List UInt8), t = .int .i64 (nowAt s x a k) ∧ r = .int .i64 ((a + k : Nat) : Int) ∧ Mids X Y k u v cs ∧ Bel w wr ∧ DCells wr w.heap.size w5.heap.size s u v) (fun _ r _ => a + 4 - (intOf r).toNat)
    case atStart =>
      have bb : Bel w5 (w5.alloc (.cells #[.int .i64 X, .int .i64 Y] 85)) := (Bel.refl _).alloc _
      refine ⟨0, X, Y, [], rfl, by simp, Mids.start HI.out.1 HI.out.2.1 HI.out.2.2, HB.out.trans bb.drew, ?_⟩
      exact ⟨by simp, by simp, by simp, by simp, bb.drew.keep a3, bb.drew.keep c0, bb.drew.keep c1, bb.drew.keep c2, bb.drew.keep c3, bb.drew.keep c4, bb.drew.free c0 f0, bb.drew.free c1 f1, bb.drew.free c2 f2, bb.drew.free c3 f3, bb.drew.free c4 f4⟩
    case round =>
      obtain ⟨k, u, v, cs, rfl, rfl, M, hbel, C⟩ := hrel
      have hNS : w.heap.size + 1 < w5.heap.size := block_lt_of_cell c0
      clear a0 a1 a2 a3 a4 c0 c1 c2 c3 c4 f0 f1 f2 f3 f4
      have HBel : Hid (Bel w wr) := hbel
      have HM : Hid (Mids X Y k u v cs) := M
      have HC : Hid (DCells wr w.heap.size w5.heap.size s u v) := C
      have s0 := C.s0
      have s1 := C.s1
      have u0 := M.l0'
      have u1 : u ≤ 4294967295 := Int.le_trans M.lh M.h1
      have v0 : 0 ≤ v := Int.le_trans M.l0' M.lh
      have v1 := M.h1
      have hk4 := M.le4
      clear hbel M C
      have qs := isSettled_ok u v
      by_cases he : u / 16777216 = v / 16777216
      · rw [show (u / 16777216 == v / 16777216) = true from by simpa using he] at qs
        have QS : Hid (∀ w, Calls Tryz.prog 86 #[.agg #[.int .i64 u, .int .i64 v]] w fun e w' => e = .returned (.bool true) ∧ Bel w w') := qs
        have HE : Hid (u / 16777216 = v / 16777216) := he
        have hk : k < 4 := HM.out.lt he
        have QA := Q5.out k (by omega)
        have QP := Q6.out k
        clear qs he
        generalize bz s (a + k) = bb at *
        obtain ⟨x', hx'⟩ : ∃ x', x' = nowAt s x a (k + 1) := ⟨_, rfl⟩
        have HX' : Hid (x' = nowAt s x a (k + 1)) := hx'
        rw [← hx'] at QP
        generalize nowAt s x a k = x0 at *
        obtain ⟨n, hn⟩ : ∃ n, n = a + k := ⟨_, rfl⟩
        rw [← hn] at QA
        rw [← hn]
        have QA' : Hid (∀ w, Calls Tryz.prog 98 #[.string s, .int .i64 (n : Int)] w fun e w' => e = .returned (.int .u8 bb) ∧ w' = w) := QA
        have QP' : Hid (∀ w, Calls Tryz.prog 97 #[.int .i64 x0, .int .u8 bb] w fun e w' => e = .returned (.int .i64 x') ∧ w' = w) := QP
        have HNN : Hid (n = a + k) := hn
        have hn9 : (n : Int) ≤ 1000000 := by omega
        clear QA QP hx' hn
        go_wp2_with fail
        refine (QS.out _).mono ?_
        rintro e wa ⟨rfl, ba⟩
        replace s0 := ba.keep s0
        replace s1 := ba.keep s1
        go_wp2_with fail
        refine (up_ok u v u0 u1 v0 v1 _).mono ?_
        rintro e wc ⟨rfl, bc⟩
        have C4 := HC.out.keep (ba.trans bc)
        have HBel4 : Hid (Bel w wc) := HBel.out.trans (ba.trans bc)
        have HC4 : Hid (DCells wc w.heap.size w5.heap.size s u v) := C4
        have HN : Hid (Mids X Y (k + 1) (u * 256 % 4294967296) (v * 256 % 4294967296 + 255) (cs ++ [UInt8.ofNat (u / 16777216).toNat])) := HM.out.next HE.out
        replace s0 := C4.s0
        replace s1 := C4.s1
        have g0 := C4.g0
        have g1 := C4.g1
        clear ba bc C4 HC HBel
        generalize u * 256 % 4294967296 = u' at *
        generalize v * 256 % 4294967296 + 255 = v' at *
        have a3 := (HC4.out.set (by omega) u' v').a3
        go_wp2_with fail
        with_reducible refine (QA'.out _).mono ?_
        rintro e wd ⟨rfl, rfl⟩
        go_wp2_with fail
        with_reducible refine (QP'.out _).mono ?_
        rintro e wd ⟨rfl, rfl⟩
        go_wp2
        go_roundw
        case rel =>
          refine ⟨k + 1, u', v', _, by rw [HX'.out], by have hn := HNN.out; subst hn; go_num, HN.out, (HBel4.out.setCell (by show w.heap.size ≤ w5.heap.size; omega) _).setCell (by show w.heap.size ≤ w5.heap.size; omega) _, HC4.out.set (by omega) _ _⟩
        case measure => have hn := HNN.out; simp [intOf]; omega
      · rw [show (u / 16777216 == v / 16777216) = false from by simpa using he] at qs
        have QS : Hid (∀ w, Calls Tryz.prog 86 #[.agg #[.int .i64 u, .int .i64 v]] w fun e w' => e = .returned (.bool false) ∧ Bel w w') := qs
        have hd := HM.out.done he
        rw [HS.out] at hd
        injection hd with hd1 hd2
        injection hd2 with hd2 hd3
        subst hd1 hd2 hd3
        have hlen := HM.out.len
        clear qs he
        go_wp2_with fail
        refine (QS.out _).mono ?_
        rintro e wa ⟨rfl, ba⟩
        have HBel2 : Hid (Bel w wa) := HBel.out.trans ba
        obtain ⟨s0', s1', g0, g1, a3, c0, c1, c2, c3, c4, f0, f1, f2, f3, f4⟩ := HC.out.keep ba
        clear s0 s1 ba HC HBel
        have hle : w.heap.size ≤ w.heap.size + 1 := by omega
        by_cases hz : a + k ≤ 65544
        · have HA : Hid (decAns l1 r1 (nowAt s x a bs.length) s ((a : Int) + (bs.length : Nat)) 0 = .tuple #[.agg #[.int .i64 l1, .int .i64 r1, .int .i64 (nowAt s x a k), .string s, .int .i64 ((a + k : Nat) : Int)], .int .i64 0, .int .i64 0]) := by
            show _ = _
            rw [decAns, if_pos (by omega), hlen, show (a : Int) + (k : Nat) = ((a + k : Nat) : Int) by omega]
          generalize nowAt s x a k = x0 at *
          have hz' : decide (65544 < ((a + k : Nat) : Int)) = false := by simp; omega
          generalize a + k = n at *
          go_wp2
          refine bodyPost_ret (results_dec3 Tryz.results99 rfl rfl rfl (put5 (.int .i64 l1) (.int .i64 r1) (.int .i64 x0) (.string s) (.int .i64 (n : Int)) c0 c1 c2 c3 c4)) rfl ⟨congrArg Ending.returned HA.out.symm, ?_⟩
          exact bel5 HBel2.out hle _ _ _ _ _
        · have HA : Hid (decAns l1 r1 (nowAt s x a bs.length) s ((a : Int) + (bs.length : Nat)) 0 = decErr) := by
            show _ = _
            rw [decAns, if_neg (by omega)]
          have hz' : decide (65544 < ((a + k : Nat) : Int)) = true := by simp; omega
          generalize nowAt s x a k = x0 at *
          generalize a + k = n at *
          go_wp2
          refine bodyPost_ret (results_dec3 Tryz.results99 rfl rfl rfl (put5 (.int .i64 0) (.int .i64 0) (.int .i64 0) (.string ⟨#[]⟩) (.int .i64 0) c0 c1 c2 c3 c4)) rfl ⟨congrArg Ending.returned HA.out.symm, ?_⟩
          exact bel5 HBel2.out hle _ _ _ _ _

set_option maxHeartbeats 1000000 in
theorem bit_no_may (l h x p : Int) (s : ByteArray) (a : Int) (hs : s.size ≤ maxLen) (hm : dmayB l h x s a = false) (w : World) :
    Calls Tryz.prog 99 #[.agg #[.int .i64 l, .int .i64 h, .int .i64 x, .string s, .int .i64 a], .int .i64 p] w fun e w' => e = .returned (decErr) ∧ Bel w w' := by
  have q1 := may_ok l h x a s hs
  rw [hm] at q1
  have QM : Hid (∀ w, Calls Tryz.prog 116 #[.agg #[.int .i64 l, .int .i64 h, .int .i64 x, .string s, .int .i64 a]] w fun e w' => e = .returned (.bool false) ∧ Bel w w') := q1
  clear q1 hm
  go_enter Tryz.func99, Tryz.ntmps99
  go_wp2_with fail
  refine (QM.out _).mono ?_
  rintro e w1 ⟨rfl, b1⟩
  have c0 : w1.cell? ⟨w.heap.size + 1, 0, none⟩ = some (.int .i64 0) := b1.keep (by simp)
  have c1 : w1.cell? ⟨w.heap.size + 1, 1, none⟩ = some (.int .i64 0) := b1.keep (by simp)
  have c2 : w1.cell? ⟨w.heap.size + 1, 2, none⟩ = some (.int .i64 0) := b1.keep (by simp)
  have c3 : w1.cell? ⟨w.heap.size + 1, 3, none⟩ = some (.string ⟨#[]⟩) := b1.keep (by simp)
  have c4 : w1.cell? ⟨w.heap.size + 1, 4, none⟩ = some (.int .i64 0) := b1.keep (by simp)
  have f0 : w1.frozen? ⟨w.heap.size + 1, 0, none⟩ = false := by rw [b1.frozen (by simp)]; simp
  have f1 : w1.frozen? ⟨w.heap.size + 1, 1, none⟩ = false := by rw [b1.frozen (by simp)]; simp
  have f2 : w1.frozen? ⟨w.heap.size + 1, 2, none⟩ = false := by rw [b1.frozen (by simp)]; simp
  have f3 : w1.frozen? ⟨w.heap.size + 1, 3, none⟩ = false := by rw [b1.frozen (by simp)]; simp
  have f4 : w1.frozen? ⟨w.heap.size + 1, 4, none⟩ = false := by rw [b1.frozen (by simp)]; simp
  have HB : Hid (Bel w w1) := Bel.trans (((Bel.refl _).alloc _).alloc _) b1
  clear b1
  go_wp2
  refine bodyPost_ret (results_dec3 Tryz.results99 rfl rfl rfl (put5 (.int .i64 0) (.int .i64 0) (.int .i64 0) (.string ⟨#[]⟩) (.int .i64 0) c0 c1 c2 c3 c4)) rfl ⟨rfl, ?_⟩
  exact bel5 HB.out (by omega) _ _ _ _ _

set_option maxHeartbeats 1000000 in
theorem bit_no_chance (l h x p : Int) (s : ByteArray) (a : Int) (hs : s.size ≤ maxLen) (hm : dmayB l h x s a = true) (hp : chanceB p = false) (w : World) :
    Calls Tryz.prog 99 #[.agg #[.int .i64 l, .int .i64 h, .int .i64 x, .string s, .int .i64 a], .int .i64 p] w fun e w' => e = .returned (decErr) ∧ Bel w w' := by
  have q1 := may_ok l h x a s hs
  rw [hm] at q1
  have QM : Hid (∀ w, Calls Tryz.prog 116 #[.agg #[.int .i64 l, .int .i64 h, .int .i64 x, .string s, .int .i64 a]] w fun e w' => e = .returned (.bool true) ∧ Bel w w') := q1
  have q3 := isChance_ok p
  rw [hp] at q3
  have QC : Hid (∀ w, Calls Tryz.prog 83 #[.int .i64 p] w fun e w' => e = .returned (.bool false) ∧ w' = w) := q3
  clear q3 hp
  clear q1 hm
  go_enter Tryz.func99, Tryz.ntmps99
  go_wp2_with fail
  refine (QM.out _).mono ?_
  rintro e w1 ⟨rfl, b1⟩
  have c0 : w1.cell? ⟨w.heap.size + 1, 0, none⟩ = some (.int .i64 0) := b1.keep (by simp)
  have c1 : w1.cell? ⟨w.heap.size + 1, 1, none⟩ = some (.int .i64 0) := b1.keep (by simp)
  have c2 : w1.cell? ⟨w.heap.size + 1, 2, none⟩ = some (.int .i64 0) := b1.keep (by simp)
  have c3 : w1.cell? ⟨w.heap.size + 1, 3, none⟩ = some (.string ⟨#[]⟩) := b1.keep (by simp)
  have c4 : w1.cell? ⟨w.heap.size + 1, 4, none⟩ = some (.int .i64 0) := b1.keep (by simp)
  have f0 : w1.frozen? ⟨w.heap.size + 1, 0, none⟩ = false := by rw [b1.frozen (by simp)]; simp
  have f1 : w1.frozen? ⟨w.heap.size + 1, 1, none⟩ = false := by rw [b1.frozen (by simp)]; simp
  have f2 : w1.frozen? ⟨w.heap.size + 1, 2, none⟩ = false := by rw [b1.frozen (by simp)]; simp
  have f3 : w1.frozen? ⟨w.heap.size + 1, 3, none⟩ = false := by rw [b1.frozen (by simp)]; simp
  have f4 : w1.frozen? ⟨w.heap.size + 1, 4, none⟩ = false := by rw [b1.frozen (by simp)]; simp
  have HB : Hid (Bel w w1) := Bel.trans (((Bel.refl _).alloc _).alloc _) b1
  clear b1
  go_wp2_with fail
  refine (QC.out _).mono ?_
  rintro e w3 ⟨rfl, rfl⟩
  go_wp2
  refine bodyPost_ret (results_dec3 Tryz.results99 rfl rfl rfl (put5 (.int .i64 0) (.int .i64 0) (.int .i64 0) (.string ⟨#[]⟩) (.int .i64 0) c0 c1 c2 c3 c4)) rfl ⟨rfl, ?_⟩
  exact bel5 HB.out (by omega) _ _ _ _ _

theorem bit_ok (l h x p : Int) (s : ByteArray) (a : Int) (hs : s.size ≤ maxLen) (w : World) :
    Calls Tryz.prog 99 #[.agg #[.int .i64 l, .int .i64 h, .int .i64 x, .string s, .int .i64 a], .int .i64 p] w fun e w' => e = .returned (decBit l h x s a p) ∧ Bel w w' := by
  cases hm : dmayB l h x s a with
  | false => rw [decBit, if_neg (by rw [hm]; simp)]; exact bit_no_may l h x p s a hs hm w
  | true => cases hp : chanceB p with
    | false => rw [decBit, if_neg (by rw [hp]; simp)]; exact bit_no_chance l h x p s a hs hm hp w
    | true =>
      rw [decBit, if_pos ⟨hm, hp⟩]
      obtain ⟨m1, m2, m3, m4, m5, m6⟩ := of_decide_eq_true hm
      have c := of_decide_eq_true hp
      obtain ⟨n, rfl⟩ : ∃ n : Nat, a = n := ⟨a.toNat, by omega⟩
      exact bit_may l h x p s n m1 m2 m3 m4 (by omega) (by omega) c.1 c.2 _ _ _ rfl w

end Go.Proofs.YtoldedbfoechlaaGreatDoor.Deco
