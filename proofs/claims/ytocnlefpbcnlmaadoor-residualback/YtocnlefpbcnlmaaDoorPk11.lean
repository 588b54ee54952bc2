/-
  The contract of decoder.Bit: what it answers at every decoder and chance. Condition: the text is no longer than an int can tell.
  Plain facts on rows of bits: a decoder's step at a text's place, a coder's step, and that a coder's end is decoded to its bits. No condition.
  Plain facts on numbers in few bytes: a coder's and a decoder's way through the bits of numbers, and that each number comes back. No condition.
  The contracts of the statements' own functions on rows of ints: SameInts, CopyInts, LendInts, KeptInts. Conditions: the rows are there; a copied one is within the reach.
  The contract of the statements' own Num; rows of ints that a call makes by appending one after the other; short rows by their cells. No condition.
  What stays where some blocks may be written: worlds that are one but for these. No condition.
-/
import Derived.Test.YtocnlefpbcnlmaaDoorPk10
import Derived.Test.YtocnlefpbcnlmaaDoorPk8
import Derived.Test.YtocnlefpbcnlmaaDoorPk4
import Derived.Test.YtocnlefpbcnlmaaDoorPk1
import Derived.Test.YtocnlefpbcnlmaaDoorRows
import Derived.ProofKit
import Derived.Deep.QuietTactic
import Derived.BigQuiet
import Derived.RegionTactic

namespace Go.Proofs.YtocnlefpbcnlmaaDoor.Deco
open Go.Proofs.YtocnlefpbcnlmaaDoor.Coder Go.RowKit Go.Proofs.YtocnlefpbcnlmaaDoor.Num
set_option linter.unusedVariables false

def decErr : Value := .tuple #[.agg #[.int .i64 0, .int .i64 0, .int .i64 0, .string (⟨#[]⟩), .int .i64 0], .int .i64 0, .int .i64 500]

/-- What Bit answers where the call may be. -/
def decAns (l h x : Int) (s : ByteArray) (a bit : Int) : Value := if a ≤ 65544 then .tuple #[.agg #[.int .i64 l, .int .i64 h, .int .i64 x, .string s, .int .i64 a], .int .i64 bit, .int .i64 0] else decErr

/-- What Bit answers. -/
def decBit (l h x : Int) (s : ByteArray) (a p : Int) : Value :=
  if dmayB l h x s a = true ∧ chanceB p = true then
    decAns (Coder.settle 5 (narrow l h (bitOf l h x p) p).1 (narrow l h (bitOf l h x p) p).2).2.1 (Coder.settle 5 (narrow l h (bitOf l h x p) p).1 (narrow l h (bitOf l h x p) p).2).2.2
      (nowAt s x a.toNat (Coder.settle 5 (narrow l h (bitOf l h x p) p).1 (narrow l h (bitOf l h x p) p).2).1.length) s (a + ((Coder.settle 5 (narrow l h (bitOf l h x p) p).1 (narrow l h (bitOf l h x p) p).2).1.length : Nat)) (bitOf l h x p)
  else decErr

/-- What lies in Bit's variables: d's Text at N, the result at N + 1, the span at S. -/
structure DCells (w : World) (N S : Nat) (s : ByteArray) (u v : Int) : Prop where
  s0 : w.cell? ⟨S, 0, none⟩ = some (.int .i64 u)
  s1 : w.cell? ⟨S, 1, none⟩ = some (.int .i64 v)
  g0 : w.frozen? ⟨S, 0, none⟩ = false
  g1 : w.frozen? ⟨S, 1, none⟩ = false
  a3 : w.cell? ⟨N, 3, none⟩ = some (.string s)
  c0 : w.cell? ⟨N + 1, 0, none⟩ = some (.int .i64 0)
  c1 : w.cell? ⟨N + 1, 1, none⟩ = some (.int .i64 0)
  c2 : w.cell? ⟨N + 1, 2, none⟩ = some (.int .i64 0)
  c3 : w.cell? ⟨N + 1, 3, none⟩ = some (.string ⟨#[]⟩)
  c4 : w.cell? ⟨N + 1, 4, none⟩ = some (.int .i64 0)
  f0 : w.frozen? ⟨N + 1, 0, none⟩ = false
  f1 : w.frozen? ⟨N + 1, 1, none⟩ = false
  f2 : w.frozen? ⟨N + 1, 2, none⟩ = false
  f3 : w.frozen? ⟨N + 1, 3, none⟩ = false
  f4 : w.frozen? ⟨N + 1, 4, none⟩ = false

theorem DCells.keep {w w' : World} {N S : Nat} {s : ByteArray} {u v : Int} (C : DCells w N S s u v) (b : Bel w w') : DCells w' N S s u v :=
  ⟨b.keep C.s0, b.keep C.s1, b.free C.s0 C.g0, b.free C.s1 C.g1, b.keep C.a3, b.keep C.c0, b.keep C.c1, b.keep C.c2, b.keep C.c3, b.keep C.c4, b.free C.c0 C.f0, b.free C.c1 C.f1, b.free C.c2 C.f2, b.free C.c3 C.f3, b.free C.c4 C.f4⟩

/-- Another span is stored. -/
theorem DCells.set {w : World} {N S : Nat} {s : ByteArray} {u v : Int} (C : DCells w N S s u v) (hN : N + 1 < S) (u' v' : Int) : DCells ((w.setCell ⟨S, 0, none⟩ (.int .i64 u')).setCell ⟨S, 1, none⟩ (.int .i64 v')) N S s u' v' := by
  obtain ⟨_, _, r2, r3⟩ := set2 (x := .int .i64 u') (y := .int .i64 v') C.s0 C.s1
  have o : ∀ (B i : Nat), B ≠ S → ((w.setCell ⟨S, 0, none⟩ (.int .i64 u')).setCell ⟨S, 1, none⟩ (.int .i64 v')).cell? ⟨B, i, none⟩ = w.cell? ⟨B, i, none⟩ := fun B i hB => by
    rw [World.cell?_setCell_other (h := by intro k; injection k with k1 _ _; omega), World.cell?_setCell_other (h := by intro k; injection k with k1 _ _; omega)]
  exact ⟨r3, r2, by simp [C.g0], by simp [C.g1], by rw [o _ _ (by omega)]; exact C.a3, by rw [o _ _ (by omega)]; exact C.c0, by rw [o _ _ (by omega)]; exact C.c1, by rw [o _ _ (by omega)]; exact C.c2, by rw [o _ _ (by omega)]; exact C.c3, by rw [o _ _ (by omega)]; exact C.c4, by simp [C.f0], by simp [C.f1], by simp [C.f2], by simp [C.f3], by simp [C.f4]⟩

set_option maxHeartbeats 4000000 in
theorem bit_may (l h x p : Int) (s : ByteArray) (a : Nat) (hb : Between l h) (hx : l ≤ x) (hh : x ≤ h) (hs : s.size ≤ 65536) (ha : 4 ≤ a) (ha2 : a ≤ 65544) (h1 : 1 ≤ p) (h2 : p ≤ 4095) (l1 r1 : Int) (bs : List UInt8) (hset : Coder.settle 5 (narrow l h (bitOf l h x p) p).1 (narrow l h (bitOf l h x p) p).2 = (bs, l1, r1)) (w : World) :
    Calls Tryd.prog 64 #[.agg #[.int .i64 l, .int .i64 h, .int .i64 x, .string s, .int .i64 (a : Int)], .int .i64 p] w fun e w' => e = .returned (decAns l1 r1 (nowAt s x a bs.length) s ((a : Int) + (bs.length : Nat)) (bitOf l h x p)) ∧ Bel w w' := by
  have hnar := narrow_ok l h (bitOf l h x p) p hb h1 h2
  have hin := narrow_in hb (bitOf l h x p) p h1 h2
  have q1 := may_ok l h x a s (by unfold maxLen; omega)
  have e1 : dmayB l h x s a = true := decide_eq_true ⟨hb, hx, hh, hs, by omega, by omega⟩
  have q3 := isChance_ok p
  have e3 : chanceB p = true := decide_eq_true ⟨h1, h2⟩
  have q4 := middle_ok l h p hb h1 h2
  have q5 : ∀ k : Nat, k ≤ 4 → ∀ w, Calls Tryd.prog 63 #[.string s, .int .i64 ((a + k : Nat) : Int)] w fun e w' => e = .returned (.int .u8 (bz s (a + k))) ∧ w' = w := fun k hk => byteAt_ok s (a + k) (by omega) (by unfold maxLen; omega)
  have q6 : ∀ (k : Nat) (w : World), Calls Tryd.prog 62 #[.int .i64 (nowAt s x a k), .int .u8 (bz s (a + k))] w fun e w' => e = .returned (.int .i64 (nowAt s x a (k + 1))) ∧ w' = w := fun k =>
    push_ok (nowAt s x a k) (bz s (a + k)) (nowAt_in s x a (by obtain ⟨b0, _, _⟩ := hb; omega) (by obtain ⟨_, b0, _⟩ := hb; omega) k).1 (nowAt_in s x a (by obtain ⟨b0, _, _⟩ := hb; omega) (by obtain ⟨_, b0, _⟩ := hb; omega) k).2 (bz_bounds s (a + k)).1 (bz_bounds s (a + k)).2
  rw [e1] at q1; rw [e3] at q3
  have q7 := left_ok l h x a s
  have Q7 : Hid (∀ w, Calls Tryd.prog 82 #[.agg #[.int .i64 l, .int .i64 h, .int .i64 x, .string s, .int .i64 (a : Int)]] w fun e w' => e = .returned (.agg #[.int .i64 l, .int .i64 h]) ∧ Bel w w') := q7
  have QM : Hid (∀ w, Calls Tryd.prog 81 #[.agg #[.int .i64 l, .int .i64 h, .int .i64 x, .string s, .int .i64 (a : Int)]] w fun e w' => e = .returned (.bool true) ∧ Bel w w') := q1
  have QC : Hid (∀ w, Calls Tryd.prog 55 #[.int .i64 p] w fun e w' => e = .returned (.bool true) ∧ w' = w) := q3
  have Q5 : Hid (∀ k : Nat, k ≤ 4 → ∀ w, Calls Tryd.prog 63 #[.string s, .int .i64 ((a + k : Nat) : Int)] w fun e w' => e = .returned (.int .u8 (bz s (a + k))) ∧ w' = w) := q5
  have Q6 : Hid (∀ (k : Nat) (w : World), Calls Tryd.prog 62 #[.int .i64 (nowAt s x a k), .int .u8 (bz s (a + k))] w fun e w' => e = .returned (.int .i64 (nowAt s x a (k + 1))) ∧ w' = w) := q6
  obtain ⟨m, hmm⟩ : ∃ m, m = mid l h p := ⟨_, rfl⟩
  have hbo : bitOf l h x p = if x ≤ m then 1 else 0 := by rw [bitOf, hmm]
  rw [← hmm] at q4
  have Q4 : Hid (∀ w, Calls Tryd.prog 80 #[.agg #[.int .i64 l, .int .i64 h], .int .i64 p] w fun e w' => e = .returned (.int .i64 m) ∧ Bel w w') := q4
  clear q1 q3 q4 q5 q6 q7 e1 e3 hb hmm
  by_cases hc : x ≤ m
  · rw [if_pos hc] at hbo
    rw [hbo] at hset hnar hin ⊢
    have hc' : decide (x ≤ m) = true := by simp; omega
    generalize (narrow l h 1 p).1 = X at *
    generalize (narrow l h 1 p).2 = Y at *
    have QN : Hid (∀ w, Calls Tryd.prog 57 #[.agg #[.int .i64 l, .int .i64 h], .int .i64 1, .int .i64 p] w fun e w' => e = .returned (.agg #[.int .i64 X, .int .i64 Y]) ∧ Bel w w') := hnar
    have HI : Hid (0 ≤ X ∧ X ≤ Y ∧ Y ≤ 4294967295) := hin
    have HS : Hid (Coder.settle 5 X Y = (bs, l1, r1)) := hset
    clear hnar hin hset hbo hc
    go_enter Tryd.func64, Tryd.ntmps64
    go_wp2_with fail
    refine (QM.out _).mono ?_
    rintro e w1 ⟨rfl, b1⟩
    have a0 : w1.cell? ⟨w.heap.size, 0, none⟩ = some (.int .i64 l) := b1.keep (by simp)
    have a1 : w1.cell? ⟨w.heap.size, 1, none⟩ = some (.int .i64 h) := b1.keep (by simp)
    have a2 : w1.cell? ⟨w.heap.size, 2, none⟩ = some (.int .i64 x) := b1.keep (by simp)
    have a3 : w1.cell? ⟨w.heap.size, 3, none⟩ = some (.string s) := b1.keep (by simp)
    have a4 : w1.cell? ⟨w.heap.size, 4, none⟩ = some (.int .i64 (a : Int)) := b1.keep (by simp)
    have c0 : w1.cell? ⟨w.heap.size + 1, 0, none⟩ = some (.int .i64 0) := b1.keep (by simp)
    have c1 : w1.cell? ⟨w.heap.size + 1, 1, none⟩ = some (.int .i64 0) := b1.keep (by simp)
    have c2 : w1.cell? ⟨w.heap.size + 1, 2, none⟩ = some (.int .i64 0) := b1.keep (by simp)
    have c3 : w1.cell? ⟨w.heap.size + 1, 3, none⟩ = some (.string ⟨#[]⟩) := b1.keep (by simp)
    have c4 : w1.cell? ⟨w.heap.size + 1, 4, none⟩ = some (.int .i64 0) := b1.keep (by simp)
    have f0 : w1.frozen? ⟨w.heap.size + 1, 0, none⟩ = false := by rw [b1.frozen (by simp)]; simp
    have f1 : w1.frozen? ⟨w.heap.size + 1, 1, none⟩ = false := by rw [b1.frozen (by simp)]; simp
    have f2 : w1.frozen? ⟨w.heap.size + 1, 2, none⟩ = false := by rw [b1.frozen (by simp)]; simp
    have f3 : w1.frozen? ⟨w.heap.size + 1, 3, none⟩ = false := by rw [b1.frozen (by simp)]; simp
    have f4 : w1.frozen? ⟨w.heap.size + 1, 4, none⟩ = false := by rw [b1.frozen (by simp)]; simp
    have HB : Hid (Bel w w1) := Bel.trans (((Bel.refl _).alloc _).alloc _) b1
    clear b1
    go_wp2_with fail
    refine (QC.out _).mono ?_
    rintro e w2 ⟨rfl, rfl⟩
    have k0 := cell_regrown a0
    have k1 := cell_regrown a1
    have k2 := cell_regrown a2
    have k3 := cell_regrown a3
    have k4 := cell_regrown a4
    go_wp2_with fail
    refine wp_region_quiet_below (by kernel_rfl) (by kernel_rfl) ?_
    repeat (quiet_step (first | (go_at_call 82; with_reducible exact Calls.regrown_of (Q7.out _)) | (go_at_call 80; with_reducible exact Calls.regrown_of (Q4.out _))))
    refine wpQuiet_nil ?_
    intro w3 hw'
    have bq : Bel w2 w3 := by obtain ⟨⟨dq, osq⟩, rfl⟩ := hw'; exact below_regrown w2 dq osq
    clear hw' k0 k1 k2 k3 k4
    replace HB : Hid (Bel w w3) := HB.out.trans bq
    replace f0 := bq.free c0 f0
    replace c0 := bq.keep c0
    replace a0 := bq.keep a0
    replace f1 := bq.free c1 f1
    replace c1 := bq.keep c1
    replace a1 := bq.keep a1
    replace f2 := bq.free c2 f2
    replace c2 := bq.keep c2
    replace a2 := bq.keep a2
    replace f3 := bq.free c3 f3
    replace c3 := bq.keep c3
    replace a3 := bq.keep a3
    replace f4 := bq.free c4 f4
    replace c4 := bq.keep c4
    replace a4 := bq.keep a4
    clear bq
    go_wp2_with fail
    refine (Q7.out _).mono ?_
    rintro e w4 ⟨rfl, b4⟩
    go_wp2_with fail
    refine (QN.out _).mono ?_
    rintro e w5 ⟨rfl, b5⟩
    have b := b4.trans b5
    replace f0 := b.free c0 f0
    replace c0 := b.keep c0
    replace a0 := b.keep a0
    replace f1 := b.free c1 f1
    replace c1 := b.keep c1
    replace a1 := b.keep a1
    replace f2 := b.free c2 f2
    replace c2 := b.keep c2
    replace a2 := b.keep a2
    replace f3 := b.free c3 f3
    replace c3 := b.keep c3
    replace a3 := b.keep a3
    replace f4 := b.free c4 f4
    replace c4 := b.keep c4
    replace a4 := b.keep a4
    replace HB : Hid (Bel w w5) := HB.out.trans b
    clear b4 b5 b
    go_wp2_with fail
    have z2 := ((Bel.refl w5).alloc (.cells #[.int .i64 X, .int .i64 Y] 64)).keep a2
    have z4 := ((Bel.refl w5).alloc (.cells #[.int .i64 X, .int .i64 Y] 64)).keep a4
    go_region
    clear z2 z4
    go_wp2_with fail
    go_loopw [9, 10] (fun t r wr => ∃ (k : Nat) (u v : Int) (cs : List UInt8), t = .int .i64 (nowAt s x a k) ∧ r = .int .i64 ((a + k : Nat) : Int) ∧ Mids X Y k u v cs ∧ Bel w wr ∧ DCells wr w.heap.size w5.heap.size s u v) (fun _ r _ => a + 4 - (intOf r).toNat)
    case atStart =>
      have bb : Bel w5 (w5.alloc (.cells #[.int .i64 X, .int .i64 Y] 64)) := (Bel.refl _).alloc _
      refine ⟨0, X, Y, [], rfl, by simp, Mids.start HI.out.1 HI.out.2.1 HI.out.2.2, HB.out.trans bb.drew, ?_⟩
      exact ⟨by simp, by simp, by simp, by simp, bb.drew.keep a3, bb.drew.keep c0, bb.drew.keep c1, bb.drew.keep c2, bb.drew.keep c3, bb.drew.keep c4, bb.drew.free c0 f0, bb.drew.free c1 f1, bb.drew.free c2 f2, bb.drew.free c3 f3, bb.drew.free c4 f4⟩
    case round =>
      obtain ⟨k, u, v, cs, rfl, rfl, M, hbel, C⟩ := hrel
      have hNS : w.heap.size + 1 < w5.heap.size := block_lt_of_cell c0
      clear a0 a1 a2 a3 a4 c0 c1 c2 c3 c4 f0 f1 f2 f3 f4
      have HBel : Hid (Bel w wr) := hbel
      have HM : Hid (Mids X Y k u v cs) := M
      have HC : Hid (DCells wr w.heap.size w5.heap.size s u v) := C
      have s0 := C.s0
      have s1 := C.s1
      have u0 := M.l0'
      have u1 : u ≤ 4294967295 := Int.le_trans M.lh M.h1
      have v0 : 0 ≤ v := Int.le_trans M.l0' M.lh
      have v1 := M.h1
      have hk4 := M.le4
      clear hbel M C
      have qs := isSettled_ok u v
      by_cases he : u / 16777216 = v / 16777216
      · rw [show (u / 16777216 == v / 16777216) = true from by simpa using he] at qs
        have QS : Hid (∀ w, Calls Tryd.prog 58 #[.agg #[.int .i64 u, .int .i64 v]] w fun e w' => e = .returned (.bool true) ∧ Bel w w') := qs
        have HE : Hid (u / 16777216 = v / 16777216) := he
        have hk : k < 4 := HM.out.lt he
        have QA := Q5.out k (by omega)
        have QP := Q6.out k
        clear qs he
        generalize bz s (a + k) = bb at *
        obtain ⟨x', hx'⟩ : ∃ x', x' = nowAt s x a (k + 1) := ⟨_, rfl⟩
        have HX' : Hid (x' = nowAt s x a (k + 1)) := hx'
        rw [← hx'] at QP
        generalize nowAt s x a k = x0 at *
        obtain ⟨n, hn⟩ : ∃ n, n = a + k := ⟨_, rfl⟩
        rw [← hn] at QA
        rw [← hn]
        have QA' : Hid (∀ w, Calls Tryd.prog 63 #[.string s, .int .i64 (n : Int)] w fun e w' => e = .returned (.int .u8 bb) ∧ w' = w) := QA
        have QP' : Hid (∀ w, Calls Tryd.prog 62 #[.int .i64 x0, .int .u8 bb] w fun e w' => e = .returned (.int .i64 x') ∧ w' = w) := QP
        have HNN : Hid (n = a + k) := hn
        have hn9 : (n : Int) ≤ 1000000 := by omega
        clear QA QP hx' hn
        go_wp2_with fail
        refine (QS.out _).mono ?_
        rintro e wa ⟨rfl, ba⟩
        replace s0 := ba.keep s0
        replace s1 := ba.keep s1
        go_wp2_with fail
        refine (up_ok u v u0 u1 v0 v1 _).mono ?_
        rintro e wc ⟨rfl, bc⟩
        have C4 := HC.out.keep (ba.trans bc)
        have HBel4 : Hid (Bel w wc) := HBel.out.trans (ba.trans bc)
        have HC4 : Hid (DCells wc w.heap.size w5.heap.size s u v) := C4
        have HN : Hid (Mids X Y (k + 1) (u * 256 % 4294967296) (v * 256 % 4294967296 + 255) (cs ++ [UInt8.ofNat (u / 16777216).toNat])) := HM.out.next HE.out
        replace s0 := C4.s0
        replace s1 := C4.s1
        have g0 := C4.g0
        have g1 := C4.g1
        clear ba bc C4 HC HBel
        generalize u * 256 % 4294967296 = u' at *
        generalize v * 256 % 4294967296 + 255 = v' at *
        have a3 := (HC4.out.set (by omega) u' v').a3
        go_wp2_with fail
        with_reducible refine (QA'.out _).mono ?_
        rintro e wd ⟨rfl, rfl⟩
        go_wp2_with fail
        with_reducible refine (QP'.out _).mono ?_
        rintro e wd ⟨rfl, rfl⟩
        go_wp2
        go_roundw
        case rel =>
          refine ⟨k + 1, u', v', _, by rw [HX'.out], by have hn := HNN.out; subst hn; go_num, HN.out, (HBel4.out.setCell (by show w.heap.size ≤ w5.heap.size; omega) _).setCell (by show w.heap.size ≤ w5.heap.size; omega) _, HC4.out.set (by omega) _ _⟩
        case measure => have hn := HNN.out; simp [intOf]; omega
      · rw [show (u / 16777216 == v / 16777216) = false from by simpa using he] at qs
        have QS : Hid (∀ w, Calls Tryd.prog 58 #[.agg #[.int .i64 u, .int .i64 v]] w fun e w' => e = .returned (.bool false) ∧ Bel w w') := qs
        have hd := HM.out.done he
        rw [HS.out] at hd
        injection hd with hd1 hd2
        injection hd2 with hd2 hd3
        subst hd1 hd2 hd3
        have hlen := HM.out.len
        clear qs he
        go_wp2_with fail
        refine (QS.out _).mono ?_
        rintro e wa ⟨rfl, ba⟩
        have HBel2 : Hid (Bel w wa) := HBel.out.trans ba
        obtain ⟨s0', s1', g0, g1, a3, c0, c1, c2, c3, c4, f0, f1, f2, f3, f4⟩ := HC.out.keep ba
        clear s0 s1 ba HC HBel
        have hle : w.heap.size ≤ w.heap.size + 1 := by omega
        by_cases hz : a + k ≤ 65544
        · have HA : Hid (decAns l1 r1 (nowAt s x a bs.length) s ((a : Int) + (bs.length : Nat)) 1 = .tuple #[.agg #[.int .i64 l1, .int .i64 r1, .int .i64 (nowAt s x a k), .string s, .int .i64 ((a + k : Nat) : Int)], .int .i64 1, .int .i64 0]) := by
            show _ = _
            rw [decAns, if_pos (by omega), hlen, show (a : Int) + (k : Nat) = ((a + k : Nat) : Int) by omega]
          generalize nowAt s x a k = x0 at *
          have hz' : decide (65544 < ((a + k : Nat) : Int)) = false := by simp; omega
          generalize a + k = n at *
          go_wp2
          refine bodyPost_ret (results_dec3 Tryd.results64 rfl rfl rfl (put5 (.int .i64 l1) (.int .i64 r1) (.int .i64 x0) (.string s) (.int .i64 (n : Int)) c0 c1 c2 c3 c4)) rfl ⟨congrArg Ending.returned HA.out.symm, ?_⟩
          exact bel5 HBel2.out hle _ _ _ _ _
        · have HA : Hid (decAns l1 r1 (nowAt s x a bs.length) s ((a : Int) + (bs.length : Nat)) 1 = decErr) := by
            show _ = _
            rw [decAns, if_neg (by omega)]
          have hz' : decide (65544 < ((a + k : Nat) : Int)) = true := by simp; omega
          generalize nowAt s x a k = x0 at *
          generalize a + k = n at *
          go_wp2
          refine bodyPost_ret (results_dec3 Tryd.results64 rfl rfl rfl (put5 (.int .i64 0) (.int .i64 0) (.int .i64 0) (.string ⟨#[]⟩) (.int .i64 0) c0 c1 c2 c3 c4)) rfl ⟨congrArg Ending.returned HA.out.symm, ?_⟩
          exact bel5 HBel2.out hle _ _ _ _ _
  · rw [if_neg hc] at hbo
    rw [hbo] at hset hnar hin ⊢
    have hc' : decide (x ≤ m) = false := by simp; omega
    generalize (narrow l h 0 p).1 = X at *
    generalize (narrow l h 0 p).2 = Y at *
    have QN : Hid (∀ w, Calls Tryd.prog 57 #[.agg #[.int .i64 l, .int .i64 h], .int .i64 0, .int .i64 p] w fun e w' => e = .returned (.agg #[.int .i64 X, .int .i64 Y]) ∧ Bel w w') := hnar
    have HI : Hid (0 ≤ X ∧ X ≤ Y ∧ Y ≤ 4294967295) := hin
    have HS : Hid (Coder.settle 5 X Y = (bs, l1, r1)) := hset
    clear hnar hin hset hbo hc
    go_enter Tryd.func64, Tryd.ntmps64
    go_wp2_with fail
    refine (QM.out _).mono ?_
    rintro e w1 ⟨rfl, b1⟩
    have a0 : w1.cell? ⟨w.heap.size, 0, none⟩ = some (.int .i64 l) := b1.keep (by simp)
    have a1 : w1.cell? ⟨w.heap.size, 1, none⟩ = some (.int .i64 h) := b1.keep (by simp)
    have a2 : w1.cell? ⟨w.heap.size, 2, none⟩ = some (.int .i64 x) := b1.keep (by simp)
    have a3 : w1.cell? ⟨w.heap.size, 3, none⟩ = some (.string s) := b1.keep (by simp)
    have a4 : w1.cell? ⟨w.heap.size, 4, none⟩ = some (.int .i64 (a : Int)) := b1.keep (by simp)
    have c0 : w1.cell? ⟨w.heap.size + 1, 0, none⟩ = some (.int .i64 0) := b1.keep (by simp)
    have c1 : w1.cell? ⟨w.heap.size + 1, 1, none⟩ = some (.int .i64 0) := b1.keep (by simp)
    have c2 : w1.cell? ⟨w.heap.size + 1, 2, none⟩ = some (.int .i64 0) := b1.keep (by simp)
    have c3 : w1.cell? ⟨w.heap.size + 1, 3, none⟩ = some (.string ⟨#[]⟩) := b1.keep (by simp)
    have c4 : w1.cell? ⟨w.heap.size + 1, 4, none⟩ = some (.int .i64 0) := b1.keep (by simp)
    have f0 : w1.frozen? ⟨w.heap.size + 1, 0, none⟩ = false := by rw [b1.frozen (by simp)]; simp
    have f1 : w1.frozen? ⟨w.heap.size + 1, 1, none⟩ = false := by rw [b1.frozen (by simp)]; simp
    have f2 : w1.frozen? ⟨w.heap.size + 1, 2, none⟩ = false := by rw [b1.frozen (by simp)]; simp
    have f3 : w1.frozen? ⟨w.heap.size + 1, 3, none⟩ = false := by rw [b1.frozen (by simp)]; simp
    have f4 : w1.frozen? ⟨w.heap.size + 1, 4, none⟩ = false := by rw [b1.frozen (by simp)]; simp
    have HB : Hid (Bel w w1) := Bel.trans (((Bel.refl _).alloc _).alloc _) b1
    clear b1
    go_wp2_with fail
    refine (QC.out _).mono ?_
    rintro e w2 ⟨rfl, rfl⟩
    have k0 := cell_regrown a0
    have k1 := cell_regrown a1
    have k2 := cell_regrown a2
    have k3 := cell_regrown a3
    have k4 := cell_regrown a4
    go_wp2_with fail
    refine wp_region_quiet_below (by kernel_rfl) (by kernel_rfl) ?_
    repeat (quiet_step (first | (go_at_call 82; with_reducible exact Calls.regrown_of (Q7.out _)) | (go_at_call 80; with_reducible exact Calls.regrown_of (Q4.out _))))
    refine wpQuiet_nil ?_
    intro w3 hw'
    have bq : Bel w2 w3 := by obtain ⟨⟨dq, osq⟩, rfl⟩ := hw'; exact below_regrown w2 dq osq
    clear hw' k0 k1 k2 k3 k4
    replace HB : Hid (Bel w w3) := HB.out.trans bq
    replace f0 := bq.free c0 f0
    replace c0 := bq.keep c0
    replace a0 := bq.keep a0
    replace f1 := bq.free c1 f1
    replace c1 := bq.keep c1
    replace a1 := bq.keep a1
    replace f2 := bq.free c2 f2
    replace c2 := bq.keep c2
    replace a2 := bq.keep a2
    replace f3 := bq.free c3 f3
    replace c3 := bq.keep c3
    replace a3 := bq.keep a3
    replace f4 := bq.free c4 f4
    replace c4 := bq.keep c4
    replace a4 := bq.keep a4
    clear bq
    go_wp2_with fail
    refine (Q7.out _).mono ?_
    rintro e w4 ⟨rfl, b4⟩
    go_wp2_with fail
    refine (QN.out _).mono ?_
    rintro e w5 ⟨rfl, b5⟩
    have b := b4.trans b5
    replace f0 := b.free c0 f0
    replace c0 := b.keep c0
    replace a0 := b.keep a0
    replace f1 := b.free c1 f1
    replace c1 := b.keep c1
    replace a1 := b.keep a1
    replace f2 := b.free c2 f2
    replace c2 := b.keep c2
    replace a2 := b.keep a2
    replace f3 := b.free c3 f3
    replace c3 := b.keep c3
    replace a3 := b.keep a3
    replace f4 := b.free c4 f4
    replace c4 := b.keep c4
    replace a4 := b.keep a4
    replace HB : Hid (Bel w w5) := HB.out.trans b
    clear b4 b5 b
    go_wp2_with fail
    have z2 := ((Bel.refl w5).alloc (.cells #[.int .i64 X, .int .i64 Y] 64)).keep a2
    have z4 := ((Bel.refl w5).alloc (.cells #[.int .i64 X, .int .i64 Y] 64)).keep a4
    go_region
    clear z2 z4
    go_wp2_with fail
    go_loopw [9, 10] (fun t r wr => ∃ (k : Nat) (u v : Int) (cs : List UInt8), t = .int .i64 (nowAt s x a k) ∧ r = .int .i64 ((a + k : Nat) : Int) ∧ Mids X Y k u v cs ∧ Bel w wr ∧ DCells wr w.heap.size w5.heap.size s u v) (fun _ r _ => a + 4 - (intOf r).toNat)
    case atStart =>
      have bb : Bel w5 (w5.alloc (.cells #[.int .i64 X, .int .i64 Y] 64)) := (Bel.refl _).alloc _
      refine ⟨0, X, Y, [], rfl, by simp, Mids.start HI.out.1 HI.out.2.1 HI.out.2.2, HB.out.trans bb.drew, ?_⟩
      exact ⟨by simp, by simp, by simp, by simp, bb.drew.keep a3, bb.drew.keep c0, bb.drew.keep c1, bb.drew.keep c2, bb.drew.keep c3, bb.drew.keep c4, bb.drew.free c0 f0, bb.drew.free c1 f1, bb.drew.free c2 f2, bb.drew.free c3 f3, bb.drew.free c4 f4⟩
    case round =>
      obtain ⟨k, u, v, cs, rfl, rfl, M, hbel, C⟩ := hrel
      have hNS : w.heap.size + 1 < w5.heap.size := block_lt_of_cell c0
      clear a0 a1 a2 a3 a4 c0 c1 c2 c3 c4 f0 f1 f2 f3 f4
      have HBel : Hid (Bel w wr) := hbel
      have HM : Hid (Mids X Y k u v cs) := M
      have HC : Hid (DCells wr w.heap.size w5.heap.size s u v) := C
      have s0 := C.s0
      have s1 := C.s1
      have u0 := M.l0'
      have u1 : u ≤ 4294967295 := Int.le_trans M.lh M.h1
      have v0 : 0 ≤ v := Int.le_trans M.l0' M.lh
      have v1 := M.h1
      have hk4 := M.le4
      clear hbel M C
      have qs := isSettled_ok u v
      by_cases he : u / 16777216 = v / 16777216
      · rw [show (u / 16777216 == v / 16777216) = true from by simpa using he] at qs
        have QS : Hid (∀ w, Calls Tryd.prog 58 #[.agg #[.int .i64 u, .int .i64 v]] w fun e w' => e = .returned (.bool true) ∧ Bel w w') := qs
        have HE : Hid (u / 16777216 = v / 16777216) := he
        have hk : k < 4 := HM.out.lt he
        have QA := Q5.out k (by omega)
        have QP := Q6.out k
        clear qs he
        generalize bz s (a + k) = bb at *
        obtain ⟨x', hx'⟩ : ∃ x', x' = nowAt s x a (k + 1) := ⟨_, rfl⟩
        have HX' : Hid (x' = nowAt s x a (k + 1)) := hx'
        rw [← hx'] at QP
        generalize nowAt s x a k = x0 at *
        obtain ⟨n, hn⟩ : ∃ n, n = a + k := ⟨_, rfl⟩
        rw [← hn] at QA
        rw [← hn]
        have QA' : Hid (∀ w, Calls Tryd.prog 63 #[.string s, .int .i64 (n : Int)] w fun e w' => e = .returned (.int .u8 bb) ∧ w' = w) := QA
        have QP' : Hid (∀ w, Calls Tryd.prog 62 #[.int .i64 x0, .int .u8 bb] w fun e w' => e = .returned (.int .i64 x') ∧ w' = w) := QP
        have HNN : Hid (n = a + k) := hn
        have hn9 : (n : Int) ≤ 1000000 := by omega
        clear QA QP hx' hn
        go_wp2_with fail
        refine (QS.out _).mono ?_
        rintro e wa ⟨rfl, ba⟩
        replace s0 := ba.keep s0
        replace s1 := ba.keep s1
        go_wp2_with fail
        refine (up_ok u v u0 u1 v0 v1 _).mono ?_
        rintro e wc ⟨rfl, bc⟩
        have C4 := HC.out.keep (ba.trans bc)
        have HBel4 : Hid (Bel w wc) := HBel.out.trans (ba.trans bc)
        have HC4 : Hid (DCells wc w.heap.size w5.heap.size s u v) := C4
        have HN : Hid (Mids X Y (k + 1) (u * 256 % 4294967296) (v * 256 % 4294967296 + 255) (cs ++ [UInt8.ofNat (u / 16777216).toNat])) := HM.out.next HE.out
        replace s0 := C4.s0
        replace s1 := C4.s1
        have g0 := C4.g0
        have g1 := C4.g1
        clear ba bc C4 HC HBel
        generalize u * 256 % 4294967296 = u' at *
        generalize v * 256 % 4294967296 + 255 = v' at *
        have a3 := (HC4.out.set (by omega) u' v').a3
        go_wp2_with fail
        with_reducible refine (QA'.out _).mono ?_
        rintro e wd ⟨rfl, rfl⟩
        go_wp2_with fail
        with_reducible refine (QP'.out _).mono ?_
        rintro e wd ⟨rfl, rfl⟩
        go_wp2
        go_roundw
        case rel =>
          refine ⟨k + 1, u', v', _, by rw [HX'.out], by have hn := HNN.out; subst hn; go_num, HN.out, (HBel4.out.setCell (by show w.heap.size ≤ w5.heap.size; omega) _).setCell (by show w.heap.size ≤ w5.heap.size; omega) _, HC4.out.set (by omega) _ _⟩
        case measure => have hn := HNN.out; simp [intOf]; omega
      · rw [show (u / 16777216 == v / 16777216) = false from by simpa using he] at qs
        have QS : Hid (∀ w, Calls Tryd.prog 58 #[.agg #[.int .i64 u, .int .i64 v]] w fun e w' => e = .returned (.bool false) ∧ Bel w w') := qs
        have hd := HM.out.done he
        rw [HS.out] at hd
        injection hd with hd1 hd2
        injection hd2 with hd2 hd3
        subst hd1 hd2 hd3
        have hlen := HM.out.len
        clear qs he
        go_wp2_with fail
        refine (QS.out _).mono ?_
        rintro e wa ⟨rfl, ba⟩
        have HBel2 : Hid (Bel w wa) := HBel.out.trans ba
        obtain ⟨s0', s1', g0, g1, a3, c0, c1, c2, c3, c4, f0, f1, f2, f3, f4⟩ := HC.out.keep ba
        clear s0 s1 ba HC HBel
        have hle : w.heap.size ≤ w.heap.size + 1 := by omega
        by_cases hz : a + k ≤ 65544
        · have HA : Hid (decAns l1 r1 (nowAt s x a bs.length) s ((a : Int) + (bs.length : Nat)) 0 = .tuple #[.agg #[.int .i64 l1, .int .i64 r1, .int .i64 (nowAt s x a k), .string s, .int .i64 ((a + k : Nat) : Int)], .int .i64 0, .int .i64 0]) := by
            show _ = _
            rw [decAns, if_pos (by omega), hlen, show (a : Int) + (k : Nat) = ((a + k : Nat) : Int) by omega]
          generalize nowAt s x a k = x0 at *
          have hz' : decide (65544 < ((a + k : Nat) : Int)) = false := by simp; omega
          generalize a + k = n at *
          go_wp2
          refine bodyPost_ret (results_dec3 Tryd.results64 rfl rfl rfl (put5 (.int .i64 l1) (.int .i64 r1) (.int .i64 x0) (.string s) (.int .i64 (n : Int)) c0 c1 c2 c3 c4)) rfl ⟨congrArg Ending.returned HA.out.symm, ?_⟩
          exact bel5 HBel2.out hle _ _ _ _ _
        · have HA : Hid (decAns l1 r1 (nowAt s x a bs.length) s ((a : Int) + (bs.length : Nat)) 0 = decErr) := by
            show _ = _
            rw [decAns, if_neg (by omega)]
          have hz' : decide (65544 < ((a + k : Nat) : Int)) = true := by simp; omega
          generalize nowAt s x a k = x0 at *
          generalize a + k = n at *
          go_wp2
          refine bodyPost_ret (results_dec3 Tryd.results64 rfl rfl rfl (put5 (.int .i64 0) (.int .i64 0) (.int .i64 0) (.string ⟨#[]⟩) (.int .i64 0) c0 c1 c2 c3 c4)) rfl ⟨congrArg Ending.returned HA.out.symm, ?_⟩
          exact bel5 HBel2.out hle _ _ _ _ _

set_option maxHeartbeats 1000000 in
theorem bit_no_may (l h x p : Int) (s : ByteArray) (a : Int) (hs : s.size ≤ maxLen) (hm : dmayB l h x s a = false) (w : World) :
    Calls Tryd.prog 64 #[.agg #[.int .i64 l, .int .i64 h, .int .i64 x, .string s, .int .i64 a], .int .i64 p] w fun e w' => e = .returned (decErr) ∧ Bel w w' := by
  have q1 := may_ok l h x a s hs
  rw [hm] at q1
  have QM : Hid (∀ w, Calls Tryd.prog 81 #[.agg #[.int .i64 l, .int .i64 h, .int .i64 x, .string s, .int .i64 a]] w fun e w' => e = .returned (.bool false) ∧ Bel w w') := q1
  clear q1 hm
  go_enter Tryd.func64, Tryd.ntmps64
  go_wp2_with fail
  refine (QM.out _).mono ?_
  rintro e w1 ⟨rfl, b1⟩
  have c0 : w1.cell? ⟨w.heap.size + 1, 0, none⟩ = some (.int .i64 0) := b1.keep (by simp)
  have c1 : w1.cell? ⟨w.heap.size + 1, 1, none⟩ = some (.int .i64 0) := b1.keep (by simp)
  have c2 : w1.cell? ⟨w.heap.size + 1, 2, none⟩ = some (.int .i64 0) := b1.keep (by simp)
  have c3 : w1.cell? ⟨w.heap.size + 1, 3, none⟩ = some (.string ⟨#[]⟩) := b1.keep (by simp)
  have c4 : w1.cell? ⟨w.heap.size + 1, 4, none⟩ = some (.int .i64 0) := b1.keep (by simp)
  have f0 : w1.frozen? ⟨w.heap.size + 1, 0, none⟩ = false := by rw [b1.frozen (by simp)]; simp
  have f1 : w1.frozen? ⟨w.heap.size + 1, 1, none⟩ = false := by rw [b1.frozen (by simp)]; simp
  have f2 : w1.frozen? ⟨w.heap.size + 1, 2, none⟩ = false := by rw [b1.frozen (by simp)]; simp
  have f3 : w1.frozen? ⟨w.heap.size + 1, 3, none⟩ = false := by rw [b1.frozen (by simp)]; simp
  have f4 : w1.frozen? ⟨w.heap.size + 1, 4, none⟩ = false := by rw [b1.frozen (by simp)]; simp
  have HB : Hid (Bel w w1) := Bel.trans (((Bel.refl _).alloc _).alloc _) b1
  clear b1
  go_wp2
  refine bodyPost_ret (results_dec3 Tryd.results64 rfl rfl rfl (put5 (.int .i64 0) (.int .i64 0) (.int .i64 0) (.string ⟨#[]⟩) (.int .i64 0) c0 c1 c2 c3 c4)) rfl ⟨rfl, ?_⟩
  exact bel5 HB.out (by omega) _ _ _ _ _

set_option maxHeartbeats 1000000 in
theorem bit_no_chance (l h x p : Int) (s : ByteArray) (a : Int) (hs : s.size ≤ maxLen) (hm : dmayB l h x s a = true) (hp : chanceB p = false) (w : World) :
    Calls Tryd.prog 64 #[.agg #[.int .i64 l, .int .i64 h, .int .i64 x, .string s, .int .i64 a], .int .i64 p] w fun e w' => e = .returned (decErr) ∧ Bel w w' := by
  have q1 := may_ok l h x a s hs
  rw [hm] at q1
  have QM : Hid (∀ w, Calls Tryd.prog 81 #[.agg #[.int .i64 l, .int .i64 h, .int .i64 x, .string s, .int .i64 a]] w fun e w' => e = .returned (.bool true) ∧ Bel w w') := q1
  have q3 := isChance_ok p
  rw [hp] at q3
  have QC : Hid (∀ w, Calls Tryd.prog 55 #[.int .i64 p] w fun e w' => e = .returned (.bool false) ∧ w' = w) := q3
  clear q3 hp
  clear q1 hm
  go_enter Tryd.func64, Tryd.ntmps64
  go_wp2_with fail
  refine (QM.out _).mono ?_
  rintro e w1 ⟨rfl, b1⟩
  have c0 : w1.cell? ⟨w.heap.size + 1, 0, none⟩ = some (.int .i64 0) := b1.keep (by simp)
  have c1 : w1.cell? ⟨w.heap.size + 1, 1, none⟩ = some (.int .i64 0) := b1.keep (by simp)
  have c2 : w1.cell? ⟨w.heap.size + 1, 2, none⟩ = some (.int .i64 0) := b1.keep (by simp)
  have c3 : w1.cell? ⟨w.heap.size + 1, 3, none⟩ = some (.string ⟨#[]⟩) := b1.keep (by simp)
  have c4 : w1.cell? ⟨w.heap.size + 1, 4, none⟩ = some (.int .i64 0) := b1.keep (by simp)
  have f0 : w1.frozen? ⟨w.heap.size + 1, 0, none⟩ = false := by rw [b1.frozen (by simp)]; simp
  have f1 : w1.frozen? ⟨w.heap.size + 1, 1, none⟩ = false := by rw [b1.frozen (by simp)]; simp
  have f2 : w1.frozen? ⟨w.heap.size + 1, 2, none⟩ = false := by rw [b1.frozen (by simp)]; simp
  have f3 : w1.frozen? ⟨w.heap.size + 1, 3, none⟩ = false := by rw [b1.frozen (by simp)]; simp
  have f4 : w1.frozen? ⟨w.heap.size + 1, 4, none⟩ = false := by rw [b1.frozen (by simp)]; simp
  have HB : Hid (Bel w w1) := Bel.trans (((Bel.refl _).alloc _).alloc _) b1
  clear b1
  go_wp2_with fail
  refine (QC.out _).mono ?_
  rintro e w3 ⟨rfl, rfl⟩
  go_wp2
  refine bodyPost_ret (results_dec3 Tryd.results64 rfl rfl rfl (put5 (.int .i64 0) (.int .i64 0) (.int .i64 0) (.string ⟨#[]⟩) (.int .i64 0) c0 c1 c2 c3 c4)) rfl ⟨rfl, ?_⟩
  exact bel5 HB.out (by omega) _ _ _ _ _

theorem bit_ok (l h x p : Int) (s : ByteArray) (a : Int) (hs : s.size ≤ maxLen) (w : World) :
    Calls Tryd.prog 64 #[.agg #[.int .i64 l, .int .i64 h, .int .i64 x, .string s, .int .i64 a], .int .i64 p] w fun e w' => e = .returned (decBit l h x s a p) ∧ Bel w w' := by
  cases hm : dmayB l h x s a with
  | false => rw [decBit, if_neg (by rw [hm]; simp)]; exact bit_no_may l h x p s a hs hm w
  | true => cases hp : chanceB p with
    | false => rw [decBit, if_neg (by rw [hp]; simp)]; exact bit_no_chance l h x p s a hs hm hp w
    | true =>
      rw [decBit, if_pos ⟨hm, hp⟩]
      obtain ⟨m1, m2, m3, m4, m5, m6⟩ := of_decide_eq_true hm
      have c := of_decide_eq_true hp
      obtain ⟨n, rfl⟩ : ∃ n : Nat, a = n := ⟨a.toNat, by omega⟩
      exact bit_may l h x p s n m1 m2 m3 m4 (by omega) (by omega) c.1 c.2 _ _ _ rfl w

end Go.Proofs.YtocnlefpbcnlmaaDoor.Deco

namespace Go.Proofs.YtocnlefpbcnlmaaDoor.Deco
open Go.Proofs.YtocnlefpbcnlmaaDoor.Coder Go.RowKit Go.Proofs.YtocnlefpbcnlmaaDoor.Num
set_option linter.unusedVariables false

theorem dand1 (n : Int) : bits .and .i64 n 1 = n % 2 := and_mask 1 1 (by decide) (by decide) n

theorem and4094 (n : Int) : 0 ≤ bits .and .i64 n 4094 ∧ bits .and .i64 n 4094 ≤ 4094 := by
  have hc : (BitVec.ofInt 64 (4094 : Int)).toNat = 4094 := by decide
  have key : (BitVec.ofInt 64 n &&& BitVec.ofInt 64 (4094 : Int)).toNat ≤ 4094 := by
    rw [BitVec.toNat_and, hc]
    exact Nat.and_le_right
  show 0 ≤ IntKind.i64.wrap ((BitVec.ofInt 64 n &&& BitVec.ofInt 64 (4094 : Int)).toNat : Nat) ∧ IntKind.i64.wrap ((BitVec.ofInt 64 n &&& BitVec.ofInt 64 (4094 : Int)).toNat : Nat) ≤ 4094
  rw [IntKind.wrap_i64]
  omega

/-- The chance that a number of the row tells. -/
def chOf (n : Int) : Int := 1 + bits .and .i64 n 4094

theorem chOf_in (n : Int) : 1 ≤ chOf n ∧ chOf n ≤ 4095 := by
  have := and4094 n
  unfold chOf
  omega

/-- A decoder's step at the place q of a text. -/
theorem dec_step {l h p : Int} {s : ByteArray} {q : Nat} (hb : Between l h) (h1 : l ≤ win s q) (h2 : win s q ≤ h) (hs : s.size ≤ 65536) (hq : q ≤ 60000) (hp : 1 ≤ p ∧ p ≤ 4095) :
    ∃ (cs : List UInt8) (u v : Int), Coder.settle 5 (narrow l h (bitOf l h (win s q) p) p).1 (narrow l h (bitOf l h (win s q) p) p).2 = (cs, u, v) ∧
      decBit l h (win s q) s ((q + 4 : Nat) : Int) p = .tuple #[.agg #[.int .i64 u, .int .i64 v, .int .i64 (win s (q + cs.length)), .string s, .int .i64 ((q + cs.length + 4 : Nat) : Int)], .int .i64 (bitOf l h (win s q) p), .int .i64 0] ∧
      Between u v ∧ u ≤ win s (q + cs.length) ∧ win s (q + cs.length) ≤ v ∧ cs.length ≤ 4 ∧ ∀ i, i < cs.length → ((cs.getD i 0).toNat : Int) = bz s (q + i) := by
  obtain ⟨cs, u, v, he⟩ : ∃ (cs : List UInt8) (u v : Int), Coder.settle 5 (narrow l h (bitOf l h (win s q) p) p).1 (narrow l h (bitOf l h (win s q) p) p).2 = (cs, u, v) := ⟨_, _, _, rfl⟩
  have k := narrow_in hb (bitOf l h (win s q) p) p hp.1 hp.2
  have f := settle_facts k.1 k.2.1 k.2.2
  obtain ⟨n1, n2⟩ := narrow_now (p := p) h1 h2
  have sn := settle_now s 5 _ _ (win s q) (q + 4) k.1 k.2.2 n1 n2
  have so := settle_own s 5 _ _ q k.1 k.2.2 n1 n2
  rw [nowAt_win] at sn
  rw [he] at f sn so
  refine ⟨cs, u, v, he, ?_, f.2, sn.1, sn.2, f.1, so⟩
  have f1 : cs.length ≤ 4 := f.1
  rw [decBit, if_pos ⟨decide_eq_true ⟨hb, h1, h2, hs, by omega, by omega⟩, decide_eq_true hp⟩, he, decAns, if_pos (by simp only; omega), Int.toNat_natCast, nowAt_win]
  rw [show ((q + 4 : Nat) : Int) + (((cs, u, v) : List UInt8 × Int × Int).1.length : Nat) = ((q + cs.length + 4 : Nat) : Int) by simp only; omega]

theorem app_mk (a b : List UInt8) : (⟨a.toArray⟩ : ByteArray) ++ ⟨b.toArray⟩ = ⟨(a ++ b).toArray⟩ := by
  apply ByteArray.ext
  simp [ByteArray.data_append]

theorem mk_size (a : List UInt8) : (⟨a.toArray⟩ : ByteArray).size = a.length := by
  show a.toArray.size = _
  simp

/-- A coder's step. -/
theorem cod_step {l h bit p : Int} {os cs : List UInt8} {u v : Int} (hb : Between l h) (hs : os.length ≤ 60000) (hbit : bit = 0 ∨ bit = 1) (hp : 1 ≤ p ∧ p ≤ 4095) (he : Coder.settle 5 (narrow l h bit p).1 (narrow l h bit p).2 = (cs, u, v)) :
    codeBit l h bit p ⟨os.toArray⟩ = .tuple #[.agg #[.int .i64 u, .int .i64 v, .string ⟨(os ++ cs).toArray⟩], .int .i64 0] := by
  have n := narrow_in hb bit p hp.1 hp.2
  obtain ⟨f1, f2⟩ := settle_facts n.1 n.2.1 n.2.2
  have z := mk_size os
  rw [codeBit, if_pos ⟨decide_eq_true ⟨hb, by omega⟩, decide_eq_true hbit, decide_eq_true hp⟩]
  rw [he] at f1 ⊢
  have z2 := mk_size cs
  rw [bitAns, if_pos (by simp only at f1 ⊢; omega), app_mk]

theorem coded_step (bs ps : Nat → Int) (hp : ∀ i, 1 ≤ ps i ∧ ps i ≤ 4095) (hbit : ∀ i, bs i = 0 ∨ bs i = 1) (j : Nat) (hj : j ≤ 60) :
    codeBit (coded bs ps j).2.1 (coded bs ps j).2.2 (bs j) (ps j) ⟨(coded bs ps j).1.toArray⟩ = .tuple #[.agg #[.int .i64 (coded bs ps (j + 1)).2.1, .int .i64 (coded bs ps (j + 1)).2.2, .string ⟨(coded bs ps (j + 1)).1.toArray⟩], .int .i64 0] := by
  obtain ⟨f1, f2⟩ := coded_facts bs ps hp j
  exact cod_step f1 (by omega) (hbit j) (hp j) rfl

/-- What End tells of them. -/
def txt (bs ps : Nat → Int) (k : Nat) : ByteArray := ⟨(coded bs ps k).1.toArray⟩ ++ four (coded bs ps k).2.1

theorem bz_left (L : List UInt8) (r : ByteArray) (i : Nat) (h : i < L.length) : bz (⟨L.toArray⟩ ++ r) i = ((L.getD i 0).toNat : Int) := by
  unfold bz
  rw [ByteArray.data_append]
  simp only [Array.toList_append]
  rw [List.getD_eq_getElem?_getD, List.getElem?_append_left h, List.getD_eq_getElem?_getD]

theorem bz_right (L : List UInt8) (r : ByteArray) (i : Nat) : bz (⟨L.toArray⟩ ++ r) (L.length + i) = bz r i := by
  unfold bz
  rw [ByteArray.data_append]
  simp only [Array.toList_append]
  rw [List.getD_eq_getElem?_getD, List.getElem?_append_right (by omega), Nat.add_sub_cancel_left, List.getD_eq_getElem?_getD]

theorem win_four (L : List UInt8) (l : Int) (h0 : 0 ≤ l) (h1 : l ≤ 4294967295) : win (⟨L.toArray⟩ ++ four l) L.length = l := by
  unfold win
  have e0 : bz (⟨L.toArray⟩ ++ four l) L.length = bz (four l) 0 := bz_right L (four l) 0
  rw [e0, bz_right, bz_right, bz_right]
  have c : ∀ x : Int, 0 ≤ x → x ≤ 255 → (((UInt8.ofNat x.toNat).toNat : Nat) : Int) = x := fun x a b => by
    rw [UInt8.toNat_ofNat', Nat.mod_eq_of_lt (by omega)]; omega
  have b0 : bz (four l) 0 = l / 16777216 := c (l / 16777216) (by omega) (by omega)
  have b1 : bz (four l) 1 = l / 65536 % 256 := c (l / 65536 % 256) (by omega) (by omega)
  have b2 : bz (four l) 2 = l / 256 % 256 := c (l / 256 % 256) (by omega) (by omega)
  have b3 : bz (four l) 3 = l % 256 := c (l % 256) (by omega) (by omega)
  rw [b0, b1, b2, b3]
  omega

theorem txt_size (bs ps : Nat → Int) (hp : ∀ i, 1 ≤ ps i ∧ ps i ≤ 4095) (k : Nat) (hk : k ≤ 60) : (txt bs ps k).size ≤ 244 := by
  obtain ⟨_, f2⟩ := coded_facts bs ps hp k
  unfold txt
  rw [ByteArray.size_append, mk_size]
  have : (four (coded bs ps k).2.1).size = 4 := strOfNums_size _
  omega

/-- T1 for the coder and its decoder: the text decodes to the bits, one after the other. -/
theorem back_step (bs ps : Nat → Int) (hp : ∀ i, 1 ≤ ps i ∧ ps i ≤ 4095) (hbit : ∀ i, bs i = 0 ∨ bs i = 1) (k : Nat) (hk : k ≤ 60) (j : Nat) (hj : j < k) :
    decBit (coded bs ps j).2.1 (coded bs ps j).2.2 (win (txt bs ps k) (coded bs ps j).1.length) (txt bs ps k) (((coded bs ps j).1.length + 4 : Nat) : Int) (ps j) =
      .tuple #[.agg #[.int .i64 (coded bs ps (j + 1)).2.1, .int .i64 (coded bs ps (j + 1)).2.2, .int .i64 (win (txt bs ps k) (coded bs ps (j + 1)).1.length), .string (txt bs ps k), .int .i64 (((coded bs ps (j + 1)).1.length + 4 : Nat) : Int)], .int .i64 (bs j), .int .i64 0] := by
  obtain ⟨fk, fk2⟩ := coded_facts bs ps hp k
  obtain ⟨fj, fj2⟩ := coded_facts bs ps hp j
  have hw : win (txt bs ps k) (coded bs ps k).1.length = (coded bs ps k).2.1 := by
    obtain ⟨c0, c1, c2⟩ := fk
    exact win_four _ _ c0 (by omega)
  have hz := txt_size bs ps hp k hk
  obtain ⟨⟨i1, i2⟩, i3⟩ := coded_back bs ps hp (txt bs ps k) k (fun i hi => bz_left _ _ i hi) (by rw [hw]; exact Int.le_refl _) (by rw [hw]; obtain ⟨c0, c1, c2⟩ := fk; omega) (k - j) j (by omega)
  obtain ⟨n1, n2⟩ := i3 hj
  have hbo := bitOf_narrow (hbit j) n1 n2
  obtain ⟨cs, u, v, he, hd, _⟩ := dec_step fj i1 i2 (by omega) (by omega) (hp j)
  rw [hd, hbo]
  rw [hbo] at he
  have c1 : (coded bs ps (j + 1)).1 = (coded bs ps j).1 ++ cs := by rw [coded, he]
  have c2 : (coded bs ps (j + 1)).2 = (u, v) := by rw [coded, he]
  rw [c1, c2, List.length_append]

end Go.Proofs.YtocnlefpbcnlmaaDoor.Deco

namespace Go.Proofs.YtocnlefpbcnlmaaDoor.Res
open Go.RowKit
set_option linter.unusedVariables false

/-- A context's three places. -/
def x0 (bs : List Int) : Nat := (Ctx.c0 bs).toNat
def x1 (b : Int) (bs : List Int) : Nat := (Ctx.c1 b bs).toNat
def x2 (bs : List Int) : Nat := (Ctx.c2 bs).toNat
theorem x0_is (bs : List Int) : ((x0 bs : Nat) : Int) = Ctx.c0 bs ∧ x0 bs < 64 := by
  have h1 := Ctx.upto31_range (Gam.ones bs : Int) (by omega)
  have h2 := Ctx.oneB_range (Ctx.has0 bs)
  unfold x0 Ctx.c0
  omega
theorem x1_is {b : Int} (hb : 0 ≤ b) (bs : List Int) : ((x1 b bs : Nat) : Int) = Ctx.c1 b bs ∧ x1 b bs < 64 := by
  have h1 := Ctx.upto31_range b hb
  have h2 := Ctx.oneB_range (Ctx.has0 bs)
  unfold x1 Ctx.c1
  omega
theorem x2_is (bs : List Int) : ((x2 bs : Nat) : Int) = Ctx.c2 bs ∧ x2 bs < 64 := by
  have h1 := Ctx.upto31_range (bs.length : Int) (by omega)
  have h2 := Ctx.oneB_range (Ctx.last1 bs)
  unfold x2 Ctx.c2
  omega

/-- The chance that a model tells of the next bit, and the model behind it. -/
def pOf (L : List Int) (b : Int) (bs : List Int) : Int := Mod.tell L (x0 bs) (x1 b bs) (x2 bs)
def lrn (L : List Int) (b : Int) (bs : List Int) (x : Int) : List Int := Mod.learn L (x0 bs) (x1 b bs) (x2 bs) x
theorem pOf_in (L : List Int) (b : Int) (bs : List Int) : 1 ≤ pOf L b bs ∧ pOf L b bs ≤ 4095 := Mix.dot_range _ _ _ _ _ _
theorem lrn_len (L : List Int) (b : Int) (bs : List Int) (x : Int) : (lrn L b bs x).length = L.length := Mod.learn_len _ _ _ _ _
theorem lrn_may {L : List Int} (hL : L.length = 195) {b : Int} (hb : 0 ≤ b) (bs : List Int) (x : Int) (hm : Mod.mayM L = true) : Mod.mayM (lrn L b bs x) = true :=
  Mod.may_learn L hL _ _ _ (x0_is bs).2 (x1_is hb bs).2 (x2_is bs).2 x hm

/-- A coder: what is left, and the bytes that it told. -/
structure Cod where
  l : Int
  h : Int
  o : List UInt8
def c0 : Cod := ⟨0, 4294967295, []⟩
theorem c0_between : Coder.Between c0.l c0.h := by unfold Coder.Between c0; simp

/-- A bit is coded. -/
def codS (c : Cod) (bit p : Int) : Cod :=
  ⟨(Coder.settle 5 (Coder.narrow c.l c.h bit p).1 (Coder.narrow c.l c.h bit p).2).2.1, (Coder.settle 5 (Coder.narrow c.l c.h bit p).1 (Coder.narrow c.l c.h bit p).2).2.2,
    c.o ++ (Coder.settle 5 (Coder.narrow c.l c.h bit p).1 (Coder.narrow c.l c.h bit p).2).1⟩

theorem codS_ok {c : Cod} (hb : Coder.Between c.l c.h) (bit : Int) {p : Int} (hp : 1 ≤ p ∧ p ≤ 4095) :
    Coder.Between (codS c bit p).l (codS c bit p).h ∧ (codS c bit p).o.length ≤ c.o.length + 4 := by
  have n := Coder.narrow_in hb bit p hp.1 hp.2
  have f := Coder.settle_facts n.1 n.2.1 n.2.2
  refine ⟨f.2, ?_⟩
  have f1 := f.1
  unfold codS
  rw [List.length_append]
  omega

/-- A text goes on from a coder's bytes between what it has left. -/
structure In (t : ByteArray) (c : Cod) : Prop where
  lo : c.l ≤ Coder.win t c.o.length
  hi : Coder.win t c.o.length ≤ c.h
  own : ∀ i, i < c.o.length → ((c.o.getD i 0).toNat : Int) = Coder.bz t i

theorem getD_left {A B : List UInt8} {i : Nat} (h : i < A.length) : (A ++ B).getD i 0 = A.getD i 0 := by
  rw [List.getD_eq_getElem?_getD, List.getElem?_append_left h, ← List.getD_eq_getElem?_getD]
theorem getD_right (A B : List UInt8) (i : Nat) : (A ++ B).getD (A.length + i) 0 = B.getD i 0 := by
  rw [List.getD_eq_getElem?_getD, List.getElem?_append_right (by omega), Nat.add_sub_cancel_left, ← List.getD_eq_getElem?_getD]

/-- The bit that the text tells. -/
def bitT (t : ByteArray) (c : Cod) (p : Int) : Int := Coder.bitOf c.l c.h (Coder.win t c.o.length) p
theorem bitT_01 (t : ByteArray) (c : Cod) (p : Int) : bitT t c p = 0 ∨ bitT t c p = 1 := by
  unfold bitT Coder.bitOf
  split
  · exact .inr rfl
  · exact .inl rfl

theorem in_back {t : ByteArray} {c : Cod} {bit p : Int} (hb : Coder.Between c.l c.h) (hbit : bit = 0 ∨ bit = 1) (hp : 1 ≤ p ∧ p ≤ 4095) (h : In t (codS c bit p)) : In t c ∧ bitT t c p = bit := by
  have n := Coder.narrow_in hb bit p hp.1 hp.2
  obtain ⟨lo, hi, own⟩ := h
  unfold codS at lo hi own
  simp only [List.length_append] at lo hi own
  have sb := Coder.settle_back t 5 _ _ c.o.length n.1 n.2.1 n.2.2 (fun i hi => by
    have := own (c.o.length + i) (by omega)
    rwa [getD_right] at this) lo hi
  have s := Coder.narrow_sub (bit := bit) hb hp.1 hp.2
  refine ⟨⟨by omega, by omega, fun i hi => ?_⟩, Coder.bitOf_narrow hbit sb.1 sb.2⟩
  have := own i (by omega)
  rwa [getD_left hi] at this

theorem in_next {t : ByteArray} {c : Cod} {p : Int} (hb : Coder.Between c.l c.h) (hp : 1 ≤ p ∧ p ≤ 4095) (h : In t c) : In t (codS c (bitT t c p) p) := by
  have n := Coder.narrow_in hb (bitT t c p) p hp.1 hp.2
  obtain ⟨lo, hi, own⟩ := h
  obtain ⟨n1, n2⟩ := Coder.narrow_now (p := p) lo hi
  have sn := Coder.settle_now t 5 _ _ (Coder.win t c.o.length) (c.o.length + 4) n.1 n.2.2 n1 n2
  have so := Coder.settle_own t 5 _ _ c.o.length n.1 n.2.2 n1 n2
  rw [Coder.nowAt_win] at sn
  unfold codS
  refine ⟨by simp only [List.length_append]; exact sn.1, by simp only [List.length_append]; exact sn.2, fun i hi => ?_⟩
  simp only [List.length_append] at hi
  by_cases q : i < c.o.length
  · simp only []
    rw [getD_left q]
    exact own i q
  · obtain ⟨j, rfl⟩ : ∃ j, i = c.o.length + j := ⟨i - c.o.length, by omega⟩
    simp only []
    rw [getD_right]
    exact so j (by omega)

/-- What the decoder's Bit answers. -/
theorem dec_is {t : ByteArray} {c : Cod} {p : Int} (hb : Coder.Between c.l c.h) (hs : t.size ≤ 65536) (hq : c.o.length ≤ 60000) (hp : 1 ≤ p ∧ p ≤ 4095) (h : In t c) :
    Deco.decBit c.l c.h (Coder.win t c.o.length) t ((c.o.length + 4 : Nat) : Int) p =
      .tuple #[.agg #[.int .i64 (codS c (bitT t c p) p).l, .int .i64 (codS c (bitT t c p) p).h, .int .i64 (Coder.win t (codS c (bitT t c p) p).o.length), .string t, .int .i64 (((codS c (bitT t c p) p).o.length + 4 : Nat) : Int)], .int .i64 (bitT t c p), .int .i64 0] := by
  obtain ⟨cs, u, v, he, hd, _⟩ := Deco.dec_step hb h.lo h.hi hs hq hp
  rw [hd]
  have e : codS c (bitT t c p) p = ⟨u, v, c.o ++ cs⟩ := by unfold codS bitT; rw [he]
  rw [e]
  simp only [List.length_append]
  rfl

/-- What the coder's Bit answers. -/
theorem cod_is {c : Cod} {bit p : Int} (hb : Coder.Between c.l c.h) (hq : c.o.length ≤ 60000) (hbit : bit = 0 ∨ bit = 1) (hp : 1 ≤ p ∧ p ≤ 4095) :
    Coder.codeBit c.l c.h bit p ⟨c.o.toArray⟩ = .tuple #[.agg #[.int .i64 (codS c bit p).l, .int .i64 (codS c bit p).h, .string ⟨(codS c bit p).o.toArray⟩], .int .i64 0] :=
  Deco.cod_step hb hq hbit hp rfl

/-- Are these all the bits of a number? -/
def whole (bs : List Int) : Bool := Ctx.has0 bs && decide (bs.length = 2 * Gam.ones bs + 1)

theorem bitsOf_01 (u : Nat) : Ctx.Bits01 (Gam.bitsOf u) := fun k hk => by
  rw [Gam.bitsOf_length] at hk
  rcases Nat.lt_trichotomy k (Gam.many u) with q | q | q
  · exact .inr (Gam.getD_one u k q)
  · subst q; exact .inl (Gam.getD_mid u)
  · obtain ⟨j, rfl⟩ : ∃ j, k = Gam.many u + 1 + j := ⟨k - (Gam.many u + 1), by omega⟩
    rw [Gam.getD_tail u j (by omega)]
    unfold Gam.bitAt
    omega

theorem pre_get {A B C : List Int} (h : A ++ B = C) (i : Nat) (hi : i < A.length) : A.getD i 0 = C.getD i 0 := by
  subst h
  rw [List.getD_eq_getElem?_getD, List.getD_eq_getElem?_getD, List.getElem?_append_left hi]

theorem pre_01 {u : Nat} {A B : List Int} (h : A ++ B = Gam.bitsOf u) : Ctx.Bits01 A := fun k hk => by
  rw [pre_get h k hk]
  refine bitsOf_01 u k ?_
  rw [← h, List.length_append]
  omega

theorem whole_pre {u : Nat} {A B : List Int} (h : A ++ B = Gam.bitsOf u) : whole A = decide (B = []) := by
  have hl := congrArg List.length h
  rw [List.length_append, Gam.bitsOf_length] at hl
  by_cases q : A.length ≤ Gam.many u
  · have e : Gam.ones A = A.length := Ctx.no0 (pre_01 h) fun i hi => by
      rw [pre_get h i hi, Gam.getD_one u i (by omega)]; decide
    have hB : B ≠ [] := by rintro rfl; simp at hl; omega
    rw [decide_eq_false hB]
    unfold whole Ctx.has0
    rw [e, decide_eq_false (by omega)]
    rfl
  · have e : Gam.ones A = Gam.many u := Ctx.first0 (pre_01 h) _ (by omega) (by rw [pre_get h _ (by omega)]; exact Gam.getD_mid u) fun i hi => by
      rw [pre_get h i (by omega), Gam.getD_one u i hi]; decide
    unfold whole Ctx.has0
    rw [e, decide_eq_true (by omega : Gam.many u < A.length), Bool.true_and]
    refine decide_eq_decide.2 ⟨fun k => List.length_eq_zero_iff.1 (by omega), fun k => ?_⟩
    subst k
    simpa using hl

/-- One number's bits are coded, behind those that are done. -/
def codeBits : List Int → Cod → Int → List Int → List Int → List Int × Cod
  | L, c, _, _, [] => (L, c)
  | L, c, b, done, x :: r => codeBits (lrn L b done x) (codS c x (pOf L b done)) b (done ++ [x]) r

theorem codeBits_ok : ∀ (r : List Int) (L : List Int) (c : Cod) (b : Int) (done : List Int), 0 ≤ b → L.length = 195 → Mod.mayM L = true → Coder.Between c.l c.h →
    (codeBits L c b done r).1.length = 195 ∧ Mod.mayM (codeBits L c b done r).1 = true ∧ Coder.Between (codeBits L c b done r).2.l (codeBits L c b done r).2.h ∧ (codeBits L c b done r).2.o.length ≤ c.o.length + 4 * r.length ∧ ∃ e, (codeBits L c b done r).2.o = c.o ++ e
  | [], L, c, b, done, hb, hL, hm, hc => ⟨hL, hm, hc, by simp [codeBits], [], by simp [codeBits]⟩
  | x :: r, L, c, b, done, hb, hL, hm, hc => by
    have k := codS_ok hc x (pOf_in L b done)
    obtain ⟨a1, a2, a3, a4, e, a5⟩ := codeBits_ok r (lrn L b done x) (codS c x (pOf L b done)) b (done ++ [x]) hb (by rw [lrn_len, hL]) (lrn_may hL hb done x hm) k.1
    rw [codeBits]
    refine ⟨a1, a2, a3, ?_, _, a5.trans (List.append_assoc _ _ _)⟩
    rw [List.length_cons]
    omega

theorem in_codeBits {t : ByteArray} : ∀ (r : List Int) (L : List Int) (c : Cod) (b : Int) (done : List Int), (∀ k, k < r.length → r.getD k 0 = 0 ∨ r.getD k 0 = 1) → Coder.Between c.l c.h → In t (codeBits L c b done r).2 → In t c
  | [], L, c, b, done, h, hc, hi => hi
  | x :: r, L, c, b, done, h, hc, hi => by
    have k := codS_ok hc x (pOf_in L b done)
    have i1 := in_codeBits r _ _ b _ (fun k hk => by have := h (k + 1) (by simpa using hk); simpa using this) k.1 hi
    exact (in_back hc (by simpa using h 0 (by simp)) (pOf_in L b done) i1).1

/-- The way through one number's bits. -/
def run {σ : Type} (nxt : σ → Int → Int × σ) : Nat → List Int → Int → σ → List Int → Option (List Int × σ × List Int)
  | 0, _, _, _, _ => none
  | n + 1, L, b, s, bs => if whole bs then some (L, s, bs) else if 63 < bs.length then none else
      run nxt n (lrn L b bs (nxt s (pOf L b bs)).1) b (nxt s (pOf L b bs)).2 (bs ++ [(nxt s (pOf L b bs)).1])

def nxtP (s : Cod × List Int) (p : Int) : Int × (Cod × List Int) := (s.2.headD 0, (codS s.1 (s.2.headD 0) p, s.2.tail))
def nxtT (t : ByteArray) (c : Cod) (p : Int) : Int × Cod := (bitT t c p, codS c (bitT t c p) p)

theorem run_put {u : Nat} (hu : u ≤ 33554432) : ∀ (r done : List Int) (L : List Int) (c : Cod) (b : Int) (n : Nat), done ++ r = Gam.bitsOf u → 64 ≤ n + done.length →
    run nxtP (n + 1) L b (c, r) done = some ((codeBits L c b done r).1, ((codeBits L c b done r).2, []), Gam.bitsOf u)
  | [], done, L, c, b, n, h, hn => by
    rw [run, whole_pre h, decide_eq_true rfl, if_pos rfl, codeBits, ← h, List.append_nil]
  | x :: r, done, L, c, b, n, h, hn => by
    have hl := congrArg List.length h
    rw [List.length_append, Gam.bitsOf_length, List.length_cons] at hl
    have h25 := Gam.many_25 u hu
    obtain ⟨m, rfl⟩ : ∃ m, n = m + 1 := ⟨n - 1, by omega⟩
    have ih := run_put hu r (done ++ [x]) (lrn L b done x) (codS c x (pOf L b done)) b m (by rw [← h]; simp) (by simp; omega)
    rw [run, whole_pre h, decide_eq_false (by simp), if_neg (by simp), if_neg (by omega), codeBits]
    exact ih

theorem run_take {t : ByteArray} {u : Nat} (hu : u ≤ 33554432) : ∀ (r done : List Int) (L : List Int) (c : Cod) (b : Int) (n : Nat), done ++ r = Gam.bitsOf u → 64 ≤ n + done.length → Coder.Between c.l c.h → In t (codeBits L c b done r).2 →
    run (nxtT t) (n + 1) L b c done = some ((codeBits L c b done r).1, (codeBits L c b done r).2, Gam.bitsOf u)
  | [], done, L, c, b, n, h, hn, hc, hi => by
    rw [run, whole_pre h, decide_eq_true rfl, if_pos rfl, codeBits, ← h, List.append_nil]
  | x :: r, done, L, c, b, n, h, hn, hc, hi => by
    have hl := congrArg List.length h
    rw [List.length_append, Gam.bitsOf_length, List.length_cons] at hl
    have h25 := Gam.many_25 u hu
    obtain ⟨m, rfl⟩ : ∃ m, n = m + 1 := ⟨n - 1, by omega⟩
    have k := codS_ok hc x (pOf_in L b done)
    have h' : (done ++ [x]) ++ r = Gam.bitsOf u := by rw [← h]; simp
    have g : ∀ j, j < (x :: r).length → (x :: r).getD j 0 = 0 ∨ (x :: r).getD j 0 = 1 := fun j hj => by
      have := bitsOf_01 u (done.length + j) (by rw [← h, List.length_append]; omega)
      rw [← h, List.getD_eq_getElem?_getD, List.getElem?_append_right (by omega), Nat.add_sub_cancel_left, ← List.getD_eq_getElem?_getD] at this
      exact this
    have i1 := in_codeBits r _ _ b _ (fun j hj => by have := g (j + 1) (by simpa using hj); simpa using this) k.1 hi
    obtain ⟨_, eb⟩ := in_back hc (by simpa using g 0 (by simp)) (pOf_in L b done) i1
    have ih := run_take hu r (done ++ [x]) (lrn L b done x) (codS c x (pOf L b done)) b m h' (by simp; omega) k.1 hi
    rw [run, whole_pre h, decide_eq_false (by simp), if_neg (by simp), if_neg (by omega), codeBits]
    unfold nxtT
    simp only [eb]
    exact ih

/-- A number, folded and unfolded. -/
def folded (x : Int) : Nat := (if x < 0 then 2 * -x - 1 else 2 * x).toNat
def unfolded (u : Int) : Int := if u % 2 = 0 then u / 2 else -((u + 1) / 2)
def Fits (x : Int) : Prop := -16777216 ≤ x ∧ x ≤ 16777216
theorem folded_le {x : Int} (h : Fits x) : folded x ≤ 33554432 := by unfold folded; obtain ⟨h1, h2⟩ := h; split <;> omega
theorem unfolded_folded {x : Int} (h : Fits x) : unfolded ((folded x : Nat) : Int) = x := by
  unfold folded unfolded
  obtain ⟨h1, h2⟩ := h
  split
  · rw [if_neg (by omega)]; omega
  · rw [if_pos (by omega)]; omega
theorem unfolded_fits {u : Int} (h0 : 0 ≤ u) (h1 : u ≤ 33554432) : Fits (unfolded u) := by
  unfold unfolded Fits
  split <;> omega

/-- A model, a coder, how many 1 the number ahead began with. -/
abbrev Sta := List Int × Cod × Int
def s0 : Sta := (Mod.newM, c0, 0)
def numS (s : Sta) (x : Int) : Sta := ((codeBits s.1 s.2.1 s.2.2 [] (Gam.bitsOf (folded x))).1, (codeBits s.1 s.2.1 s.2.2 [] (Gam.bitsOf (folded x))).2, ((Gam.many (folded x) : Nat) : Int))
def puts (s : Sta) (rs : List Int) : Sta := rs.foldl numS s
/-- What is told of numbers. -/
def told (rs : List Int) : ByteArray := ⟨(puts s0 rs).2.1.o.toArray⟩ ++ Coder.four (puts s0 rs).2.1.l

/-- A state behind some numbers. -/
structure Ok (s : Sta) (k : Nat) : Prop where
  len : s.1.length = 195
  may : Mod.mayM s.1 = true
  bet : Coder.Between s.2.1.l s.2.1.h
  out : s.2.1.o.length ≤ 204 * k
  b0 : 0 ≤ s.2.2
  b1 : s.2.2 ≤ 63
theorem s0_ok : Ok s0 0 := ⟨Mod.newM_len, Mod.newM_may, c0_between, by simp [s0, c0], by simp [s0], by simp [s0]⟩

theorem numS_ok {s : Sta} {k : Nat} (h : Ok s k) {x : Int} (hx : Fits x) : Ok (numS s x) (k + 1) ∧ ∃ e, (numS s x).2.1.o = s.2.1.o ++ e := by
  obtain ⟨a1, a2, a3, a4, e, a5⟩ := codeBits_ok (Gam.bitsOf (folded x)) s.1 s.2.1 s.2.2 [] h.b0 h.len h.may h.bet
  have h25 := Gam.many_25 _ (folded_le hx)
  rw [Gam.bitsOf_length] at a4
  have := h.out
  exact ⟨⟨a1, a2, a3, by show (codeBits _ _ _ _ _).2.o.length ≤ _; omega, by simp [numS], by show ((Gam.many (folded x) : Nat) : Int) ≤ 63; omega⟩, e, a5⟩

theorem puts_ok : ∀ (rs : List Int) (s : Sta) (k : Nat), Ok s k → (∀ x ∈ rs, Fits x) → Ok (puts s rs) (k + rs.length) ∧ ∃ e, (puts s rs).2.1.o = s.2.1.o ++ e
  | [], s, k, h, hr => ⟨h, [], by simp [puts]⟩
  | x :: r, s, k, h, hr => by
    obtain ⟨o1, e1, q1⟩ := numS_ok h (hr x (by simp))
    obtain ⟨o2, e2, q2⟩ := puts_ok r (numS s x) (k + 1) o1 (fun y hy => hr y (by simp [hy]))
    refine ⟨by rw [List.length_cons, show k + (r.length + 1) = k + 1 + r.length by omega]; exact o2, e1 ++ e2, ?_⟩
    rw [← List.append_assoc, ← q1]
    exact q2

theorem in_puts {t : ByteArray} : ∀ (rs : List Int) (s : Sta) (k : Nat), Ok s k → (∀ x ∈ rs, Fits x) → In t (puts s rs).2.1 → In t s.2.1
  | [], s, k, h, hr, hi => hi
  | x :: r, s, k, h, hr, hi => by
    obtain ⟨o1, _⟩ := numS_ok h (hr x (by simp))
    have := in_puts r (numS s x) (k + 1) o1 (fun y hy => hr y (by simp [hy])) hi
    exact in_codeBits _ _ _ _ _ (bitsOf_01 _) h.bet this

theorem told_size (rs : List Int) : (told rs).size = (puts s0 rs).2.1.o.length + 4 := by
  unfold told
  rw [ByteArray.size_append, Deco.mk_size]
  have : (Coder.four (puts s0 rs).2.1.l).size = 4 := strOfNums_size _
  omega

theorem bz_app (a b : ByteArray) (i : Nat) (h : i < a.size) : Coder.bz (a ++ b) i = Coder.bz a i := by
  unfold Coder.bz
  rw [ByteArray.data_append, Array.toList_append, List.getD_eq_getElem?_getD, List.getElem?_append_left (by simpa using h), ← List.getD_eq_getElem?_getD]

/-- What is told of numbers leads a decoder through them, whatever stands behind it. -/
theorem in_told {rs : List Int} (hr : ∀ x ∈ rs, Fits x) (e : ByteArray) : In (told rs ++ e) (puts s0 rs).2.1 := by
  obtain ⟨o, _⟩ := puts_ok rs s0 0 s0_ok hr
  have hz := told_size rs
  obtain ⟨b0, b1, b2⟩ := o.bet
  have w : Coder.win (told rs ++ e) (puts s0 rs).2.1.o.length = (puts s0 rs).2.1.l := by
    have := Deco.win_four (puts s0 rs).2.1.o (puts s0 rs).2.1.l b0 (by omega)
    rw [← this]
    unfold Coder.win
    rw [bz_app _ _ _ (by omega), bz_app _ _ _ (by omega), bz_app _ _ _ (by omega), bz_app _ _ _ (by omega)]
    rfl
  refine ⟨by omega, by omega, fun i hi => ?_⟩
  rw [bz_app _ _ _ (by omega)]
  exact (Deco.bz_left _ _ i hi).symm

/-- What a decoder finds. -/
def takes (t : ByteArray) : Nat → Sta → Option (List Int)
  | 0, _ => some []
  | k + 1, s => match run (nxtT t) 65 s.1 s.2.2 s.2.1 [] with
    | none => none
    | some (L, c, bs) => if (Gam.numP bs).2 = 0 then (takes t k (L, c, ((bs.length / 2 : Nat) : Int))).map (unfolded (Gam.numP bs).1 :: ·) else none

theorem takes_back {t : ByteArray} : ∀ (rs : List Int) (s : Sta) (k : Nat), Ok s k → (∀ x ∈ rs, Fits x) → In t (puts s rs).2.1 → takes t rs.length s = some rs
  | [], s, k, h, hr, hi => rfl
  | x :: r, s, k, h, hr, hi => by
    have hx := hr x (by simp)
    obtain ⟨o1, _⟩ := numS_ok h hx
    have hi' := in_puts r (numS s x) (k + 1) o1 (fun y hy => hr y (by simp [hy])) hi
    have ih := takes_back r (numS s x) (k + 1) o1 (fun y hy => hr y (by simp [hy])) hi
    have rt := run_take (folded_le hx) (Gam.bitsOf (folded x)) [] s.1 s.2.1 s.2.2 64 rfl (by simp) h.bet hi'
    rw [List.length_cons, takes, rt]
    simp only [Gam.numP_bits _ (folded_le hx), if_true, Gam.bitsOf_half]
    rw [show (((codeBits s.1 s.2.1 s.2.2 [] (Gam.bitsOf (folded x))).1, (codeBits s.1 s.2.1 s.2.2 [] (Gam.bitsOf (folded x))).2, ((Gam.many (folded x) : Nat) : Int)) : Sta) = numS s x from rfl, ih, unfolded_folded hx]
    rfl

theorem takes_told {rs : List Int} (hr : ∀ x ∈ rs, Fits x) (e : ByteArray) : takes (told rs ++ e) rs.length s0 = some rs := takes_back rs s0 0 s0_ok hr (in_told hr e)

theorem app_nil (s : ByteArray) : s ++ ⟨#[]⟩ = s := by apply ByteArray.ext; simp [ByteArray.data_append]

theorem told_takes {rs : List Int} (hr : ∀ x ∈ rs, Fits x) : takes (told rs) rs.length s0 = some rs := by
  have := takes_told hr ⟨#[]⟩
  rwa [app_nil] at this

/-- Unlike numbers have unlike texts. -/
theorem told_inj {rs xs : List Int} (hr : ∀ x ∈ rs, Fits x) (hx : ∀ x ∈ xs, Fits x) (hl : rs.length = xs.length) (h : told rs = told xs) : rs = xs := by
  have h1 := told_takes hr
  have h2 := told_takes hx
  rw [h, hl, h2] at h1
  exact (Option.some.inj h1).symm

/-- More numbers take no fewer bytes. -/
theorem told_more {rs : List Int} (hr : ∀ x ∈ rs, Fits x) {x : Int} (hx : Fits x) : (told rs).size ≤ (told (rs ++ [x])).size := by
  rw [told_size, told_size]
  obtain ⟨o, _⟩ := puts_ok rs s0 0 s0_ok hr
  obtain ⟨_, e, q⟩ := numS_ok o hx
  have : puts s0 (rs ++ [x]) = numS (puts s0 rs) x := by unfold puts; rw [List.foldl_append]; rfl
  rw [this, q, List.length_append]
  omega

end Go.Proofs.YtocnlefpbcnlmaaDoor.Res

namespace Go.Proofs.YtocnlefpbcnlmaaDoor.Ints
open Go.RowKit Go.Proofs.YtocnlefpbcnlmaaDoor.Mod
set_option linter.unusedVariables false

theorem eq_of_getD {L M : List Int} (hl : L.length = M.length) (h : ∀ k, k < L.length → L.getD k 0 = M.getD k 0) : L = M := by
  refine List.ext_getElem hl fun k a b => ?_
  have := h k a
  rwa [List.getD_eq_getElem?_getD, List.getD_eq_getElem?_getD, List.getElem?_eq_getElem a, List.getElem?_eq_getElem b] at this

set_option maxHeartbeats 1000000 in
theorem same_ok (ao bo : Option Addr) (L M : List Int) (n m ca cb : Nat) (hn : n = L.length) (hm : m = M.length) (hx : n ≤ maxLen) (hy : m ≤ maxLen) (w : World) (hA : Slc w ao L) (hB : Slc w bo M) :
    Calls Tryd.prog 11 #[.slice ao n ca, .slice bo m cb] w fun e w' => e = .returned (.bool (decide (L = M))) ∧ ∃ q, w' = w.drewN q := by
  unfold maxLen at hx hy
  by_cases hnm : n = m
  · subst hnm
    have HA : Hid (Slc w ao L) := hA
    have HB : Hid (Slc w bo M) := hB
    have HN : Hid (n = L.length) := hn
    have HM : Hid (n = M.length) := hm
    clear hA hB hn hm
    obtain ⟨r, hr⟩ : ∃ r, decide (L = M) = r := ⟨_, rfl⟩
    rw [hr]
    have HR : Hid (decide (L = M) = r) := hr
    clear hr
    go_enter Tryd.func11, Tryd.ntmps11
    go_wp2
    go_loopw [5] (fun i wr => ∃ j q : Nat, j ≤ n ∧ i = .int .i64 j ∧ wr = w.drewN q ∧ Hid (∀ k, k < j → L.getD k 0 = M.getD k 0)) (fun i _ => n - (intOf i).toNat)
    case atStart => exact ⟨0, 0, Nat.zero_le _, rfl, rfl, fun k hk => by omega⟩
    case round =>
      obtain ⟨j, q, hj, rfl, rfl, hh⟩ := hrel
      by_cases hlt : j < n
      · obtain ⟨x, rfl, hc⟩ := HA.out j (HN.out ▸ hlt)
        obtain ⟨y, rfl, hd⟩ := HB.out j (HM.out ▸ hlt)
        by_cases he : L.getD j 0 = M.getD j 0
        · have hh2 : Hid (∀ k, k < j + 1 → L.getD k 0 = M.getD k 0) := fun k hk => by
            rcases Nat.lt_or_ge k j with h | h
            · exact hh.out k h
            · obtain rfl : k = j := by omega
              exact he
          rw [← he] at hd
          clear he hh
          generalize L.getD j 0 = p at *
          have hb : (p != p) = false := by simp
          go_wp2
          go_quiet (fail)
          go_wp2
          go_roundw
          case rel => exact ⟨j + 1, _, by omega, by go_num, by first | rfl | (simp; rfl), hh2⟩
          case measure => simp [intOf]; omega
        · obtain rfl : r = false := HR.out.symm.trans (decide_eq_false fun e => he (by rw [e]))
          generalize L.getD j 0 = p at *
          generalize M.getD j 0 = p' at *
          have hb : (p != p') = true := by simpa using he
          go_wp2
          go_quiet (fail)
          go_wp2
          go_ret
          exact ⟨rfl, _, World.drewN_drewN ..⟩
      · obtain rfl : j = n := by omega
        obtain rfl : r = true := HR.out.symm.trans (decide_eq_true (eq_of_getD (HN.out.symm.trans HM.out) (fun k hk => hh.out k (HN.out.symm ▸ hk))))
        go_wp2
        go_ret
        exact ⟨rfl, _, rfl⟩
  · have hne : decide (L = M) = false := decide_eq_false fun e => hnm (by rw [hn, hm, e])
    rw [hne]
    clear hA hB hn hm
    have hb : ((n : Int) != (m : Int)) = true := by simp; omega
    go_enter Tryd.func11, Tryd.ntmps11
    go_wp2
    go_ret
    exact ⟨rfl, 0, rfl⟩

theorem info_int : (Tryd.prog.info? 3).map (fun i => (i.zero, i.size, i.bytes)) = some (some (.int .i64 0), 1, 8) := by kernel_rfl

theorem holds_front {w : World} {g : Nat} {L M : List Int} (h : Holds w g (L ++ M)) : Holds w g L := by
  have := h.take L.length
  rwa [List.take_left] at this

end Go.Proofs.YtocnlefpbcnlmaaDoor.Ints

namespace Go.Proofs.YtocnlefpbcnlmaaDoor.Ints
open Go.RowKit Go.Proofs.YtocnlefpbcnlmaaDoor.Mod Go.Proofs.YtocnlefpbcnlmaaDoor.Num
set_option linter.unusedVariables false

theorem num_ok (n : Int) (w : World) :
    Calls Tryd.prog 9 #[.int .i64 n] w fun e w' => e = .returned (.int .i64 n) ∧ w' = w := by
  go_enter Tryd.func9, Tryd.ntmps9
  go_wp2
  go_ret
  exact ⟨rfl, rfl⟩

theorem one_cell (w : World) (x : Int) : ∀ j u, (vals [x])[j]? = some u → (w.alloc (.cells #[.int .i64 x] 3)).cell? ((⟨w.heap.size, 0, none⟩ : Addr).add j) = some u := fun j u hu => by
  have hj : j < [x].length := by have := (List.getElem?_eq_some_iff.1 hu).1; rwa [vals_length] at this
  rw [vals_get _ j hj] at hu
  rw [Addr.add_lit, Nat.zero_add, ← hu]
  exact (holds_new w [x] 3).cell j hj

theorem and_one (n : Int) : bits .and .i64 n 1 = n % 2 := and_mask 1 1 (by decide) (by decide) n

/-- What is made by appending one. -/
theorem owns_more {B : Nat} {w wr w1 : World} {v v' : Value} {k : Nat} {L : List Int} {x : Int} (ho : wr.ownsRow B 3 1 v k (vals L)) (hB : w.heap.size ≤ B) (hb : Bel w wr)
    (h1 : w1.ownsRow B 3 1 v' (k + 1) (vals L ++ vals [x])) (hg : (wr.alloc (.cells #[.int .i64 x] 3)).grownBy w1 v.ownBlock) :
    w1.ownsRow B 3 1 v' (k + 1) (vals (L ++ [x])) ∧ Bel w w1 :=
  ⟨by rw [vals_append]; exact h1, Below.grown (hb.alloc _) hg (by have := hb.size; simp; omega) (fun k hk => Nat.le_trans hB (ho.lt k hk).1)⟩

theorem rep_snoc (j : Nat) (x : Int) : List.replicate j x ++ [x] = List.replicate (j + 1) x := by
  rw [List.replicate_succ']

theorem size_ok {w wr : World} (hb : Bel w wr) (o : Obj) : w.heap.size ≤ (wr.alloc o).heap.size := by have := hb.size; simp; omega

theorem slc_1 {w : World} {a : Addr} {x : Int} (h : w.cell? (a.add 0) = some (.int .i64 x)) : Slc w (some a) [x] := fun k hk => ⟨_, rfl, by
  obtain rfl : k = 0 := by simp at hk; omega
  simpa using h⟩
theorem slc_2 {w : World} {a : Addr} {x y : Int} (h : w.cell? (a.add 0) = some (.int .i64 x)) (h1 : w.cell? (a.add 1) = some (.int .i64 y)) : Slc w (some a) [x, y] := fun k hk => ⟨_, rfl, by
  match k, hk with
  | 0, _ => simpa using h
  | 1, _ => simpa using h1
  | k + 2, hk => exact absurd hk (by simp)⟩
theorem slc_3 {w : World} {a : Addr} {x y z : Int} (h : w.cell? (a.add 0) = some (.int .i64 x)) (h1 : w.cell? (a.add 1) = some (.int .i64 y)) (h2 : w.cell? (a.add 2) = some (.int .i64 z)) : Slc w (some a) [x, y, z] := fun k hk => ⟨_, rfl, by
  match k, hk with
  | 0, _ => simpa using h
  | 1, _ => simpa using h1
  | 2, _ => simpa using h2
  | k + 3, hk => exact absurd hk (by simp)⟩
theorem slc_4 {w : World} {a : Addr} {x y z t : Int} (h : w.cell? (a.add 0) = some (.int .i64 x)) (h1 : w.cell? (a.add 1) = some (.int .i64 y)) (h2 : w.cell? (a.add 2) = some (.int .i64 z)) (h3 : w.cell? (a.add 3) = some (.int .i64 t)) : Slc w (some a) [x, y, z, t] := fun k hk => ⟨_, rfl, by
  match k, hk with
  | 0, _ => simpa using h
  | 1, _ => simpa using h1
  | 2, _ => simpa using h2
  | 3, _ => simpa using h3
  | k + 4, hk => exact absurd hk (by simp)⟩

/-- An owned row, be it nil, as the calls take it. -/
theorem owns_slc {w : World} {base n : Nat} {v : Value} {L : List Int} (h : w.ownsRow base 3 1 v n (vals L)) :
    ∃ (ao : Option Addr) (cap : Nat), v = .slice ao n cap ∧ n ≤ cap ∧ cap ≤ maxLen ∧ n = L.length ∧ Slc w ao L := by
  have hL : n = L.length := by have := h.1; rw [vals_length] at this; omega
  rcases h.2 with ⟨e, h0⟩ | ⟨g, cap, cur, rfl, hb, hg, hc, hm, _, _⟩
  · subst e h0
    obtain rfl : L = [] := List.eq_nil_of_length_eq_zero hL.symm
    exact ⟨none, 0, rfl, Nat.le_refl _, Nat.zero_le _, rfl, slc_nil _ _⟩
  · refine ⟨some ⟨g, 0, none⟩, cap, rfl, hc, hm, hL, fun k hk => ⟨_, rfl, ?_⟩⟩
    rw [Addr.add_lit, Nat.zero_add, h.cellAt k (by omega)]
    exact vals_get L k hk

/-- It stays owned behind a call. -/
theorem owns_bel {w w' : World} {base n : Nat} {v : Value} {xs : List Value} (h : w.ownsRow base 3 1 v n xs) (b : Bel w w') : w'.ownsRow base 3 1 v n xs := by
  refine ⟨h.1, ?_⟩
  rcases h.2 with q | ⟨g, cap, cur, h1, h2, h3, h4⟩
  · exact .inl q
  · exact .inr ⟨g, cap, cur, h1, h2, by rw [b.block g (Array.getElem?_eq_some_iff.1 h3).1]; exact h3, h4⟩

/-- A row as the frame hands it. -/
theorem of_row {w : World} {a : Option Addr} {len cap : Nat} {zs : List Int}
    (h : (a = none ∧ len = 0 ∧ cap = 0 ∧ zs = []) ∨ ∃ x, a = some x ∧ len ≤ cap ∧ cap ≤ maxLen ∧ zs.length = cap ∧ (∀ i, i < zs.length → w.cell? (x.add i) = some (.int .i64 (zs.getD i 0))) ∧ ∀ n ∈ zs, (Lit.int .i64 n).wf = true) :
    len = (zs.take len).length ∧ len ≤ cap ∧ cap ≤ maxLen ∧ (a = none → cap = 0) ∧ Slc w a (zs.take len) := by
  rcases h with ⟨rfl, rfl, rfl, rfl⟩ | ⟨x, rfl, h1, h2, h3, h4, h5⟩
  · exact ⟨rfl, Nat.le_refl _, Nat.zero_le _, fun _ => rfl, slc_nil _ _⟩
  · refine ⟨by simp; omega, h1, h2, fun q => absurd q (by simp), ?_⟩
    have : Slc w (some x) zs := fun k hk => ⟨x, rfl, h4 k hk⟩
    exact this.take len

end Go.Proofs.YtocnlefpbcnlmaaDoor.Ints

namespace Go.Proofs.YtocnlefpbcnlmaaDoor.Mod
open Go.RowKit
set_option linter.unusedVariables false

/-- Of what was there, only the blocks of S may have turned. -/
structure Exc (S : Nat → Prop) (w w' : World) : Prop where
  os : w'.os = w.os
  tape : w'.tape = w.tape
  output : w'.output = w.output
  size : w.heap.size ≤ w'.heap.size
  block : ∀ k, k < w.heap.size → ¬ S k → w'.heap[k]? = w.heap[k]?

theorem Exc.refl (S : Nat → Prop) (w : World) : Exc S w w := ⟨rfl, rfl, rfl, Nat.le_refl _, fun _ _ _ => rfl⟩
theorem Exc.of_bel {S : Nat → Prop} {w w' : World} (h : Bel w w') : Exc S w w' := ⟨h.os, h.tape, h.output, h.size, fun k hk _ => h.block k hk⟩
/-- What is turned later may be new, too. -/
theorem Exc.trans {S T : Nat → Prop} {a b c : World} (h : Exc S a b) (k : Exc T b c) (hT : ∀ i, i < a.heap.size → T i → S i) : Exc S a c :=
  ⟨k.os.trans h.os, k.tape.trans h.tape, k.output.trans h.output, Nat.le_trans h.size k.size, fun i hi hs => (k.block i (Nat.lt_of_lt_of_le hi h.size) (fun t => hs (hT i hi t))).trans (h.block i hi hs)⟩
theorem Exc.bel {S : Nat → Prop} {a b c : World} (h : Exc S a b) (k : Bel b c) : Exc S a c := h.trans (T := fun _ => False) (Exc.of_bel k) (fun _ _ f => f.elim)
theorem Exc.mono {S T : Nat → Prop} {w w' : World} (h : Exc S w w') (hS : ∀ i, i < w.heap.size → S i → T i) : Exc T w w' := ⟨h.os, h.tape, h.output, h.size, fun k hk ht => h.block k hk (fun s => ht (hS k hk s))⟩
theorem Exc.drew {S : Nat → Prop} {w w' : World} (h : Exc S w w') : Exc S w w'.drew := ⟨h.os, h.tape, h.output, h.size, h.block⟩
theorem Exc.drewN {S : Nat → Prop} {w w' : World} (h : Exc S w w') (n : Nat) : Exc S w (w'.drewN n) := ⟨h.os, h.tape, h.output, h.size, h.block⟩
theorem Exc.alloc {S : Nat → Prop} {w w' : World} (h : Exc S w w') (o : Obj) : Exc S w (w'.alloc o) := h.bel ((Bel.refl _).alloc o)
theorem Exc.setCell {S : Nat → Prop} {w w' : World} (h : Exc S w w') {a : Addr} (ha : a.block < w.heap.size → S a.block) (v : Value) : Exc S w (w'.setCell a v) :=
  ⟨h.os, h.tape, h.output, by have := h.size; simpa [World.setCell] using this, fun k hk hs => by
    rw [Below.heap_setCell _ _ _ _ (by rintro rfl; exact hs (ha hk))]; exact h.block k hk hs⟩
theorem Exc.setCells {S : Nat → Prop} {w : World} {B : Nat} (hB : B < w.heap.size → S B) : ∀ (vs : List Value) (o : Nat) {w' : World}, Exc S w w' → Exc S w (w'.setCells B o vs)
  | [], _, _, h => h
  | v :: r, o, _, h => Exc.setCells hB r (o + 1) (h.setCell (a := ⟨B, o, none⟩) hB v)
/-- Behind append. -/
theorem Exc.grown {S : Nat → Prop} {a w w' : World} {row : Option Nat} (h : Exc S a w) (hg : w.grownBy w' row) (hr : ∀ k, row = some k → k < a.heap.size → S k) : Exc S a w' :=
  h.trans (T := fun k => row = some k) ⟨hg.os, hg.tape, hg.output, hg.size, fun k hk hs => hg.block k hk (fun e => hs e.symm)⟩ (fun i hi e => hr i e hi)

theorem Exc.keep {S : Nat → Prop} {w w' : World} (h : Exc S w w') {a : Addr} {v : Value} (c : w.cell? a = some v) (ha : ¬ S a.block) : w'.cell? a = some v := by
  rw [World.cell?_of_block (w := w) (h.block a.block (block_lt_of_cell c) ha)]; exact c
theorem Exc.free {S : Nat → Prop} {w w' : World} (h : Exc S w w') {a : Addr} {v : Value} (c : w.cell? a = some v) (ha : ¬ S a.block) (f : w.frozen? a = false) : w'.frozen? a = false := by
  rw [World.frozen?_of_block (w := w) (h.block a.block (block_lt_of_cell c) ha)]; exact f
theorem Exc.holds {S : Nat → Prop} {w w' : World} (h : Exc S w w') {B : Nat} {L : List Int} (c : Holds w B L) (hB : ¬ S B) : Holds w' B L :=
  ⟨fun k hk => h.keep (c.cell k hk) hB, fun k hk => h.free (c.cell k hk) hB (c.free k hk)⟩
theorem add_block (x : Addr) (k : Nat) : (x.add k).block = x.block := by unfold Addr.add; split <;> rfl
theorem Exc.slc {S : Nat → Prop} {w w' : World} (h : Exc S w w') {ao : Option Addr} {L : List Int} (c : Slc w ao L) (hB : ∀ x, ao = some x → ¬ S x.block) : Slc w' ao L := fun k hk => by
  obtain ⟨x, hx, hc⟩ := c k hk
  exact ⟨x, hx, h.keep hc (by rw [add_block]; exact hB x hx)⟩
theorem Exc.owns {S : Nat → Prop} {w w' : World} (h : Exc S w w') {base n : Nat} {v : Value} {xs : List Value} (c : w.ownsRow base 3 1 v n xs) (hB : ∀ k, base ≤ k → ¬ S k) : w'.ownsRow base 3 1 v n xs := by
  refine ⟨c.1, ?_⟩
  rcases c.2 with q | ⟨g, cap, cur, h1, h2, h3, h4⟩
  · exact .inl q
  · exact .inr ⟨g, cap, cur, h1, h2, by rw [h.block g (Array.getElem?_eq_some_iff.1 h3).1 (hB g h2)]; exact h3, h4⟩
theorem Exc.tab {S : Nat → Prop} {w w' : World} (h : Exc S w w') (T : Str.Tab w) (h0 : ¬ S 0) : Str.Tab w' := fun d hd => h.keep (T d hd) h0
/-- Where all that may turn is new to an elder world. -/
theorem Exc.from {S : Nat → Prop} {a b c : World} (k : Exc S b c) (h : Bel a b) (hS : ∀ i, S i → a.heap.size ≤ i) : Bel a c :=
  ⟨k.os.trans h.os, k.tape.trans h.tape, k.output.trans h.output, Nat.le_trans h.size k.size, fun i hi => (k.block i (Nat.lt_of_lt_of_le hi h.size) (fun s => by have := hS i s; omega)).trans (h.block i hi)⟩
theorem tab_pos {w : World} (T : Str.Tab w) : 0 < w.heap.size := block_lt_of_cell (T 0 (by decide))

end Go.Proofs.YtocnlefpbcnlmaaDoor.Mod
