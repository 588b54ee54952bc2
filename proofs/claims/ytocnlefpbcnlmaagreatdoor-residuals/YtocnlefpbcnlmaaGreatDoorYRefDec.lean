/-
  The contract of the reference's DecodeBit: it answers as decoder.Bit does. Condition: the text is no longer than an int can tell.
-/
import Derived.Test.YtocnlefpbcnlmaaGreatDoorPk10
import Derived.Test.YtocnlefpbcnlmaaGreatDoorPk18
namespace Go.Proofs.YtocnlefpbcnlmaaGreatDoor.Deco
open Go.Proofs.YtocnlefpbcnlmaaGreatDoor.Coder Go.RowKit Go.Proofs.YtocnlefpbcnlmaaGreatDoor.Num
set_option linter.unusedVariables false
attribute [local go_sem ↓] Go.wp_at_zero Go.wp_at_succ

/-- What lies in DecodeBit's variables: d at N, the result at N + 1. -/
structure RDCells (w : World) (N : Nat) (s : ByteArray) (u v x : Int) (n : Nat) : Prop where
  a0 : w.cell? ⟨N, 0, none⟩ = some (.int .i64 u)
  a1 : w.cell? ⟨N, 1, none⟩ = some (.int .i64 v)
  a2 : w.cell? ⟨N, 2, none⟩ = some (.int .i64 x)
  a3 : w.cell? ⟨N, 3, none⟩ = some (.string s)
  a4 : w.cell? ⟨N, 4, none⟩ = some (.int .i64 (n : Int))
  g0 : w.frozen? ⟨N, 0, none⟩ = false
  g1 : w.frozen? ⟨N, 1, none⟩ = false
  g2 : w.frozen? ⟨N, 2, none⟩ = false
  g3 : w.frozen? ⟨N, 3, none⟩ = false
  g4 : w.frozen? ⟨N, 4, none⟩ = false
  c0 : w.cell? ⟨N + 1, 0, none⟩ = some (.int .i64 0)
  c1 : w.cell? ⟨N + 1, 1, none⟩ = some (.int .i64 0)
  c2 : w.cell? ⟨N + 1, 2, none⟩ = some (.int .i64 0)
  c3 : w.cell? ⟨N + 1, 3, none⟩ = some (.string ⟨#[]⟩)
  c4 : w.cell? ⟨N + 1, 4, none⟩ = some (.int .i64 0)
  f0 : w.frozen? ⟨N + 1, 0, none⟩ = false
  f1 : w.frozen? ⟨N + 1, 1, none⟩ = false
  f2 : w.frozen? ⟨N + 1, 2, none⟩ = false
  f3 : w.frozen? ⟨N + 1, 3, none⟩ = false
  f4 : w.frozen? ⟨N + 1, 4, none⟩ = false

theorem RDCells.keep {w w' : World} {N : Nat} {s : ByteArray} {u v x : Int} {n : Nat} (C : RDCells w N s u v x n) (b : Bel w w') : RDCells w' N s u v x n :=
  ⟨b.keep C.a0, b.keep C.a1, b.keep C.a2, b.keep C.a3, b.keep C.a4, b.free C.a0 C.g0, b.free C.a1 C.g1, b.free C.a2 C.g2, b.free C.a3 C.g3, b.free C.a4 C.g4, b.keep C.c0, b.keep C.c1, b.keep C.c2, b.keep C.c3, b.keep C.c4, b.free C.c0 C.f0, b.free C.c1 C.f1, b.free C.c2 C.f2, b.free C.c3 C.f3, b.free C.c4 C.f4⟩

theorem RDCells.drew {w : World} {N : Nat} {s : ByteArray} {u v x : Int} {n : Nat} (C : RDCells w N s u v x n) : RDCells w.drew N s u v x n := ⟨C.a0, C.a1, C.a2, C.a3, C.a4, C.g0, C.g1, C.g2, C.g3, C.g4, C.c0, C.c1, C.c2, C.c3, C.c4, C.f0, C.f1, C.f2, C.f3, C.f4⟩

theorem RDCells.set0 {w : World} {N : Nat} {s : ByteArray} {u v x : Int} {n : Nat} (C : RDCells w N s u v x n) (u' : Int) : RDCells (w.setCell ⟨N, 0, none⟩ (.int .i64 u')) N s u' v x n :=
  ⟨near C.a0, far (by omega) C.a1, far (by omega) C.a2, far (by omega) C.a3, far (by omega) C.a4, by simp [C.g0], by simp [C.g1], by simp [C.g2], by simp [C.g3], by simp [C.g4], far (by omega) C.c0, far (by omega) C.c1, far (by omega) C.c2, far (by omega) C.c3, far (by omega) C.c4, by simp [C.f0], by simp [C.f1], by simp [C.f2], by simp [C.f3], by simp [C.f4]⟩
theorem RDCells.set1 {w : World} {N : Nat} {s : ByteArray} {u v x : Int} {n : Nat} (C : RDCells w N s u v x n) (v' : Int) : RDCells (w.setCell ⟨N, 1, none⟩ (.int .i64 v')) N s u v' x n :=
  ⟨far (by omega) C.a0, near C.a1, far (by omega) C.a2, far (by omega) C.a3, far (by omega) C.a4, by simp [C.g0], by simp [C.g1], by simp [C.g2], by simp [C.g3], by simp [C.g4], far (by omega) C.c0, far (by omega) C.c1, far (by omega) C.c2, far (by omega) C.c3, far (by omega) C.c4, by simp [C.f0], by simp [C.f1], by simp [C.f2], by simp [C.f3], by simp [C.f4]⟩
theorem RDCells.set2 {w : World} {N : Nat} {s : ByteArray} {u v x : Int} {n : Nat} (C : RDCells w N s u v x n) (x' : Int) : RDCells (w.setCell ⟨N, 2, none⟩ (.int .i64 x')) N s u v x' n :=
  ⟨far (by omega) C.a0, far (by omega) C.a1, near C.a2, far (by omega) C.a3, far (by omega) C.a4, by simp [C.g0], by simp [C.g1], by simp [C.g2], by simp [C.g3], by simp [C.g4], far (by omega) C.c0, far (by omega) C.c1, far (by omega) C.c2, far (by omega) C.c3, far (by omega) C.c4, by simp [C.f0], by simp [C.f1], by simp [C.f2], by simp [C.f3], by simp [C.f4]⟩
theorem RDCells.set4 {w : World} {N : Nat} {s : ByteArray} {u v x : Int} {n : Nat} (C : RDCells w N s u v x n) (n' : Nat) : RDCells (w.setCell ⟨N, 4, none⟩ (.int .i64 (n' : Int))) N s u v x n' :=
  ⟨far (by omega) C.a0, far (by omega) C.a1, far (by omega) C.a2, far (by omega) C.a3, near C.a4, by simp [C.g0], by simp [C.g1], by simp [C.g2], by simp [C.g3], by simp [C.g4], far (by omega) C.c0, far (by omega) C.c1, far (by omega) C.c2, far (by omega) C.c3, far (by omega) C.c4, by simp [C.f0], by simp [C.f1], by simp [C.f2], by simp [C.f3], by simp [C.f4]⟩

def cellNat : Option Value → Nat | some (.int _ n) => n.toNat | _ => 0

set_option maxHeartbeats 4000000 in
theorem decodeBit_may (l h x p : Int) (s : ByteArray) (a : Nat) (hb : Between l h) (hx : l ≤ x) (hh : x ≤ h) (hs : s.size ≤ 65536) (ha : 4 ≤ a) (ha2 : a ≤ 65544) (h1 : 1 ≤ p) (h2 : p ≤ 4095) (l1 r1 : Int) (bs : List UInt8) (hset : Coder.settle 5 (narrow l h (bitOf l h x p) p).1 (narrow l h (bitOf l h x p) p).2 = (bs, l1, r1)) (w : World) :
    Calls Tryz.prog 38 #[.agg #[.int .i64 l, .int .i64 h, .int .i64 x, .string s, .int .i64 (a : Int)], .int .i64 p] w fun e w' => e = .returned (decAns l1 r1 (nowAt s x a bs.length) s ((a : Int) + (bs.length : Nat)) (bitOf l h x p)) ∧ Bel w w' := by
  have hin := narrow_in hb (bitOf l h x p) p h1 h2
  have q1 := decoderMay_ok l h x a s (by unfold maxLen; omega)
  have e1 : dmayB l h x s a = true := decide_eq_true ⟨hb, hx, hh, hs, by omega, by omega⟩
  have q3 := rchance_ok p
  have e3 : chanceB p = true := decide_eq_true ⟨h1, h2⟩
  have q4 := rmiddle_ok l h p hb h1 h2
  have q5 : ∀ k : Nat, k ≤ 4 → ∀ w, Calls Tryz.prog 67 #[.string s, .int .i64 ((a + k : Nat) : Int)] w fun e w' => e = .returned (.int .i64 (bz s (a + k))) ∧ w' = w := fun k hk => rbyteAt_ok s (a + k) (by omega) (by unfold maxLen; omega)
  have q6 : ∀ k : Nat, 0 ≤ nowAt s x a k ∧ nowAt s x a k ≤ 4294967295 := nowAt_in s x a (by obtain ⟨b0, _, _⟩ := hb; omega) (by obtain ⟨_, b0, _⟩ := hb; omega)
  have hm : 0 ≤ mid l h p ∧ mid l h p ≤ 4294967295 := by
    obtain ⟨b0, b1, b2⟩ := hb
    obtain ⟨f1, f2, f3, f4, f5⟩ := mid_facts (h - l) p h1 h2 (by omega) (by omega)
    unfold mid; omega
  obtain ⟨hm0, hm1⟩ := hm
  rw [e1] at q1; rw [e3] at q3
  have QM : Hid (∀ w, Calls Tryz.prog 68 #[.agg #[.int .i64 l, .int .i64 h, .int .i64 x, .string s, .int .i64 (a : Int)]] w fun e w' => e = .returned (.bool true) ∧ Bel w w') := q1
  have QC : Hid (∀ w, Calls Tryz.prog 58 #[.int .i64 p] w fun e w' => e = .returned (.bool true) ∧ w' = w) := q3
  have Q5 : Hid (∀ k : Nat, k ≤ 4 → ∀ w, Calls Tryz.prog 67 #[.string s, .int .i64 ((a + k : Nat) : Int)] w fun e w' => e = .returned (.int .i64 (bz s (a + k))) ∧ w' = w) := q5
  have Q6 : Hid (∀ k : Nat, 0 ≤ nowAt s x a k ∧ nowAt s x a k ≤ 4294967295) := q6
  have hnb : narrow l h (bitOf l h x p) p = if bitOf l h x p = 1 then (l, mid l h p) else (mid l h p + 1, h) := rfl
  have hbo : bitOf l h x p = if x ≤ mid l h p then 1 else 0 := rfl
  rw [hnb] at hset hin
  obtain ⟨m, hmm⟩ : ∃ m, m = mid l h p := ⟨_, rfl⟩
  rw [← hmm] at q4 hset hin hbo hm0 hm1
  have Q4 : Hid (∀ w, Calls Tryz.prog 59 #[.int .i64 l, .int .i64 h, .int .i64 p] w fun e w' => e = .returned (.int .i64 m) ∧ w' = w) := q4
  clear q1 q3 q4 q5 q6 e1 e3 hb hmm hnb
  by_cases hc : x ≤ m
  · rw [if_pos hc] at hbo
    rw [hbo] at hset hin ⊢
    rw [if_pos rfl] at hset hin
    have hc' : decide (x ≤ m) = true := by simp; omega
    have HI : Hid (0 ≤ l ∧ l ≤ m ∧ m ≤ 4294967295) := hin
    have HS : Hid (Coder.settle 5 l m = (bs, l1, r1)) := hset
    clear hin hset hbo hc
    go_enter Tryz.func38, Tryz.ntmps38
    go_wp2_with fail
    refine (QM.out _).mono ?_
    rintro e w1 ⟨rfl, b1⟩
    have C : RDCells w1 w.heap.size s l h x a := RDCells.keep (w := (w.alloc (.cells #[.int .i64 l, .int .i64 h, .int .i64 x, .string s, .int .i64 (a : Int)] 76)).alloc (.cells #[.int .i64 0, .int .i64 0, .int .i64 0, .string ⟨#[]⟩, .int .i64 0] 76)) ⟨by simp, by simp, by simp, by simp, by simp, by simp, by simp, by simp, by simp, by simp, by simp, by simp, by simp, by simp, by simp, by simp, by simp, by simp, by simp, by simp⟩ b1
    have HB : Hid (Bel w w1) := Bel.trans (((Bel.refl _).alloc _).alloc _) b1
    have HC : Hid (RDCells w1 w.heap.size s l h x a) := C
    have a0 := C.a0
    have a1 := C.a1
    have a2 := C.a2
    have g0 := C.g0
    have g1 := C.g1
    clear b1 C
    go_wp2_with fail
    refine (QC.out _).mono ?_
    rintro e w3 ⟨rfl, rfl⟩
    go_wp2_with fail
    refine (Q4.out _).mono ?_
    rintro e w4 ⟨rfl, rfl⟩
    go_wp2_with fail
    have hlt0 : w.heap.size < w4.heap.size := block_lt_of_cell a0
    have HL : Hid (Bel w (w4.setCell ⟨w.heap.size, 1, none⟩ (.int .i64 m))) := HB.out.setCell (Nat.le_refl _) _
    have HLC : Hid (RDCells (w4.setCell ⟨w.heap.size, 1, none⟩ (.int .i64 m)) w.heap.size s l m x a) := HC.out.set1 _
    clear a0 a1 a2 g0 g1
    go_loopw [33] (fun _ wr => ∃ (k : Nat) (u v : Int) (cs : List UInt8), Mids l m k u v cs ∧ Bel w wr ∧ RDCells wr w.heap.size s u v (nowAt s x a k) (a + k)) (fun _ wr => a + 4 - cellNat (wr.cell? ⟨w.heap.size, 4, none⟩))
    case atStart =>
      exact ⟨0, _, _, [], Mids.start HI.out.1 HI.out.2.1 HI.out.2.2, HL.out, HLC.out⟩
    case round =>
      obtain ⟨k, u, v, cs, M, hbel, C⟩ := hrel
      have HBel : Hid (Bel w wr) := hbel
      have HM : Hid (Mids l m k u v cs) := M
      have HC : Hid (RDCells wr w.heap.size s u v (nowAt s x a k) (a + k)) := C
      have a0 := C.a0
      have a1 := C.a1
      have u0 := M.l0'
      have u1 : u ≤ 4294967295 := Int.le_trans M.lh M.h1
      have v0 : 0 ≤ v := Int.le_trans M.l0' M.lh
      have v1 := M.h1
      have hlen := M.len
      have hk4 := M.le4
      clear hbel M HL HLC
      by_cases he : u / 16777216 = v / 16777216
      · have he' : (u / 16777216 == v / 16777216) = true := by simpa using he
        have hk : k < 4 := HM.out.lt he
        have HN : Hid (Mids l m (k + 1) (u * 256 % 4294967296) (v * 256 % 4294967296 + 255) (cs ++ [UInt8.ofNat (u / 16777216).toNat])) := HM.out.next he
        have ha := and32 (u * 256)
        have hb := and32 (v * 256)
        have ho := or8 (v * 256 % 4294967296) 255 (by omega) (by omega) (by omega) (by omega) (by omega)
        have QA := Q5.out k (by omega)
        obtain ⟨x0', x1'⟩ := Q6.out k
        obtain ⟨y0', y1'⟩ := bz_bounds s (a + k)
        have hxn : nowAt s x a (k + 1) = nowAt s x a k * 256 % 4294967296 + bz s (a + k) := rfl
        obtain ⟨bb, hbb⟩ : ∃ bb, bb = bz s (a + k) := ⟨_, rfl⟩
        obtain ⟨x0, hx0⟩ : ∃ x0, x0 = nowAt s x a k := ⟨_, rfl⟩
        obtain ⟨n, hn⟩ : ∃ n, n = a + k := ⟨_, rfl⟩
        rw [← hbb] at QA y0' y1' hxn
        rw [← hx0] at x0' x1' hxn HC
        rw [← hn] at QA HC
        have HX' : Hid (nowAt s x a (k + 1) = x0 * 256 % 4294967296 + bb) := hxn
        have hc1 := and32 (x0 * 256)
        have hc2 := or8 (x0 * 256 % 4294967296) bb (by omega) (by omega) (by omega) y0' (by omega)
        have HNN : Hid (n = a + k) := hn
        have hn9 : (n : Int) ≤ 1000000 := by omega
        have QA' : Hid (∀ w, Calls Tryz.prog 67 #[.string s, .int .i64 (n : Int)] w fun e w' => e = .returned (.int .i64 bb) ∧ w' = w) := QA
        have e4 := HC.out.a4
        have C2 := (HC.out.set0 (u * 256 % 4294967296)).set1 (v * 256 % 4294967296 + 255)
        have HC2 : Hid (RDCells ((wr.setCell ⟨w.heap.size, 0, none⟩ (.int .i64 (u * 256 % 4294967296))).setCell ⟨w.heap.size, 1, none⟩ (.int .i64 (v * 256 % 4294967296 + 255))) w.heap.size s (u * 256 % 4294967296) (v * 256 % 4294967296 + 255) x0 n) := C2
        have HB2 : Hid (Bel w ((wr.setCell ⟨w.heap.size, 0, none⟩ (.int .i64 (u * 256 % 4294967296))).setCell ⟨w.heap.size, 1, none⟩ (.int .i64 (v * 256 % 4294967296 + 255)))) := (HBel.out.setCell (Nat.le_refl _) _).setCell (Nat.le_refl _) _
        have z1 := (HC.out.set0 (u * 256 % 4294967296)).a1
        have z2 := C2.a2
        have z3 := C2.a3
        have z4 := C2.a4
        have g0 := HC.out.g0
        have g1 := HC.out.g1
        have g2 := HC.out.g2
        have g4 := HC.out.g4
        have z5 := (C2.set2 (x0 * 256 % 4294967296 + bb)).a4
        have C3 := (C2.set2 (x0 * 256 % 4294967296 + bb)).set4 (n + 1)
        have HC3 : Hid (RDCells (((( wr.setCell ⟨w.heap.size, 0, none⟩ (.int .i64 (u * 256 % 4294967296))).setCell ⟨w.heap.size, 1, none⟩ (.int .i64 (v * 256 % 4294967296 + 255))).setCell ⟨w.heap.size, 2, none⟩ (.int .i64 (x0 * 256 % 4294967296 + bb))).setCell ⟨w.heap.size, 4, none⟩ (.int .i64 ((n : Int) + 1))) w.heap.size s (u * 256 % 4294967296) (v * 256 % 4294967296 + 255) (x0 * 256 % 4294967296 + bb) (n + 1)) := C3
        have HE4 : Hid (wr.cell? ⟨w.heap.size, 4, none⟩ = some (.int .i64 (n : Int))) := e4
        clear he C QA hxn hbb hx0 hn HM C2 C3 e4
        generalize u * 256 % 4294967296 = u' at *
        generalize v * 256 % 4294967296 + 255 = v' at *
        go_wp2_with fail
        go_region_with (go_at_call 67; with_reducible refine (QA'.out _).mono ?_; rintro e w' ⟨rfl, rfl⟩)
        all_goals go_wp2
        all_goals go_roundw
        all_goals first
          | exact ⟨k + 1, u', v', _, HN.out, (((HB2.out.setCell (Nat.le_refl _) _).setCell (Nat.le_refl _) _).drew), by rw [HX'.out, show a + (k + 1) = n + 1 from by have := HNN.out; omega]; exact HC3.out.drew⟩
          | (have e1 := HC3.out.drew.a4
             rw [e1, HE4.out]
             have := HNN.out
             simp only [cellNat, Int.toNat_natCast]
             omega)
      · have he' : (u / 16777216 == v / 16777216) = false := by simpa using he
        have hd := HM.out.done he
        rw [HS.out] at hd
        injection hd with hd1 hd2
        injection hd2 with hd2 hd3
        subst hd1 hd2 hd3
        obtain ⟨b0, b1, a2, a3, a4, g0, g1, g2, g3, g4, c0, c1, c2, c3, c4, f0, f1, f2, f3, f4⟩ := C
        have hle : w.heap.size ≤ w.heap.size + 1 := by omega
        clear he a0 a1 HC
        by_cases hz : a + k ≤ 65544
        · have HA : Hid (decAns l1 r1 (nowAt s x a bs.length) s ((a : Int) + (bs.length : Nat)) 1 = .tuple #[.agg #[.int .i64 l1, .int .i64 r1, .int .i64 (nowAt s x a k), .string s, .int .i64 ((a + k : Nat) : Int)], .int .i64 1, .int .i64 0]) := by
            show _ = _
            rw [decAns, if_pos (by omega), hlen, show (a : Int) + (k : Nat) = ((a + k : Nat) : Int) by omega]
          generalize nowAt s x a k = x0 at *
          have hz' : decide (65544 < ((a + k : Nat) : Int)) = false := by simp; omega
          generalize a + k = n at *
          go_wp2
          refine bodyPost_ret (results_dec3 Tryz.results38 rfl rfl rfl (put5 (.int .i64 l1) (.int .i64 r1) (.int .i64 x0) (.string s) (.int .i64 (n : Int)) c0 c1 c2 c3 c4)) rfl ⟨congrArg Ending.returned HA.out.symm, ?_⟩
          exact bel5 HBel.out hle _ _ _ _ _
        · have HA : Hid (decAns l1 r1 (nowAt s x a bs.length) s ((a : Int) + (bs.length : Nat)) 1 = decErr) := by
            show _ = _
            rw [decAns, if_neg (by omega)]
          have hz' : decide (65544 < ((a + k : Nat) : Int)) = true := by simp; omega
          generalize nowAt s x a k = x0 at *
          generalize a + k = n at *
          go_wp2
          refine bodyPost_ret (results_dec3 Tryz.results38 rfl rfl rfl (put5 (.int .i64 0) (.int .i64 0) (.int .i64 0) (.string ⟨#[]⟩) (.int .i64 0) c0 c1 c2 c3 c4)) rfl ⟨congrArg Ending.returned HA.out.symm, ?_⟩
          exact bel5 HBel.out hle _ _ _ _ _
  · rw [if_neg hc] at hbo
    rw [hbo] at hset hin ⊢
    rw [if_neg (by decide)] at hset hin
    have hc' : decide (x ≤ m) = false := by simp; omega
    have HI : Hid (0 ≤ (m + 1) ∧ (m + 1) ≤ h ∧ h ≤ 4294967295) := hin
    have HS : Hid (Coder.settle 5 (m + 1) h = (bs, l1, r1)) := hset
    clear hin hset hbo hc
    go_enter Tryz.func38, Tryz.ntmps38
    go_wp2_with fail
    refine (QM.out _).mono ?_
    rintro e w1 ⟨rfl, b1⟩
    have C : RDCells w1 w.heap.size s l h x a := RDCells.keep (w := (w.alloc (.cells #[.int .i64 l, .int .i64 h, .int .i64 x, .string s, .int .i64 (a : Int)] 76)).alloc (.cells #[.int .i64 0, .int .i64 0, .int .i64 0, .string ⟨#[]⟩, .int .i64 0] 76)) ⟨by simp, by simp, by simp, by simp, by simp, by simp, by simp, by simp, by simp, by simp, by simp, by simp, by simp, by simp, by simp, by simp, by simp, by simp, by simp, by simp⟩ b1
    have HB : Hid (Bel w w1) := Bel.trans (((Bel.refl _).alloc _).alloc _) b1
    have HC : Hid (RDCells w1 w.heap.size s l h x a) := C
    have a0 := C.a0
    have a1 := C.a1
    have a2 := C.a2
    have g0 := C.g0
    have g1 := C.g1
    clear b1 C
    go_wp2_with fail
    refine (QC.out _).mono ?_
    rintro e w3 ⟨rfl, rfl⟩
    go_wp2_with fail
    refine (Q4.out _).mono ?_
    rintro e w4 ⟨rfl, rfl⟩
    go_wp2_with fail
    have hlt0 : w.heap.size < w4.heap.size := block_lt_of_cell a0
    have HL : Hid (Bel w (w4.setCell ⟨w.heap.size, 0, none⟩ (.int .i64 (m + 1)))) := HB.out.setCell (Nat.le_refl _) _
    have HLC : Hid (RDCells (w4.setCell ⟨w.heap.size, 0, none⟩ (.int .i64 (m + 1))) w.heap.size s (m + 1) h x a) := HC.out.set0 _
    clear a0 a1 a2 g0 g1
    go_loopw [33] (fun _ wr => ∃ (k : Nat) (u v : Int) (cs : List UInt8), Mids (m + 1) h k u v cs ∧ Bel w wr ∧ RDCells wr w.heap.size s u v (nowAt s x a k) (a + k)) (fun _ wr => a + 4 - cellNat (wr.cell? ⟨w.heap.size, 4, none⟩))
    case atStart =>
      exact ⟨0, _, _, [], Mids.start HI.out.1 HI.out.2.1 HI.out.2.2, HL.out, HLC.out⟩
    case round =>
      obtain ⟨k, u, v, cs, M, hbel, C⟩ := hrel
      have HBel : Hid (Bel w wr) := hbel
      have HM : Hid (Mids (m + 1) h k u v cs) := M
      have HC : Hid (RDCells wr w.heap.size s u v (nowAt s x a k) (a + k)) := C
      have a0 := C.a0
      have a1 := C.a1
      have u0 := M.l0'
      have u1 : u ≤ 4294967295 := Int.le_trans M.lh M.h1
      have v0 : 0 ≤ v := Int.le_trans M.l0' M.lh
      have v1 := M.h1
      have hlen := M.len
      have hk4 := M.le4
      clear hbel M HL HLC
      by_cases he : u / 16777216 = v / 16777216
      · have he' : (u / 16777216 == v / 16777216) = true := by simpa using he
        have hk : k < 4 := HM.out.lt he
        have HN : Hid (Mids (m + 1) h (k + 1) (u * 256 % 4294967296) (v * 256 % 4294967296 + 255) (cs ++ [UInt8.ofNat (u / 16777216).toNat])) := HM.out.next he
        have ha := and32 (u * 256)
        have hb := and32 (v * 256)
        have ho := or8 (v * 256 % 4294967296) 255 (by omega) (by omega) (by omega) (by omega) (by omega)
        have QA := Q5.out k (by omega)
        obtain ⟨x0', x1'⟩ := Q6.out k
        obtain ⟨y0', y1'⟩ := bz_bounds s (a + k)
        have hxn : nowAt s x a (k + 1) = nowAt s x a k * 256 % 4294967296 + bz s (a + k) := rfl
        obtain ⟨bb, hbb⟩ : ∃ bb, bb = bz s (a + k) := ⟨_, rfl⟩
        obtain ⟨x0, hx0⟩ : ∃ x0, x0 = nowAt s x a k := ⟨_, rfl⟩
        obtain ⟨n, hn⟩ : ∃ n, n = a + k := ⟨_, rfl⟩
        rw [← hbb] at QA y0' y1' hxn
        rw [← hx0] at x0' x1' hxn HC
        rw [← hn] at QA HC
        have HX' : Hid (nowAt s x a (k + 1) = x0 * 256 % 4294967296 + bb) := hxn
        have hc1 := and32 (x0 * 256)
        have hc2 := or8 (x0 * 256 % 4294967296) bb (by omega) (by omega) (by omega) y0' (by omega)
        have HNN : Hid (n = a + k) := hn
        have hn9 : (n : Int) ≤ 1000000 := by omega
        have QA' : Hid (∀ w, Calls Tryz.prog 67 #[.string s, .int .i64 (n : Int)] w fun e w' => e = .returned (.int .i64 bb) ∧ w' = w) := QA
        have e4 := HC.out.a4
        have C2 := (HC.out.set0 (u * 256 % 4294967296)).set1 (v * 256 % 4294967296 + 255)
        have HC2 : Hid (RDCells ((wr.setCell ⟨w.heap.size, 0, none⟩ (.int .i64 (u * 256 % 4294967296))).setCell ⟨w.heap.size, 1, none⟩ (.int .i64 (v * 256 % 4294967296 + 255))) w.heap.size s (u * 256 % 4294967296) (v * 256 % 4294967296 + 255) x0 n) := C2
        have HB2 : Hid (Bel w ((wr.setCell ⟨w.heap.size, 0, none⟩ (.int .i64 (u * 256 % 4294967296))).setCell ⟨w.heap.size, 1, none⟩ (.int .i64 (v * 256 % 4294967296 + 255)))) := (HBel.out.setCell (Nat.le_refl _) _).setCell (Nat.le_refl _) _
        have z1 := (HC.out.set0 (u * 256 % 4294967296)).a1
        have z2 := C2.a2
        have z3 := C2.a3
        have z4 := C2.a4
        have g0 := HC.out.g0
        have g1 := HC.out.g1
        have g2 := HC.out.g2
        have g4 := HC.out.g4
        have z5 := (C2.set2 (x0 * 256 % 4294967296 + bb)).a4
        have C3 := (C2.set2 (x0 * 256 % 4294967296 + bb)).set4 (n + 1)
        have HC3 : Hid (RDCells (((( wr.setCell ⟨w.heap.size, 0, none⟩ (.int .i64 (u * 256 % 4294967296))).setCell ⟨w.heap.size, 1, none⟩ (.int .i64 (v * 256 % 4294967296 + 255))).setCell ⟨w.heap.size, 2, none⟩ (.int .i64 (x0 * 256 % 4294967296 + bb))).setCell ⟨w.heap.size, 4, none⟩ (.int .i64 ((n : Int) + 1))) w.heap.size s (u * 256 % 4294967296) (v * 256 % 4294967296 + 255) (x0 * 256 % 4294967296 + bb) (n + 1)) := C3
        have HE4 : Hid (wr.cell? ⟨w.heap.size, 4, none⟩ = some (.int .i64 (n : Int))) := e4
        clear he C QA hxn hbb hx0 hn HM C2 C3 e4
        generalize u * 256 % 4294967296 = u' at *
        generalize v * 256 % 4294967296 + 255 = v' at *
        go_wp2_with fail
        go_region_with (go_at_call 67; with_reducible refine (QA'.out _).mono ?_; rintro e w' ⟨rfl, rfl⟩)
        all_goals go_wp2
        all_goals go_roundw
        all_goals first
          | exact ⟨k + 1, u', v', _, HN.out, (((HB2.out.setCell (Nat.le_refl _) _).setCell (Nat.le_refl _) _).drew), by rw [HX'.out, show a + (k + 1) = n + 1 from by have := HNN.out; omega]; exact HC3.out.drew⟩
          | (have e1 := HC3.out.drew.a4
             rw [e1, HE4.out]
             have := HNN.out
             simp only [cellNat, Int.toNat_natCast]
             omega)
      · have he' : (u / 16777216 == v / 16777216) = false := by simpa using he
        have hd := HM.out.done he
        rw [HS.out] at hd
        injection hd with hd1 hd2
        injection hd2 with hd2 hd3
        subst hd1 hd2 hd3
        obtain ⟨b0, b1, a2, a3, a4, g0, g1, g2, g3, g4, c0, c1, c2, c3, c4, f0, f1, f2, f3, f4⟩ := C
        have hle : w.heap.size ≤ w.heap.size + 1 := by omega
        clear he a0 a1 HC
        by_cases hz : a + k ≤ 65544
        · have HA : Hid (decAns l1 r1 (nowAt s x a bs.length) s ((a : Int) + (bs.length : Nat)) 0 = .tuple #[.agg #[.int .i64 l1, .int .i64 r1, .int .i64 (nowAt s x a k), .string s, .int .i64 ((a + k : Nat) : Int)], .int .i64 0, .int .i64 0]) := by
            show _ = _
            rw [decAns, if_pos (by omega), hlen, show (a : Int) + (k : Nat) = ((a + k : Nat) : Int) by omega]
          generalize nowAt s x a k = x0 at *
          have hz' : decide (65544 < ((a + k : Nat) : Int)) = false := by simp; omega
          generalize a + k = n at *
          go_wp2
          refine bodyPost_ret (results_dec3 Tryz.results38 rfl rfl rfl (put5 (.int .i64 l1) (.int .i64 r1) (.int .i64 x0) (.string s) (.int .i64 (n : Int)) c0 c1 c2 c3 c4)) rfl ⟨congrArg Ending.returned HA.out.symm, ?_⟩
          exact bel5 HBel.out hle _ _ _ _ _
        · have HA : Hid (decAns l1 r1 (nowAt s x a bs.length) s ((a : Int) + (bs.length : Nat)) 0 = decErr) := by
            show _ = _
            rw [decAns, if_neg (by omega)]
          have hz' : decide (65544 < ((a + k : Nat) : Int)) = true := by simp; omega
          generalize nowAt s x a k = x0 at *
          generalize a + k = n at *
          go_wp2
          refine bodyPost_ret (results_dec3 Tryz.results38 rfl rfl rfl (put5 (.int .i64 0) (.int .i64 0) (.int .i64 0) (.string ⟨#[]⟩) (.int .i64 0) c0 c1 c2 c3 c4)) rfl ⟨congrArg Ending.returned HA.out.symm, ?_⟩
          exact bel5 HBel.out hle _ _ _ _ _

set_option maxHeartbeats 1000000 in
theorem decodeBit_no_may (l h x p : Int) (s : ByteArray) (a : Int) (hs : s.size ≤ maxLen) (hm : dmayB l h x s a = false) (w : World) :
    Calls Tryz.prog 38 #[.agg #[.int .i64 l, .int .i64 h, .int .i64 x, .string s, .int .i64 a], .int .i64 p] w fun e w' => e = .returned (decErr) ∧ Bel w w' := by
  have q1 := decoderMay_ok l h x a s hs
  rw [hm] at q1
  have QM : Hid (∀ w, Calls Tryz.prog 68 #[.agg #[.int .i64 l, .int .i64 h, .int .i64 x, .string s, .int .i64 a]] w fun e w' => e = .returned (.bool false) ∧ Bel w w') := q1
  clear q1 hm
  go_enter Tryz.func38, Tryz.ntmps38
  go_wp2_with fail
  refine (QM.out _).mono ?_
  rintro e w1 ⟨rfl, b1⟩
  have c0 : w1.cell? ⟨w.heap.size + 1, 0, none⟩ = some (.int .i64 0) := b1.keep (by simp)
  have c1 : w1.cell? ⟨w.heap.size + 1, 1, none⟩ = some (.int .i64 0) := b1.keep (by simp)
  have c2 : w1.cell? ⟨w.heap.size + 1, 2, none⟩ = some (.int .i64 0) := b1.keep (by simp)
  have c3 : w1.cell? ⟨w.heap.size + 1, 3, none⟩ = some (.string ⟨#[]⟩) := b1.keep (by simp)
  have c4 : w1.cell? ⟨w.heap.size + 1, 4, none⟩ = some (.int .i64 0) := b1.keep (by simp)
  have f0 : w1.frozen? ⟨w.heap.size + 1, 0, none⟩ = false := by rw [b1.frozen (by simp)]; simp
  have f1 : w1.frozen? ⟨w.heap.size + 1, 1, none⟩ = false := by rw [b1.frozen (by simp)]; simp
  have f2 : w1.frozen? ⟨w.heap.size + 1, 2, none⟩ = false := by rw [b1.frozen (by simp)]; simp
  have f3 : w1.frozen? ⟨w.heap.size + 1, 3, none⟩ = false := by rw [b1.frozen (by simp)]; simp
  have f4 : w1.frozen? ⟨w.heap.size + 1, 4, none⟩ = false := by rw [b1.frozen (by simp)]; simp
  have HB : Hid (Bel w w1) := Bel.trans (((Bel.refl _).alloc _).alloc _) b1
  clear b1
  go_wp2
  refine bodyPost_ret (results_dec3 Tryz.results38 rfl rfl rfl (put5 (.int .i64 0) (.int .i64 0) (.int .i64 0) (.string ⟨#[]⟩) (.int .i64 0) c0 c1 c2 c3 c4)) rfl ⟨rfl, ?_⟩
  exact bel5 HB.out (by omega) _ _ _ _ _

set_option maxHeartbeats 1000000 in
theorem decodeBit_no_chance (l h x p : Int) (s : ByteArray) (a : Int) (hs : s.size ≤ maxLen) (hm : dmayB l h x s a = true) (hp : chanceB p = false) (w : World) :
    Calls Tryz.prog 38 #[.agg #[.int .i64 l, .int .i64 h, .int .i64 x, .string s, .int .i64 a], .int .i64 p] w fun e w' => e = .returned (decErr) ∧ Bel w w' := by
  have q1 := decoderMay_ok l h x a s hs
  rw [hm] at q1
  have QM : Hid (∀ w, Calls Tryz.prog 68 #[.agg #[.int .i64 l, .int .i64 h, .int .i64 x, .string s, .int .i64 a]] w fun e w' => e = .returned (.bool true) ∧ Bel w w') := q1
  have q3 := rchance_ok p
  rw [hp] at q3
  have QC : Hid (∀ w, Calls Tryz.prog 58 #[.int .i64 p] w fun e w' => e = .returned (.bool false) ∧ w' = w) := q3
  clear q3 hp
  clear q1 hm
  go_enter Tryz.func38, Tryz.ntmps38
  go_wp2_with fail
  refine (QM.out _).mono ?_
  rintro e w1 ⟨rfl, b1⟩
  have c0 : w1.cell? ⟨w.heap.size + 1, 0, none⟩ = some (.int .i64 0) := b1.keep (by simp)
  have c1 : w1.cell? ⟨w.heap.size + 1, 1, none⟩ = some (.int .i64 0) := b1.keep (by simp)
  have c2 : w1.cell? ⟨w.heap.size + 1, 2, none⟩ = some (.int .i64 0) := b1.keep (by simp)
  have c3 : w1.cell? ⟨w.heap.size + 1, 3, none⟩ = some (.string ⟨#[]⟩) := b1.keep (by simp)
  have c4 : w1.cell? ⟨w.heap.size + 1, 4, none⟩ = some (.int .i64 0) := b1.keep (by simp)
  have f0 : w1.frozen? ⟨w.heap.size + 1, 0, none⟩ = false := by rw [b1.frozen (by simp)]; simp
  have f1 : w1.frozen? ⟨w.heap.size + 1, 1, none⟩ = false := by rw [b1.frozen (by simp)]; simp
  have f2 : w1.frozen? ⟨w.heap.size + 1, 2, none⟩ = false := by rw [b1.frozen (by simp)]; simp
  have f3 : w1.frozen? ⟨w.heap.size + 1, 3, none⟩ = false := by rw [b1.frozen (by simp)]; simp
  have f4 : w1.frozen? ⟨w.heap.size + 1, 4, none⟩ = false := by rw [b1.frozen (by simp)]; simp
  have HB : Hid (Bel w w1) := Bel.trans (((Bel.refl _).alloc _).alloc _) b1
  clear b1
  go_wp2_with fail
  refine (QC.out _).mono ?_
  rintro e w3 ⟨rfl, rfl⟩
  go_wp2
  refine bodyPost_ret (results_dec3 Tryz.results38 rfl rfl rfl (put5 (.int .i64 0) (.int .i64 0) (.int .i64 0) (.string ⟨#[]⟩) (.int .i64 0) c0 c1 c2 c3 c4)) rfl ⟨rfl, ?_⟩
  exact bel5 HB.out (by omega) _ _ _ _ _

theorem decodeBit_ok (l h x p : Int) (s : ByteArray) (a : Int) (hs : s.size ≤ maxLen) (w : World) :
    Calls Tryz.prog 38 #[.agg #[.int .i64 l, .int .i64 h, .int .i64 x, .string s, .int .i64 a], .int .i64 p] w fun e w' => e = .returned (decBit l h x s a p) ∧ Bel w w' := by
  cases hm : dmayB l h x s a with
  | false => rw [decBit, if_neg (by rw [hm]; simp)]; exact decodeBit_no_may l h x p s a hs hm w
  | true => cases hp : chanceB p with
    | false => rw [decBit, if_neg (by rw [hp]; simp)]; exact decodeBit_no_chance l h x p s a hs hm hp w
    | true =>
      rw [decBit, if_pos ⟨hm, hp⟩]
      obtain ⟨m1, m2, m3, m4, m5, m6⟩ := of_decide_eq_true hm
      have c := of_decide_eq_true hp
      obtain ⟨n, rfl⟩ : ∃ n : Nat, a = n := ⟨a.toNat, by omega⟩
      exact decodeBit_may l h x p s n m1 m2 m3 m4 (by omega) (by omega) c.1 c.2 _ _ _ rfl w

end Go.Proofs.YtocnlefpbcnlmaaGreatDoor.Deco
