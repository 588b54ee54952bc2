/-
  The contracts of the reference's CodeBit and EndCoder: they answer as coder.Bit and coder.End do. Condition: the text is no longer than an int can tell.
  The contracts of the reference's Bits, of any int: what gamma.Bits tells. No condition.
-/
import Derived.Test.YtocnlefpbcnlmaaGreatDoorPk9
import Derived.Deep.DrawnRows
import Derived.Test.YtocnlefpbcnlmaaGreatDoorPk13

namespace Go.Proofs.YtocnlefpbcnlmaaGreatDoor.Coder
open Go.RowKit Go.Proofs.YtocnlefpbcnlmaaGreatDoor.Num
set_option linter.unusedVariables false
attribute [local go_sem ↓] Go.wp_at_zero Go.wp_at_succ

/-- What lies in CodeBit's variables: c at N, the result at N + 1. -/
structure RCells (w : World) (N : Nat) (s : ByteArray) (u v : Int) : Prop where
  a0 : w.cell? ⟨N, 0, none⟩ = some (.int .i64 u)
  a1 : w.cell? ⟨N, 1, none⟩ = some (.int .i64 v)
  a2 : w.cell? ⟨N, 2, none⟩ = some (.string s)
  g0 : w.frozen? ⟨N, 0, none⟩ = false
  g1 : w.frozen? ⟨N, 1, none⟩ = false
  g2 : w.frozen? ⟨N, 2, none⟩ = false
  c0 : w.cell? ⟨N + 1, 0, none⟩ = some (.int .i64 0)
  c1 : w.cell? ⟨N + 1, 1, none⟩ = some (.int .i64 0)
  c2 : w.cell? ⟨N + 1, 2, none⟩ = some (.string ⟨#[]⟩)
  f0 : w.frozen? ⟨N + 1, 0, none⟩ = false
  f1 : w.frozen? ⟨N + 1, 1, none⟩ = false
  f2 : w.frozen? ⟨N + 1, 2, none⟩ = false

theorem RCells.keep {w w' : World} {N : Nat} {s : ByteArray} {u v : Int} (C : RCells w N s u v) (b : Bel w w') : RCells w' N s u v :=
  ⟨b.keep C.a0, b.keep C.a1, b.keep C.a2, b.free C.a0 C.g0, b.free C.a1 C.g1, b.free C.a2 C.g2, b.keep C.c0, b.keep C.c1, b.keep C.c2, b.free C.c0 C.f0, b.free C.c1 C.f1, b.free C.c2 C.f2⟩

theorem RCells.drew {w : World} {N : Nat} {s : ByteArray} {u v : Int} (C : RCells w N s u v) : RCells w.drew N s u v := ⟨C.a0, C.a1, C.a2, C.g0, C.g1, C.g2, C.c0, C.c1, C.c2, C.f0, C.f1, C.f2⟩

theorem far {w : World} {B i C j : Nat} {x y : Value} (h : B ≠ C ∨ i ≠ j) (c : w.cell? ⟨C, j, none⟩ = some y) : (w.setCell ⟨B, i, none⟩ x).cell? ⟨C, j, none⟩ = some y := by
  rw [World.cell?_setCell_other (h := by intro k; injection k with k1 k2 _; omega)]; exact c

theorem near {w : World} {a : Addr} {x y : Value} (c : w.cell? a = some y) : (w.setCell a x).cell? a = some x := (World.cell?_setCell_same _ _ (h := c) _)

theorem RCells.set0 {w : World} {N : Nat} {s : ByteArray} {u v : Int} (C : RCells w N s u v) (u' : Int) : RCells (w.setCell ⟨N, 0, none⟩ (.int .i64 u')) N s u' v :=
  ⟨near C.a0, far (by omega) C.a1, far (by omega) C.a2, by simp [C.g0], by simp [C.g1], by simp [C.g2], far (by omega) C.c0, far (by omega) C.c1, far (by omega) C.c2, by simp [C.f0], by simp [C.f1], by simp [C.f2]⟩
theorem RCells.set1 {w : World} {N : Nat} {s : ByteArray} {u v : Int} (C : RCells w N s u v) (v' : Int) : RCells (w.setCell ⟨N, 1, none⟩ (.int .i64 v')) N s u v' :=
  ⟨far (by omega) C.a0, near C.a1, far (by omega) C.a2, by simp [C.g0], by simp [C.g1], by simp [C.g2], far (by omega) C.c0, far (by omega) C.c1, far (by omega) C.c2, by simp [C.f0], by simp [C.f1], by simp [C.f2]⟩
theorem RCells.set2 {w : World} {N : Nat} {s : ByteArray} {u v : Int} (C : RCells w N s u v) (s' : ByteArray) : RCells (w.setCell ⟨N, 2, none⟩ (.string s')) N s' u v :=
  ⟨far (by omega) C.a0, far (by omega) C.a1, near C.a2, by simp [C.g0], by simp [C.g1], by simp [C.g2], far (by omega) C.c0, far (by omega) C.c1, far (by omega) C.c2, by simp [C.f0], by simp [C.f1], by simp [C.f2]⟩

def strLen : Option Value → Nat | some (.string s) => s.size | _ => 0

theorem app_assoc (a b c : ByteArray) : a ++ b ++ c = a ++ (b ++ c) := by
  apply ByteArray.ext
  simp [ByteArray.data_append, Array.append_assoc]

theorem one_more (s : ByteArray) (cs : List UInt8) (u : Int) (h0 : 0 ≤ u) (h1 : u ≤ 4294967295) : s ++ ⟨cs.toArray⟩ ++ strOfNums [u / 16777216 % 256] = s ++ ⟨(cs ++ [UInt8.ofNat (u / 16777216).toNat]).toArray⟩ := by
  apply ByteArray.ext
  simp [ByteArray.data_append, strOfNums]
  rw [Int.emod_eq_of_lt (by omega) (by omega)]

set_option maxHeartbeats 4000000 in
theorem codeBit_may (l h bit p : Int) (s : ByteArray) (hb : Between l h) (hs : s.size ≤ 65536) (hbit : bit = 0 ∨ bit = 1) (h1 : 1 ≤ p) (h2 : p ≤ 4095) (l1 r1 : Int) (bs : List UInt8) (hset : settle 5 (narrow l h bit p).1 (narrow l h bit p).2 = (bs, l1, r1)) (w : World) :
    Calls Tryz.prog 31 #[.agg #[.int .i64 l, .int .i64 h, .string s], .int .i64 bit, .int .i64 p] w fun e w' => e = .returned (bitAns l1 r1 s ⟨bs.toArray⟩) ∧ Bel w w' := by
  have hin := narrow_in hb bit p h1 h2
  have q1 := coderMay_ok l h s (by unfold maxLen; omega)
  have e1 : mayB l h s = true := decide_eq_true ⟨hb, hs⟩
  have q2 := bitMay_ok bit
  have e2 : bitB bit = true := decide_eq_true hbit
  have q3 := rchance_ok p
  have e3 : chanceB p = true := decide_eq_true ⟨h1, h2⟩
  have q4 := rmiddle_ok l h p hb h1 h2
  rw [e1] at q1; rw [e2] at q2; rw [e3] at q3
  have hm : 0 ≤ mid l h p ∧ mid l h p ≤ 4294967295 := by
    obtain ⟨b0, b1, b2⟩ := hb
    obtain ⟨f1, f2, f3, f4, f5⟩ := mid_facts (h - l) p h1 h2 (by omega) (by omega)
    unfold mid; omega
  obtain ⟨hm0, hm1⟩ := hm
  obtain ⟨m, hmm⟩ : ∃ m, m = mid l h p := ⟨_, rfl⟩
  have hn : narrow l h bit p = if bit = 1 then (l, m) else (m + 1, h) := by rw [narrow, hmm]
  rw [← hmm] at q4 hm0 hm1
  have QM : Hid (∀ w, Calls Tryz.prog 57 #[.agg #[.int .i64 l, .int .i64 h, .string s]] w fun e w' => e = .returned (.bool true) ∧ Bel w w') := q1
  have QB : Hid (∀ w, Calls Tryz.prog 52 #[.int .i64 bit] w fun e w' => e = .returned (.bool true) ∧ w' = w) := q2
  have QC : Hid (∀ w, Calls Tryz.prog 58 #[.int .i64 p] w fun e w' => e = .returned (.bool true) ∧ w' = w) := q3
  have QN : Hid (∀ w, Calls Tryz.prog 59 #[.int .i64 l, .int .i64 h, .int .i64 p] w fun e w' => e = .returned (.int .i64 m) ∧ w' = w) := q4
  clear q1 q2 q3 q4 e1 e2 e3 hmm
  obtain ⟨x, hx⟩ : ∃ x, x = (narrow l h bit p).1 := ⟨_, rfl⟩
  obtain ⟨y, hy⟩ : ∃ y, y = (narrow l h bit p).2 := ⟨_, rfl⟩
  rw [← hx, ← hy] at hin hset
  rw [hn] at hx hy
  have HI : Hid (0 ≤ x ∧ x ≤ y ∧ y ≤ 4294967295) := hin
  have HS : Hid (settle 5 x y = (bs, l1, r1)) := hset
  have HX : Hid (x = (if bit = 1 then (l, m) else (m + 1, h)).1) := hx
  have HY : Hid (y = (if bit = 1 then (l, m) else (m + 1, h)).2) := hy
  clear hin hset hn hx hy hb
  go_enter Tryz.func31, Tryz.ntmps31
  go_wp2_with fail
  refine (QM.out _).mono ?_
  rintro e w1 ⟨rfl, b1⟩
  have C : RCells w1 w.heap.size s l h := RCells.keep (w := (w.alloc (.cells #[.int .i64 l, .int .i64 h, .string s] 51)).alloc (.cells #[.int .i64 0, .int .i64 0, .string ⟨#[]⟩] 51)) ⟨by simp, by simp, by simp, by simp, by simp, by simp, by simp, by simp, by simp, by simp, by simp, by simp⟩ b1
  have HB : Hid (Bel w w1) := Bel.trans (((Bel.refl _).alloc _).alloc _) b1
  have HC : Hid (RCells w1 w.heap.size s l h) := C
  have a0 := C.a0
  have a1 := C.a1
  have g0 := C.g0
  have g1 := C.g1
  clear b1 C
  go_wp2_with fail
  refine (QB.out _).mono ?_
  rintro e w2 ⟨rfl, rfl⟩
  go_wp2_with fail
  refine (QC.out _).mono ?_
  rintro e w3 ⟨rfl, rfl⟩
  go_wp2_with fail
  refine (QN.out _).mono ?_
  rintro e w4 ⟨rfl, rfl⟩
  rcases hbit with rfl | rfl
  · have ex : m + 1 = x := HX.out.symm
    have ey : h = y := HY.out.symm
    subst ex
    subst ey
    go_wp2_with fail
    have hlt0 : w.heap.size < w4.heap.size := block_lt_of_cell a0
    have HL : Hid (Bel w (w4.setCell ⟨w.heap.size, 0, none⟩ (.int .i64 (m + 1)))) := HB.out.setCell (Nat.le_refl _) _
    have HLC : Hid (RCells (w4.setCell ⟨w.heap.size, 0, none⟩ (.int .i64 (m + 1))) w.heap.size s (m + 1) h) := HC.out.set0 _
    clear a0 a1 g0 g1
    go_loopw [36] (fun _ wr => ∃ (k : Nat) (u v : Int) (cs : List UInt8), Mids (m + 1) h k u v cs ∧ Bel w wr ∧ RCells wr w.heap.size (s ++ ⟨cs.toArray⟩) u v) (fun _ wr => s.size + 4 - strLen (wr.cell? ⟨w.heap.size, 2, none⟩))
    case atStart =>
      refine ⟨0, _, _, [], Mids.start HI.out.1 HI.out.2.1 HI.out.2.2, HL.out, ?_⟩
      have e : s ++ ⟨([] : List UInt8).toArray⟩ = s := by apply ByteArray.ext; simp [ByteArray.data_append]
      rw [e]
      exact HLC.out
    case round =>
      obtain ⟨k, u, v, cs, M, hbel, C⟩ := hrel
      have HBel : Hid (Bel w wr) := hbel
      have HM : Hid (Mids (m + 1) h k u v cs) := M
      have HC : Hid (RCells wr w.heap.size (s ++ ⟨cs.toArray⟩) u v) := C
      have a0 := C.a0
      have a1 := C.a1
      have u0 := M.l0'
      have u1 : u ≤ 4294967295 := Int.le_trans M.lh M.h1
      have v0 : 0 ≤ v := Int.le_trans M.l0' M.lh
      have v1 := M.h1
      have hlen := M.len
      have hk4 := M.le4
      have hsz : (s ++ ⟨cs.toArray⟩ : ByteArray).size = s.size + k := by rw [ByteArray.size_append]; show s.size + cs.toArray.size = _; simp [hlen]
      have HZ : Hid ((s ++ ⟨cs.toArray⟩ : ByteArray).size = s.size + k) := hsz
      clear hbel M HL HLC
      by_cases he : u / 16777216 = v / 16777216
      · have he' : (u / 16777216 == v / 16777216) = true := by simpa using he
        have HE : Hid (u / 16777216 = v / 16777216) := he
        have hk : k < 4 := HM.out.lt he
        have HO : Hid (s ++ ⟨cs.toArray⟩ ++ strOfNums [u / 16777216 % 256] = s ++ ⟨(cs ++ [UInt8.ofNat (u / 16777216).toNat]).toArray⟩) := one_more s cs u u0 u1
        have HN : Hid (Mids (m + 1) h (k + 1) (u * 256 % 4294967296) (v * 256 % 4294967296 + 255) (cs ++ [UInt8.ofNat (u / 16777216).toNat])) := HM.out.next he
        have ha := and32 (u * 256)
        have hb := and32 (v * 256)
        have ho := or8 (v * 256 % 4294967296) 255 (by omega) (by omega) (by omega) (by omega) (by omega)
        have hsz1 : (strOfNums [u / 16777216 % 256]).size = 1 := strOfNums_size _
        have QL : Hid (∀ w, Calls Tryz.prog 60 #[.int .i64 (u / 16777216), .int .i64 1] w fun e w' => e = .returned (.string (strOfNums [u / 16777216 % 256])) ∧ Bel w w') := low_ok (u / 16777216) (by omega) (by omega)
        have a2 := C.a2
        clear he C HM
        obtain ⟨t, ht⟩ : ∃ t, t = s ++ ⟨cs.toArray⟩ := ⟨_, rfl⟩
        rw [← ht] at a2 hsz HO HC HZ
        clear ht
        obtain ⟨z, hz⟩ : ∃ z, z = strOfNums [u / 16777216 % 256] := ⟨_, rfl⟩
        rw [← hz] at hsz1 HO QL
        clear hz
        have hn : ¬ 9223372036854775807 < s.size + k + 1 := by omega
        go_wp2_with fail
        go_region_with (go_at_call 60; refine (QL.out _).mono ?_; rintro e w' ⟨rfl, bl⟩; have C' : RCells w' w.heap.size t u v := HC.out.drew.keep bl; have HB' : Hid (Bel w w') := HBel.out.drew.trans bl; have HC' : Hid (RCells w' w.heap.size t u v) := C'; have a2' := C'.a2; have g2' := C'.g2; clear bl C')
        all_goals have C3 := HC'.out.set2 (t ++ z)
        all_goals have HB3 : Hid (Bel w (w'.setCell ⟨w.heap.size, 2, none⟩ (.string (t ++ z)))) := HB'.out.setCell (Nat.le_refl _) _
        all_goals have HC3 : Hid (RCells (w'.setCell ⟨w.heap.size, 2, none⟩ (.string (t ++ z))) w.heap.size (t ++ z) u v) := C3
        all_goals have a0' := C3.a0
        all_goals have a1' := (C3.set0 (u * 256 % 4294967296)).a1
        all_goals have g0' := HC'.out.g0
        all_goals have g1' := HC'.out.g1
        all_goals clear C3 a2' g2'
        all_goals go_wp2
        all_goals go_roundw
        all_goals first
          | exact ⟨k + 1, _, _, _, HN.out, (HB3.out.setCell (Nat.le_refl _) _).setCell (Nat.le_refl _) _, HO.out ▸ (HC3.out.set0 _).set1 _⟩
          | (have e1 := ((HC3.out.set0 (u * 256 % 4294967296)).set1 (v * 256 % 4294967296 + 255)).a2
             have e2 := HC.out.a2
             rw [e1, e2]
             show s.size + 4 - (t ++ z).size < s.size + 4 - t.size
             rw [ByteArray.size_append, hsz1, HZ.out]
             omega)
      · have he' : (u / 16777216 == v / 16777216) = false := by simpa using he
        have hd := HM.out.done he
        rw [HS.out] at hd
        injection hd with hd1 hd2
        injection hd2 with hd2 hd3
        subst hd1 hd2 hd3
        obtain ⟨b0, b1, a2, g0, g1, g2, c0, c1, c2, f0, f1, f2⟩ := C
        clear he a0 a1
        by_cases hz : s.size + k ≤ 65536
        · have HA : Hid (bitAns l1 r1 s ⟨bs.toArray⟩ = .tuple #[.agg #[.int .i64 l1, .int .i64 r1, .string (s ++ ⟨bs.toArray⟩)], .int .i64 0]) := by
            show _ = _
            rw [bitAns, if_pos (by show s.size + bs.toArray.size ≤ _; simp; omega)]
          have hz' : decide (65536 < (s.size : Int) + (k : Int)) = false := by simp; omega
          obtain ⟨t, ht⟩ : ∃ t, t = s ++ ⟨bs.toArray⟩ := ⟨_, rfl⟩
          rw [← ht] at a2 hsz HA
          clear ht HZ
          go_wp2
          obtain ⟨r0, r1', r2⟩ := set3 (x := .int .i64 l1) (y := .int .i64 r1) (z := .string t) c0 c1 c2
          refine bodyPost_ret (results_coder2 Tryz.results31 rfl rfl r0 r1' r2) rfl ⟨congrArg Ending.returned HA.out.symm, ?_⟩
          exact ((HBel.out.setCell (by show w.heap.size ≤ w.heap.size + 1; omega) _).setCell (by show w.heap.size ≤ w.heap.size + 1; omega) _).setCell (by show w.heap.size ≤ w.heap.size + 1; omega) _
        · have HA : Hid (bitAns l1 r1 s ⟨bs.toArray⟩ = .tuple #[.agg #[.int .i64 0, .int .i64 0, .string ⟨#[]⟩], .int .i64 400]) := by
            show _ = _
            rw [bitAns, if_neg (by show ¬ s.size + bs.toArray.size ≤ _; simp; omega)]
          have hz' : decide (65536 < (s.size : Int) + (k : Int)) = true := by simp; omega
          obtain ⟨t, ht⟩ : ∃ t, t = s ++ ⟨bs.toArray⟩ := ⟨_, rfl⟩
          rw [← ht] at a2 hsz
          clear ht HZ
          go_wp2
          obtain ⟨r0, r1', r2⟩ := set3 (x := .int .i64 0) (y := .int .i64 0) (z := .string ⟨#[]⟩) c0 c1 c2
          refine bodyPost_ret (results_coder2 Tryz.results31 rfl rfl r0 r1' r2) rfl ⟨congrArg Ending.returned HA.out.symm, ?_⟩
          exact ((HBel.out.setCell (by show w.heap.size ≤ w.heap.size + 1; omega) _).setCell (by show w.heap.size ≤ w.heap.size + 1; omega) _).setCell (by show w.heap.size ≤ w.heap.size + 1; omega) _
  · have ex : l = x := HX.out.symm
    have ey : m = y := HY.out.symm
    subst ex
    subst ey
    go_wp2_with fail
    have hlt0 : w.heap.size < w4.heap.size := block_lt_of_cell a0
    have HL : Hid (Bel w (w4.setCell ⟨w.heap.size, 1, none⟩ (.int .i64 m))) := HB.out.setCell (Nat.le_refl _) _
    have HLC : Hid (RCells (w4.setCell ⟨w.heap.size, 1, none⟩ (.int .i64 m)) w.heap.size s (l) m) := HC.out.set1 _
    clear a0 a1 g0 g1
    go_loopw [36] (fun _ wr => ∃ (k : Nat) (u v : Int) (cs : List UInt8), Mids (l) m k u v cs ∧ Bel w wr ∧ RCells wr w.heap.size (s ++ ⟨cs.toArray⟩) u v) (fun _ wr => s.size + 4 - strLen (wr.cell? ⟨w.heap.size, 2, none⟩))
    case atStart =>
      refine ⟨0, _, _, [], Mids.start HI.out.1 HI.out.2.1 HI.out.2.2, HL.out, ?_⟩
      have e : s ++ ⟨([] : List UInt8).toArray⟩ = s := by apply ByteArray.ext; simp [ByteArray.data_append]
      rw [e]
      exact HLC.out
    case round =>
      obtain ⟨k, u, v, cs, M, hbel, C⟩ := hrel
      have HBel : Hid (Bel w wr) := hbel
      have HM : Hid (Mids (l) m k u v cs) := M
      have HC : Hid (RCells wr w.heap.size (s ++ ⟨cs.toArray⟩) u v) := C
      have a0 := C.a0
      have a1 := C.a1
      have u0 := M.l0'
      have u1 : u ≤ 4294967295 := Int.le_trans M.lh M.h1
      have v0 : 0 ≤ v := Int.le_trans M.l0' M.lh
      have v1 := M.h1
      have hlen := M.len
      have hk4 := M.le4
      have hsz : (s ++ ⟨cs.toArray⟩ : ByteArray).size = s.size + k := by rw [ByteArray.size_append]; show s.size + cs.toArray.size = _; simp [hlen]
      have HZ : Hid ((s ++ ⟨cs.toArray⟩ : ByteArray).size = s.size + k) := hsz
      clear hbel M HL HLC
      by_cases he : u / 16777216 = v / 16777216
      · have he' : (u / 16777216 == v / 16777216) = true := by simpa using he
        have HE : Hid (u / 16777216 = v / 16777216) := he
        have hk : k < 4 := HM.out.lt he
        have HO : Hid (s ++ ⟨cs.toArray⟩ ++ strOfNums [u / 16777216 % 256] = s ++ ⟨(cs ++ [UInt8.ofNat (u / 16777216).toNat]).toArray⟩) := one_more s cs u u0 u1
        have HN : Hid (Mids (l) m (k + 1) (u * 256 % 4294967296) (v * 256 % 4294967296 + 255) (cs ++ [UInt8.ofNat (u / 16777216).toNat])) := HM.out.next he
        have ha := and32 (u * 256)
        have hb := and32 (v * 256)
        have ho := or8 (v * 256 % 4294967296) 255 (by omega) (by omega) (by omega) (by omega) (by omega)
        have hsz1 : (strOfNums [u / 16777216 % 256]).size = 1 := strOfNums_size _
        have QL : Hid (∀ w, Calls Tryz.prog 60 #[.int .i64 (u / 16777216), .int .i64 1] w fun e w' => e = .returned (.string (strOfNums [u / 16777216 % 256])) ∧ Bel w w') := low_ok (u / 16777216) (by omega) (by omega)
        have a2 := C.a2
        clear he C HM
        obtain ⟨t, ht⟩ : ∃ t, t = s ++ ⟨cs.toArray⟩ := ⟨_, rfl⟩
        rw [← ht] at a2 hsz HO HC HZ
        clear ht
        obtain ⟨z, hz⟩ : ∃ z, z = strOfNums [u / 16777216 % 256] := ⟨_, rfl⟩
        rw [← hz] at hsz1 HO QL
        clear hz
        have hn : ¬ 9223372036854775807 < s.size + k + 1 := by omega
        go_wp2_with fail
        go_region_with (go_at_call 60; refine (QL.out _).mono ?_; rintro e w' ⟨rfl, bl⟩; have C' : RCells w' w.heap.size t u v := HC.out.drew.keep bl; have HB' : Hid (Bel w w') := HBel.out.drew.trans bl; have HC' : Hid (RCells w' w.heap.size t u v) := C'; have a2' := C'.a2; have g2' := C'.g2; clear bl C')
        all_goals have C3 := HC'.out.set2 (t ++ z)
        all_goals have HB3 : Hid (Bel w (w'.setCell ⟨w.heap.size, 2, none⟩ (.string (t ++ z)))) := HB'.out.setCell (Nat.le_refl _) _
        all_goals have HC3 : Hid (RCells (w'.setCell ⟨w.heap.size, 2, none⟩ (.string (t ++ z))) w.heap.size (t ++ z) u v) := C3
        all_goals have a0' := C3.a0
        all_goals have a1' := (C3.set0 (u * 256 % 4294967296)).a1
        all_goals have g0' := HC'.out.g0
        all_goals have g1' := HC'.out.g1
        all_goals clear C3 a2' g2'
        all_goals go_wp2
        all_goals go_roundw
        all_goals first
          | exact ⟨k + 1, _, _, _, HN.out, (HB3.out.setCell (Nat.le_refl _) _).setCell (Nat.le_refl _) _, HO.out ▸ (HC3.out.set0 _).set1 _⟩
          | (have e1 := ((HC3.out.set0 (u * 256 % 4294967296)).set1 (v * 256 % 4294967296 + 255)).a2
             have e2 := HC.out.a2
             rw [e1, e2]
             show s.size + 4 - (t ++ z).size < s.size + 4 - t.size
             rw [ByteArray.size_append, hsz1, HZ.out]
             omega)
      · have he' : (u / 16777216 == v / 16777216) = false := by simpa using he
        have hd := HM.out.done he
        rw [HS.out] at hd
        injection hd with hd1 hd2
        injection hd2 with hd2 hd3
        subst hd1 hd2 hd3
        obtain ⟨b0, b1, a2, g0, g1, g2, c0, c1, c2, f0, f1, f2⟩ := C
        clear he a0 a1
        by_cases hz : s.size + k ≤ 65536
        · have HA : Hid (bitAns l1 r1 s ⟨bs.toArray⟩ = .tuple #[.agg #[.int .i64 l1, .int .i64 r1, .string (s ++ ⟨bs.toArray⟩)], .int .i64 0]) := by
            show _ = _
            rw [bitAns, if_pos (by show s.size + bs.toArray.size ≤ _; simp; omega)]
          have hz' : decide (65536 < (s.size : Int) + (k : Int)) = false := by simp; omega
          obtain ⟨t, ht⟩ : ∃ t, t = s ++ ⟨bs.toArray⟩ := ⟨_, rfl⟩
          rw [← ht] at a2 hsz HA
          clear ht HZ
          go_wp2
          obtain ⟨r0, r1', r2⟩ := set3 (x := .int .i64 l1) (y := .int .i64 r1) (z := .string t) c0 c1 c2
          refine bodyPost_ret (results_coder2 Tryz.results31 rfl rfl r0 r1' r2) rfl ⟨congrArg Ending.returned HA.out.symm, ?_⟩
          exact ((HBel.out.setCell (by show w.heap.size ≤ w.heap.size + 1; omega) _).setCell (by show w.heap.size ≤ w.heap.size + 1; omega) _).setCell (by show w.heap.size ≤ w.heap.size + 1; omega) _
        · have HA : Hid (bitAns l1 r1 s ⟨bs.toArray⟩ = .tuple #[.agg #[.int .i64 0, .int .i64 0, .string ⟨#[]⟩], .int .i64 400]) := by
            show _ = _
            rw [bitAns, if_neg (by show ¬ s.size + bs.toArray.size ≤ _; simp; omega)]
          have hz' : decide (65536 < (s.size : Int) + (k : Int)) = true := by simp; omega
          obtain ⟨t, ht⟩ : ∃ t, t = s ++ ⟨bs.toArray⟩ := ⟨_, rfl⟩
          rw [← ht] at a2 hsz
          clear ht HZ
          go_wp2
          obtain ⟨r0, r1', r2⟩ := set3 (x := .int .i64 0) (y := .int .i64 0) (z := .string ⟨#[]⟩) c0 c1 c2
          refine bodyPost_ret (results_coder2 Tryz.results31 rfl rfl r0 r1' r2) rfl ⟨congrArg Ending.returned HA.out.symm, ?_⟩
          exact ((HBel.out.setCell (by show w.heap.size ≤ w.heap.size + 1; omega) _).setCell (by show w.heap.size ≤ w.heap.size + 1; omega) _).setCell (by show w.heap.size ≤ w.heap.size + 1; omega) _

set_option maxHeartbeats 1000000 in
theorem codeBit_no_may (l h bit p : Int) (s : ByteArray) (hs : s.size ≤ maxLen) (hm : mayB l h s = false) (w : World) :
    Calls Tryz.prog 31 #[.agg #[.int .i64 l, .int .i64 h, .string s], .int .i64 bit, .int .i64 p] w fun e w' => e = .returned errV ∧ Bel w w' := by
  have q1 := coderMay_ok l h s hs
  rw [hm] at q1
  have QM : Hid (∀ w, Calls Tryz.prog 57 #[.agg #[.int .i64 l, .int .i64 h, .string s]] w fun e w' => e = .returned (.bool false) ∧ Bel w w') := q1
  clear q1 hm
  go_enter Tryz.func31, Tryz.ntmps31
  go_wp2_with fail
  refine (QM.out _).mono ?_
  rintro e w1 ⟨rfl, b1⟩
  have c0 : w1.cell? ⟨w.heap.size + 1, 0, none⟩ = some (.int .i64 0) := b1.keep (by simp)
  have c1 : w1.cell? ⟨w.heap.size + 1, 1, none⟩ = some (.int .i64 0) := b1.keep (by simp)
  have c2 : w1.cell? ⟨w.heap.size + 1, 2, none⟩ = some (.string ⟨#[]⟩) := b1.keep (by simp)
  have f0 : w1.frozen? ⟨w.heap.size + 1, 0, none⟩ = false := by rw [b1.frozen (by simp)]; simp
  have f1 : w1.frozen? ⟨w.heap.size + 1, 1, none⟩ = false := by rw [b1.frozen (by simp)]; simp
  have f2 : w1.frozen? ⟨w.heap.size + 1, 2, none⟩ = false := by rw [b1.frozen (by simp)]; simp
  have HB : Hid (Bel w w1) := Bel.trans (((Bel.refl _).alloc _).alloc _) b1
  clear b1
  go_wp2
  obtain ⟨r0, r1, r2⟩ := set3 (x := .int .i64 0) (y := .int .i64 0) (z := .string ⟨#[]⟩) c0 c1 c2
  refine bodyPost_ret (results_coder2 Tryz.results31 rfl rfl r0 r1 r2) rfl ⟨rfl, ?_⟩
  exact ((HB.out.setCell (by show w.heap.size ≤ w.heap.size + 1; omega) _).setCell (by show w.heap.size ≤ w.heap.size + 1; omega) _).setCell (by show w.heap.size ≤ w.heap.size + 1; omega) _

set_option maxHeartbeats 1000000 in
theorem codeBit_no_bit (l h bit p : Int) (s : ByteArray) (hs : s.size ≤ maxLen) (hm : mayB l h s = true) (hb : bitB bit = false) (w : World) :
    Calls Tryz.prog 31 #[.agg #[.int .i64 l, .int .i64 h, .string s], .int .i64 bit, .int .i64 p] w fun e w' => e = .returned errV ∧ Bel w w' := by
  have q1 := coderMay_ok l h s hs
  rw [hm] at q1
  have q2 := bitMay_ok bit
  rw [hb] at q2
  have QM : Hid (∀ w, Calls Tryz.prog 57 #[.agg #[.int .i64 l, .int .i64 h, .string s]] w fun e w' => e = .returned (.bool true) ∧ Bel w w') := q1
  have QB : Hid (∀ w, Calls Tryz.prog 52 #[.int .i64 bit] w fun e w' => e = .returned (.bool false) ∧ w' = w) := q2
  clear q1 q2 hm hb
  go_enter Tryz.func31, Tryz.ntmps31
  go_wp2_with fail
  refine (QM.out _).mono ?_
  rintro e w1 ⟨rfl, b1⟩
  have c0 : w1.cell? ⟨w.heap.size + 1, 0, none⟩ = some (.int .i64 0) := b1.keep (by simp)
  have c1 : w1.cell? ⟨w.heap.size + 1, 1, none⟩ = some (.int .i64 0) := b1.keep (by simp)
  have c2 : w1.cell? ⟨w.heap.size + 1, 2, none⟩ = some (.string ⟨#[]⟩) := b1.keep (by simp)
  have f0 : w1.frozen? ⟨w.heap.size + 1, 0, none⟩ = false := by rw [b1.frozen (by simp)]; simp
  have f1 : w1.frozen? ⟨w.heap.size + 1, 1, none⟩ = false := by rw [b1.frozen (by simp)]; simp
  have f2 : w1.frozen? ⟨w.heap.size + 1, 2, none⟩ = false := by rw [b1.frozen (by simp)]; simp
  have HB : Hid (Bel w w1) := Bel.trans (((Bel.refl _).alloc _).alloc _) b1
  clear b1
  go_wp2_with fail
  refine (QB.out _).mono ?_
  rintro e w2 ⟨rfl, rfl⟩
  go_wp2
  obtain ⟨r0, r1, r2⟩ := set3 (x := .int .i64 0) (y := .int .i64 0) (z := .string ⟨#[]⟩) c0 c1 c2
  refine bodyPost_ret (results_coder2 Tryz.results31 rfl rfl r0 r1 r2) rfl ⟨rfl, ?_⟩
  exact ((HB.out.setCell (by show w.heap.size ≤ w.heap.size + 1; omega) _).setCell (by show w.heap.size ≤ w.heap.size + 1; omega) _).setCell (by show w.heap.size ≤ w.heap.size + 1; omega) _

set_option maxHeartbeats 1000000 in
theorem codeBit_no_chance (l h bit p : Int) (s : ByteArray) (hs : s.size ≤ maxLen) (hm : mayB l h s = true) (hb : bitB bit = true) (hp : chanceB p = false) (w : World) :
    Calls Tryz.prog 31 #[.agg #[.int .i64 l, .int .i64 h, .string s], .int .i64 bit, .int .i64 p] w fun e w' => e = .returned errV ∧ Bel w w' := by
  have q1 := coderMay_ok l h s hs
  rw [hm] at q1
  have q2 := bitMay_ok bit
  rw [hb] at q2
  have q3 := rchance_ok p
  rw [hp] at q3
  have QM : Hid (∀ w, Calls Tryz.prog 57 #[.agg #[.int .i64 l, .int .i64 h, .string s]] w fun e w' => e = .returned (.bool true) ∧ Bel w w') := q1
  have QB : Hid (∀ w, Calls Tryz.prog 52 #[.int .i64 bit] w fun e w' => e = .returned (.bool true) ∧ w' = w) := q2
  have QC : Hid (∀ w, Calls Tryz.prog 58 #[.int .i64 p] w fun e w' => e = .returned (.bool false) ∧ w' = w) := q3
  clear q1 q2 q3 hm hb hp
  go_enter Tryz.func31, Tryz.ntmps31
  go_wp2_with fail
  refine (QM.out _).mono ?_
  rintro e w1 ⟨rfl, b1⟩
  have c0 : w1.cell? ⟨w.heap.size + 1, 0, none⟩ = some (.int .i64 0) := b1.keep (by simp)
  have c1 : w1.cell? ⟨w.heap.size + 1, 1, none⟩ = some (.int .i64 0) := b1.keep (by simp)
  have c2 : w1.cell? ⟨w.heap.size + 1, 2, none⟩ = some (.string ⟨#[]⟩) := b1.keep (by simp)
  have f0 : w1.frozen? ⟨w.heap.size + 1, 0, none⟩ = false := by rw [b1.frozen (by simp)]; simp
  have f1 : w1.frozen? ⟨w.heap.size + 1, 1, none⟩ = false := by rw [b1.frozen (by simp)]; simp
  have f2 : w1.frozen? ⟨w.heap.size + 1, 2, none⟩ = false := by rw [b1.frozen (by simp)]; simp
  have HB : Hid (Bel w w1) := Bel.trans (((Bel.refl _).alloc _).alloc _) b1
  clear b1
  go_wp2_with fail
  refine (QB.out _).mono ?_
  rintro e w2 ⟨rfl, rfl⟩
  go_wp2_with fail
  refine (QC.out _).mono ?_
  rintro e w3 ⟨rfl, rfl⟩
  go_wp2
  obtain ⟨r0, r1, r2⟩ := set3 (x := .int .i64 0) (y := .int .i64 0) (z := .string ⟨#[]⟩) c0 c1 c2
  refine bodyPost_ret (results_coder2 Tryz.results31 rfl rfl r0 r1 r2) rfl ⟨rfl, ?_⟩
  exact ((HB.out.setCell (by show w.heap.size ≤ w.heap.size + 1; omega) _).setCell (by show w.heap.size ≤ w.heap.size + 1; omega) _).setCell (by show w.heap.size ≤ w.heap.size + 1; omega) _

theorem codeBit_ok (l h bit p : Int) (s : ByteArray) (hs : s.size ≤ maxLen) (w : World) :
    Calls Tryz.prog 31 #[.agg #[.int .i64 l, .int .i64 h, .string s], .int .i64 bit, .int .i64 p] w fun e w' => e = .returned (codeBit l h bit p s) ∧ Bel w w' := by
  cases hm : mayB l h s with
  | false => rw [codeBit, if_neg (by rw [hm]; simp)]; exact codeBit_no_may l h bit p s hs hm w
  | true => cases hb : bitB bit with
    | false => rw [codeBit, if_neg (by rw [hb]; simp)]; exact codeBit_no_bit l h bit p s hs hm hb w
    | true => cases hp : chanceB p with
      | false => rw [codeBit, if_neg (by rw [hp]; simp)]; exact codeBit_no_chance l h bit p s hs hm hb hp w
      | true =>
        rw [codeBit, if_pos ⟨hm, hb, hp⟩]
        have m := of_decide_eq_true hm
        have b := of_decide_eq_true hb
        have c := of_decide_eq_true hp
        exact codeBit_may l h bit p s m.1 m.2 b c.1 c.2 _ _ _ rfl w

theorem four_parts (s : ByteArray) (l : Int) (h0 : 0 ≤ l) (h1 : l ≤ 4294967295) : s ++ strOfNums [l / 16777216 % 256] ++ strOfNums [l / 65536 % 256] ++ strOfNums [l / 256 % 256] ++ strOfNums [l % 256] = s ++ four l := by
  rw [show l / 16777216 % 256 = l / 16777216 from Int.emod_eq_of_lt (by omega) (by omega)]
  apply ByteArray.ext
  apply Array.ext'
  simp [ByteArray.data_append, strOfNums, four]

set_option maxHeartbeats 2000000 in
theorem endCoder_may (l h : Int) (s : ByteArray) (hb : Between l h) (hz : s.size ≤ 65536) (w : World) :
    Calls Tryz.prog 34 #[.agg #[.int .i64 l, .int .i64 h, .string s]] w fun e w' => e = .returned (.tuple #[.string (s ++ four l), .int .i64 0]) ∧ Bel w w' := by
  have q1 := coderMay_ok l h s (by unfold maxLen; omega)
  rw [show mayB l h s = true from decide_eq_true ⟨hb, hz⟩] at q1
  have QM : Hid (∀ w, Calls Tryz.prog 57 #[.agg #[.int .i64 l, .int .i64 h, .string s]] w fun e w' => e = .returned (.bool true) ∧ Bel w w') := q1
  obtain ⟨b0, b1, b2⟩ := hb
  have l0 : 0 ≤ l := b0
  have l1 : l ≤ 4294967295 := by omega
  clear q1 b0 b1 b2
  have q24 := low_ok (l / 16777216) (by omega) (by omega)
  have q16 := low_ok (l / 65536) (by omega) (by omega)
  have q8 := low_ok (l / 256) (by omega) (by omega)
  have q0 := low_ok l l0 l1
  have z24 : (strOfNums [l / 16777216 % 256]).size = 1 := strOfNums_size _
  have z16 : (strOfNums [l / 65536 % 256]).size = 1 := strOfNums_size _
  have z8 : (strOfNums [l / 256 % 256]).size = 1 := strOfNums_size _
  have z0 : (strOfNums [l % 256]).size = 1 := strOfNums_size _
  have hp := four_parts s l l0 l1
  generalize strOfNums [l / 16777216 % 256] = t24 at *
  generalize strOfNums [l / 65536 % 256] = t16 at *
  generalize strOfNums [l / 256 % 256] = t8 at *
  generalize strOfNums [l % 256] = t0 at *
  rw [← hp]
  clear hp
  have Q24 : Hid (∀ w, Calls Tryz.prog 60 #[.int .i64 (l / 16777216), .int .i64 1] w fun e w' => e = .returned (.string t24) ∧ Bel w w') := q24
  have Q16 : Hid (∀ w, Calls Tryz.prog 60 #[.int .i64 (l / 65536), .int .i64 1] w fun e w' => e = .returned (.string t16) ∧ Bel w w') := q16
  have Q8 : Hid (∀ w, Calls Tryz.prog 60 #[.int .i64 (l / 256), .int .i64 1] w fun e w' => e = .returned (.string t8) ∧ Bel w w') := q8
  have Q0 : Hid (∀ w, Calls Tryz.prog 60 #[.int .i64 l, .int .i64 1] w fun e w' => e = .returned (.string t0) ∧ Bel w w') := q0
  clear q24 q16 q8 q0
  have n1 : ¬ 9223372036854775807 < s.size + 1 := by omega
  have n2 : ¬ 9223372036854775807 < s.size + 1 + 1 := by omega
  have n3 : ¬ 9223372036854775807 < s.size + 1 + 1 + 1 := by omega
  have n4 : ¬ 9223372036854775807 < s.size + 1 + 1 + 1 + 1 := by omega
  go_enter Tryz.func34, Tryz.ntmps34
  go_wp2_with fail
  refine (QM.out _).mono ?_
  rintro e w1 ⟨rfl, b1⟩
  have k0 : ∀ d os, (Go.Sort.grow (redrawn w1 d) os).cell? ⟨w.heap.size, 0, none⟩ = some (.int .i64 l) := cell_regrown (b1.keep (by simp))
  have k2 : ∀ d os, (Go.Sort.grow (redrawn w1 d) os).cell? ⟨w.heap.size, 2, none⟩ = some (.string s) := cell_regrown (b1.keep (by simp))
  have HB : Hid (Bel w w1) := Bel.trans ((Bel.refl _).alloc _) b1
  clear b1
  go_wp2_with fail
  refine wp_region_quiet_below (by kernel_rfl) (by kernel_rfl) ?_
  repeat (quiet_step (first | (go_at_call 60; with_reducible exact Calls.regrown_of (Q24.out _)) | (go_at_call 60; with_reducible exact Calls.regrown_of (Q16.out _)) | (go_at_call 60; with_reducible exact Calls.regrown_of (Q8.out _)) | (go_at_call 60; with_reducible exact Calls.regrown_of (Q0.out _))))
  refine wpQuiet_nil ?_
  intro _ hw'
  obtain ⟨⟨dq, osq⟩, hw''⟩ := hw'
  subst hw''
  go_wp2
  go_ret2
  exact ⟨rfl, HB.out.trans (below_regrown w1 dq osq)⟩

set_option maxHeartbeats 1000000 in
theorem endCoder_no (l h : Int) (s : ByteArray) (hs : s.size ≤ maxLen) (hm : mayB l h s = false) (w : World) :
    Calls Tryz.prog 34 #[.agg #[.int .i64 l, .int .i64 h, .string s]] w fun e w' => e = .returned (.tuple #[.string ⟨#[]⟩, .int .i64 400]) ∧ Bel w w' := by
  have q1 := coderMay_ok l h s hs
  rw [hm] at q1
  have QM : Hid (∀ w, Calls Tryz.prog 57 #[.agg #[.int .i64 l, .int .i64 h, .string s]] w fun e w' => e = .returned (.bool false) ∧ Bel w w') := q1
  clear q1 hm
  go_enter Tryz.func34, Tryz.ntmps34
  go_wp2_with fail
  refine (QM.out _).mono ?_
  rintro e w1 ⟨rfl, b1⟩
  have HB : Hid (Bel w w1) := Bel.trans ((Bel.refl _).alloc _) b1
  clear b1
  go_wp2
  go_ret2
  exact ⟨rfl, HB.out⟩

theorem endCoder_ok (l h : Int) (s : ByteArray) (hs : s.size ≤ maxLen) (w : World) :
    Calls Tryz.prog 34 #[.agg #[.int .i64 l, .int .i64 h, .string s]] w fun e w' => e = .returned (endAns l h s) ∧ Bel w w' := by
  cases hm : mayB l h s with
  | false => rw [endAns, if_neg (by rw [hm]; simp)]; exact endCoder_no l h s hs hm w
  | true =>
    rw [endAns, if_pos hm]
    have m := of_decide_eq_true hm
    exact endCoder_may l h s m.1 m.2 w

end Go.Proofs.YtocnlefpbcnlmaaGreatDoor.Coder

namespace Go.Proofs.YtocnlefpbcnlmaaGreatDoor.Gam
open Go.RowKit Go.Proofs.YtocnlefpbcnlmaaGreatDoor.Mod Go.Proofs.YtocnlefpbcnlmaaGreatDoor.Ints Go.Proofs.YtocnlefpbcnlmaaGreatDoor.Num
set_option linter.unusedVariables false

theorem upto_ok (x lo hi : Int) (r : Bool) (h : decide (lo ≤ x ∧ x ≤ hi) = r) (w : World) :
    Calls Tryz.prog 51 #[.int .i64 x, .int .i64 lo, .int .i64 hi] w fun e w' => e = .returned (.bool r) ∧ w' = w := by
  subst h
  by_cases a : lo ≤ x
  · have hb : decide (lo ≤ x) = true := decide_eq_true a
    have hr : decide (lo ≤ x ∧ x ≤ hi) = decide (x ≤ hi) := by simp [a]
    rw [hr]
    clear hr
    go_enter Tryz.func51, Tryz.ntmps51
    go_wp2
    go_ret
    exact ⟨rfl, rfl⟩
  · have hb : decide (lo ≤ x) = false := decide_eq_false a
    have hr : decide (lo ≤ x ∧ x ≤ hi) = false := by simp [a]
    rw [hr]
    clear hr
    go_enter Tryz.func51, Tryz.ntmps51
    go_wp2
    go_ret
    exact ⟨rfl, rfl⟩

set_option maxHeartbeats 400000 in
theorem rbits_no (u : Int) (h : u < 0 ∨ 33554432 < u) (w : World) :
    Calls Tryz.prog 28 #[.int .i64 u] w fun e w' => e = .returned (.tuple #[.slice none 0 0, .int .i64 1100]) ∧ w' = w := by
  have U := upto_ok u 0 33554432 false (decide_eq_false (by omega)) w
  go_enter Tryz.func28, Tryz.ntmps28
  go_wp2_with (go_at_call 51; refine U.mono ?_; rintro e w1 ⟨rfl, h2⟩; replace h2 := h2.symm; subst h2)
  go_ret2
  exact ⟨rfl, rfl⟩

theorem above (u k : Nat) (h : k < many u) : ∃ q : Int, ((u : Int) + 1) / 2 ^ (k + 1) = q ∧ 0 < q := by
  refine ⟨_, rfl, ?_⟩
  have h1 : 2 ^ (k + 1) ≤ u + 1 := Nat.le_trans (Nat.pow_le_pow_right (by decide) h) (many_low u)
  have h2 : 0 < (u + 1) / 2 ^ (k + 1) := Nat.div_pos h1 (Nat.two_pow_pos _)
  have e : ((u : Int) + 1) / 2 ^ (k + 1) = (((u + 1) / 2 ^ (k + 1) : Nat) : Int) := by simp
  omega
theorem ended (u : Nat) : ((u : Int) + 1) / 2 ^ (many u + 1) = 0 := by
  have h := Nat.div_eq_of_lt (many_high u)
  have e : ((u : Int) + 1) / 2 ^ (many u + 1) = (((u + 1) / 2 ^ (many u + 1) : Nat) : Int) := by simp
  omega

set_option maxRecDepth 20000 in
set_option maxHeartbeats 2000000 in
theorem rbits_own (u n : Nat) (hu : u ≤ 33554432) (hn : n = many u) (w : World) :
    Calls Tryz.prog 28 #[.int .i64 (u : Int)] w fun e w' => ∃ v, e = .returned (.tuple #[v, .int .i64 0]) ∧ w'.ownsRow w.heap.size 3 1 v (2 * n + 1) (vals (bitsOf u)) ∧ Bel w w' := by
  obtain ⟨i0, hi, hz0, hz1, hz2⟩ := info_parts info_int
  have n25 : n ≤ 25 := hn ▸ many_25 u hu
  have HN : Hid (n = many u) := hn
  clear hn
  have U := upto_ok (u : Int) 0 33554432 true (decide_eq_true (by omega)) w
  go_enter Tryz.func28, Tryz.ntmps28
  go_wp2_with (go_at_call 51; refine U.mono ?_; rintro e w1 ⟨rfl, h2⟩; replace h2 := h2.symm; subst h2)
  go_loopw [4] (fun i wr => ∃ j : Nat, j ≤ n ∧ i = .int .i64 j ∧ w = wr) (fun i _ => n - (intOf i).toNat)
  case atStart => exact ⟨0, Nat.zero_le _, rfl, rfl⟩
  case round =>
    obtain ⟨j, hj, rfl, rfl⟩ := hrel
    by_cases hlt : j < n
    · obtain ⟨q, hq, hq0⟩ := above u j (HN.out ▸ hlt)
      go_wp2
      go_roundw
      case rel => exact ⟨j + 1, by omega, by go_num, by first | rfl | trivial⟩
      case measure => simp [intOf]; omega
    · obtain rfl : j = n := by omega
      have he := ended u
      rw [← HN.out] at he
      have R0 : Hid (w.ownsRow w.heap.size 3 1 (.slice none 0 0) 0 (vals (List.replicate 0 1)) ∧ Bel w w) := ⟨World.ownsRow_nil _ _ _ _, Bel.refl w⟩
      go_wp2
      go_loopw [5, 6] (fun v i wr => ∃ (t : Nat) (x : Value), t ≤ j ∧ i = .int .i64 t ∧ x = v ∧ Hid (wr.ownsRow w.heap.size 3 1 x t (vals (List.replicate t 1)) ∧ Bel w wr)) (fun _ i _ => j - (intOf i).toNat)
      case atStart => exact ⟨0, _, Nat.zero_le _, rfl, rfl, R0⟩
      case round =>
        obtain ⟨t, x, ht, rfl, rfl, H1⟩ := hrel
        clear R0
        by_cases hlt : t < j
        · have c3 : Hid (t + 1 ≤ maxLen) := (by unfold maxLen; omega : t + 1 ≤ maxLen)
          have c4 : Hid ((t + 1) * 8 ≤ 140737488355328) := (by omega : (t + 1) * 8 ≤ 140737488355328)
          go_wp2_with (at_builtin; refine wpList_append_own _ rfl (.tmp 24) (.tmp 25) 22 rfl w.heap.size 3 i0 (.int .i64 0) 1 8 Tryz.underlying22 hi hz0 hz1 hz2 rfl (by decide) _ t _ rfl (H1.out.1.alloc _) ⟨wr.heap.size, 0, none⟩ 1 1 (vals [1]) rfl rfl (one_cell _ _) (ints_oneCell _ _) c3.out c4.out (size_ok H1.out.2 _) ?_)
          intro v' w2 ho hg _
          have R := owns_more H1.out.1 H1.out.2 ho hg
          rw [rep_snoc] at R
          have R2 : Hid (w2.ownsRow w.heap.size 3 1 v' (t + 1) (vals (List.replicate (t + 1) 1)) ∧ Bel w w2) := R
          clear ho hg H1 c3 c4 R
          go_wp2
          go_roundw
          case rel => exact ⟨t + 1, _, by omega, by go_num, rfl, R2⟩
          case measure => simp [intOf]; omega
        · obtain rfl : t = j := by omega
          have c3 : Hid (t + 1 ≤ maxLen) := (by unfold maxLen; omega : t + 1 ≤ maxLen)
          have c4 : Hid ((t + 1) * 8 ≤ 140737488355328) := (by omega : (t + 1) * 8 ≤ 140737488355328)
          go_wp2_with (at_builtin; refine wpList_append_own _ rfl (.tmp 27) (.tmp 28) 22 rfl w.heap.size 3 i0 (.int .i64 0) 1 8 Tryz.underlying22 hi hz0 hz1 hz2 rfl (by decide) _ t _ rfl (H1.out.1.alloc _) ⟨wr.heap.size, 0, none⟩ 1 1 (vals [0]) rfl rfl (one_cell _ _) (ints_oneCell _ _) c3.out c4.out (size_ok H1.out.2 _) ?_)
          intro v' w2 ho hg _
          have R : Hid (w2.ownsRow w.heap.size 3 1 v' (t + 1 + 0) (vals (front u t 0)) ∧ Bel w w2) := front_zero u t ▸ owns_more H1.out.1 H1.out.2 ho hg
          clear ho hg H1 c3 c4 he
          go_wp2
          go_loopw [5, 7] (fun v i wr => ∃ (s : Nat) (z : Int) (x : Value), s ≤ t ∧ i = .int .i64 z ∧ x = v ∧ z = (t : Int) - 1 - s ∧ Hid (wr.ownsRow w.heap.size 3 1 x (t + 1 + s) (vals (front u t s)) ∧ Bel w wr)) (fun _ i _ => (intOf i + 1).toNat)
          case atStart => exact ⟨0, _, _, Nat.zero_le _, rfl, rfl, by omega, R⟩
          case round =>
            obtain ⟨s, z, x, hs, rfl, rfl, hz, H1⟩ := hrel
            clear R
            by_cases hlt : s < t
            · obtain ⟨q, rfl⟩ : ∃ q : Nat, z = (q : Int) := ⟨z.toNat, by omega⟩
              have hq : t - 1 - s = q := by omega
              have c3 : Hid (t + 1 + s + 1 ≤ maxLen) := (by unfold maxLen; omega : t + 1 + s + 1 ≤ maxLen)
              have c4 : Hid ((t + 1 + s + 1) * 8 ≤ 140737488355328) := (by omega : (t + 1 + s + 1) * 8 ≤ 140737488355328)
              have hand := bit_is u t s
              rw [hq] at hand
              have HF : Hid (front u t (s + 1) = front u t s ++ [bitAt u t s]) := front_succ u t s
              have q25 : q ≤ 25 := by omega
              have HZ : Hid ((q : Int) = (t : Int) - 1 - s) := hz
              clear hq hz
              generalize bitAt u t s = y at *
              go_wp2_with (at_builtin; refine wpList_append_own _ rfl (.tmp 36) (.tmp 42) 22 rfl w.heap.size 3 i0 (.int .i64 0) 1 8 Tryz.underlying22 hi hz0 hz1 hz2 rfl (by decide) _ (t + 1 + s) _ rfl (H1.out.1.alloc _) ⟨wr.heap.size, 0, none⟩ 1 1 (vals [y]) rfl rfl (one_cell _ _) (ints_oneCell _ _) c3.out c4.out (size_ok H1.out.2 _) ?_)
              intro v' w2 ho hg _
              have R := owns_more H1.out.1 H1.out.2 ho hg
              rw [← HF.out] at R
              have R2 : Hid (w2.ownsRow w.heap.size 3 1 v' (t + 1 + (s + 1)) (vals (front u t (s + 1))) ∧ Bel w w2) := R
              clear ho hg H1 c3 c4 R
              go_wp2
              go_roundw
              case rel => exact ⟨s + 1, _, _, by omega, rfl, rfl, by have := HZ.out; omega, R2⟩
              case measure => simp [intOf]
            · obtain rfl : s = t := by omega
              obtain rfl : z = -1 := by omega
              have HE : Hid (w = w ∧ wr.ownsRow w.heap.size 3 1 x (2 * s + 1) (vals (bitsOf u))) := ⟨rfl, by
                have := H1.out.1
                rw [front_all u s HN.out] at this
                have e : s + 1 + s = 2 * s + 1 := by omega
                rwa [e] at this⟩
              clear hz
              go_wp2
              go_ret2
              exact ⟨_, rfl, HE.out.2, H1.out.2⟩

/-- The reference's Bits of a number. -/
theorem rbits_ok (u n : Nat) (hu : u ≤ 33554432) (hn : n = 2 * many u + 1) (w : World) :
    Calls Tryz.prog 28 #[.int .i64 (u : Int)] w fun e w' => ∃ g c, e = .returned (.tuple #[.slice (some ⟨g, 0, none⟩) n c, .int .i64 0]) ∧ w.heap.size ≤ g ∧ g < w'.heap.size ∧ n ≤ c ∧ c ≤ maxLen ∧ Holds w' g (bitsOf u) ∧ Bel w w' := by
  subst hn
  refine (rbits_own u _ hu rfl w).mono ?_
  rintro e w1 ⟨v, rfl, ho, b⟩
  obtain ⟨g, c, rfl, q1, q2, q3, q4, _, hh⟩ := owns_shape ho (by omega)
  exact ⟨g, c, rfl, q1, q2, q3, q4, hh, b⟩

end Go.Proofs.YtocnlefpbcnlmaaGreatDoor.Gam
