/-
  The contract of coder.Bit: what it answers at every coder, bit and chance. Condition: the text is no longer than an int can tell.
  The contract of coder.End: what it answers at every coder. Condition: the text is no longer than an int can tell.
  The contracts of the reference's small functions for coders. Conditions: numbers within what each asks for.
  Plain facts on a decoder: the number that its next four bytes tell, how it goes up a byte, that it stays within what is left; what a coder's bits leave, and that its end is decoded to them. No condition.
-/
import Derived.Test.YtocnlefpbcnlmaaDoorPk8
import Derived.RegionTactic
import Derived.Deep.OwnRows
import Derived.Laws.IdiomStrings
import Derived.Laws.BitsAllLaws

namespace Go.Proofs.YtocnlefpbcnlmaaDoor.Coder
open Go.RowKit Go.Proofs.YtocnlefpbcnlmaaDoor.Num
set_option linter.unusedVariables false

/-- What Bit answers where the call may be. -/
def bitAns (l h : Int) (s bs : ByteArray) : Value := if s.size + bs.size ≤ 65536 then .tuple #[.agg #[.int .i64 l, .int .i64 h, .string (s ++ bs)], .int .i64 0] else .tuple #[.agg #[.int .i64 0, .int .i64 0, .string ⟨#[]⟩], .int .i64 400]

def lenOf : Value → Nat | .slice _ n _ => n | _ => 0

/-- The bytes told so far lie in block T, with room for four. -/
def Told (w : World) (T : Nat) (bs : List UInt8) : Prop := ∀ i, i < 4 → w.cell? ⟨T, i, none⟩ = some (.int .u8 (((bs.getD i 0).toNat : Nat) : Int)) ∧ w.frozen? ⟨T, i, none⟩ = false

/-- What lies in Bit's variables: c's Out and the result at N, the span at S. -/
structure Cells (w : World) (N S : Nat) (s : ByteArray) (u v : Int) : Prop where
  s0 : w.cell? ⟨S, 0, none⟩ = some (.int .i64 u)
  s1 : w.cell? ⟨S, 1, none⟩ = some (.int .i64 v)
  g0 : w.frozen? ⟨S, 0, none⟩ = false
  g1 : w.frozen? ⟨S, 1, none⟩ = false
  a2 : w.cell? ⟨N, 2, none⟩ = some (.string s)
  c0 : w.cell? ⟨N + 1, 0, none⟩ = some (.int .i64 0)
  c1 : w.cell? ⟨N + 1, 1, none⟩ = some (.int .i64 0)
  c2 : w.cell? ⟨N + 1, 2, none⟩ = some (.string ⟨#[]⟩)
  f0 : w.frozen? ⟨N + 1, 0, none⟩ = false
  f1 : w.frozen? ⟨N + 1, 1, none⟩ = false
  f2 : w.frozen? ⟨N + 1, 2, none⟩ = false

theorem Cells.keep {w w' : World} {N S : Nat} {s : ByteArray} {u v : Int} (C : Cells w N S s u v) (b : Bel w w') : Cells w' N S s u v :=
  ⟨b.keep C.s0, b.keep C.s1, b.free C.s0 C.g0, b.free C.s1 C.g1, b.keep C.a2, b.keep C.c0, b.keep C.c1, b.keep C.c2, b.free C.c0 C.f0, b.free C.c1 C.f1, b.free C.c2 C.f2⟩

/-- Another span is stored. -/
theorem Cells.set {w : World} {N S : Nat} {s : ByteArray} {u v : Int} (C : Cells w N S s u v) (hN : N + 1 < S) (u' v' : Int) : Cells ((w.setCell ⟨S, 0, none⟩ (.int .i64 u')).setCell ⟨S, 1, none⟩ (.int .i64 v')) N S s u' v' := by
  obtain ⟨_, _, r2, r3⟩ := set2 (x := .int .i64 u') (y := .int .i64 v') C.s0 C.s1
  have o : ∀ (B i : Nat), B ≠ S → ((w.setCell ⟨S, 0, none⟩ (.int .i64 u')).setCell ⟨S, 1, none⟩ (.int .i64 v')).cell? ⟨B, i, none⟩ = w.cell? ⟨B, i, none⟩ := fun B i hB => by
    rw [World.cell?_setCell_other (h := by intro k; injection k with k1 _ _; omega), World.cell?_setCell_other (h := by intro k; injection k with k1 _ _; omega)]
  exact ⟨r3, r2, by simp [C.g0], by simp [C.g1], by rw [o _ _ (by omega)]; exact C.a2, by rw [o _ _ (by omega)]; exact C.c0, by rw [o _ _ (by omega)]; exact C.c1, by rw [o _ _ (by omega)]; exact C.c2, by simp [C.f0], by simp [C.f1], by simp [C.f2]⟩

/-- A store into a block that is none of them. -/
theorem Cells.far {w : World} {N S : Nat} {s : ByteArray} {u v : Int} (C : Cells w N S s u v) {a : Addr} (ha : a.block ≠ N) (hb : a.block ≠ N + 1) (hc : a.block ≠ S) (x : Value) : Cells (w.setCell a x) N S s u v := by
  have o : ∀ (B i : Nat), a.block ≠ B → (w.setCell a x).cell? ⟨B, i, none⟩ = w.cell? ⟨B, i, none⟩ := fun B i hB => by
    rw [World.cell?_setCell_other (h := by intro k; exact hB (by rw [k]))]
  exact ⟨by rw [o _ _ hc]; exact C.s0, by rw [o _ _ hc]; exact C.s1, by simp [C.g0], by simp [C.g1], by rw [o _ _ ha]; exact C.a2, by rw [o _ _ hb]; exact C.c0, by rw [o _ _ hb]; exact C.c1, by rw [o _ _ hb]; exact C.c2, by simp [C.f0], by simp [C.f1], by simp [C.f2]⟩

theorem Told.keep {w w' : World} {T : Nat} {bs : List UInt8} (h : Told w T bs) (b : Bel w w') : Told w' T bs := fun i hi => ⟨b.keep (h i hi).1, b.free (h i hi).1 (h i hi).2⟩

theorem Told.far {w : World} {T : Nat} {bs : List UInt8} (h : Told w T bs) {a : Addr} (ha : a.block ≠ T) (x : Value) : Told (w.setCell a x) T bs := fun i hi =>
  ⟨by rw [World.cell?_setCell_other (h := by intro k; exact ha (by rw [k]))]; exact (h i hi).1, by simp [(h i hi).2]⟩

/-- One byte more. -/
theorem Told.more {w : World} {T : Nat} {bs : List UInt8} (h : Told w T bs) {k : Nat} (hk : k < 4) (hl : bs.length = k) (b : UInt8) (x : Int) (hx : x = ((b.toNat : Nat) : Int)) : Told (w.setCell ⟨T, k, none⟩ (.int .u8 x)) T (bs ++ [b]) := by
  intro i hi
  refine ⟨?_, by simp [(h i hi).2]⟩
  by_cases e : k = i
  · subst e
    rw [(World.cell?_setCell_same _ _ (h := (h k hk).1) _), hx]
    simp [← hl]
  · rw [World.cell?_setCell_other (h := by intro k; injection k with _ k2 _; exact e k2), (h i hi).1]
    congr 4
    rcases Nat.lt_or_ge i k with e1 | e1
    · simp [List.getElem?_append_left, hl, e1]
    · have e2 : bs.length ≤ i := by omega
      rw [List.getD_eq_getElem?_getD, List.getD_eq_getElem?_getD, List.getElem?_eq_none e2, List.getElem?_eq_none (by simp; omega)]

/-- The bytes told, as a text. -/
theorem Told.str {w : World} {T : Nat} {bs : List UInt8} (h : Told w T bs) (k : Nat) (hl : bs.length = k) (hk : k ≤ 4) :
    (convert 33 9 (.slice (some ⟨T, 0, none⟩) k 4)).run Tryd.prog w = .ok (.string ⟨bs.toArray⟩) w := by
  subst hl
  exact run_convert_bytes_back (P := Tryd.prog) w 33 9 5 ⟨T, 0, none⟩ 4 bs Tryd.underlying33 Tryd.underlying5 Tryd.underlying9 (fun j hj => by
    have hplain : (⟨T, 0, none⟩ : Addr).add j = ⟨T, j, none⟩ := by unfold Addr.add; split <;> simp_all
    rw [hplain, (h j (by omega)).1]
    simp [hj])

theorem mk04 (w : World) : (Instr.makeSlice 33 (.int .i64 0) (.int .i64 4)).run Tryd.prog w = .ok (.slice (some ⟨w.heap.size, 0, none⟩) 0 4) (w.alloc (.cells #[.int .u8 0, .int .u8 0, .int .u8 0, .int .u8 0] 5)) := by kernel_rfl

set_option maxHeartbeats 2000000 in
theorem bit_may (l h bit p : Int) (s : ByteArray) (hb : Between l h) (hs : s.size ≤ 65536) (hbit : bit = 0 ∨ bit = 1) (h1 : 1 ≤ p) (h2 : p ≤ 4095) (l1 r1 : Int) (bs : List UInt8) (hset : settle 5 (narrow l h bit p).1 (narrow l h bit p).2 = (bs, l1, r1)) (w : World) :
    Calls Tryd.prog 34 #[.agg #[.int .i64 l, .int .i64 h, .string s], .int .i64 bit, .int .i64 p] w fun e w' => e = .returned (bitAns l1 r1 s ⟨bs.toArray⟩) ∧ Bel w w' := by
  have hnar := narrow_ok l h bit p hb h1 h2
  have hin := narrow_in hb bit p h1 h2
  have q1 := may_ok l h s (by unfold maxLen; omega)
  have e1 : mayB l h s = true := decide_eq_true ⟨hb, hs⟩
  have q2 := isBit_ok bit
  have e2 : bitB bit = true := decide_eq_true hbit
  have q3 := isChance_ok p
  have e3 : chanceB p = true := decide_eq_true ⟨h1, h2⟩
  rw [e1] at q1; rw [e2] at q2; rw [e3] at q3
  generalize (narrow l h bit p).1 = x at *
  generalize (narrow l h bit p).2 = y at *
  have QM : Hid (∀ w, Calls Tryd.prog 35 #[.agg #[.int .i64 l, .int .i64 h, .string s]] w fun e w' => e = .returned (.bool true) ∧ Bel w w') := q1
  have QB : Hid (∀ w, Calls Tryd.prog 54 #[.int .i64 bit] w fun e w' => e = .returned (.bool true) ∧ w' = w) := q2
  have QC : Hid (∀ w, Calls Tryd.prog 55 #[.int .i64 p] w fun e w' => e = .returned (.bool true) ∧ w' = w) := q3
  have QN : Hid (∀ w, Calls Tryd.prog 57 #[.agg #[.int .i64 l, .int .i64 h], .int .i64 bit, .int .i64 p] w fun e w' => e = .returned (.agg #[.int .i64 x, .int .i64 y]) ∧ Bel w w') := hnar
  have HI : Hid (0 ≤ x ∧ x ≤ y ∧ y ≤ 4294967295) := hin
  have HS : Hid (settle 5 x y = (bs, l1, r1)) := hset
  clear q1 q2 q3 e1 e2 e3 hnar hin hset
  go_enter Tryd.func34, Tryd.ntmps34
  go_wp2_with fail
  refine (QM.out _).mono ?_
  rintro e w1 ⟨rfl, b1⟩
  have a0 : w1.cell? ⟨w.heap.size, 0, none⟩ = some (.int .i64 l) := b1.keep (by simp)
  have a1 : w1.cell? ⟨w.heap.size, 1, none⟩ = some (.int .i64 h) := b1.keep (by simp)
  have a2 : w1.cell? ⟨w.heap.size, 2, none⟩ = some (.string s) := b1.keep (by simp)
  have c0 : w1.cell? ⟨w.heap.size + 1, 0, none⟩ = some (.int .i64 0) := b1.keep (by simp)
  have c1 : w1.cell? ⟨w.heap.size + 1, 1, none⟩ = some (.int .i64 0) := b1.keep (by simp)
  have c2 : w1.cell? ⟨w.heap.size + 1, 2, none⟩ = some (.string ⟨#[]⟩) := b1.keep (by simp)
  have f0 : w1.frozen? ⟨w.heap.size + 1, 0, none⟩ = false := by rw [b1.frozen (by simp)]; simp
  have f1 : w1.frozen? ⟨w.heap.size + 1, 1, none⟩ = false := by rw [b1.frozen (by simp)]; simp
  have f2 : w1.frozen? ⟨w.heap.size + 1, 2, none⟩ = false := by rw [b1.frozen (by simp)]; simp
  have HB : Hid (Bel w w1) := Bel.trans (((Bel.refl _).alloc _).alloc _) b1
  clear b1
  go_wp2_with fail
  refine (QB.out _).mono ?_
  rintro e w2 ⟨rfl, rfl⟩
  go_wp2_with fail
  refine (QC.out _).mono ?_
  rintro e w3 ⟨rfl, rfl⟩
  go_wp2_with fail
  refine (left_ok l h s _).mono ?_
  rintro e w4 ⟨rfl, b4⟩
  go_wp2_with fail
  refine (QN.out _).mono ?_
  rintro e w5 ⟨rfl, b5⟩
  have b := b4.trans b5
  replace a2 := b.keep a2
  replace f0 := b.free c0 f0
  replace f1 := b.free c1 f1
  replace f2 := b.free c2 f2
  replace c0 := b.keep c0
  replace c1 := b.keep c1
  replace c2 := b.keep c2
  replace HB : Hid (Bel w w5) := HB.out.trans b
  clear a0 a1 b4 b5 b
  have hmk := mk04
  go_wp2_with fail
  go_loopw [9] (fun t wr => ∃ (k : Nat) (u v : Int) (cs : List UInt8), t = .slice (some ⟨w5.heap.size + 1, 0, none⟩) k 4 ∧ Mids x y k u v cs ∧ Told wr (w5.heap.size + 1) cs ∧ Bel w wr ∧ Cells wr w.heap.size w5.heap.size s u v) (fun t _ => 4 - lenOf t)
  case atStart =>
    have bb : Bel w5 ((w5.alloc (.cells #[.int .i64 x, .int .i64 y] 64)).alloc (.cells #[.int .u8 0, .int .u8 0, .int .u8 0, .int .u8 0] 5)) := ((Bel.refl _).alloc _).alloc _
    refine ⟨0, x, y, [], by simp, Mids.start HI.out.1 HI.out.2.1 HI.out.2.2, ?_, HB.out.trans bb, ⟨by simp, by simp, by simp, by simp, bb.keep a2, bb.keep c0, bb.keep c1, bb.keep c2, bb.free c0 f0, bb.free c1 f1, bb.free c2 f2⟩⟩
    intro i hi
    rcases (show i = 0 ∨ i = 1 ∨ i = 2 ∨ i = 3 from by omega) with rfl | rfl | rfl | rfl
    · exact ⟨by simp, by simp⟩
    · exact ⟨by simp, by simp⟩
    · exact ⟨by simp, by simp⟩
    · exact ⟨by simp, by simp⟩
  case round =>
    obtain ⟨k, u, v, cs, rfl, M, told, hbel, C⟩ := hrel
    have hNS : w.heap.size + 1 < w5.heap.size := block_lt_of_cell c0
    clear a2 c0 c1 c2 f0 f1 f2 hmk
    have HBel : Hid (Bel w wr) := hbel
    have HM : Hid (Mids x y k u v cs) := M
    have HT : Hid (Told wr (w5.heap.size + 1) cs) := told
    have HC : Hid (Cells wr w.heap.size w5.heap.size s u v) := C
    have s0 := C.s0
    have s1 := C.s1
    have u0 := M.l0'
    have u1 : u ≤ 4294967295 := Int.le_trans M.lh M.h1
    have v0 : 0 ≤ v := Int.le_trans M.l0' M.lh
    have v1 := M.h1
    clear hbel M told C
    have qs := isSettled_ok u v
    by_cases he : u / 16777216 = v / 16777216
    · rw [show (u / 16777216 == v / 16777216) = true from by simpa using he] at qs
      have QS : Hid (∀ w, Calls Tryd.prog 58 #[.agg #[.int .i64 u, .int .i64 v]] w fun e w' => e = .returned (.bool true) ∧ Bel w w') := qs
      have HE : Hid (u / 16777216 = v / 16777216) := he
      clear qs he
      have hk : k < 4 := HM.out.lt HE.out
      go_wp2_with fail
      refine (QS.out _).mono ?_
      rintro e wa ⟨rfl, ba⟩
      replace s0 := ba.keep s0
      replace s1 := ba.keep s1
      go_wp2_with fail
      refine (settled_ok u v u0 u1 _).mono ?_
      rintro e wb ⟨rfl, bb⟩
      have bab := ba.trans bb
      have HT2 : Hid (Told wb (w5.heap.size + 1) cs) := HT.out.keep bab
      have HC2 : Hid (Cells wb w.heap.size w5.heap.size s u v) := HC.out.keep bab
      have HBel2 : Hid (Bel w wb) := HBel.out.trans bab
      have t0 := (HT2.out k hk).1
      have t1 := (HT2.out k hk).2
      replace s0 := HC2.out.s0
      replace s1 := HC2.out.s1
      have hTlt : w5.heap.size + 1 < wb.heap.size := block_lt_of_cell t0
      clear ba bb bab
      have hx : ((UInt8.ofNat (u / 16777216).toNat).toNat : Int) = u / 16777216 := by
        rw [UInt8.toNat_ofNat', Nat.mod_eq_of_lt (by omega)]; omega
      have b3 : Bel (wb.setCell ⟨w5.heap.size + 1, k, none⟩ (.int .u8 (u / 16777216))) ((wb.setCell ⟨w5.heap.size + 1, k, none⟩ (.int .u8 (u / 16777216))).alloc (.cells #[.int .u8 (u / 16777216)] 5)) := (Bel.refl _).alloc _
      have C3 := (HC2.out.far (a := ⟨w5.heap.size + 1, k, none⟩) (by show w5.heap.size + 1 ≠ _; omega) (by show w5.heap.size + 1 ≠ _; omega) (by show w5.heap.size + 1 ≠ _; omega) (.int .u8 (u / 16777216))).keep b3
      have HT3 : Hid (Told ((wb.setCell ⟨w5.heap.size + 1, k, none⟩ (.int .u8 (u / 16777216))).alloc (.cells #[.int .u8 (u / 16777216)] 5)) (w5.heap.size + 1) (cs ++ [UInt8.ofNat (u / 16777216).toNat])) := (HT2.out.more hk HM.out.len _ _ hx.symm).keep b3
      have HBel3 : Hid (Bel w ((wb.setCell ⟨w5.heap.size + 1, k, none⟩ (.int .u8 (u / 16777216))).alloc (.cells #[.int .u8 (u / 16777216)] 5))) := (HBel2.out.setCell (by show w.heap.size ≤ w5.heap.size + 1; omega) _).trans b3
      have HC3 : Hid (Cells ((wb.setCell ⟨w5.heap.size + 1, k, none⟩ (.int .u8 (u / 16777216))).alloc (.cells #[.int .u8 (u / 16777216)] 5)) w.heap.size w5.heap.size s u v) := C3
      replace s0 := C3.s0
      replace s1 := C3.s1
      clear b3 hx C3
      go_wp2_with fail
      refine (up_ok u v u0 u1 v0 v1 _).mono ?_
      rintro e wc ⟨rfl, bc⟩
      have C4 := HC3.out.keep bc
      have HT4 : Hid (Told wc (w5.heap.size + 1) (cs ++ [UInt8.ofNat (u / 16777216).toNat])) := HT3.out.keep bc
      have HBel4 : Hid (Bel w wc) := HBel3.out.trans bc
      have HC4 : Hid (Cells wc w.heap.size w5.heap.size s u v) := C4
      replace s0 := C4.s0
      replace s1 := C4.s1
      have g0 := C4.g0
      have g1 := C4.g1
      clear bc C4 HT HC HBel HT2 HC2 HBel2 HT3 HC3 HBel3 t0 t1
      have HN := HM.out.next HE.out
      have HN2 : Hid (Mids x y (k + 1) (u * 256 % 4294967296) (v * 256 % 4294967296 + 255) (cs ++ [UInt8.ofNat (u / 16777216).toNat])) := HN
      clear HN
      generalize u * 256 % 4294967296 = u' at *
      generalize v * 256 % 4294967296 + 255 = v' at *
      go_wp2
      go_roundw
      case rel =>
        refine ⟨k + 1, u', v', _, rfl, HN2.out, (HT4.out.far (by show w5.heap.size ≠ _; omega) _).far (by show w5.heap.size ≠ _; omega) _, (HBel4.out.setCell (by show w.heap.size ≤ w5.heap.size; omega) _).setCell (by show w.heap.size ≤ w5.heap.size; omega) _, HC4.out.set (by omega) _ _⟩
      case measure => simp [lenOf]; omega
    · rw [show (u / 16777216 == v / 16777216) = false from by simpa using he] at qs
      have QS : Hid (∀ w, Calls Tryd.prog 58 #[.agg #[.int .i64 u, .int .i64 v]] w fun e w' => e = .returned (.bool false) ∧ Bel w w') := qs
      have hd := HM.out.done he
      rw [HS.out] at hd
      injection hd with hd1 hd2
      injection hd2 with hd2 hd3
      subst hd1 hd2 hd3
      have hk4 := HM.out.le4
      have hlen := HM.out.len
      clear qs he
      go_wp2_with fail
      refine (QS.out _).mono ?_
      rintro e wa ⟨rfl, ba⟩
      have C2 := HC.out.keep ba
      have hstr := (HT.out.keep ba).str k hlen hk4
      have HBel2 : Hid (Bel w wa) := HBel.out.trans ba
      obtain ⟨s0', s1', g0, g1, a2, c0, c1, c2, f0, f1, f2⟩ := C2
      clear s0 s1 ba HT HC HBel
      by_cases hz : s.size + k ≤ 65536
      · have HA : Hid (bitAns l1 r1 s ⟨bs.toArray⟩ = .tuple #[.agg #[.int .i64 l1, .int .i64 r1, .string (s ++ ⟨bs.toArray⟩)], .int .i64 0]) := by
          show _ = _
          rw [bitAns, if_pos (by show s.size + bs.toArray.size ≤ _; simp; omega)]
        have hz' : decide (65536 < (s.size : Int) + (k : Int)) = false := by simp; omega
        go_wp2
        obtain ⟨r0, r1', r2⟩ := set3 (x := .int .i64 l1) (y := .int .i64 r1) (z := .string (s ++ ⟨bs.toArray⟩)) c0 c1 c2
        refine bodyPost_ret (results_coder2 Tryd.results34 rfl rfl r0 r1' r2) rfl ⟨congrArg Ending.returned HA.out.symm, ?_⟩
        exact ((HBel2.out.setCell (by show w.heap.size ≤ w.heap.size + 1; omega) _).setCell (by show w.heap.size ≤ w.heap.size + 1; omega) _).setCell (by show w.heap.size ≤ w.heap.size + 1; omega) _
      · have HA : Hid (bitAns l1 r1 s ⟨bs.toArray⟩ = .tuple #[.agg #[.int .i64 0, .int .i64 0, .string ⟨#[]⟩], .int .i64 400]) := by
          show _ = _
          rw [bitAns, if_neg (by show ¬ s.size + bs.toArray.size ≤ _; simp; omega)]
        have hz' : decide (65536 < (s.size : Int) + (k : Int)) = true := by simp; omega
        go_wp2
        obtain ⟨r0, r1', r2⟩ := set3 (x := .int .i64 0) (y := .int .i64 0) (z := .string ⟨#[]⟩) c0 c1 c2
        refine bodyPost_ret (results_coder2 Tryd.results34 rfl rfl r0 r1' r2) rfl ⟨congrArg Ending.returned HA.out.symm, ?_⟩
        exact ((HBel2.out.setCell (by show w.heap.size ≤ w.heap.size + 1; omega) _).setCell (by show w.heap.size ≤ w.heap.size + 1; omega) _).setCell (by show w.heap.size ≤ w.heap.size + 1; omega) _

def errV : Value := .tuple #[.agg #[.int .i64 0, .int .i64 0, .string ⟨#[]⟩], .int .i64 400]

/-- What Bit answers. -/
def codeBit (l h bit p : Int) (s : ByteArray) : Value :=
  if mayB l h s = true ∧ bitB bit = true ∧ chanceB p = true then bitAns (settle 5 (narrow l h bit p).1 (narrow l h bit p).2).2.1 (settle 5 (narrow l h bit p).1 (narrow l h bit p).2).2.2 s ⟨(settle 5 (narrow l h bit p).1 (narrow l h bit p).2).1.toArray⟩ else errV

set_option maxHeartbeats 1000000 in
theorem bit_no_may (l h bit p : Int) (s : ByteArray) (hs : s.size ≤ maxLen) (hm : mayB l h s = false) (w : World) :
    Calls Tryd.prog 34 #[.agg #[.int .i64 l, .int .i64 h, .string s], .int .i64 bit, .int .i64 p] w fun e w' => e = .returned errV ∧ Bel w w' := by
  have q1 := may_ok l h s hs
  rw [hm] at q1
  have QM : Hid (∀ w, Calls Tryd.prog 35 #[.agg #[.int .i64 l, .int .i64 h, .string s]] w fun e w' => e = .returned (.bool false) ∧ Bel w w') := q1
  clear q1 hm
  go_enter Tryd.func34, Tryd.ntmps34
  go_wp2_with fail
  refine (QM.out _).mono ?_
  rintro e w1 ⟨rfl, b1⟩
  have c0 : w1.cell? ⟨w.heap.size + 1, 0, none⟩ = some (.int .i64 0) := b1.keep (by simp)
  have c1 : w1.cell? ⟨w.heap.size + 1, 1, none⟩ = some (.int .i64 0) := b1.keep (by simp)
  have c2 : w1.cell? ⟨w.heap.size + 1, 2, none⟩ = some (.string ⟨#[]⟩) := b1.keep (by simp)
  have f0 : w1.frozen? ⟨w.heap.size + 1, 0, none⟩ = false := by rw [b1.frozen (by simp)]; simp
  have f1 : w1.frozen? ⟨w.heap.size + 1, 1, none⟩ = false := by rw [b1.frozen (by simp)]; simp
  have f2 : w1.frozen? ⟨w.heap.size + 1, 2, none⟩ = false := by rw [b1.frozen (by simp)]; simp
  have HB : Hid (Bel w w1) := Bel.trans (((Bel.refl _).alloc _).alloc _) b1
  clear b1
  go_wp2
  obtain ⟨r0, r1, r2⟩ := set3 (x := .int .i64 0) (y := .int .i64 0) (z := .string ⟨#[]⟩) c0 c1 c2
  refine bodyPost_ret (results_coder2 Tryd.results34 rfl rfl r0 r1 r2) rfl ⟨rfl, ?_⟩
  exact ((HB.out.setCell (by show w.heap.size ≤ w.heap.size + 1; omega) _).setCell (by show w.heap.size ≤ w.heap.size + 1; omega) _).setCell (by show w.heap.size ≤ w.heap.size + 1; omega) _

set_option maxHeartbeats 1000000 in
theorem bit_no_bit (l h bit p : Int) (s : ByteArray) (hs : s.size ≤ maxLen) (hm : mayB l h s = true) (hb : bitB bit = false) (w : World) :
    Calls Tryd.prog 34 #[.agg #[.int .i64 l, .int .i64 h, .string s], .int .i64 bit, .int .i64 p] w fun e w' => e = .returned errV ∧ Bel w w' := by
  have q1 := may_ok l h s hs
  rw [hm] at q1
  have q2 := isBit_ok bit
  rw [hb] at q2
  have QM : Hid (∀ w, Calls Tryd.prog 35 #[.agg #[.int .i64 l, .int .i64 h, .string s]] w fun e w' => e = .returned (.bool true) ∧ Bel w w') := q1
  have QB : Hid (∀ w, Calls Tryd.prog 54 #[.int .i64 bit] w fun e w' => e = .returned (.bool false) ∧ w' = w) := q2
  clear q1 q2 hm hb
  go_enter Tryd.func34, Tryd.ntmps34
  go_wp2_with fail
  refine (QM.out _).mono ?_
  rintro e w1 ⟨rfl, b1⟩
  have c0 : w1.cell? ⟨w.heap.size + 1, 0, none⟩ = some (.int .i64 0) := b1.keep (by simp)
  have c1 : w1.cell? ⟨w.heap.size + 1, 1, none⟩ = some (.int .i64 0) := b1.keep (by simp)
  have c2 : w1.cell? ⟨w.heap.size + 1, 2, none⟩ = some (.string ⟨#[]⟩) := b1.keep (by simp)
  have f0 : w1.frozen? ⟨w.heap.size + 1, 0, none⟩ = false := by rw [b1.frozen (by simp)]; simp
  have f1 : w1.frozen? ⟨w.heap.size + 1, 1, none⟩ = false := by rw [b1.frozen (by simp)]; simp
  have f2 : w1.frozen? ⟨w.heap.size + 1, 2, none⟩ = false := by rw [b1.frozen (by simp)]; simp
  have HB : Hid (Bel w w1) := Bel.trans (((Bel.refl _).alloc _).alloc _) b1
  clear b1
  go_wp2_with fail
  refine (QB.out _).mono ?_
  rintro e w2 ⟨rfl, rfl⟩
  go_wp2
  obtain ⟨r0, r1, r2⟩ := set3 (x := .int .i64 0) (y := .int .i64 0) (z := .string ⟨#[]⟩) c0 c1 c2
  refine bodyPost_ret (results_coder2 Tryd.results34 rfl rfl r0 r1 r2) rfl ⟨rfl, ?_⟩
  exact ((HB.out.setCell (by show w.heap.size ≤ w.heap.size + 1; omega) _).setCell (by show w.heap.size ≤ w.heap.size + 1; omega) _).setCell (by show w.heap.size ≤ w.heap.size + 1; omega) _

set_option maxHeartbeats 1000000 in
theorem bit_no_chance (l h bit p : Int) (s : ByteArray) (hs : s.size ≤ maxLen) (hm : mayB l h s = true) (hb : bitB bit = true) (hp : chanceB p = false) (w : World) :
    Calls Tryd.prog 34 #[.agg #[.int .i64 l, .int .i64 h, .string s], .int .i64 bit, .int .i64 p] w fun e w' => e = .returned errV ∧ Bel w w' := by
  have q1 := may_ok l h s hs
  rw [hm] at q1
  have q2 := isBit_ok bit
  rw [hb] at q2
  have q3 := isChance_ok p
  rw [hp] at q3
  have QM : Hid (∀ w, Calls Tryd.prog 35 #[.agg #[.int .i64 l, .int .i64 h, .string s]] w fun e w' => e = .returned (.bool true) ∧ Bel w w') := q1
  have QB : Hid (∀ w, Calls Tryd.prog 54 #[.int .i64 bit] w fun e w' => e = .returned (.bool true) ∧ w' = w) := q2
  have QC : Hid (∀ w, Calls Tryd.prog 55 #[.int .i64 p] w fun e w' => e = .returned (.bool false) ∧ w' = w) := q3
  clear q1 q2 q3 hm hb hp
  go_enter Tryd.func34, Tryd.ntmps34
  go_wp2_with fail
  refine (QM.out _).mono ?_
  rintro e w1 ⟨rfl, b1⟩
  have c0 : w1.cell? ⟨w.heap.size + 1, 0, none⟩ = some (.int .i64 0) := b1.keep (by simp)
  have c1 : w1.cell? ⟨w.heap.size + 1, 1, none⟩ = some (.int .i64 0) := b1.keep (by simp)
  have c2 : w1.cell? ⟨w.heap.size + 1, 2, none⟩ = some (.string ⟨#[]⟩) := b1.keep (by simp)
  have f0 : w1.frozen? ⟨w.heap.size + 1, 0, none⟩ = false := by rw [b1.frozen (by simp)]; simp
  have f1 : w1.frozen? ⟨w.heap.size + 1, 1, none⟩ = false := by rw [b1.frozen (by simp)]; simp
  have f2 : w1.frozen? ⟨w.heap.size + 1, 2, none⟩ = false := by rw [b1.frozen (by simp)]; simp
  have HB : Hid (Bel w w1) := Bel.trans (((Bel.refl _).alloc _).alloc _) b1
  clear b1
  go_wp2_with fail
  refine (QB.out _).mono ?_
  rintro e w2 ⟨rfl, rfl⟩
  go_wp2_with fail
  refine (QC.out _).mono ?_
  rintro e w3 ⟨rfl, rfl⟩
  go_wp2
  obtain ⟨r0, r1, r2⟩ := set3 (x := .int .i64 0) (y := .int .i64 0) (z := .string ⟨#[]⟩) c0 c1 c2
  refine bodyPost_ret (results_coder2 Tryd.results34 rfl rfl r0 r1 r2) rfl ⟨rfl, ?_⟩
  exact ((HB.out.setCell (by show w.heap.size ≤ w.heap.size + 1; omega) _).setCell (by show w.heap.size ≤ w.heap.size + 1; omega) _).setCell (by show w.heap.size ≤ w.heap.size + 1; omega) _

theorem bit_ok (l h bit p : Int) (s : ByteArray) (hs : s.size ≤ maxLen) (w : World) :
    Calls Tryd.prog 34 #[.agg #[.int .i64 l, .int .i64 h, .string s], .int .i64 bit, .int .i64 p] w fun e w' => e = .returned (codeBit l h bit p s) ∧ Bel w w' := by
  cases hm : mayB l h s with
  | false => rw [codeBit, if_neg (by rw [hm]; simp)]; exact bit_no_may l h bit p s hs hm w
  | true => cases hb : bitB bit with
    | false => rw [codeBit, if_neg (by rw [hb]; simp)]; exact bit_no_bit l h bit p s hs hm hb w
    | true => cases hp : chanceB p with
      | false => rw [codeBit, if_neg (by rw [hp]; simp)]; exact bit_no_chance l h bit p s hs hm hb hp w
      | true =>
        rw [codeBit, if_pos ⟨hm, hb, hp⟩]
        have m := of_decide_eq_true hm
        have b := of_decide_eq_true hb
        have c := of_decide_eq_true hp
        exact bit_may l h bit p s m.1 m.2 b c.1 c.2 _ _ _ rfl w

end Go.Proofs.YtocnlefpbcnlmaaDoor.Coder

namespace Go.Proofs.YtocnlefpbcnlmaaDoor.Coder
open Go.RowKit Go.Proofs.YtocnlefpbcnlmaaDoor.Num
set_option linter.unusedVariables false

/-- Low in four bytes, the highest first. -/
def four (l : Int) : ByteArray := strOfNums [l / 16777216, l / 65536 % 256, l / 256 % 256, l % 256]

def endAns (l h : Int) (s : ByteArray) : Value := if mayB l h s = true then .tuple #[.string (s ++ four l), .int .i64 0] else .tuple #[.string ⟨#[]⟩, .int .i64 400]

theorem mk44 (w : World) : (Instr.makeSlice 33 (.int .i64 4) (.int .i64 4)).run Tryd.prog w = .ok (.slice (some ⟨w.heap.size, 0, none⟩) 4 4) (w.alloc (.cells #[.int .u8 0, .int .u8 0, .int .u8 0, .int .u8 0] 5)) := by kernel_rfl
theorem cv44 (w : World) (a b c d : Int) : (convert 33 9 (.slice (some ⟨w.heap.size, 0, none⟩) 4 4)).run Tryd.prog (w.alloc (.cells #[.int .u8 a, .int .u8 b, .int .u8 c, .int .u8 d] 5)) = .ok (.string (strOfNums [a, b, c, d])) (w.alloc (.cells #[.int .u8 a, .int .u8 b, .int .u8 c, .int .u8 d] 5)) := by
  refine run_convert_bytes_arg (P := Tryd.prog) _ 33 5 Tryd.underlying33 Tryd.underlying5 w.heap.size 0 4 4 [a, b, c, d] rfl ?_ 9 Tryd.underlying9
  intro i hi
  match i, hi with
  | 0, _ => simp
  | 1, _ => simp
  | 2, _ => simp
  | 3, _ => simp

set_option maxHeartbeats 1000000 in
theorem end_may (l h : Int) (s : ByteArray) (hb : Between l h) (hz : s.size ≤ 65536) (w : World) :
    Calls Tryd.prog 22 #[.agg #[.int .i64 l, .int .i64 h, .string s]] w fun e w' => e = .returned (.tuple #[.string (s ++ four l), .int .i64 0]) ∧ Bel w w' := by
  have q1 := may_ok l h s (by unfold maxLen; omega)
  rw [show mayB l h s = true from decide_eq_true ⟨hb, hz⟩] at q1
  have QM : Hid (∀ w, Calls Tryd.prog 35 #[.agg #[.int .i64 l, .int .i64 h, .string s]] w fun e w' => e = .returned (.bool true) ∧ Bel w w') := q1
  obtain ⟨b0, b1, b2⟩ := hb
  have l0 : 0 ≤ l := b0
  have l1 : l ≤ 4294967295 := by omega
  clear q1 b0 b1 b2
  have hmk := mk44
  go_enter Tryd.func22, Tryd.ntmps22
  go_wp2_with fail
  refine (QM.out _).mono ?_
  rintro e w1 ⟨rfl, b1⟩
  have a0 : w1.cell? ⟨w.heap.size, 0, none⟩ = some (.int .i64 l) := b1.keep (by simp)
  have a2 : w1.cell? ⟨w.heap.size, 2, none⟩ = some (.string s) := b1.keep (by simp)
  have HB : Hid (Bel w w1) := Bel.trans ((Bel.refl _).alloc _) b1
  have hlt : w.heap.size < w1.heap.size := block_lt_of_cell a0
  clear b1
  go_wp2
  refine wp_loop_rounds 5 ?_
  rw [rounds_succ]
  go_wp2
  rw [rounds_succ]
  go_wp2
  rw [rounds_succ]
  go_wp2
  rw [rounds_succ]
  go_wp2
  rw [rounds_succ]
  have hcv := cv44 w1 (l / 16777216) (l / 65536 % 256) (l / 256 % 256) (l % 256)
  have hsz : (strOfNums [l / 16777216, l / 65536 % 256, l / 256 % 256, l % 256]).size = 4 := strOfNums_size _
  have hn : ¬ 9223372036854775807 < s.size + 4 := by omega
  go_wp2
  go_ret2
  exact ⟨rfl, HB.out.alloc _⟩

set_option maxHeartbeats 1000000 in
theorem end_no (l h : Int) (s : ByteArray) (hs : s.size ≤ maxLen) (hm : mayB l h s = false) (w : World) :
    Calls Tryd.prog 22 #[.agg #[.int .i64 l, .int .i64 h, .string s]] w fun e w' => e = .returned (.tuple #[.string ⟨#[]⟩, .int .i64 400]) ∧ Bel w w' := by
  have q1 := may_ok l h s hs
  rw [hm] at q1
  have QM : Hid (∀ w, Calls Tryd.prog 35 #[.agg #[.int .i64 l, .int .i64 h, .string s]] w fun e w' => e = .returned (.bool false) ∧ Bel w w') := q1
  clear q1 hm
  go_enter Tryd.func22, Tryd.ntmps22
  go_wp2_with fail
  refine (QM.out _).mono ?_
  rintro e w1 ⟨rfl, b1⟩
  have HB : Hid (Bel w w1) := Bel.trans ((Bel.refl _).alloc _) b1
  clear b1
  go_wp2
  go_ret2
  exact ⟨rfl, HB.out⟩

theorem end_ok (l h : Int) (s : ByteArray) (hs : s.size ≤ maxLen) (w : World) :
    Calls Tryd.prog 22 #[.agg #[.int .i64 l, .int .i64 h, .string s]] w fun e w' => e = .returned (endAns l h s) ∧ Bel w w' := by
  cases hm : mayB l h s with
  | false => rw [endAns, if_neg (by rw [hm]; simp)]; exact end_no l h s hs hm w
  | true =>
    rw [endAns, if_pos hm]
    have m := of_decide_eq_true hm
    exact end_may l h s m.1 m.2 w

end Go.Proofs.YtocnlefpbcnlmaaDoor.Coder

namespace Go.Proofs.YtocnlefpbcnlmaaDoor.Coder
open Go.RowKit Go.Proofs.YtocnlefpbcnlmaaDoor.Num
set_option linter.unusedVariables false

set_option maxHeartbeats 400000 in
theorem upTo_ok (x a b : Int) (w : World) :
    Calls Tryd.prog 83 #[.int .i64 x, .int .i64 a, .int .i64 b] w fun e w' => e = .returned (.bool (decide (a ≤ x ∧ x ≤ b))) ∧ w' = w := by
  by_cases h0 : a ≤ x
  · by_cases h1 : x ≤ b
    · have e : decide (a ≤ x ∧ x ≤ b) = true := decide_eq_true ⟨h0, h1⟩
      rw [e]
      clear e
      go_enter Tryd.func83, Tryd.ntmps83
      go_wp2
      go_ret
      exact ⟨rfl, rfl⟩
    · have e1 : decide (x ≤ b) = false := decide_eq_false h1
      have e : decide (a ≤ x ∧ x ≤ b) = false := decide_eq_false fun k => h1 k.2
      rw [e]
      clear e
      go_enter Tryd.func83, Tryd.ntmps83
      go_wp2
      go_ret
      exact ⟨rfl, rfl⟩
  · have e1 : decide (a ≤ x) = false := decide_eq_false h0
    have e : decide (a ≤ x ∧ x ≤ b) = false := decide_eq_false fun k => h0 k.1
    rw [e]
    clear e
    go_enter Tryd.func83, Tryd.ntmps83
    go_wp2
    go_ret
    exact ⟨rfl, rfl⟩

def wordB (x : Int) : Bool := decide (0 ≤ x ∧ x ≤ 4294967295)

set_option maxHeartbeats 400000 in
theorem word_ok (x : Int) (w : World) :
    Calls Tryd.prog 66 #[.int .i64 x] w fun e w' => e = .returned (.bool (wordB x)) ∧ w' = w := by
  obtain ⟨b, hb⟩ : ∃ b, b = wordB x := ⟨_, rfl⟩
  have q : Hid (∀ w, Calls Tryd.prog 83 #[.int .i64 x, .int .i64 0, .int .i64 4294967295] w fun e w' => e = .returned (.bool b) ∧ w' = w) := by
    show ∀ w, _
    rw [hb]
    exact upTo_ok x 0 4294967295
  rw [← hb]
  clear hb
  go_enter Tryd.func66, Tryd.ntmps66
  go_wp2_with fail
  refine (q.out _).mono ?_
  rintro e w1 ⟨rfl, rfl⟩
  go_wp2
  go_ret
  exact ⟨rfl, rfl⟩

def betweenB (l h : Int) : Bool := decide (0 ≤ l ∧ h ≤ 4294967295 ∧ l / 16777216 < h / 16777216)

set_option maxHeartbeats 400000 in
theorem between_ok (l h : Int) (w : World) :
    Calls Tryd.prog 40 #[.int .i64 l, .int .i64 h] w fun e w' => e = .returned (.bool (betweenB l h)) ∧ w' = w := by
  have q1 := word_ok l
  have q2 := word_ok h
  cases hl : wordB l with
  | false =>
    have e : betweenB l h = false := decide_eq_false fun ⟨k0, k1, k2⟩ => of_decide_eq_false hl ⟨k0, by omega⟩
    rw [e]
    rw [hl] at q1
    have Q1 : Hid (∀ w, Calls Tryd.prog 66 #[.int .i64 l] w fun e w' => e = .returned (.bool false) ∧ w' = w) := q1
    clear q1 q2 hl e
    go_enter Tryd.func40, Tryd.ntmps40
    go_wp2_with fail
    refine (Q1.out _).mono ?_
    rintro e w1 ⟨rfl, rfl⟩
    go_wp2
    go_ret
    exact ⟨rfl, rfl⟩
  | true => cases hh : wordB h with
    | false =>
      have e : betweenB l h = false := decide_eq_false fun ⟨k0, k1, k2⟩ => of_decide_eq_false hh ⟨by omega, k1⟩
      rw [e]
      rw [hl] at q1
      rw [hh] at q2
      have Q1 : Hid (∀ w, Calls Tryd.prog 66 #[.int .i64 l] w fun e w' => e = .returned (.bool true) ∧ w' = w) := q1
      have Q2 : Hid (∀ w, Calls Tryd.prog 66 #[.int .i64 h] w fun e w' => e = .returned (.bool false) ∧ w' = w) := q2
      clear q1 q2 hl hh e
      go_enter Tryd.func40, Tryd.ntmps40
      go_wp2_with fail
      refine (Q1.out _).mono ?_
      rintro e w1 ⟨rfl, rfl⟩
      go_wp2_with fail
      refine (Q2.out _).mono ?_
      rintro e w1 ⟨rfl, rfl⟩
      go_wp2
      go_ret
      exact ⟨rfl, rfl⟩
    | true =>
      have hl' := of_decide_eq_true hl
      have hh' := of_decide_eq_true hh
      rw [hl] at q1
      rw [hh] at q2
      have Q1 : Hid (∀ w, Calls Tryd.prog 66 #[.int .i64 l] w fun e w' => e = .returned (.bool true) ∧ w' = w) := q1
      have Q2 : Hid (∀ w, Calls Tryd.prog 66 #[.int .i64 h] w fun e w' => e = .returned (.bool true) ∧ w' = w) := q2
      have e : betweenB l h = decide (l / 16777216 < h / 16777216) := by
        unfold betweenB
        simp [hl'.1, hh'.2]
      rw [e]
      clear q1 q2 hl hh e
      obtain ⟨x0, x1⟩ := hl'
      obtain ⟨y0, y1⟩ := hh'
      go_enter Tryd.func40, Tryd.ntmps40
      go_wp2_with fail
      refine (Q1.out _).mono ?_
      rintro e w1 ⟨rfl, rfl⟩
      go_wp2_with fail
      refine (Q2.out _).mono ?_
      rintro e w1 ⟨rfl, rfl⟩
      go_wp2
      go_ret
      exact ⟨rfl, rfl⟩

set_option maxHeartbeats 400000 in
theorem coderMay_ok (l h : Int) (s : ByteArray) (hs : s.size ≤ maxLen) (w : World) :
    Calls Tryd.prog 24 #[.agg #[.int .i64 l, .int .i64 h, .string s]] w fun e w' => e = .returned (.bool (mayB l h s)) ∧ Bel w w' := by
  unfold maxLen at hs
  have q := between_ok l h
  cases hb : betweenB l h with
  | false =>
    have e : mayB l h s = false := decide_eq_false fun k => of_decide_eq_false hb k.1
    rw [e]
    rw [hb] at q
    have Q : Hid (∀ w, Calls Tryd.prog 40 #[.int .i64 l, .int .i64 h] w fun e w' => e = .returned (.bool false) ∧ w' = w) := q
    clear q e hb
    go_enter Tryd.func24, Tryd.ntmps24
    go_wp2_with fail
    refine (Q.out _).mono ?_
    rintro e w1 ⟨rfl, rfl⟩
    go_wp2
    go_ret
    exact ⟨rfl, (Bel.refl _).alloc _⟩
  | true =>
    have e : mayB l h s = decide ((s.size : Int) ≤ 65536) := by
      unfold mayB
      have hb' := of_decide_eq_true hb
      simp only [hb', true_and]
      congr 1
      exact propext ⟨by omega, by omega⟩
    rw [e]
    rw [hb] at q
    have Q : Hid (∀ w, Calls Tryd.prog 40 #[.int .i64 l, .int .i64 h] w fun e w' => e = .returned (.bool true) ∧ w' = w) := q
    clear q e hb
    go_enter Tryd.func24, Tryd.ntmps24
    go_wp2_with fail
    refine (Q.out _).mono ?_
    rintro e w1 ⟨rfl, rfl⟩
    go_wp2
    go_ret
    exact ⟨rfl, (Bel.refl _).alloc _⟩

set_option maxHeartbeats 400000 in
theorem newCoder_ok (w : World) :
    Calls Tryd.prog 13 #[] w fun e w' => e = .returned (.agg #[.int .i64 0, .int .i64 4294967295, .string ⟨#[]⟩]) ∧ Bel w w' := by
  go_enter Tryd.func13, Tryd.ntmps13
  go_wp2
  refine bodyPost_ret (results_coder Tryd.results13 rfl (by simp) (by simp) (by simp)) rfl ⟨rfl, ?_⟩
  exact (Bel.refl _).alloc _

theorem mk1 (w : World) : (Instr.makeSlice 33 (.int .i64 1) (.int .i64 1)).run Tryd.prog w = .ok (.slice (some ⟨w.heap.size, 0, none⟩) 1 1) (w.alloc (.cells #[.int .u8 0] 5)) := by kernel_rfl
theorem cv1 (w : World) (a : Int) : (convert 33 9 (.slice (some ⟨w.heap.size, 0, none⟩) 1 1)).run Tryd.prog (w.alloc (.cells #[.int .u8 a] 5)) = .ok (.string (strOfNums [a])) (w.alloc (.cells #[.int .u8 a] 5)) := by
  refine run_convert_bytes_arg (P := Tryd.prog) _ 33 5 Tryd.underlying33 Tryd.underlying5 w.heap.size 0 1 1 [a] rfl ?_ 9 Tryd.underlying9
  intro i hi
  match i, hi with
  | 0, _ => simp

set_option maxHeartbeats 400000 in
theorem low_ok (x : Int) (h0 : 0 ≤ x) (h1 : x ≤ 4294967295) (w : World) :
    Calls Tryd.prog 25 #[.int .i64 x, .int .i64 1] w fun e w' => e = .returned (.string (strOfNums [x % 256])) ∧ Bel w w' := by
  have hmk := mk1
  have hcv := cv1 w (x % 256)
  go_enter Tryd.func25, Tryd.ntmps25
  go_wp2
  refine wp_loop_rounds 2 ?_
  rw [rounds_succ]
  go_wp2
  rw [rounds_succ]
  go_wp2
  go_ret
  exact ⟨rfl, (Bel.refl _).alloc _⟩

end Go.Proofs.YtocnlefpbcnlmaaDoor.Coder

namespace Go.Proofs.YtocnlefpbcnlmaaDoor.Coder
open Go.RowKit
set_option linter.unusedVariables false

/-- A text's byte at k; 0 behind its end. -/
def bz (s : ByteArray) (k : Nat) : Int := ((s.data.toList.getD k 0).toNat : Nat)

theorem bz_bounds (s : ByteArray) (k : Nat) : 0 ≤ bz s k ∧ bz s k ≤ 255 := by
  unfold bz
  have := (s.data.toList.getD k 0).toNat_lt
  omega

theorem bz_out (s : ByteArray) (k : Nat) (h : s.size ≤ k) : bz s k = 0 := by
  unfold bz
  have : s.data.toList.length ≤ k := by simpa using h
  rw [List.getD_eq_getElem?_getD, List.getElem?_eq_none this]
  rfl

/-- Now behind k bytes more. -/
def nowAt (s : ByteArray) (x : Int) (a : Nat) : Nat → Int
  | 0 => x
  | n + 1 => nowAt s x a n * 256 % 4294967296 + bz s (a + n)

theorem nowAt_in (s : ByteArray) (x : Int) (a : Nat) (h0 : 0 ≤ x) (h1 : x ≤ 4294967295) : ∀ n, 0 ≤ nowAt s x a n ∧ nowAt s x a n ≤ 4294967295
  | 0 => ⟨h0, h1⟩
  | n + 1 => by
    have hb := bz_bounds s (a + n)
    unfold nowAt
    omega

/-- The number that four bytes tell. -/
def win (s : ByteArray) (k : Nat) : Int := bz s k * 16777216 + bz s (k + 1) * 65536 + bz s (k + 2) * 256 + bz s (k + 3)

theorem win_in (s : ByteArray) (k : Nat) : 0 ≤ win s k ∧ win s k ≤ 4294967295 := by
  have h0 := bz_bounds s k
  have h1 := bz_bounds s (k + 1)
  have h2 := bz_bounds s (k + 2)
  have h3 := bz_bounds s (k + 3)
  unfold win
  omega

theorem win_next (s : ByteArray) (k : Nat) : win s k * 256 % 4294967296 + bz s (k + 4) = win s (k + 1) := by
  have h0 := bz_bounds s k
  have h1 := bz_bounds s (k + 1)
  have h2 := bz_bounds s (k + 2)
  have h3 := bz_bounds s (k + 3)
  unfold win
  simp only [Nat.add_assoc, Nat.reduceAdd]
  omega

theorem nowAt_win (s : ByteArray) (k : Nat) : ∀ n, nowAt s (win s k) (k + 4) n = win s (k + n)
  | 0 => rfl
  | n + 1 => by
    unfold nowAt
    rw [nowAt_win s k n, show k + 4 + n = k + n + 4 by omega, win_next]
    rfl

theorem win_top (s : ByteArray) (k : Nat) : win s k / 16777216 = bz s k := by
  have h0 := bz_bounds s k
  have h1 := bz_bounds s (k + 1)
  have h2 := bz_bounds s (k + 2)
  have h3 := bz_bounds s (k + 3)
  unfold win
  omega

/-- Now at the start. -/
theorem now_four (s : ByteArray) : nowAt s 0 0 4 = win s 0 := by
  have h0 := bz_bounds s 0
  have h1 := bz_bounds s 1
  have h2 := bz_bounds s 2
  have h3 := bz_bounds s 3
  simp only [nowAt, win, Nat.zero_add]
  omega

/-- A round keeps Now between both. -/
theorem in_next {u v x b : Int} (h0 : 0 ≤ u) (h1 : v ≤ 4294967295) (hu : u ≤ x) (hv : x ≤ v) (e : u / 16777216 = v / 16777216) (b0 : 0 ≤ b) (b1 : b ≤ 255) :
    u * 256 % 4294967296 ≤ x * 256 % 4294967296 + b ∧ x * 256 % 4294967296 + b ≤ v * 256 % 4294967296 + 255 := by
  have hx : u / 16777216 = x / 16777216 := by omega
  omega

/-- The walk through 'settle' with Now beside it. -/
theorem settle_now (s : ByteArray) : ∀ (n : Nat) (u v x : Int) (a : Nat), 0 ≤ u → v ≤ 4294967295 → u ≤ x → x ≤ v →
    (settle n u v).2.1 ≤ nowAt s x a (settle n u v).1.length ∧ nowAt s x a (settle n u v).1.length ≤ (settle n u v).2.2
  | 0, u, v, x, a, h0, h1, hu, hv => ⟨hu, hv⟩
  | n + 1, u, v, x, a, h0, h1, hu, hv => by
    rw [settle]
    split
    · next e =>
      have hb := bz_bounds s a
      obtain ⟨k1, k2⟩ := in_next h0 h1 hu hv e hb.1 hb.2
      have hl : v * 256 % 4294967296 + 255 ≤ 4294967295 := by omega
      have ih := settle_now s n _ _ _ (a + 1) (by omega) hl k1 k2
      have e1 : ∀ m, nowAt s (x * 256 % 4294967296 + bz s a) (a + 1) m = nowAt s x a (m + 1) := by
        intro m
        induction m with
        | zero => rfl
        | succ m ih =>
          rw [nowAt, ih]
          show _ = nowAt s x a (m + 1) * 256 % 4294967296 + bz s (a + (m + 1))
          rw [show a + 1 + m = a + (m + 1) by omega]
      rw [e1] at ih
      simpa using ih
    · exact ⟨hu, hv⟩

/-- The bytes that are settled while Now is between both are Now's own, one after the other. -/
theorem settle_own (s : ByteArray) : ∀ (n : Nat) (u v : Int) (a : Nat), 0 ≤ u → v ≤ 4294967295 → u ≤ win s a → win s a ≤ v →
    ∀ i, i < (settle n u v).1.length → (((settle n u v).1.getD i 0).toNat : Int) = bz s (a + i) := by
  intro n
  induction n with
  | zero => intro u v a h0 h1 hu hv i hi; simp [settle] at hi
  | succ n ihn =>
    intro u v a h0 h1 hu hv i hi
    rw [settle] at hi ⊢
    split at hi
    · next e =>
      rw [if_pos e]
      have hb := bz_bounds s (a + 4)
      obtain ⟨k1, k2⟩ := in_next h0 h1 hu hv e hb.1 hb.2
      rw [win_next] at k1 k2
      have ih := ihn _ _ (a + 1) (by omega) (by omega) k1 k2
      have hw := win_top s a
      have hb0 := bz_bounds s a
      match i, hi with
      | 0, _ =>
        have ht : u / 16777216 = bz s a := by omega
        rw [ht]
        simp only [List.getD_cons_zero, Nat.add_zero]
        rw [UInt8.toNat_ofNat', Nat.mod_eq_of_lt (by omega)]
        omega
      | i + 1, hi =>
        have := ih i (by simpa using hi)
        rw [show a + 1 + i = a + (i + 1) by omega] at this
        simpa using this
    · next e => simp at hi

/-- Backwards: where the text goes on with the bytes that are settled, and is between what is left behind them, it was between both ahead of them. -/
theorem settle_back (s : ByteArray) : ∀ (n : Nat) (u v : Int) (a : Nat), 0 ≤ u → u ≤ v → v ≤ 4294967295 →
    (∀ i, i < (settle n u v).1.length → (((settle n u v).1.getD i 0).toNat : Int) = bz s (a + i)) →
    (settle n u v).2.1 ≤ win s (a + (settle n u v).1.length) → win s (a + (settle n u v).1.length) ≤ (settle n u v).2.2 → u ≤ win s a ∧ win s a ≤ v := by
  intro n
  induction n with
  | zero => intro u v a h0 hl h1 hb hu hv; exact ⟨hu, hv⟩
  | succ n ihn =>
    intro u v a h0 hl h1 hb hu hv
    rw [settle] at hb hu hv
    split at hb
    · next e =>
      rw [if_pos e] at hu hv
      have hb0 := hb 0 (by simp)
      have ih := ihn (u * 256 % 4294967296) (v * 256 % 4294967296 + 255) (a + 1) (by omega) (by omega) (by omega) (by
        intro i hi
        have := hb (i + 1) (by simpa using hi)
        rw [show a + 1 + i = a + (i + 1) by omega]
        simpa using this) (by
        rw [show a + 1 + (settle n (u * 256 % 4294967296) (v * 256 % 4294967296 + 255)).1.length = a + ((settle n (u * 256 % 4294967296) (v * 256 % 4294967296 + 255)).1.length + 1) by omega]
        simpa using hu) (by
        rw [show a + 1 + (settle n (u * 256 % 4294967296) (v * 256 % 4294967296 + 255)).1.length = a + ((settle n (u * 256 % 4294967296) (v * 256 % 4294967296 + 255)).1.length + 1) by omega]
        simpa using hv)
      have hw := win_top s a
      have hn := win_next s a
      have hb4 := bz_bounds s (a + 4)
      have hbz := bz_bounds s a
      have hin := win_in s a
      simp only [List.getD_cons_zero, Nat.add_zero] at hb0
      rw [UInt8.toNat_ofNat', Nat.mod_eq_of_lt (by omega)] at hb0
      generalize win s a = W at *
      generalize win s (a + 1) = W1 at *
      omega
    · next e =>
      rw [if_neg e] at hu hv
      exact ⟨hu, hv⟩

/-- The bit that Now tells. -/
def bitOf (l h x p : Int) : Int := if x ≤ mid l h p then 1 else 0

theorem narrow_now {l h x p : Int} (hl : l ≤ x) (hh : x ≤ h) : (narrow l h (bitOf l h x p) p).1 ≤ x ∧ x ≤ (narrow l h (bitOf l h x p) p).2 := by
  unfold narrow bitOf
  by_cases e : x ≤ mid l h p
  · simp [e, hl]
  · simp [e, hh]
    omega

/-- Now between what a bit leaves tells that bit. -/
theorem bitOf_narrow {l h x p bit : Int} (hb : bit = 0 ∨ bit = 1) (h1 : (narrow l h bit p).1 ≤ x) (h2 : x ≤ (narrow l h bit p).2) : bitOf l h x p = bit := by
  unfold narrow at h1 h2
  unfold bitOf
  rcases hb with rfl | rfl
  · simp at h1 h2
    rw [if_neg (by omega)]
  · simp at h1 h2
    rw [if_pos h2]

theorem narrow_sub {l h bit p : Int} (b : Between l h) (h1 : 1 ≤ p) (h2 : p ≤ 4095) : l ≤ (narrow l h bit p).1 ∧ (narrow l h bit p).2 ≤ h := by
  obtain ⟨b0, b1, b2⟩ := b
  obtain ⟨f1, f2, f3, f4, f5⟩ := mid_facts (h - l) p h1 h2 (by omega) (by omega)
  unfold narrow mid
  split
  · simp only; omega
  · simp only; omega

/-- A coder behind some bits: Low, High, the bytes told. -/
def coded (bs ps : Nat → Int) : Nat → List UInt8 × Int × Int
  | 0 => ([], 0, 4294967295)
  | n + 1 => ((coded bs ps n).1 ++ (settle 5 (narrow (coded bs ps n).2.1 (coded bs ps n).2.2 (bs n) (ps n)).1 (narrow (coded bs ps n).2.1 (coded bs ps n).2.2 (bs n) (ps n)).2).1,
      (settle 5 (narrow (coded bs ps n).2.1 (coded bs ps n).2.2 (bs n) (ps n)).1 (narrow (coded bs ps n).2.1 (coded bs ps n).2.2 (bs n) (ps n)).2).2)

theorem coded_facts (bs ps : Nat → Int) (hp : ∀ i, 1 ≤ ps i ∧ ps i ≤ 4095) : ∀ n, Between (coded bs ps n).2.1 (coded bs ps n).2.2 ∧ (coded bs ps n).1.length ≤ 4 * n
  | 0 => ⟨⟨show (0 : Int) ≤ 0 by decide, show (4294967295 : Int) ≤ 4294967295 by decide, show (0 : Int) / 16777216 < 4294967295 / 16777216 by decide⟩, by simp [coded]⟩
  | n + 1 => by
    obtain ⟨ih1, ih2⟩ := coded_facts bs ps hp n
    have k := narrow_in ih1 (bs n) (ps n) (hp n).1 (hp n).2
    obtain ⟨f1, f2⟩ := settle_facts k.1 k.2.1 k.2.2
    refine ⟨f2, ?_⟩
    simp only [coded, List.length_append]
    omega

/-- What is told is only added to. -/
theorem coded_grows (bs ps : Nat → Int) : ∀ (d n : Nat), ∃ r, (coded bs ps (n + d)).1 = (coded bs ps n).1 ++ r
  | 0, n => ⟨[], by simp⟩
  | d + 1, n => by
    obtain ⟨r, hr⟩ := coded_grows bs ps d n
    refine ⟨r ++ (settle 5 (narrow (coded bs ps (n + d)).2.1 (coded bs ps (n + d)).2.2 (bs (n + d)) (ps (n + d))).1 (narrow (coded bs ps (n + d)).2.1 (coded bs ps (n + d)).2.2 (bs (n + d)) (ps (n + d))).2).1, ?_⟩
    show (coded bs ps (n + d + 1)).1 = _
    rw [coded, hr]
    simp

/-- The text t begins with what is told behind k bits, and goes on between what is left: so it does at every bit ahead. -/
theorem coded_back (bs ps : Nat → Int) (hp : ∀ i, 1 ≤ ps i ∧ ps i ≤ 4095) (t : ByteArray) (k : Nat)
    (ht : ∀ i, i < (coded bs ps k).1.length → bz t i = (((coded bs ps k).1.getD i 0).toNat : Int))
    (h1 : (coded bs ps k).2.1 ≤ win t (coded bs ps k).1.length) (h2 : win t (coded bs ps k).1.length ≤ (coded bs ps k).2.2) :
    ∀ (d j : Nat), j + d = k → ((coded bs ps j).2.1 ≤ win t (coded bs ps j).1.length ∧ win t (coded bs ps j).1.length ≤ (coded bs ps j).2.2) ∧
      (j < k → (narrow (coded bs ps j).2.1 (coded bs ps j).2.2 (bs j) (ps j)).1 ≤ win t (coded bs ps j).1.length ∧ win t (coded bs ps j).1.length ≤ (narrow (coded bs ps j).2.1 (coded bs ps j).2.2 (bs j) (ps j)).2)
  | 0, j, hj => by
    obtain rfl : j = k := by omega
    exact ⟨⟨h1, h2⟩, fun h => by omega⟩
  | d + 1, j, hj => by
    obtain ⟨⟨i1, i2⟩, _⟩ := coded_back bs ps hp t k ht h1 h2 d (j + 1) (by omega)
    obtain ⟨fb, _⟩ := coded_facts bs ps hp j
    have kk := narrow_in fb (bs j) (ps j) (hp j).1 (hp j).2
    have sub := narrow_sub (bit := bs j) fb (hp j).1 (hp j).2
    obtain ⟨r, hr⟩ := coded_grows bs ps d (j + 1)
    rw [show j + 1 + d = k by omega] at hr
    simp only [coded, List.length_append] at i1 i2
    have key := settle_back t 5 _ _ (coded bs ps j).1.length kk.1 kk.2.1 kk.2.2 (by
      intro i hi
      rw [ht _ (by rw [hr]; simp only [coded, List.length_append]; omega), hr]
      simp only [coded]
      rw [List.append_assoc, List.getD_eq_getElem?_getD, List.getD_eq_getElem?_getD, List.getElem?_append_right (by omega), Nat.add_sub_cancel_left, List.getElem?_append_left hi]) i1 i2
    exact ⟨⟨by omega, by omega⟩, fun _ => key⟩

end Go.Proofs.YtocnlefpbcnlmaaDoor.Coder
