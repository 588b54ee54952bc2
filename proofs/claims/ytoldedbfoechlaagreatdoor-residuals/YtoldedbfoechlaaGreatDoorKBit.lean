/-
  The contract of coder.Bit: what it answers at every coder, bit and chance. Condition: the text is no longer than an int can tell.
-/
import Derived.Test.YtoldedbfoechlaaGreatDoorKSpan
import Derived.RegionTactic
import Derived.Deep.OwnRows
import Derived.Laws.IdiomStrings
import Derived.Laws.BitsAllLaws
namespace Go.Proofs.YtoldedbfoechlaaGreatDoor.Coder
open Go.RowKit Go.Proofs.YtoldedbfoechlaaGreatDoor.Num
set_option linter.unusedVariables false

/-- What Bit answers where the call may be. -/
def bitAns (l h : Int) (s bs : ByteArray) : Value := if s.size + bs.size ≤ 65536 then .tuple #[.agg #[.int .i64 l, .int .i64 h, .string (s ++ bs)], .int .i64 0] else .tuple #[.agg #[.int .i64 0, .int .i64 0, .string ⟨#[]⟩], .int .i64 400]

def lenOf : Value → Nat | .slice _ n _ => n | _ => 0

/-- The bytes told so far lie in block T, with room for four. -/
def Told (w : World) (T : Nat) (bs : List UInt8) : Prop := ∀ i, i < 4 → w.cell? ⟨T, i, none⟩ = some (.int .u8 (((bs.getD i 0).toNat : Nat) : Int)) ∧ w.frozen? ⟨T, i, none⟩ = false

/-- What lies in Bit's variables: c's Out and the result at N, the span at S. -/
structure Cells (w : World) (N S : Nat) (s : ByteArray) (u v : Int) : Prop where
  s0 : w.cell? ⟨S, 0, none⟩ = some (.int .i64 u)
  s1 : w.cell? ⟨S, 1, none⟩ = some (.int .i64 v)
  g0 : w.frozen? ⟨S, 0, none⟩ = false
  g1 : w.frozen? ⟨S, 1, none⟩ = false
  a2 : w.cell? ⟨N, 2, none⟩ = some (.string s)
  c0 : w.cell? ⟨N + 1, 0, none⟩ = some (.int .i64 0)
  c1 : w.cell? ⟨N + 1, 1, none⟩ = some (.int .i64 0)
  c2 : w.cell? ⟨N + 1, 2, none⟩ = some (.string ⟨#[]⟩)
  f0 : w.frozen? ⟨N + 1, 0, none⟩ = false
  f1 : w.frozen? ⟨N + 1, 1, none⟩ = false
  f2 : w.frozen? ⟨N + 1, 2, none⟩ = false

theorem Cells.keep {w w' : World} {N S : Nat} {s : ByteArray} {u v : Int} (C : Cells w N S s u v) (b : Bel w w') : Cells w' N S s u v :=
  ⟨b.keep C.s0, b.keep C.s1, b.free C.s0 C.g0, b.free C.s1 C.g1, b.keep C.a2, b.keep C.c0, b.keep C.c1, b.keep C.c2, b.free C.c0 C.f0, b.free C.c1 C.f1, b.free C.c2 C.f2⟩

/-- Another span is stored. -/
theorem Cells.set {w : World} {N S : Nat} {s : ByteArray} {u v : Int} (C : Cells w N S s u v) (hN : N + 1 < S) (u' v' : Int) : Cells ((w.setCell ⟨S, 0, none⟩ (.int .i64 u')).setCell ⟨S, 1, none⟩ (.int .i64 v')) N S s u' v' := by
  obtain ⟨_, _, r2, r3⟩ := set2 (x := .int .i64 u') (y := .int .i64 v') C.s0 C.s1
  have o : ∀ (B i : Nat), B ≠ S → ((w.setCell ⟨S, 0, none⟩ (.int .i64 u')).setCell ⟨S, 1, none⟩ (.int .i64 v')).cell? ⟨B, i, none⟩ = w.cell? ⟨B, i, none⟩ := fun B i hB => by
    rw [World.cell?_setCell_other (h := by intro k; injection k with k1 _ _; omega), World.cell?_setCell_other (h := by intro k; injection k with k1 _ _; omega)]
  exact ⟨r3, r2, by simp [C.g0], by simp [C.g1], by rw [o _ _ (by omega)]; exact C.a2, by rw [o _ _ (by omega)]; exact C.c0, by rw [o _ _ (by omega)]; exact C.c1, by rw [o _ _ (by omega)]; exact C.c2, by simp [C.f0], by simp [C.f1], by simp [C.f2]⟩

/-- A store into a block that is none of them. -/
theorem Cells.far {w : World} {N S : Nat} {s : ByteArray} {u v : Int} (C : Cells w N S s u v) {a : Addr} (ha : a.block ≠ N) (hb : a.block ≠ N + 1) (hc : a.block ≠ S) (x : Value) : Cells (w.setCell a x) N S s u v := by
  have o : ∀ (B i : Nat), a.block ≠ B → (w.setCell a x).cell? ⟨B, i, none⟩ = w.cell? ⟨B, i, none⟩ := fun B i hB => by
    rw [World.cell?_setCell_other (h := by intro k; exact hB (by rw [k]))]
  exact ⟨by rw [o _ _ hc]; exact C.s0, by rw [o _ _ hc]; exact C.s1, by simp [C.g0], by simp [C.g1], by rw [o _ _ ha]; exact C.a2, by rw [o _ _ hb]; exact C.c0, by rw [o _ _ hb]; exact C.c1, by rw [o _ _ hb]; exact C.c2, by simp [C.f0], by simp [C.f1], by simp [C.f2]⟩

theorem Told.keep {w w' : World} {T : Nat} {bs : List UInt8} (h : Told w T bs) (b : Bel w w') : Told w' T bs := fun i hi => ⟨b.keep (h i hi).1, b.free (h i hi).1 (h i hi).2⟩

theorem Told.far {w : World} {T : Nat} {bs : List UInt8} (h : Told w T bs) {a : Addr} (ha : a.block ≠ T) (x : Value) : Told (w.setCell a x) T bs := fun i hi =>
  ⟨by rw [World.cell?_setCell_other (h := by intro k; exact ha (by rw [k]))]; exact (h i hi).1, by simp [(h i hi).2]⟩

/-- One byte more. -/
theorem Told.more {w : World} {T : Nat} {bs : List UInt8} (h : Told w T bs) {k : Nat} (hk : k < 4) (hl : bs.length = k) (b : UInt8) (x : Int) (hx : x = ((b.toNat : Nat) : Int)) : Told (w.setCell ⟨T, k, none⟩ (.int .u8 x)) T (bs ++ [b]) := by
  intro i hi
  refine ⟨?_, by simp [(h i hi).2]⟩
  by_cases e : k = i
  · subst e
    rw [(World.cell?_setCell_same _ _ (h := (h k hk).1) _), hx]
    simp [← hl]
  · rw [World.cell?_setCell_other (h := by intro k; injection k with _ k2 _; exact e k2), (h i hi).1]
    congr 4
    rcases Nat.lt_or_ge i k with e1 | e1
    · simp [List.getElem?_append_left, hl, e1]
    · have e2 : bs.length ≤ i := by omega
      rw [List.getD_eq_getElem?_getD, List.getD_eq_getElem?_getD, List.getElem?_eq_none e2, List.getElem?_eq_none (by simp; omega)]

/-- The bytes told, as a text. -/
theorem Told.str {w : World} {T : Nat} {bs : List UInt8} (h : Told w T bs) (k : Nat) (hl : bs.length = k) (hk : k ≤ 4) :
    (convert 99 9 (.slice (some ⟨T, 0, none⟩) k 4)).run Tryz.prog w = .ok (.string ⟨bs.toArray⟩) w := by
  subst hl
  exact run_convert_bytes_back (P := Tryz.prog) w 99 9 5 ⟨T, 0, none⟩ 4 bs Tryz.underlying99 Tryz.underlying5 Tryz.underlying9 (fun j hj => by
    have hplain : (⟨T, 0, none⟩ : Addr).add j = ⟨T, j, none⟩ := by unfold Addr.add; split <;> simp_all
    rw [hplain, (h j (by omega)).1]
    simp [hj])

theorem mk04 (w : World) : (Instr.makeSlice 99 (.int .i64 0) (.int .i64 4)).run Tryz.prog w = .ok (.slice (some ⟨w.heap.size, 0, none⟩) 0 4) (w.alloc (.cells #[.int .u8 0, .int .u8 0, .int .u8 0, .int .u8 0] 5)) := by kernel_rfl

set_option maxHeartbeats 2000000 in
theorem bit_may (l h bit p : Int) (s : ByteArray) (hb : Between l h) (hs : s.size ≤ 65536) (hbit : bit = 0 ∨ bit = 1) (h1 : 1 ≤ p) (h2 : p ≤ 4095) (l1 r1 : Int) (bs : List UInt8) (hset : settle 5 (narrow l h bit p).1 (narrow l h bit p).2 = (bs, l1, r1)) (w : World) :
    Calls Tryz.prog 49 #[.agg #[.int .i64 l, .int .i64 h, .string s], .int .i64 bit, .int .i64 p] w fun e w' => e = .returned (bitAns l1 r1 s ⟨bs.toArray⟩) ∧ Bel w w' := by
  have hnar := narrow_ok l h bit p hb h1 h2
  have hin := narrow_in hb bit p h1 h2
  have q1 := may_ok l h s (by unfold maxLen; omega)
  have e1 : mayB l h s = true := decide_eq_true ⟨hb, hs⟩
  have q2 := isBit_ok bit
  have e2 : bitB bit = true := decide_eq_true hbit
  have q3 := isChance_ok p
  have e3 : chanceB p = true := decide_eq_true ⟨h1, h2⟩
  rw [e1] at q1; rw [e2] at q2; rw [e3] at q3
  generalize (narrow l h bit p).1 = x at *
  generalize (narrow l h bit p).2 = y at *
  have QM : Hid (∀ w, Calls Tryz.prog 50 #[.agg #[.int .i64 l, .int .i64 h, .string s]] w fun e w' => e = .returned (.bool true) ∧ Bel w w') := q1
  have QB : Hid (∀ w, Calls Tryz.prog 82 #[.int .i64 bit] w fun e w' => e = .returned (.bool true) ∧ w' = w) := q2
  have QC : Hid (∀ w, Calls Tryz.prog 83 #[.int .i64 p] w fun e w' => e = .returned (.bool true) ∧ w' = w) := q3
  have QN : Hid (∀ w, Calls Tryz.prog 85 #[.agg #[.int .i64 l, .int .i64 h], .int .i64 bit, .int .i64 p] w fun e w' => e = .returned (.agg #[.int .i64 x, .int .i64 y]) ∧ Bel w w') := hnar
  have HI : Hid (0 ≤ x ∧ x ≤ y ∧ y ≤ 4294967295) := hin
  have HS : Hid (settle 5 x y = (bs, l1, r1)) := hset
  clear q1 q2 q3 e1 e2 e3 hnar hin hset
  go_enter Tryz.func49, Tryz.ntmps49
  go_wp2_with fail
  refine (QM.out _).mono ?_
  rintro e w1 ⟨rfl, b1⟩
  have a0 : w1.cell? ⟨w.heap.size, 0, none⟩ = some (.int .i64 l) := b1.keep (by simp)
  have a1 : w1.cell? ⟨w.heap.size, 1, none⟩ = some (.int .i64 h) := b1.keep (by simp)
  have a2 : w1.cell? ⟨w.heap.size, 2, none⟩ = some (.string s) := b1.keep (by simp)
  have c0 : w1.cell? ⟨w.heap.size + 1, 0, none⟩ = some (.int .i64 0) := b1.keep (by simp)
  have c1 : w1.cell? ⟨w.heap.size + 1, 1, none⟩ = some (.int .i64 0) := b1.keep (by simp)
  have c2 : w1.cell? ⟨w.heap.size + 1, 2, none⟩ = some (.string ⟨#[]⟩) := b1.keep (by simp)
  have f0 : w1.frozen? ⟨w.heap.size + 1, 0, none⟩ = false := by rw [b1.frozen (by simp)]; simp
  have f1 : w1.frozen? ⟨w.heap.size + 1, 1, none⟩ = false := by rw [b1.frozen (by simp)]; simp
  have f2 : w1.frozen? ⟨w.heap.size + 1, 2, none⟩ = false := by rw [b1.frozen (by simp)]; simp
  have HB : Hid (Bel w w1) := Bel.trans (((Bel.refl _).alloc _).alloc _) b1
  clear b1
  go_wp2_with fail
  refine (QB.out _).mono ?_
  rintro e w2 ⟨rfl, rfl⟩
  go_wp2_with fail
  refine (QC.out _).mono ?_
  rintro e w3 ⟨rfl, rfl⟩
  go_wp2_with fail
  refine (left_ok l h s _).mono ?_
  rintro e w4 ⟨rfl, b4⟩
  go_wp2_with fail
  refine (QN.out _).mono ?_
  rintro e w5 ⟨rfl, b5⟩
  have b := b4.trans b5
  replace a2 := b.keep a2
  replace f0 := b.free c0 f0
  replace f1 := b.free c1 f1
  replace f2 := b.free c2 f2
  replace c0 := b.keep c0
  replace c1 := b.keep c1
  replace c2 := b.keep c2
  replace HB : Hid (Bel w w5) := HB.out.trans b
  clear a0 a1 b4 b5 b
  have hmk := mk04
  go_wp2_with fail
  go_loopw [9] (fun t wr => ∃ (k : Nat) (u v : Int) (cs : List UInt8), t = .slice (some ⟨w5.heap.size + 1, 0, none⟩) k 4 ∧ Mids x y k u v cs ∧ Told wr (w5.heap.size + 1) cs ∧ Bel w wr ∧ Cells wr w.heap.size w5.heap.size s u v) (fun t _ => 4 - lenOf t)
  case atStart =>
    have bb : Bel w5 ((w5.alloc (.cells #[.int .i64 x, .int .i64 y] 85)).alloc (.cells #[.int .u8 0, .int .u8 0, .int .u8 0, .int .u8 0] 5)) := ((Bel.refl _).alloc _).alloc _
    refine ⟨0, x, y, [], by simp, Mids.start HI.out.1 HI.out.2.1 HI.out.2.2, ?_, HB.out.trans bb, ⟨by simp, by simp, by simp, by simp, bb.keep a2, bb.keep c0, bb.keep c1, bb.keep c2, bb.free c0 f0, bb.free c1 f1, bb.free c2 f2⟩⟩
    intro i hi
    rcases (show i = 0 ∨ i = 1 ∨ i = 2 ∨ i = 3 from by omega) with rfl | rfl | rfl | rfl
    · exact ⟨by simp, by simp⟩
    · exact ⟨by simp, by simp⟩
    · exact ⟨by simp, by simp⟩
    · exact ⟨by simp, by simp⟩
  case round =>
    obtain ⟨k, u, v, cs, rfl, M, told, hbel, C⟩ := hrel
    have hNS : w.heap.size + 1 < w5.heap.size := block_lt_of_cell c0
    clear a2 c0 c1 c2 f0 f1 f2 hmk
    have HBel : Hid (Bel w wr) := hbel
    have HM : Hid (Mids x y k u v cs) := M
    have HT : Hid (Told wr (w5.heap.size + 1) cs) := told
    have HC : Hid (Cells wr w.heap.size w5.heap.size s u v) := C
    have s0 := C.s0
    have s1 := C.s1
    have u0 := M.l0'
    have u1 : u ≤ 4294967295 := Int.le_trans M.lh M.h1
    have v0 : 0 ≤ v := Int.le_trans M.l0' M.lh
    have v1 := M.h1
    clear hbel M told C
    have qs := isSettled_ok u v
    by_cases he : u / 16777216 = v / 16777216
    · rw [show (u / 16777216 == v / 16777216) = true from by simpa using he] at qs
      have QS : Hid (∀ w, Calls Tryz.prog 86 #[.agg #[.int .i64 u, .int .i64 v]] w fun e w' => e = .returned (.bool true) ∧ Bel w w') := qs
      have HE : Hid (u / 16777216 = v / 16777216) := he
      clear qs he
      have hk : k < 4 := HM.out.lt HE.out
      go_wp2_with fail
      refine (QS.out _).mono ?_
      rintro e wa ⟨rfl, ba⟩
      replace s0 := ba.keep s0
      replace s1 := ba.keep s1
      go_wp2_with fail
      refine (settled_ok u v u0 u1 _).mono ?_
      rintro e wb ⟨rfl, bb⟩
      have bab := ba.trans bb
      have HT2 : Hid (Told wb (w5.heap.size + 1) cs) := HT.out.keep bab
      have HC2 : Hid (Cells wb w.heap.size w5.heap.size s u v) := HC.out.keep bab
      have HBel2 : Hid (Bel w wb) := HBel.out.trans bab
      have t0 := (HT2.out k hk).1
      have t1 := (HT2.out k hk).2
      replace s0 := HC2.out.s0
      replace s1 := HC2.out.s1
      have hTlt : w5.heap.size + 1 < wb.heap.size := block_lt_of_cell t0
      clear ba bb bab
      have hx : ((UInt8.ofNat (u / 16777216).toNat).toNat : Int) = u / 16777216 := by
        rw [UInt8.toNat_ofNat', Nat.mod_eq_of_lt (by omega)]; omega
      have b3 : Bel (wb.setCell ⟨w5.heap.size + 1, k, none⟩ (.int .u8 (u / 16777216))) ((wb.setCell ⟨w5.heap.size + 1, k, none⟩ (.int .u8 (u / 16777216))).alloc (.cells #[.int .u8 (u / 16777216)] 5)) := (Bel.refl _).alloc _
      have C3 := (HC2.out.far (a := ⟨w5.heap.size + 1, k, none⟩) (by show w5.heap.size + 1 ≠ _; omega) (by show w5.heap.size + 1 ≠ _; omega) (by show w5.heap.size + 1 ≠ _; omega) (.int .u8 (u / 16777216))).keep b3
      have HT3 : Hid (Told ((wb.setCell ⟨w5.heap.size + 1, k, none⟩ (.int .u8 (u / 16777216))).alloc (.cells #[.int .u8 (u / 16777216)] 5)) (w5.heap.size + 1) (cs ++ [UInt8.ofNat (u / 16777216).toNat])) := (HT2.out.more hk HM.out.len _ _ hx.symm).keep b3
      have HBel3 : Hid (Bel w ((wb.setCell ⟨w5.heap.size + 1, k, none⟩ (.int .u8 (u / 16777216))).alloc (.cells #[.int .u8 (u / 16777216)] 5))) := (HBel2.out.setCell (by show w.heap.size ≤ w5.heap.size + 1; omega) _).trans b3
      have HC3 : Hid (Cells ((wb.setCell ⟨w5.heap.size + 1, k, none⟩ (.int .u8 (u / 16777216))).alloc (.cells #[.int .u8 (u / 16777216)] 5)) w.heap.size w5.heap.size s u v) := C3
      replace s0 := C3.s0
      replace s1 := C3.s1
      clear b3 hx C3
      go_wp2_with fail
      refine (up_ok u v u0 u1 v0 v1 _).mono ?_
      rintro e wc ⟨rfl, bc⟩
      have C4 := HC3.out.keep bc
      have HT4 : Hid (Told wc (w5.heap.size + 1) (cs ++ [UInt8.ofNat (u / 16777216).toNat])) := HT3.out.keep bc
      have HBel4 : Hid (Bel w wc) := HBel3.out.trans bc
      have HC4 : Hid (Cells wc w.heap.size w5.heap.size s u v) := C4
      replace s0 := C4.s0
      replace s1 := C4.s1
      have g0 := C4.g0
      have g1 := C4.g1
      clear bc C4 HT HC HBel HT2 HC2 HBel2 HT3 HC3 HBel3 t0 t1
      have HN := HM.out.next HE.out
      have HN2 : Hid (Mids x y (k + 1) (u * 256 % 4294967296) (v * 256 % 4294967296 + 255) (cs ++ [UInt8.ofNat (u / 16777216).toNat])) := HN
      clear HN
      generalize u * 256 % 4294967296 = u' at *
      generalize v * 256 % 4294967296 + 255 = v' at *
      go_wp2
      go_roundw
      case rel =>
        refine ⟨k + 1, u', v', _, rfl, HN2.out, (HT4.out.far (by show w5.heap.size ≠ _; omega) _).far (by show w5.heap.size ≠ _; omega) _, (HBel4.out.setCell (by show w.heap.size ≤ w5.heap.size; omega) _).setCell (by show w.heap.size ≤ w5.heap.size; omega) _, HC4.out.set (by omega) _ _⟩
      case measure => simp [lenOf]; omega
    · rw [show (u / 16777216 == v / 16777216) = false from by simpa using he] at qs
      have QS : Hid (∀ w, Calls Tryz.prog 86 #[.agg #[.int .i64 u, .int .i64 v]] w fun e w' => e = .returned (.bool false) ∧ Bel w w') := qs
      have hd := HM.out.done he
      rw [HS.out] at hd
      injection hd with hd1 hd2
      injection hd2 with hd2 hd3
      subst hd1 hd2 hd3
      have hk4 := HM.out.le4
      have hlen := HM.out.len
      clear qs he
      go_wp2_with fail
      refine (QS.out _).mono ?_
      rintro e wa ⟨rfl, ba⟩
      have C2 := HC.out.keep ba
      have hstr := (HT.out.keep ba).str k hlen hk4
      have HBel2 : Hid (Bel w wa) := HBel.out.trans ba
      obtain ⟨s0', s1', g0, g1, a2, c0, c1, c2, f0, f1, f2⟩ := C2
      clear s0 s1 ba HT HC HBel
      by_cases hz : s.size + k ≤ 65536
      · have HA : Hid (bitAns l1 r1 s ⟨bs.toArray⟩ = .tuple #[.agg #[.int .i64 l1, .int .i64 r1, .string (s ++ ⟨bs.toArray⟩)], .int .i64 0]) := by
          show _ = _
          rw [bitAns, if_pos (by show s.size + bs.toArray.size ≤ _; simp; omega)]
        have hz' : decide (65536 < (s.size : Int) + (k : Int)) = false := by simp; omega
        go_wp2
        obtain ⟨r0, r1', r2⟩ := set3 (x := .int .i64 l1) (y := .int .i64 r1) (z := .string (s ++ ⟨bs.toArray⟩)) c0 c1 c2
        refine bodyPost_ret (results_coder2 Tryz.results49 rfl rfl r0 r1' r2) rfl ⟨congrArg Ending.returned HA.out.symm, ?_⟩
        exact ((HBel2.out.setCell (by show w.heap.size ≤ w.heap.size + 1; omega) _).setCell (by show w.heap.size ≤ w.heap.size + 1; omega) _).setCell (by show w.heap.size ≤ w.heap.size + 1; omega) _
      · have HA : Hid (bitAns l1 r1 s ⟨bs.toArray⟩ = .tuple #[.agg #[.int .i64 0, .int .i64 0, .string ⟨#[]⟩], .int .i64 400]) := by
          show _ = _
          rw [bitAns, if_neg (by show ¬ s.size + bs.toArray.size ≤ _; simp; omega)]
        have hz' : decide (65536 < (s.size : Int) + (k : Int)) = true := by simp; omega
        go_wp2
        obtain ⟨r0, r1', r2⟩ := set3 (x := .int .i64 0) (y := .int .i64 0) (z := .string ⟨#[]⟩) c0 c1 c2
        refine bodyPost_ret (results_coder2 Tryz.results49 rfl rfl r0 r1' r2) rfl ⟨congrArg Ending.returned HA.out.symm, ?_⟩
        exact ((HBel2.out.setCell (by show w.heap.size ≤ w.heap.size + 1; omega) _).setCell (by show w.heap.size ≤ w.heap.size + 1; omega) _).setCell (by show w.heap.size ≤ w.heap.size + 1; omega) _

def errV : Value := .tuple #[.agg #[.int .i64 0, .int .i64 0, .string ⟨#[]⟩], .int .i64 400]

/-- What Bit answers. -/
def codeBit (l h bit p : Int) (s : ByteArray) : Value :=
  if mayB l h s = true ∧ bitB bit = true ∧ chanceB p = true then bitAns (settle 5 (narrow l h bit p).1 (narrow l h bit p).2).2.1 (settle 5 (narrow l h bit p).1 (narrow l h bit p).2).2.2 s ⟨(settle 5 (narrow l h bit p).1 (narrow l h bit p).2).1.toArray⟩ else errV

set_option maxHeartbeats 1000000 in
theorem bit_no_may (l h bit p : Int) (s : ByteArray) (hs : s.size ≤ maxLen) (hm : mayB l h s = false) (w : World) :
    Calls Tryz.prog 49 #[.agg #[.int .i64 l, .int .i64 h, .string s], .int .i64 bit, .int .i64 p] w fun e w' => e = .returned errV ∧ Bel w w' := by
  have q1 := may_ok l h s hs
  rw [hm] at q1
  have QM : Hid (∀ w, Calls Tryz.prog 50 #[.agg #[.int .i64 l, .int .i64 h, .string s]] w fun e w' => e = .returned (.bool false) ∧ Bel w w') := q1
  clear q1 hm
  go_enter Tryz.func49, Tryz.ntmps49
  go_wp2_with fail
  refine (QM.out _).mono ?_
  rintro e w1 ⟨rfl, b1⟩
  have c0 : w1.cell? ⟨w.heap.size + 1, 0, none⟩ = some (.int .i64 0) := b1.keep (by simp)
  have c1 : w1.cell? ⟨w.heap.size + 1, 1, none⟩ = some (.int .i64 0) := b1.keep (by simp)
  have c2 : w1.cell? ⟨w.heap.size + 1, 2, none⟩ = some (.string ⟨#[]⟩) := b1.keep (by simp)
  have f0 : w1.frozen? ⟨w.heap.size + 1, 0, none⟩ = false := by rw [b1.frozen (by simp)]; simp
  have f1 : w1.frozen? ⟨w.heap.size + 1, 1, none⟩ = false := by rw [b1.frozen (by simp)]; simp
  have f2 : w1.frozen? ⟨w.heap.size + 1, 2, none⟩ = false := by rw [b1.frozen (by simp)]; simp
  have HB : Hid (Bel w w1) := Bel.trans (((Bel.refl _).alloc _).alloc _) b1
  clear b1
  go_wp2
  obtain ⟨r0, r1, r2⟩ := set3 (x := .int .i64 0) (y := .int .i64 0) (z := .string ⟨#[]⟩) c0 c1 c2
  refine bodyPost_ret (results_coder2 Tryz.results49 rfl rfl r0 r1 r2) rfl ⟨rfl, ?_⟩
  exact ((HB.out.setCell (by show w.heap.size ≤ w.heap.size + 1; omega) _).setCell (by show w.heap.size ≤ w.heap.size + 1; omega) _).setCell (by show w.heap.size ≤ w.heap.size + 1; omega) _

set_option maxHeartbeats 1000000 in
theorem bit_no_bit (l h bit p : Int) (s : ByteArray) (hs : s.size ≤ maxLen) (hm : mayB l h s = true) (hb : bitB bit = false) (w : World) :
    Calls Tryz.prog 49 #[.agg #[.int .i64 l, .int .i64 h, .string s], .int .i64 bit, .int .i64 p] w fun e w' => e = .returned errV ∧ Bel w w' := by
  have q1 := may_ok l h s hs
  rw [hm] at q1
  have q2 := isBit_ok bit
  rw [hb] at q2
  have QM : Hid (∀ w, Calls Tryz.prog 50 #[.agg #[.int .i64 l, .int .i64 h, .string s]] w fun e w' => e = .returned (.bool true) ∧ Bel w w') := q1
  have QB : Hid (∀ w, Calls Tryz.prog 82 #[.int .i64 bit] w fun e w' => e = .returned (.bool false) ∧ w' = w) := q2
  clear q1 q2 hm hb
  go_enter Tryz.func49, Tryz.ntmps49
  go_wp2_with fail
  refine (QM.out _).mono ?_
  rintro e w1 ⟨rfl, b1⟩
  have c0 : w1.cell? ⟨w.heap.size + 1, 0, none⟩ = some (.int .i64 0) := b1.keep (by simp)
  have c1 : w1.cell? ⟨w.heap.size + 1, 1, none⟩ = some (.int .i64 0) := b1.keep (by simp)
  have c2 : w1.cell? ⟨w.heap.size + 1, 2, none⟩ = some (.string ⟨#[]⟩) := b1.keep (by simp)
  have f0 : w1.frozen? ⟨w.heap.size + 1, 0, none⟩ = false := by rw [b1.frozen (by simp)]; simp
  have f1 : w1.frozen? ⟨w.heap.size + 1, 1, none⟩ = false := by rw [b1.frozen (by simp)]; simp
  have f2 : w1.frozen? ⟨w.heap.size + 1, 2, none⟩ = false := by rw [b1.frozen (by simp)]; simp
  have HB : Hid (Bel w w1) := Bel.trans (((Bel.refl _).alloc _).alloc _) b1
  clear b1
  go_wp2_with fail
  refine (QB.out _).mono ?_
  rintro e w2 ⟨rfl, rfl⟩
  go_wp2
  obtain ⟨r0, r1, r2⟩ := set3 (x := .int .i64 0) (y := .int .i64 0) (z := .string ⟨#[]⟩) c0 c1 c2
  refine bodyPost_ret (results_coder2 Tryz.results49 rfl rfl r0 r1 r2) rfl ⟨rfl, ?_⟩
  exact ((HB.out.setCell (by show w.heap.size ≤ w.heap.size + 1; omega) _).setCell (by show w.heap.size ≤ w.heap.size + 1; omega) _).setCell (by show w.heap.size ≤ w.heap.size + 1; omega) _

set_option maxHeartbeats 1000000 in
theorem bit_no_chance (l h bit p : Int) (s : ByteArray) (hs : s.size ≤ maxLen) (hm : mayB l h s = true) (hb : bitB bit = true) (hp : chanceB p = false) (w : World) :
    Calls Tryz.prog 49 #[.agg #[.int .i64 l, .int .i64 h, .string s], .int .i64 bit, .int .i64 p] w fun e w' => e = .returned errV ∧ Bel w w' := by
  have q1 := may_ok l h s hs
  rw [hm] at q1
  have q2 := isBit_ok bit
  rw [hb] at q2
  have q3 := isChance_ok p
  rw [hp] at q3
  have QM : Hid (∀ w, Calls Tryz.prog 50 #[.agg #[.int .i64 l, .int .i64 h, .string s]] w fun e w' => e = .returned (.bool true) ∧ Bel w w') := q1
  have QB : Hid (∀ w, Calls Tryz.prog 82 #[.int .i64 bit] w fun e w' => e = .returned (.bool true) ∧ w' = w) := q2
  have QC : Hid (∀ w, Calls Tryz.prog 83 #[.int .i64 p] w fun e w' => e = .returned (.bool false) ∧ w' = w) := q3
  clear q1 q2 q3 hm hb hp
  go_enter Tryz.func49, Tryz.ntmps49
  go_wp2_with fail
  refine (QM.out _).mono ?_
  rintro e w1 ⟨rfl, b1⟩
  have c0 : w1.cell? ⟨w.heap.size + 1, 0, none⟩ = some (.int .i64 0) := b1.keep (by simp)
  have c1 : w1.cell? ⟨w.heap.size + 1, 1, none⟩ = some (.int .i64 0) := b1.keep (by simp)
  have c2 : w1.cell? ⟨w.heap.size + 1, 2, none⟩ = some (.string ⟨#[]⟩) := b1.keep (by simp)
  have f0 : w1.frozen? ⟨w.heap.size + 1, 0, none⟩ = false := by rw [b1.frozen (by simp)]; simp
  have f1 : w1.frozen? ⟨w.heap.size + 1, 1, none⟩ = false := by rw [b1.frozen (by simp)]; simp
  have f2 : w1.frozen? ⟨w.heap.size + 1, 2, none⟩ = false := by rw [b1.frozen (by simp)]; simp
  have HB : Hid (Bel w w1) := Bel.trans (((Bel.refl _).alloc _).alloc _) b1
  clear b1
  go_wp2_with fail
  refine (QB.out _).mono ?_
  rintro e w2 ⟨rfl, rfl⟩
  go_wp2_with fail
  refine (QC.out _).mono ?_
  rintro e w3 ⟨rfl, rfl⟩
  go_wp2
  obtain ⟨r0, r1, r2⟩ := set3 (x := .int .i64 0) (y := .int .i64 0) (z := .string ⟨#[]⟩) c0 c1 c2
  refine bodyPost_ret (results_coder2 Tryz.results49 rfl rfl r0 r1 r2) rfl ⟨rfl, ?_⟩
  exact ((HB.out.setCell (by show w.heap.size ≤ w.heap.size + 1; omega) _).setCell (by show w.heap.size ≤ w.heap.size + 1; omega) _).setCell (by show w.heap.size ≤ w.heap.size + 1; omega) _

theorem bit_ok (l h bit p : Int) (s : ByteArray) (hs : s.size ≤ maxLen) (w : World) :
    Calls Tryz.prog 49 #[.agg #[.int .i64 l, .int .i64 h, .string s], .int .i64 bit, .int .i64 p] w fun e w' => e = .returned (codeBit l h bit p s) ∧ Bel w w' := by
  cases hm : mayB l h s with
  | false => rw [codeBit, if_neg (by rw [hm]; simp)]; exact bit_no_may l h bit p s hs hm w
  | true => cases hb : bitB bit with
    | false => rw [codeBit, if_neg (by rw [hb]; simp)]; exact bit_no_bit l h bit p s hs hm hb w
    | true => cases hp : chanceB p with
      | false => rw [codeBit, if_neg (by rw [hp]; simp)]; exact bit_no_chance l h bit p s hs hm hb hp w
      | true =>
        rw [codeBit, if_pos ⟨hm, hb, hp⟩]
        have m := of_decide_eq_true hm
        have b := of_decide_eq_true hb
        have c := of_decide_eq_true hp
        exact bit_may l h bit p s m.1 m.2 b c.1 c.2 _ _ _ rfl w

end Go.Proofs.YtoldedbfoechlaaGreatDoor.Coder
