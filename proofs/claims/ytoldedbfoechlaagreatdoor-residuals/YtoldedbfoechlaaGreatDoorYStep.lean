/-
  Plain facts on rows of bits: a decoder's step at a text's place, a coder's step, and that a coder's end is decoded to its bits. No condition.
-/
import Derived.Test.YtoldedbfoechlaaGreatDoorYBit
namespace Go.Proofs.YtoldedbfoechlaaGreatDoor.Deco
open Go.Proofs.YtoldedbfoechlaaGreatDoor.Coder Go.RowKit Go.Proofs.YtoldedbfoechlaaGreatDoor.Num
set_option linter.unusedVariables false

theorem dand1 (n : Int) : bits .and .i64 n 1 = n % 2 := and_mask 1 1 (by decide) (by decide) n

theorem and4094 (n : Int) : 0 ≤ bits .and .i64 n 4094 ∧ bits .and .i64 n 4094 ≤ 4094 := by
  have hc : (BitVec.ofInt 64 (4094 : Int)).toNat = 4094 := by decide
  have key : (BitVec.ofInt 64 n &&& BitVec.ofInt 64 (4094 : Int)).toNat ≤ 4094 := by
    rw [BitVec.toNat_and, hc]
    exact Nat.and_le_right
  show 0 ≤ IntKind.i64.wrap ((BitVec.ofInt 64 n &&& BitVec.ofInt 64 (4094 : Int)).toNat : Nat) ∧ IntKind.i64.wrap ((BitVec.ofInt 64 n &&& BitVec.ofInt 64 (4094 : Int)).toNat : Nat) ≤ 4094
  rw [IntKind.wrap_i64]
  omega

/-- The chance that a number of the row tells. -/
def chOf (n : Int) : Int := 1 + bits .and .i64 n 4094

theorem chOf_in (n : Int) : 1 ≤ chOf n ∧ chOf n ≤ 4095 := by
  have := and4094 n
  unfold chOf
  omega

/-- A decoder's step at the place q of a text. -/
theorem dec_step {l h p : Int} {s : ByteArray} {q : Nat} (hb : Between l h) (h1 : l ≤ win s q) (h2 : win s q ≤ h) (hs : s.size ≤ 65536) (hq : q ≤ 60000) (hp : 1 ≤ p ∧ p ≤ 4095) :
    ∃ (cs : List UInt8) (u v : Int), Coder.settle 5 (narrow l h (bitOf l h (win s q) p) p).1 (narrow l h (bitOf l h (win s q) p) p).2 = (cs, u, v) ∧
      decBit l h (win s q) s ((q + 4 : Nat) : Int) p = .tuple #[.agg #[.int .i64 u, .int .i64 v, .int .i64 (win s (q + cs.length)), .string s, .int .i64 ((q + cs.length + 4 : Nat) : Int)], .int .i64 (bitOf l h (win s q) p), .int .i64 0] ∧
      Between u v ∧ u ≤ win s (q + cs.length) ∧ win s (q + cs.length) ≤ v ∧ cs.length ≤ 4 ∧ ∀ i, i < cs.length → ((cs.getD i 0).toNat : Int) = bz s (q + i) := by
  obtain ⟨cs, u, v, he⟩ : ∃ (cs : List UInt8) (u v : Int), Coder.settle 5 (narrow l h (bitOf l h (win s q) p) p).1 (narrow l h (bitOf l h (win s q) p) p).2 = (cs, u, v) := ⟨_, _, _, rfl⟩
  have k := narrow_in hb (bitOf l h (win s q) p) p hp.1 hp.2
  have f := settle_facts k.1 k.2.1 k.2.2
  obtain ⟨n1, n2⟩ := narrow_now (p := p) h1 h2
  have sn := settle_now s 5 _ _ (win s q) (q + 4) k.1 k.2.2 n1 n2
  have so := settle_own s 5 _ _ q k.1 k.2.2 n1 n2
  rw [nowAt_win] at sn
  rw [he] at f sn so
  refine ⟨cs, u, v, he, ?_, f.2, sn.1, sn.2, f.1, so⟩
  have f1 : cs.length ≤ 4 := f.1
  rw [decBit, if_pos ⟨decide_eq_true ⟨hb, h1, h2, hs, by omega, by omega⟩, decide_eq_true hp⟩, he, decAns, if_pos (by simp only; omega), Int.toNat_natCast, nowAt_win]
  rw [show ((q + 4 : Nat) : Int) + (((cs, u, v) : List UInt8 × Int × Int).1.length : Nat) = ((q + cs.length + 4 : Nat) : Int) by simp only; omega]

theorem app_mk (a b : List UInt8) : (⟨a.toArray⟩ : ByteArray) ++ ⟨b.toArray⟩ = ⟨(a ++ b).toArray⟩ := by
  apply ByteArray.ext
  simp [ByteArray.data_append]

theorem mk_size (a : List UInt8) : (⟨a.toArray⟩ : ByteArray).size = a.length := by
  show a.toArray.size = _
  simp

/-- A coder's step. -/
theorem cod_step {l h bit p : Int} {os cs : List UInt8} {u v : Int} (hb : Between l h) (hs : os.length ≤ 60000) (hbit : bit = 0 ∨ bit = 1) (hp : 1 ≤ p ∧ p ≤ 4095) (he : Coder.settle 5 (narrow l h bit p).1 (narrow l h bit p).2 = (cs, u, v)) :
    codeBit l h bit p ⟨os.toArray⟩ = .tuple #[.agg #[.int .i64 u, .int .i64 v, .string ⟨(os ++ cs).toArray⟩], .int .i64 0] := by
  have n := narrow_in hb bit p hp.1 hp.2
  obtain ⟨f1, f2⟩ := settle_facts n.1 n.2.1 n.2.2
  have z := mk_size os
  rw [codeBit, if_pos ⟨decide_eq_true ⟨hb, by omega⟩, decide_eq_true hbit, decide_eq_true hp⟩]
  rw [he] at f1 ⊢
  have z2 := mk_size cs
  rw [bitAns, if_pos (by simp only at f1 ⊢; omega), app_mk]

theorem coded_step (bs ps : Nat → Int) (hp : ∀ i, 1 ≤ ps i ∧ ps i ≤ 4095) (hbit : ∀ i, bs i = 0 ∨ bs i = 1) (j : Nat) (hj : j ≤ 60) :
    codeBit (coded bs ps j).2.1 (coded bs ps j).2.2 (bs j) (ps j) ⟨(coded bs ps j).1.toArray⟩ = .tuple #[.agg #[.int .i64 (coded bs ps (j + 1)).2.1, .int .i64 (coded bs ps (j + 1)).2.2, .string ⟨(coded bs ps (j + 1)).1.toArray⟩], .int .i64 0] := by
  obtain ⟨f1, f2⟩ := coded_facts bs ps hp j
  exact cod_step f1 (by omega) (hbit j) (hp j) rfl

/-- What End tells of them. -/
def txt (bs ps : Nat → Int) (k : Nat) : ByteArray := ⟨(coded bs ps k).1.toArray⟩ ++ four (coded bs ps k).2.1

theorem bz_left (L : List UInt8) (r : ByteArray) (i : Nat) (h : i < L.length) : bz (⟨L.toArray⟩ ++ r) i = ((L.getD i 0).toNat : Int) := by
  unfold bz
  rw [ByteArray.data_append]
  simp only [Array.toList_append]
  rw [List.getD_eq_getElem?_getD, List.getElem?_append_left h, List.getD_eq_getElem?_getD]

theorem bz_right (L : List UInt8) (r : ByteArray) (i : Nat) : bz (⟨L.toArray⟩ ++ r) (L.length + i) = bz r i := by
  unfold bz
  rw [ByteArray.data_append]
  simp only [Array.toList_append]
  rw [List.getD_eq_getElem?_getD, List.getElem?_append_right (by omega), Nat.add_sub_cancel_left, List.getD_eq_getElem?_getD]

theorem win_four (L : List UInt8) (l : Int) (h0 : 0 ≤ l) (h1 : l ≤ 4294967295) : win (⟨L.toArray⟩ ++ four l) L.length = l := by
  unfold win
  have e0 : bz (⟨L.toArray⟩ ++ four l) L.length = bz (four l) 0 := bz_right L (four l) 0
  rw [e0, bz_right, bz_right, bz_right]
  have c : ∀ x : Int, 0 ≤ x → x ≤ 255 → (((UInt8.ofNat x.toNat).toNat : Nat) : Int) = x := fun x a b => by
    rw [UInt8.toNat_ofNat', Nat.mod_eq_of_lt (by omega)]; omega
  have b0 : bz (four l) 0 = l / 16777216 := c (l / 16777216) (by omega) (by omega)
  have b1 : bz (four l) 1 = l / 65536 % 256 := c (l / 65536 % 256) (by omega) (by omega)
  have b2 : bz (four l) 2 = l / 256 % 256 := c (l / 256 % 256) (by omega) (by omega)
  have b3 : bz (four l) 3 = l % 256 := c (l % 256) (by omega) (by omega)
  rw [b0, b1, b2, b3]
  omega

theorem txt_size (bs ps : Nat → Int) (hp : ∀ i, 1 ≤ ps i ∧ ps i ≤ 4095) (k : Nat) (hk : k ≤ 60) : (txt bs ps k).size ≤ 244 := by
  obtain ⟨_, f2⟩ := coded_facts bs ps hp k
  unfold txt
  rw [ByteArray.size_append, mk_size]
  have : (four (coded bs ps k).2.1).size = 4 := strOfNums_size _
  omega

/-- T1 for the coder and its decoder: the text decodes to the bits, one after the other. -/
theorem back_step (bs ps : Nat → Int) (hp : ∀ i, 1 ≤ ps i ∧ ps i ≤ 4095) (hbit : ∀ i, bs i = 0 ∨ bs i = 1) (k : Nat) (hk : k ≤ 60) (j : Nat) (hj : j < k) :
    decBit (coded bs ps j).2.1 (coded bs ps j).2.2 (win (txt bs ps k) (coded bs ps j).1.length) (txt bs ps k) (((coded bs ps j).1.length + 4 : Nat) : Int) (ps j) =
      .tuple #[.agg #[.int .i64 (coded bs ps (j + 1)).2.1, .int .i64 (coded bs ps (j + 1)).2.2, .int .i64 (win (txt bs ps k) (coded bs ps (j + 1)).1.length), .string (txt bs ps k), .int .i64 (((coded bs ps (j + 1)).1.length + 4 : Nat) : Int)], .int .i64 (bs j), .int .i64 0] := by
  obtain ⟨fk, fk2⟩ := coded_facts bs ps hp k
  obtain ⟨fj, fj2⟩ := coded_facts bs ps hp j
  have hw : win (txt bs ps k) (coded bs ps k).1.length = (coded bs ps k).2.1 := by
    obtain ⟨c0, c1, c2⟩ := fk
    exact win_four _ _ c0 (by omega)
  have hz := txt_size bs ps hp k hk
  obtain ⟨⟨i1, i2⟩, i3⟩ := coded_back bs ps hp (txt bs ps k) k (fun i hi => bz_left _ _ i hi) (by rw [hw]; exact Int.le_refl _) (by rw [hw]; obtain ⟨c0, c1, c2⟩ := fk; omega) (k - j) j (by omega)
  obtain ⟨n1, n2⟩ := i3 hj
  have hbo := bitOf_narrow (hbit j) n1 n2
  obtain ⟨cs, u, v, he, hd, _⟩ := dec_step fj i1 i2 (by omega) (by omega) (hp j)
  rw [hd, hbo]
  rw [hbo] at he
  have c1 : (coded bs ps (j + 1)).1 = (coded bs ps j).1 ++ cs := by rw [coded, he]
  have c2 : (coded bs ps (j + 1)).2 = (u, v) := by rw [coded, he]
  rw [c1, c2, List.length_append]

end Go.Proofs.YtoldedbfoechlaaGreatDoor.Deco
