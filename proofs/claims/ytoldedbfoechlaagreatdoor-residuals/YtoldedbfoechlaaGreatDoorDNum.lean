/-
  Plain facts on a decoder: the number that its next four bytes tell, how it goes up a byte, that it stays within what is left; what a coder's bits leave, and that its end is decoded to them. No condition.
-/
import Derived.Test.YtoldedbfoechlaaGreatDoorKNum
namespace Go.Proofs.YtoldedbfoechlaaGreatDoor.Coder
open Go.RowKit
set_option linter.unusedVariables false

/-- A text's byte at k; 0 behind its end. -/
def bz (s : ByteArray) (k : Nat) : Int := ((s.data.toList.getD k 0).toNat : Nat)

theorem bz_bounds (s : ByteArray) (k : Nat) : 0 ≤ bz s k ∧ bz s k ≤ 255 := by
  unfold bz
  have := (s.data.toList.getD k 0).toNat_lt
  omega

theorem bz_out (s : ByteArray) (k : Nat) (h : s.size ≤ k) : bz s k = 0 := by
  unfold bz
  have : s.data.toList.length ≤ k := by simpa using h
  rw [List.getD_eq_getElem?_getD, List.getElem?_eq_none this]
  rfl

/-- Now behind k bytes more. -/
def nowAt (s : ByteArray) (x : Int) (a : Nat) : Nat → Int
  | 0 => x
  | n + 1 => nowAt s x a n * 256 % 4294967296 + bz s (a + n)

theorem nowAt_in (s : ByteArray) (x : Int) (a : Nat) (h0 : 0 ≤ x) (h1 : x ≤ 4294967295) : ∀ n, 0 ≤ nowAt s x a n ∧ nowAt s x a n ≤ 4294967295
  | 0 => ⟨h0, h1⟩
  | n + 1 => by
    have hb := bz_bounds s (a + n)
    unfold nowAt
    omega

/-- The number that four bytes tell. -/
def win (s : ByteArray) (k : Nat) : Int := bz s k * 16777216 + bz s (k + 1) * 65536 + bz s (k + 2) * 256 + bz s (k + 3)

theorem win_in (s : ByteArray) (k : Nat) : 0 ≤ win s k ∧ win s k ≤ 4294967295 := by
  have h0 := bz_bounds s k
  have h1 := bz_bounds s (k + 1)
  have h2 := bz_bounds s (k + 2)
  have h3 := bz_bounds s (k + 3)
  unfold win
  omega

theorem win_next (s : ByteArray) (k : Nat) : win s k * 256 % 4294967296 + bz s (k + 4) = win s (k + 1) := by
  have h0 := bz_bounds s k
  have h1 := bz_bounds s (k + 1)
  have h2 := bz_bounds s (k + 2)
  have h3 := bz_bounds s (k + 3)
  unfold win
  simp only [Nat.add_assoc, Nat.reduceAdd]
  omega

theorem nowAt_win (s : ByteArray) (k : Nat) : ∀ n, nowAt s (win s k) (k + 4) n = win s (k + n)
  | 0 => rfl
  | n + 1 => by
    unfold nowAt
    rw [nowAt_win s k n, show k + 4 + n = k + n + 4 by omega, win_next]
    rfl

theorem win_top (s : ByteArray) (k : Nat) : win s k / 16777216 = bz s k := by
  have h0 := bz_bounds s k
  have h1 := bz_bounds s (k + 1)
  have h2 := bz_bounds s (k + 2)
  have h3 := bz_bounds s (k + 3)
  unfold win
  omega

/-- Now at the start. -/
theorem now_four (s : ByteArray) : nowAt s 0 0 4 = win s 0 := by
  have h0 := bz_bounds s 0
  have h1 := bz_bounds s 1
  have h2 := bz_bounds s 2
  have h3 := bz_bounds s 3
  simp only [nowAt, win, Nat.zero_add]
  omega

/-- A round keeps Now between both. -/
theorem in_next {u v x b : Int} (h0 : 0 ≤ u) (h1 : v ≤ 4294967295) (hu : u ≤ x) (hv : x ≤ v) (e : u / 16777216 = v / 16777216) (b0 : 0 ≤ b) (b1 : b ≤ 255) :
    u * 256 % 4294967296 ≤ x * 256 % 4294967296 + b ∧ x * 256 % 4294967296 + b ≤ v * 256 % 4294967296 + 255 := by
  have hx : u / 16777216 = x / 16777216 := by omega
  omega

/-- The walk through 'settle' with Now beside it. -/
theorem settle_now (s : ByteArray) : ∀ (n : Nat) (u v x : Int) (a : Nat), 0 ≤ u → v ≤ 4294967295 → u ≤ x → x ≤ v →
    (settle n u v).2.1 ≤ nowAt s x a (settle n u v).1.length ∧ nowAt s x a (settle n u v).1.length ≤ (settle n u v).2.2
  | 0, u, v, x, a, h0, h1, hu, hv => ⟨hu, hv⟩
  | n + 1, u, v, x, a, h0, h1, hu, hv => by
    rw [settle]
    split
    · next e =>
      have hb := bz_bounds s a
      obtain ⟨k1, k2⟩ := in_next h0 h1 hu hv e hb.1 hb.2
      have hl : v * 256 % 4294967296 + 255 ≤ 4294967295 := by omega
      have ih := settle_now s n _ _ _ (a + 1) (by omega) hl k1 k2
      have e1 : ∀ m, nowAt s (x * 256 % 4294967296 + bz s a) (a + 1) m = nowAt s x a (m + 1) := by
        intro m
        induction m with
        | zero => rfl
        | succ m ih =>
          rw [nowAt, ih]
          show _ = nowAt s x a (m + 1) * 256 % 4294967296 + bz s (a + (m + 1))
          rw [show a + 1 + m = a + (m + 1) by omega]
      rw [e1] at ih
      simpa using ih
    · exact ⟨hu, hv⟩

/-- The bytes that are settled while Now is between both are Now's own, one after the other. -/
theorem settle_own (s : ByteArray) : ∀ (n : Nat) (u v : Int) (a : Nat), 0 ≤ u → v ≤ 4294967295 → u ≤ win s a → win s a ≤ v →
    ∀ i, i < (settle n u v).1.length → (((settle n u v).1.getD i 0).toNat : Int) = bz s (a + i) := by
  intro n
  induction n with
  | zero => intro u v a h0 h1 hu hv i hi; simp [settle] at hi
  | succ n ihn =>
    intro u v a h0 h1 hu hv i hi
    rw [settle] at hi ⊢
    split at hi
    · next e =>
      rw [if_pos e]
      have hb := bz_bounds s (a + 4)
      obtain ⟨k1, k2⟩ := in_next h0 h1 hu hv e hb.1 hb.2
      rw [win_next] at k1 k2
      have ih := ihn _ _ (a + 1) (by omega) (by omega) k1 k2
      have hw := win_top s a
      have hb0 := bz_bounds s a
      match i, hi with
      | 0, _ =>
        have ht : u / 16777216 = bz s a := by omega
        rw [ht]
        simp only [List.getD_cons_zero, Nat.add_zero]
        rw [UInt8.toNat_ofNat', Nat.mod_eq_of_lt (by omega)]
        omega
      | i + 1, hi =>
        have := ih i (by simpa using hi)
        rw [show a + 1 + i = a + (i + 1) by omega] at this
        simpa using this
    · next e => simp at hi

/-- Backwards: where the text goes on with the bytes that are settled, and is between what is left behind them, it was between both ahead of them. -/
theorem settle_back (s : ByteArray) : ∀ (n : Nat) (u v : Int) (a : Nat), 0 ≤ u → u ≤ v → v ≤ 4294967295 →
    (∀ i, i < (settle n u v).1.length → (((settle n u v).1.getD i 0).toNat : Int) = bz s (a + i)) →
    (settle n u v).2.1 ≤ win s (a + (settle n u v).1.length) → win s (a + (settle n u v).1.length) ≤ (settle n u v).2.2 → u ≤ win s a ∧ win s a ≤ v := by
  intro n
  induction n with
  | zero => intro u v a h0 hl h1 hb hu hv; exact ⟨hu, hv⟩
  | succ n ihn =>
    intro u v a h0 hl h1 hb hu hv
    rw [settle] at hb hu hv
    split at hb
    · next e =>
      rw [if_pos e] at hu hv
      have hb0 := hb 0 (by simp)
      have ih := ihn (u * 256 % 4294967296) (v * 256 % 4294967296 + 255) (a + 1) (by omega) (by omega) (by omega) (by
        intro i hi
        have := hb (i + 1) (by simpa using hi)
        rw [show a + 1 + i = a + (i + 1) by omega]
        simpa using this) (by
        rw [show a + 1 + (settle n (u * 256 % 4294967296) (v * 256 % 4294967296 + 255)).1.length = a + ((settle n (u * 256 % 4294967296) (v * 256 % 4294967296 + 255)).1.length + 1) by omega]
        simpa using hu) (by
        rw [show a + 1 + (settle n (u * 256 % 4294967296) (v * 256 % 4294967296 + 255)).1.length = a + ((settle n (u * 256 % 4294967296) (v * 256 % 4294967296 + 255)).1.length + 1) by omega]
        simpa using hv)
      have hw := win_top s a
      have hn := win_next s a
      have hb4 := bz_bounds s (a + 4)
      have hbz := bz_bounds s a
      have hin := win_in s a
      simp only [List.getD_cons_zero, Nat.add_zero] at hb0
      rw [UInt8.toNat_ofNat', Nat.mod_eq_of_lt (by omega)] at hb0
      generalize win s a = W at *
      generalize win s (a + 1) = W1 at *
      omega
    · next e =>
      rw [if_neg e] at hu hv
      exact ⟨hu, hv⟩

/-- The bit that Now tells. -/
def bitOf (l h x p : Int) : Int := if x ≤ mid l h p then 1 else 0

theorem narrow_now {l h x p : Int} (hl : l ≤ x) (hh : x ≤ h) : (narrow l h (bitOf l h x p) p).1 ≤ x ∧ x ≤ (narrow l h (bitOf l h x p) p).2 := by
  unfold narrow bitOf
  by_cases e : x ≤ mid l h p
  · simp [e, hl]
  · simp [e, hh]
    omega

/-- Now between what a bit leaves tells that bit. -/
theorem bitOf_narrow {l h x p bit : Int} (hb : bit = 0 ∨ bit = 1) (h1 : (narrow l h bit p).1 ≤ x) (h2 : x ≤ (narrow l h bit p).2) : bitOf l h x p = bit := by
  unfold narrow at h1 h2
  unfold bitOf
  rcases hb with rfl | rfl
  · simp at h1 h2
    rw [if_neg (by omega)]
  · simp at h1 h2
    rw [if_pos h2]

theorem narrow_sub {l h bit p : Int} (b : Between l h) (h1 : 1 ≤ p) (h2 : p ≤ 4095) : l ≤ (narrow l h bit p).1 ∧ (narrow l h bit p).2 ≤ h := by
  obtain ⟨b0, b1, b2⟩ := b
  obtain ⟨f1, f2, f3, f4, f5⟩ := mid_facts (h - l) p h1 h2 (by omega) (by omega)
  unfold narrow mid
  split
  · simp only; omega
  · simp only; omega

/-- A coder behind some bits: Low, High, the bytes told. -/
def coded (bs ps : Nat → Int) : Nat → List UInt8 × Int × Int
  | 0 => ([], 0, 4294967295)
  | n + 1 => ((coded bs ps n).1 ++ (settle 5 (narrow (coded bs ps n).2.1 (coded bs ps n).2.2 (bs n) (ps n)).1 (narrow (coded bs ps n).2.1 (coded bs ps n).2.2 (bs n) (ps n)).2).1,
      (settle 5 (narrow (coded bs ps n).2.1 (coded bs ps n).2.2 (bs n) (ps n)).1 (narrow (coded bs ps n).2.1 (coded bs ps n).2.2 (bs n) (ps n)).2).2)

theorem coded_facts (bs ps : Nat → Int) (hp : ∀ i, 1 ≤ ps i ∧ ps i ≤ 4095) : ∀ n, Between (coded bs ps n).2.1 (coded bs ps n).2.2 ∧ (coded bs ps n).1.length ≤ 4 * n
  | 0 => ⟨⟨show (0 : Int) ≤ 0 by decide, show (4294967295 : Int) ≤ 4294967295 by decide, show (0 : Int) / 16777216 < 4294967295 / 16777216 by decide⟩, by simp [coded]⟩
  | n + 1 => by
    obtain ⟨ih1, ih2⟩ := coded_facts bs ps hp n
    have k := narrow_in ih1 (bs n) (ps n) (hp n).1 (hp n).2
    obtain ⟨f1, f2⟩ := settle_facts k.1 k.2.1 k.2.2
    refine ⟨f2, ?_⟩
    simp only [coded, List.length_append]
    omega

/-- What is told is only added to. -/
theorem coded_grows (bs ps : Nat → Int) : ∀ (d n : Nat), ∃ r, (coded bs ps (n + d)).1 = (coded bs ps n).1 ++ r
  | 0, n => ⟨[], by simp⟩
  | d + 1, n => by
    obtain ⟨r, hr⟩ := coded_grows bs ps d n
    refine ⟨r ++ (settle 5 (narrow (coded bs ps (n + d)).2.1 (coded bs ps (n + d)).2.2 (bs (n + d)) (ps (n + d))).1 (narrow (coded bs ps (n + d)).2.1 (coded bs ps (n + d)).2.2 (bs (n + d)) (ps (n + d))).2).1, ?_⟩
    show (coded bs ps (n + d + 1)).1 = _
    rw [coded, hr]
    simp

/-- The text t begins with what is told behind k bits, and goes on between what is left: so it does at every bit ahead. -/
theorem coded_back (bs ps : Nat → Int) (hp : ∀ i, 1 ≤ ps i ∧ ps i ≤ 4095) (t : ByteArray) (k : Nat)
    (ht : ∀ i, i < (coded bs ps k).1.length → bz t i = (((coded bs ps k).1.getD i 0).toNat : Int))
    (h1 : (coded bs ps k).2.1 ≤ win t (coded bs ps k).1.length) (h2 : win t (coded bs ps k).1.length ≤ (coded bs ps k).2.2) :
    ∀ (d j : Nat), j + d = k → ((coded bs ps j).2.1 ≤ win t (coded bs ps j).1.length ∧ win t (coded bs ps j).1.length ≤ (coded bs ps j).2.2) ∧
      (j < k → (narrow (coded bs ps j).2.1 (coded bs ps j).2.2 (bs j) (ps j)).1 ≤ win t (coded bs ps j).1.length ∧ win t (coded bs ps j).1.length ≤ (narrow (coded bs ps j).2.1 (coded bs ps j).2.2 (bs j) (ps j)).2)
  | 0, j, hj => by
    obtain rfl : j = k := by omega
    exact ⟨⟨h1, h2⟩, fun h => by omega⟩
  | d + 1, j, hj => by
    obtain ⟨⟨i1, i2⟩, _⟩ := coded_back bs ps hp t k ht h1 h2 d (j + 1) (by omega)
    obtain ⟨fb, _⟩ := coded_facts bs ps hp j
    have kk := narrow_in fb (bs j) (ps j) (hp j).1 (hp j).2
    have sub := narrow_sub (bit := bs j) fb (hp j).1 (hp j).2
    obtain ⟨r, hr⟩ := coded_grows bs ps d (j + 1)
    rw [show j + 1 + d = k by omega] at hr
    simp only [coded, List.length_append] at i1 i2
    have key := settle_back t 5 _ _ (coded bs ps j).1.length kk.1 kk.2.1 kk.2.2 (by
      intro i hi
      rw [ht _ (by rw [hr]; simp only [coded, List.length_append]; omega), hr]
      simp only [coded]
      rw [List.append_assoc, List.getD_eq_getElem?_getD, List.getD_eq_getElem?_getD, List.getElem?_append_right (by omega), Nat.add_sub_cancel_left, List.getElem?_append_left hi]) i1 i2
    exact ⟨⟨by omega, by omega⟩, fun _ => key⟩

end Go.Proofs.YtoldedbfoechlaaGreatDoor.Coder
