/-
  Plain facts on what a coder leaves between its Low and its High: when a coder may be, the middle, the bytes that are settled. No condition.
-/
import Derived.WalkKit
import Derived.Below
namespace Go.Proofs.YtoldedbfoechlaaGreatDoor.Coder
open Go.RowKit
set_option linter.unusedVariables false

/-- The world w' is w with new blocks behind it. -/
abbrev Bel (w w' : World) : Prop := Below w.heap.size w w'
theorem Bel.refl (w : World) : Bel w w := Below.refl _ _
theorem Bel.trans {a b c : World} (h : Bel a b) (k : Bel b c) : Bel a c := Below.trans h (k.mono h.size)
theorem Bel.alloc {w w' : World} (h : Bel w w') (o : Obj) : Bel w (w'.alloc o) := Below.alloc h h.size o
theorem Bel.setCell {w w' : World} (h : Bel w w') {a : Addr} (ha : w.heap.size ≤ a.block) (v : Value) : Bel w (w'.setCell a v) := Below.setCell h ha v
theorem Bel.drew {w w' : World} (h : Bel w w') : Bel w w'.drew := Below.drew h

def Between (l h : Int) : Prop := 0 ≤ l ∧ h ≤ 4294967295 ∧ l / 16777216 < h / 16777216

def mid (l h p : Int) : Int := l + (h - l) / 4096 * p + (h - l) % 4096 * p / 4096

theorem mid_facts (r p : Int) (h1 : 1 ≤ p) (h2 : p ≤ 4095) (hr : 1 ≤ r) (hr2 : r ≤ 4294967295) :
    0 ≤ r / 4096 * p ∧ r / 4096 * p ≤ 4294967295 ∧ 0 ≤ r % 4096 * p ∧ r % 4096 * p ≤ 16777216 ∧ r / 4096 * p + r % 4096 * p / 4096 < r := by
  have q0 : 0 ≤ r / 4096 := by omega
  have m0 : 0 ≤ r % 4096 := by omega
  have m1 : r % 4096 ≤ 4095 := by omega
  have e : r = 4096 * (r / 4096) + r % 4096 := by omega
  generalize r / 4096 = q at *
  generalize r % 4096 = m at *
  have a0 : 0 ≤ q * p := Int.mul_nonneg q0 (by omega)
  have a1 : q * p ≤ q * 4095 := Int.mul_le_mul_of_nonneg_left h2 q0
  have b0 : 0 ≤ m * p := Int.mul_nonneg m0 (by omega)
  have b1 : m * p ≤ m * 4095 := Int.mul_le_mul_of_nonneg_left h2 m0
  generalize q * p = x at *
  generalize m * p = y at *
  omega

/-- The bytes that are settled, and what is left. -/
def settle : Nat → Int → Int → List UInt8 × Int × Int
  | 0, l, h => ([], l, h)
  | n + 1, l, h => if l / 16777216 = h / 16777216 then
      (UInt8.ofNat (l / 16777216).toNat :: (settle n (l * 256 % 4294967296) (h * 256 % 4294967296 + 255)).1, (settle n (l * 256 % 4294967296) (h * 256 % 4294967296 + 255)).2)
    else ([], l, h)

/-- Behind k bytes that were settled, k bytes of Low are 0, and of High 255. -/
def Low0 (k : Nat) (l h : Int) : Prop := k = 0 ∨ (k = 1 ∧ l % 256 = 0 ∧ h % 256 = 255) ∨ (k = 2 ∧ l % 65536 = 0 ∧ h % 65536 = 65535) ∨ (k = 3 ∧ l % 16777216 = 0 ∧ h % 16777216 = 16777215) ∨ (k = 4 ∧ l = 0 ∧ h = 4294967295)

theorem low0_lt {k : Nat} {l h : Int} (H : Low0 k l h) (e : l / 16777216 = h / 16777216) : k < 4 := by
  rcases H with H | H | H | H | ⟨_, rfl, rfl⟩
  · omega
  · omega
  · omega
  · omega
  · omega

theorem low0_next {k : Nat} {l h : Int} (H : Low0 k l h) (h0 : 0 ≤ l) (h1 : l ≤ h) (h2 : h ≤ 4294967295) (e : l / 16777216 = h / 16777216) :
    Low0 (k + 1) (l * 256 % 4294967296) (h * 256 % 4294967296 + 255) ∧ 0 ≤ l * 256 % 4294967296 ∧ l * 256 % 4294967296 ≤ h * 256 % 4294967296 + 255 ∧ h * 256 % 4294967296 + 255 ≤ 4294967295 := by
  have hl : l * 256 % 4294967296 = (l % 16777216) * 256 := by omega
  have hh : h * 256 % 4294967296 = (h % 16777216) * 256 := by omega
  rw [hl, hh]
  refine ⟨?_, by omega, by omega, by omega⟩
  unfold Low0 at *
  rcases H with H | H | H | H | H
  · omega
  · omega
  · omega
  · omega
  · omega

/-- The state behind k rounds of the loop that began at l0, h0. -/
structure Mids (l0 h0 : Int) (k : Nat) (l h : Int) (bs : List UInt8) : Prop where
  len : bs.length = k
  le4 : k ≤ 4
  l0' : 0 ≤ l
  lh : l ≤ h
  h1 : h ≤ 4294967295
  low : Low0 k l h
  eq : settle 5 l0 h0 = (bs ++ (settle (5 - k) l h).1, (settle (5 - k) l h).2)

theorem Mids.start {l h : Int} (h0 : 0 ≤ l) (h1 : l ≤ h) (h2 : h ≤ 4294967295) : Mids l h 0 l h [] :=
  ⟨rfl, by omega, h0, h1, h2, .inl rfl, by simp⟩

theorem Mids.lt {l0 h0 : Int} {k : Nat} {l h : Int} {bs : List UInt8} (M : Mids l0 h0 k l h bs) (e : l / 16777216 = h / 16777216) : k < 4 := low0_lt M.low e

theorem Mids.next {l0 h0 : Int} {k : Nat} {l h : Int} {bs : List UInt8} (M : Mids l0 h0 k l h bs) (e : l / 16777216 = h / 16777216) :
    Mids l0 h0 (k + 1) (l * 256 % 4294967296) (h * 256 % 4294967296 + 255) (bs ++ [UInt8.ofNat (l / 16777216).toNat]) := by
  have hk := M.lt e
  obtain ⟨a1, a2, a3, a4⟩ := low0_next M.low M.l0' M.lh M.h1 e
  refine ⟨by simp [M.len], by omega, a2, a3, a4, a1, ?_⟩
  rw [M.eq]
  have e5 : 5 - k = (5 - (k + 1)) + 1 := by omega
  rw [e5, settle, if_pos e]
  simp

theorem Mids.done {l0 h0 : Int} {k : Nat} {l h : Int} {bs : List UInt8} (M : Mids l0 h0 k l h bs) (e : ¬ l / 16777216 = h / 16777216) : settle 5 l0 h0 = (bs, l, h) := by
  rw [M.eq]
  have hk := M.le4
  have e5 : 5 - k = (4 - k) + 1 := by omega
  rw [e5, settle, if_neg e]
  simp

/-- Wherever it ends: what is left may be a coder's. -/
theorem Mids.between {l0 h0 : Int} {k : Nat} {l h : Int} {bs : List UInt8} (M : Mids l0 h0 k l h bs) (e : ¬ l / 16777216 = h / 16777216) : Between l h := by
  have := M.l0'; have := M.lh; have := M.h1
  exact ⟨by omega, by omega, by omega⟩

/-- The narrowing by a bit. -/
def narrow (l h bit p : Int) : Int × Int := if bit = 1 then (l, mid l h p) else (mid l h p + 1, h)

theorem narrow_in {l h : Int} (b : Between l h) (bit p : Int) (h1 : 1 ≤ p) (h2 : p ≤ 4095) : 0 ≤ (narrow l h bit p).1 ∧ (narrow l h bit p).1 ≤ (narrow l h bit p).2 ∧ (narrow l h bit p).2 ≤ 4294967295 := by
  obtain ⟨b0, b1, b2⟩ := b
  obtain ⟨f1, f2, f3, f4, f5⟩ := mid_facts (h - l) p h1 h2 (by omega) (by omega)
  unfold narrow mid
  split
  · simp only; omega
  · simp only; omega

/-- The walk through 'settle' ends within four rounds. -/
theorem mids_all (l0 h0 : Int) : ∀ (n k : Nat) (l h : Int) (bs : List UInt8), 4 - k = n → Mids l0 h0 k l h bs → ∃ k' l' h' bs', Mids l0 h0 k' l' h' bs' ∧ ¬ l' / 16777216 = h' / 16777216
  | n, k, l, h, bs, hn, M => by
    by_cases e : l / 16777216 = h / 16777216
    · have hk := M.lt e
      match n, hn with
      | n + 1, hn => exact mids_all l0 h0 n (k + 1) _ _ _ (by omega) (M.next e)
      | 0, hn => omega
    · exact ⟨k, l, h, bs, M, e⟩

theorem settle_facts {l h : Int} (h0 : 0 ≤ l) (h1 : l ≤ h) (h2 : h ≤ 4294967295) : (settle 5 l h).1.length ≤ 4 ∧ Between (settle 5 l h).2.1 (settle 5 l h).2.2 := by
  obtain ⟨k', l', h', bs', M, e⟩ := mids_all l h 4 0 l h [] rfl (Mids.start h0 h1 h2)
  rw [M.done e]
  exact ⟨by simp [M.len, M.le4], M.between e⟩

end Go.Proofs.YtoldedbfoechlaaGreatDoor.Coder
