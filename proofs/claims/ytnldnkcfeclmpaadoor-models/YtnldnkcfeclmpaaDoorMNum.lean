/-
  Plain facts on three inputs with their weights (P8.1, P8.2): which may be, the chance, a weight's step, where a weight is held. No condition.
-/
import Derived.Test.YtnldnkcfeclmpaaDoorSNum
namespace Go.Proofs.YtnldnkcfeclmpaaDoor.Mix
open Go.Proofs.YtnldnkcfeclmpaaDoor.Str

/-- Is x further from 0 than l? -/
def passed (l x : Int) : Bool := decide (x < -l ∨ l < x)

/-- May the weights, may the inputs be? -/
def mayB (a b c x y z : Int) : Bool := !(passed 1048576 a || passed 1048576 b || passed 1048576 c) && !(passed 2047 x || passed 2047 y || passed 2047 z)

def May (a b c x y z : Int) : Prop := (-1048576 ≤ a ∧ a ≤ 1048576) ∧ (-1048576 ≤ b ∧ b ≤ 1048576) ∧ (-1048576 ≤ c ∧ c ≤ 1048576) ∧ (-2047 ≤ x ∧ x ≤ 2047) ∧ (-2047 ≤ y ∧ y ≤ 2047) ∧ (-2047 ≤ z ∧ z ≤ 2047)

theorem mayB_iff (a b c x y z : Int) : mayB a b c x y z = true ↔ May a b c x y z := by
  simp only [mayB, passed, May, Bool.and_eq_true, Bool.not_eq_true', Bool.or_eq_false_iff, decide_eq_false_iff_not]
  omega

theorem mayB_yes {a b c x y z : Int} (h : May a b c x y z) : mayB a b c x y z = true := (mayB_iff a b c x y z).2 h
theorem mayB_no {a b c x y z : Int} (h : ¬ May a b c x y z) : mayB a b c x y z = false := by
  cases e : mayB a b c x y z
  · rfl
  · exact absurd ((mayB_iff a b c x y z).1 e) h

/-- At least 1. -/
def raise (p : Int) : Int := if p ≤ 1 then 1 else p

def sum (a b c x y z : Int) : Int := a * x + b * y + c * z

/-- What Dot answers, for what may be. -/
def dot (a b c x y z : Int) : Int := raise (sq (sum a b c x y z / 65536))

/-- A weight's step. -/
def stp (x off : Int) : Int := (x * off + 512) / 1024

/-- Where a weight is held. -/
def hold (x : Int) : Int := if x ≤ -1048576 then -1048576 else if 1048576 < x then 1048576 else x

/-- What becomes of a weight. -/
def trn (a x off : Int) : Int := hold (a + stp x off)

theorem raise_range (x : Int) : 1 ≤ raise (sq x) ∧ raise (sq x) ≤ 4095 := by
  have := sq_chance x
  unfold raise
  split <;> omega

theorem dot_range (a b c x y z : Int) : 1 ≤ dot a b c x y z ∧ dot a b c x y z ≤ 4095 := raise_range _

theorem prod_le (a x : Int) (ha0 : -1048576 ≤ a) (ha1 : a ≤ 1048576) (hx0 : -2047 ≤ x) (hx1 : x ≤ 2047) : -2146435072 ≤ a * x ∧ a * x ≤ 2146435072 := by
  by_cases h : 0 ≤ x
  · have h1 : a * x ≤ 1048576 * x := Int.mul_le_mul_of_nonneg_right ha1 h
    have h2 : -1048576 * x ≤ a * x := Int.mul_le_mul_of_nonneg_right ha0 h
    omega
  · have h1 : 1048576 * x ≤ a * x := Int.mul_le_mul_of_nonpos_right ha1 (by omega)
    have h2 : a * x ≤ -1048576 * x := Int.mul_le_mul_of_nonpos_right ha0 (by omega)
    omega

theorem off_le (x o : Int) (hx0 : -2047 ≤ x) (hx1 : x ≤ 2047) (ho0 : -4096 ≤ o) (ho1 : o ≤ 4096) : -8384512 ≤ x * o ∧ x * o ≤ 8384512 := by
  by_cases h : 0 ≤ o
  · have h1 : x * o ≤ 2047 * o := Int.mul_le_mul_of_nonneg_right hx1 h
    have h2 : -2047 * o ≤ x * o := Int.mul_le_mul_of_nonneg_right hx0 h
    omega
  · have h1 : 2047 * o ≤ x * o := Int.mul_le_mul_of_nonpos_right hx1 (by omega)
    have h2 : x * o ≤ -2047 * o := Int.mul_le_mul_of_nonpos_right hx0 (by omega)
    omega

theorem stp_range (x o : Int) (hx0 : -2047 ≤ x) (hx1 : x ≤ 2047) (ho0 : -4096 ≤ o) (ho1 : o ≤ 4096) : -8192 ≤ stp x o ∧ stp x o ≤ 8192 := by
  have := off_le x o hx0 hx1 ho0 ho1
  unfold stp
  omega

theorem hold_range (x : Int) : -1048576 ≤ hold x ∧ hold x ≤ 1048576 := by
  unfold hold
  split
  · omega
  · split <;> omega

theorem trn_range (a x o : Int) : -1048576 ≤ trn a x o ∧ trn a x o ≤ 1048576 := hold_range _

/-- Over all numbers a greater one has no lesser chance. -/
theorem sq_mono_all (x y : Int) (h : x ≤ y) : sq x ≤ sq y := by
  by_cases hx : x < -2047
  · rw [sq_below x hx]; exact (sq_chance y).1
  · by_cases hy : 2047 < y
    · rw [sq_above y hy]; exact (sq_chance x).2
    · exact sq_mono x y (by omega) h (by omega)

theorem raise_mono {p q : Int} (h : p ≤ q) : raise p ≤ raise q := by
  unfold raise
  split <;> split <;> omega

/-- A greater sum is no lesser chance. -/
theorem dot_mono {a b c x y z a' b' c' x' y' z' : Int} (h : sum a b c x y z ≤ sum a' b' c' x' y' z') : dot a b c x y z ≤ dot a' b' c' x' y' z' :=
  raise_mono (sq_mono_all _ _ (by omega))

end Go.Proofs.YtnldnkcfeclmpaaDoor.Mix
