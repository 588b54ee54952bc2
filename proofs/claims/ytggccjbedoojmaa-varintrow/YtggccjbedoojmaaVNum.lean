/-
  Plain facts on numbers in few bytes: what is told of a number, seven bits a byte, and what is read of a row of bytes. No condition.
-/
import Derived.Test.YtggccjbedoojmaaNum
namespace Go.Proofs.Ytggccjbedoojmaa.Varint
open Go.Proofs.Ytggccjbedoojmaa.Num

theorem and127 (n : Int) : bits .and .i64 n 127 = n % 128 := and_mask 7 127 (by decide) (by decide) n
theorem or_top (x : Int) : bits .or .i64 (x % 128) 128 = x % 128 + 128 := by
  rw [or_comm64, or_join 7 (by decide) 128 (x % 128) (by omega) (by decide) (by decide) (by omega) (by show x % 128 < 128; omega)]; omega

/-- 'x | y' where x lies below the lowest bit of y = d * 128^j. -/
theorem orAt (j : Nat) (x y : Int) (hj : 7 * j ≤ 63) (hx0 : 0 ≤ x) (hx : x < 128 ^ j) (hy : y % 128 ^ j = 0) (hy' : 0 ≤ y ∧ y < 9223372036854775808) : bits .or .i64 x y = x + y := by
  have e : (128 : Int) ^ j = 2 ^ (7 * j) := by rw [Int.pow_mul]; rfl
  rw [e] at hx hy
  rw [or_comm64, or_join (7 * j) hj y x hy'.1 hy hy'.2 hx0 hx]; omega
theorem orz (x : Int) (h0 : 0 ≤ x) (h1 : x < 9223372036854775808) : bits .or .i64 x 0 = x := by
  rw [or_comm64]; exact or0 x h0 h1

/-- What is told of a number: seven bits a byte, the lowest first, 128 more in each but the last. -/
def tell : Nat → Int → List Int
  | 0, x => [x]
  | k + 1, x => if x < 128 then [x] else (x % 128 + 128) :: tell k (x / 128)

theorem tell1 (x : Int) (h : x < 128) : tell 4 x = [x] := by rw [tell, if_pos h]
theorem tell2 (x : Int) (h : 128 ≤ x) (h' : x < 16384) : tell 4 x = [x % 128 + 128, x / 128] := by
  rw [tell, if_neg (by omega), tell, if_pos (by omega)]
theorem tell3 (x : Int) (h : 16384 ≤ x) (h' : x < 2097152) : tell 4 x = [x % 128 + 128, x / 128 % 128 + 128, x / 128 / 128] := by
  rw [tell, if_neg (by omega), tell, if_neg (by omega), tell, if_pos (by omega)]
theorem tell4 (x : Int) (h : 2097152 ≤ x) (h' : x < 268435456) : tell 4 x = [x % 128 + 128, x / 128 % 128 + 128, x / 128 / 128 % 128 + 128, x / 128 / 128 / 128] := by
  rw [tell, if_neg (by omega), tell, if_neg (by omega), tell, if_neg (by omega), tell, if_pos (by omega)]
theorem tell5 (x : Int) (h : 268435456 ≤ x) : tell 4 x = [x % 128 + 128, x / 128 % 128 + 128, x / 128 / 128 % 128 + 128, x / 128 / 128 / 128 % 128 + 128, x / 128 / 128 / 128 / 128] := by
  rw [tell, if_neg (by omega), tell, if_neg (by omega), tell, if_neg (by omega), tell, if_neg (by omega), tell]

/-- The number that a row of bytes tells at its front, in at most so many bytes, and how many it takes. -/
def take7 : Nat → List UInt8 → Option (Int × Nat)
  | 0, _ => none
  | _ + 1, [] => none
  | k + 1, a :: r => if a.toNat < 128 then some ((a.toNat : Int), 1) else
    match take7 k r with
    | none => none
    | some (x, n) => if x = 0 then none else some ((a.toNat : Int) - 128 + 128 * x, n + 1)

/-- The number, where it is below 2^32. -/
def getv (l : List UInt8) : Option (Int × Nat) :=
  match take7 5 l with
  | none => none
  | some (x, n) => if x < 4294967296 then some (x, n) else none

end Go.Proofs.Ytggccjbedoojmaa.Varint
