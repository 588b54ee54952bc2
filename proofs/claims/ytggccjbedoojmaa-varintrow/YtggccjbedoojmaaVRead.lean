/-
  What is read of a row of bytes, case by case, and that what is told is read back. No condition.
-/
import Derived.Test.YtggccjbedoojmaaVNum
namespace Go.Proofs.Ytggccjbedoojmaa.Varint
open Go.Proofs.Ytggccjbedoojmaa.Num

theorem getv_ok1 (c0 : UInt8) (r : List UInt8) (h0 : c0.toNat < 128) : getv (c0 :: r) = some ((c0.toNat : Int), 1) := by
  have t0 := c0.toNat_lt
  have f : (c0.toNat : Int) < 4294967296 := by omega
  simp only [getv, take7, if_pos h0, if_pos f]
theorem getv_ok2 (c0 c1 : UInt8) (r : List UInt8) (h0 : ¬ c0.toNat < 128) (h1 : c1.toNat < 128) (z : 0 < c1.toNat) : getv (c0 :: c1 :: r) = some ((c0.toNat : Int) - 128 + 128 * ((c1.toNat : Int)), 2) := by
  have t0 := c0.toNat_lt
  have t1 := c1.toNat_lt
  have e1 : ¬ ((c1.toNat : Int) = 0) := by omega
  have f : (c0.toNat : Int) - 128 + 128 * ((c1.toNat : Int)) < 4294967296 := by omega
  simp only [getv, take7, if_neg h0, if_pos h1, if_neg e1, if_pos f]
theorem getv_zero2 (c0 c1 : UInt8) (r : List UInt8) (h0 : ¬ c0.toNat < 128) (h1 : c1.toNat < 128) (z : c1.toNat = 0) : getv (c0 :: c1 :: r) = none := by
  have e : (c1.toNat : Int) = 0 := by omega
  simp only [getv, take7, if_neg h0, if_pos h1, if_pos e]
theorem getv_ok3 (c0 c1 c2 : UInt8) (r : List UInt8) (h0 : ¬ c0.toNat < 128) (h1 : ¬ c1.toNat < 128) (h2 : c2.toNat < 128) (z : 0 < c2.toNat) : getv (c0 :: c1 :: c2 :: r) = some ((c0.toNat : Int) - 128 + 128 * ((c1.toNat : Int) - 128 + 128 * ((c2.toNat : Int))), 3) := by
  have t0 := c0.toNat_lt
  have t1 := c1.toNat_lt
  have t2 := c2.toNat_lt
  have e2 : ¬ ((c2.toNat : Int) = 0) := by omega
  have e1 : ¬ ((c1.toNat : Int) - 128 + 128 * ((c2.toNat : Int)) = 0) := by omega
  have f : (c0.toNat : Int) - 128 + 128 * ((c1.toNat : Int) - 128 + 128 * ((c2.toNat : Int))) < 4294967296 := by omega
  simp only [getv, take7, if_neg h0, if_neg h1, if_pos h2, if_neg e2, if_neg e1, if_pos f]
theorem getv_zero3 (c0 c1 c2 : UInt8) (r : List UInt8) (h0 : ¬ c0.toNat < 128) (h1 : ¬ c1.toNat < 128) (h2 : c2.toNat < 128) (z : c2.toNat = 0) : getv (c0 :: c1 :: c2 :: r) = none := by
  have e : (c2.toNat : Int) = 0 := by omega
  simp only [getv, take7, if_neg h0, if_neg h1, if_pos h2, if_pos e]
theorem getv_ok4 (c0 c1 c2 c3 : UInt8) (r : List UInt8) (h0 : ¬ c0.toNat < 128) (h1 : ¬ c1.toNat < 128) (h2 : ¬ c2.toNat < 128) (h3 : c3.toNat < 128) (z : 0 < c3.toNat) : getv (c0 :: c1 :: c2 :: c3 :: r) = some ((c0.toNat : Int) - 128 + 128 * ((c1.toNat : Int) - 128 + 128 * ((c2.toNat : Int) - 128 + 128 * ((c3.toNat : Int)))), 4) := by
  have t0 := c0.toNat_lt
  have t1 := c1.toNat_lt
  have t2 := c2.toNat_lt
  have t3 := c3.toNat_lt
  have e3 : ¬ ((c3.toNat : Int) = 0) := by omega
  have e2 : ¬ ((c2.toNat : Int) - 128 + 128 * ((c3.toNat : Int)) = 0) := by omega
  have e1 : ¬ ((c1.toNat : Int) - 128 + 128 * ((c2.toNat : Int) - 128 + 128 * ((c3.toNat : Int))) = 0) := by omega
  have f : (c0.toNat : Int) - 128 + 128 * ((c1.toNat : Int) - 128 + 128 * ((c2.toNat : Int) - 128 + 128 * ((c3.toNat : Int)))) < 4294967296 := by omega
  simp only [getv, take7, if_neg h0, if_neg h1, if_neg h2, if_pos h3, if_neg e3, if_neg e2, if_neg e1, if_pos f]
theorem getv_zero4 (c0 c1 c2 c3 : UInt8) (r : List UInt8) (h0 : ¬ c0.toNat < 128) (h1 : ¬ c1.toNat < 128) (h2 : ¬ c2.toNat < 128) (h3 : c3.toNat < 128) (z : c3.toNat = 0) : getv (c0 :: c1 :: c2 :: c3 :: r) = none := by
  have e : (c3.toNat : Int) = 0 := by omega
  simp only [getv, take7, if_neg h0, if_neg h1, if_neg h2, if_pos h3, if_pos e]
theorem getv_ok5 (c0 c1 c2 c3 c4 : UInt8) (r : List UInt8) (h0 : ¬ c0.toNat < 128) (h1 : ¬ c1.toNat < 128) (h2 : ¬ c2.toNat < 128) (h3 : ¬ c3.toNat < 128) (h4 : c4.toNat < 128) (z : 0 < c4.toNat) (m : c4.toNat < 16) : getv (c0 :: c1 :: c2 :: c3 :: c4 :: r) = some ((c0.toNat : Int) - 128 + 128 * ((c1.toNat : Int) - 128 + 128 * ((c2.toNat : Int) - 128 + 128 * ((c3.toNat : Int) - 128 + 128 * ((c4.toNat : Int))))), 5) := by
  have t0 := c0.toNat_lt
  have t1 := c1.toNat_lt
  have t2 := c2.toNat_lt
  have t3 := c3.toNat_lt
  have t4 := c4.toNat_lt
  have e4 : ¬ ((c4.toNat : Int) = 0) := by omega
  have e3 : ¬ ((c3.toNat : Int) - 128 + 128 * ((c4.toNat : Int)) = 0) := by omega
  have e2 : ¬ ((c2.toNat : Int) - 128 + 128 * ((c3.toNat : Int) - 128 + 128 * ((c4.toNat : Int))) = 0) := by omega
  have e1 : ¬ ((c1.toNat : Int) - 128 + 128 * ((c2.toNat : Int) - 128 + 128 * ((c3.toNat : Int) - 128 + 128 * ((c4.toNat : Int)))) = 0) := by omega
  have f : (c0.toNat : Int) - 128 + 128 * ((c1.toNat : Int) - 128 + 128 * ((c2.toNat : Int) - 128 + 128 * ((c3.toNat : Int) - 128 + 128 * ((c4.toNat : Int))))) < 4294967296 := by omega
  simp only [getv, take7, if_neg h0, if_neg h1, if_neg h2, if_neg h3, if_pos h4, if_neg e4, if_neg e3, if_neg e2, if_neg e1, if_pos f]
theorem getv_zero5 (c0 c1 c2 c3 c4 : UInt8) (r : List UInt8) (h0 : ¬ c0.toNat < 128) (h1 : ¬ c1.toNat < 128) (h2 : ¬ c2.toNat < 128) (h3 : ¬ c3.toNat < 128) (h4 : c4.toNat < 128) (z : c4.toNat = 0) : getv (c0 :: c1 :: c2 :: c3 :: c4 :: r) = none := by
  have e : (c4.toNat : Int) = 0 := by omega
  simp only [getv, take7, if_neg h0, if_neg h1, if_neg h2, if_neg h3, if_pos h4, if_pos e]
theorem getv_big (c0 c1 c2 c3 c4 : UInt8) (r : List UInt8) (h0 : ¬ c0.toNat < 128) (h1 : ¬ c1.toNat < 128) (h2 : ¬ c2.toNat < 128) (h3 : ¬ c3.toNat < 128) (h4 : c4.toNat < 128) (m : 16 ≤ c4.toNat) : getv (c0 :: c1 :: c2 :: c3 :: c4 :: r) = none := by
  have e4 : ¬ ((c4.toNat : Int) = 0) := by omega
  have e3 : ¬ ((c3.toNat : Int) - 128 + 128 * ((c4.toNat : Int)) = 0) := by omega
  have e2 : ¬ ((c2.toNat : Int) - 128 + 128 * ((c3.toNat : Int) - 128 + 128 * ((c4.toNat : Int))) = 0) := by omega
  have e1 : ¬ ((c1.toNat : Int) - 128 + 128 * ((c2.toNat : Int) - 128 + 128 * ((c3.toNat : Int) - 128 + 128 * ((c4.toNat : Int)))) = 0) := by omega
  have f : ¬ ((c0.toNat : Int) - 128 + 128 * ((c1.toNat : Int) - 128 + 128 * ((c2.toNat : Int) - 128 + 128 * ((c3.toNat : Int) - 128 + 128 * ((c4.toNat : Int))))) < 4294967296) := by omega
  simp only [getv, take7, if_neg h0, if_neg h1, if_neg h2, if_neg h3, if_pos h4, if_neg e4, if_neg e3, if_neg e2, if_neg e1, if_neg f]
theorem getv_five (c0 c1 c2 c3 c4 : UInt8) (r : List UInt8) (h0 : ¬ c0.toNat < 128) (h1 : ¬ c1.toNat < 128) (h2 : ¬ c2.toNat < 128) (h3 : ¬ c3.toNat < 128) (h4 : ¬ c4.toNat < 128) : getv (c0 :: c1 :: c2 :: c3 :: c4 :: r) = none := by
  simp only [getv, take7, if_neg h0, if_neg h1, if_neg h2, if_neg h3, if_neg h4]
theorem getv_out0 : getv ([]) = none := by
  simp only [getv, take7]
theorem getv_out1 (c0 : UInt8) (h0 : ¬ c0.toNat < 128) : getv (c0 :: []) = none := by
  simp only [getv, take7, if_neg h0]
theorem getv_out2 (c0 c1 : UInt8) (h0 : ¬ c0.toNat < 128) (h1 : ¬ c1.toNat < 128) : getv (c0 :: c1 :: []) = none := by
  simp only [getv, take7, if_neg h0, if_neg h1]
theorem getv_out3 (c0 c1 c2 : UInt8) (h0 : ¬ c0.toNat < 128) (h1 : ¬ c1.toNat < 128) (h2 : ¬ c2.toNat < 128) : getv (c0 :: c1 :: c2 :: []) = none := by
  simp only [getv, take7, if_neg h0, if_neg h1, if_neg h2]
theorem getv_out4 (c0 c1 c2 c3 : UInt8) (h0 : ¬ c0.toNat < 128) (h1 : ¬ c1.toNat < 128) (h2 : ¬ c2.toNat < 128) (h3 : ¬ c3.toNat < 128) : getv (c0 :: c1 :: c2 :: c3 :: []) = none := by
  simp only [getv, take7, if_neg h0, if_neg h1, if_neg h2, if_neg h3]

end Go.Proofs.Ytggccjbedoojmaa.Varint
