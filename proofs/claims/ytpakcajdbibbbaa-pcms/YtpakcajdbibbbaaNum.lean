/-
  Plain facts on numbers and bytes that the proofs of this seat use: masks and joins of Go's int, numbers told byte by byte, the lowest first. No condition.
-/
import Derived.WalkKit
import Derived.Laws.BytesArg
import Derived.Laws.BitsLemmas
namespace Go.Proofs.Ytpakcajdbibbbaa.Num

theorem wraps_i64 (n : Int) (h0 : 0 ≤ n) (h1 : n < 2 ^ 63) : IntKind.i64.wrap n = n := by
  rw [IntKind.wrap_i64]; omega

/-- 'n & (2^i - 1)' of any int, a negative one too. -/
theorem and_mask (i m : Nat) (hi : i ≤ 62) (hm : m = 2 ^ i - 1) (n : Int) : bits .and .i64 n (m : Int) = n % ((2 ^ i : Nat) : Int) := by
  subst hm
  have hp : 2 ^ i ≤ 2 ^ 62 := Nat.pow_le_pow_right (by decide) hi
  have hpos : 0 < 2 ^ i := Nat.two_pow_pos i
  have hc : (BitVec.ofInt 64 ((2 ^ i - 1 : Nat) : Int)).toNat = 2 ^ i - 1 := by
    rw [BitVec.ofInt_natCast, BitVec.toNat_ofNat]
    exact Nat.mod_eq_of_lt (by omega)
  have key : (BitVec.ofInt 64 n &&& BitVec.ofInt 64 ((2 ^ i - 1 : Nat) : Int)).toNat = (n % ((2 ^ 64 : Nat) : Int)).toNat % 2 ^ i := by
    rw [BitVec.toNat_and, BitVec.toNat_ofInt, hc, Nat.and_two_pow_sub_one_eq_mod]
  show IntKind.i64.wrap ((BitVec.ofInt 64 n &&& BitVec.ofInt 64 ((2 ^ i - 1 : Nat) : Int)).toNat : Nat) = _
  rw [key]
  have hd : ((2 ^ i : Nat) : Int) ∣ ((2 ^ 64 : Nat) : Int) := by
    exact_mod_cast Nat.pow_dvd_pow 2 (by omega : i ≤ 64)
  have e1 : (((n % ((2 ^ 64 : Nat) : Int)).toNat % 2 ^ i : Nat) : Int) = n % ((2 ^ i : Nat) : Int) := by
    have h0 : 0 ≤ n % ((2 ^ 64 : Nat) : Int) := Int.emod_nonneg _ (by decide)
    rw [Int.natCast_emod, Int.toNat_of_nonneg h0]
    exact Int.emod_emod_of_dvd n hd
  rw [e1]
  have hq : (0 : Int) < ((2 ^ i : Nat) : Int) := by exact_mod_cast hpos
  have l1 := Int.emod_nonneg n (Int.ne_of_gt hq)
  have l2 := Int.emod_lt_of_pos n hq
  have l3 : ((2 ^ i : Nat) : Int) ≤ ((2 ^ 62 : Nat) : Int) := by exact_mod_cast hp
  exact wraps_i64 _ l1 (by have : ((2 ^ 62 : Nat) : Int) < 2 ^ 63 := by decide
                           omega)

theorem and3 (n : Int) : bits .and .i64 n 3 = n % 4 := and_mask 2 3 (by decide) (by decide) n
theorem and255 (n : Int) : bits .and .i64 n 255 = n % 256 := and_mask 8 255 (by decide) (by decide) n
theorem and1023 (n : Int) : bits .and .i64 n 1023 = n % 1024 := and_mask 10 1023 (by decide) (by decide) n
theorem and16 (n : Int) : bits .and .i64 n 65535 = n % 65536 := and_mask 16 65535 (by decide) (by decide) n
theorem and24 (n : Int) : bits .and .i64 n 16777215 = n % 16777216 := and_mask 24 16777215 (by decide) (by decide) n
theorem and32 (n : Int) : bits .and .i64 n 4294967295 = n % 4294967296 := and_mask 32 4294967295 (by decide) (by decide) n

/-- 'x | y' where y lies below x's lowest bit. -/
theorem or_join (i : Nat) (hi : i ≤ 63) (x y : Int) (hx0 : 0 ≤ x) (hx : x % 2 ^ i = 0) (hx1 : x < 2 ^ 63) (hy0 : 0 ≤ y) (hy : y < 2 ^ i) : bits .or .i64 x y = x + y :=
  bits_join .i64 63 (by decide) wraps_i64 i x y hx0 hx hx1 hy0 hy (by
    have hp : (2 : Nat) ^ i ≤ 2 ^ 63 := Nat.pow_le_pow_right (by decide) hi
    have : ((2 ^ i : Nat) : Int) ≤ ((2 ^ 63 : Nat) : Int) := by exact_mod_cast hp
    have e : ((2 ^ i : Nat) : Int) = (2 : Int) ^ i := by simp
    have e' : ((2 ^ 63 : Nat) : Int) = (2 : Int) ^ 63 := by simp
    omega)

theorem or_comm64 (x y : Int) : bits .or .i64 x y = bits .or .i64 y x := by simp only [bits, BitVec.or_comm]

theorem or8 (x y : Int) (a : 0 ≤ x) (b : x % 256 = 0) (c : x < 9223372036854775808) (d : 0 ≤ y) (e : y < 256) : bits .or .i64 x y = x + y := or_join 8 (by decide) x y a b c d e
theorem or8' (x y : Int) (a : 0 ≤ x) (b : x % 256 = 0) (c : x < 9223372036854775808) (d : 0 ≤ y) (e : y < 256) : bits .or .i64 y x = y + x := by rw [or_comm64, or8 x y a b c d e]; omega
theorem or16' (x y : Int) (a : 0 ≤ x) (b : x % 65536 = 0) (c : x < 9223372036854775808) (d : 0 ≤ y) (e : y < 65536) : bits .or .i64 y x = y + x := by rw [or_comm64, or_join 16 (by decide) x y a b c d e]; omega
theorem or24' (x y : Int) (a : 0 ≤ x) (b : x % 16777216 = 0) (c : x < 9223372036854775808) (d : 0 ≤ y) (e : y < 16777216) : bits .or .i64 y x = y + x := by rw [or_comm64, or_join 24 (by decide) x y a b c d e]; omega
theorem or0 (x : Int) (a : 0 ≤ x) (c : x < 9223372036854775808) : bits .or .i64 0 x = x := by
  rw [or_comm64, or_join 0 (by decide) x 0 a (by omega) c (by omega) (by decide)]; omega

/-- A number in k bytes, the lowest first. -/
def low : Nat → Int → List Int
  | 0, _ => []
  | k + 1, x => x % 256 :: low k (x / 256)

theorem low_length : ∀ (k : Nat) (x : Int), (low k x).length = k
  | 0, _ => rfl
  | k + 1, x => by simp [low, low_length k]

/-- The number that the bytes tell, the lowest first. -/
def num : List UInt8 → Int
  | [] => 0
  | b :: r => (b.toNat : Int) + 256 * num r

theorem byte_of (x : Int) : (((UInt8.ofNat (x % 256).toNat).toNat : Nat) : Int) = x % 256 := by
  have : (UInt8.ofNat (x % 256).toNat).toNat = (x % 256).toNat % 2 ^ 8 := UInt8.toNat_ofNat'
  rw [this]; omega

theorem num_low : ∀ (k : Nat) (x : Int), 0 ≤ x → x < 256 ^ k → num ((low k x).map fun n => UInt8.ofNat n.toNat) = x
  | 0, x, h0, h1 => by simp at h1; simp [low, num]; omega
  | k + 1, x, h0, h1 => by
    have e : (256 : Int) ^ (k + 1) = 256 ^ k * 256 := Int.pow_succ 256 k
    have h2 : x / 256 < 256 ^ k := by omega
    simp only [low, List.map_cons, num, byte_of, num_low k (x / 256) (by omega) h2]
    omega

theorem num_nonneg : ∀ l : List UInt8, 0 ≤ num l
  | [] => by simp [num]
  | b :: r => by have := num_nonneg r; simp only [num]; omega

theorem num_lt : ∀ l : List UInt8, num l < 256 ^ l.length
  | [] => by simp [num]
  | b :: r => by
    have h := num_lt r
    have hb := b.toNat_lt
    have e : (256 : Int) ^ (r.length + 1) = 256 ^ r.length * 256 := Int.pow_succ 256 _
    simp only [num, List.length_cons]
    omega

theorem low_num : ∀ l : List UInt8, (low l.length (num l)).map (fun n => UInt8.ofNat n.toNat) = l
  | [] => rfl
  | b :: r => by
    have hb := b.toNat_lt
    have h0 := num_nonneg r
    have e1 : ((b.toNat : Int) + 256 * num r) % 256 = b.toNat := by omega
    have e2 : ((b.toNat : Int) + 256 * num r) / 256 = num r := by omega
    simp only [List.length_cons, num, low, List.map_cons, e1, e2, low_num r]
    simp

theorem str_low_num (s : ByteArray) : strOfNums (low s.size (num s.data.toList)) = s := by
  have h := low_num s.data.toList
  rw [show s.data.toList.length = s.size from by simp] at h
  unfold strOfNums
  rw [h]

theorem num_str_low (k : Nat) (x : Int) (h0 : 0 ≤ x) (h1 : x < 256 ^ k) : num (strOfNums (low k x)).data.toList = x := by
  rw [strOfNums_data]; exact num_low k x h0 h1

end Go.Proofs.Ytpakcajdbibbbaa.Num
