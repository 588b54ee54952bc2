/-
  Plain facts: what is told of a number is read back, whatever stands behind it; numbers told one behind the other. No condition.
-/
import Derived.Test.YtggccjbedoojmaaVSame
namespace Go.Proofs.Ytggccjbedoojmaa.Varint
open Go.Proofs.Ytggccjbedoojmaa.Num

theorem take7_tell : ∀ (k : Nat) (x : Int) (r : List UInt8), 0 ≤ x → x < 128 ^ (k + 1) → take7 (k + 1) ((tell k x).map (fun n => UInt8.ofNat n.toNat) ++ r) = some (x, (tell k x).length)
  | 0, x, r, h0, h1 => by
    have h1' : x < 128 := by simpa using h1
    have e : (UInt8.ofNat x.toNat).toNat = x.toNat := by rw [UInt8.toNat_ofNat']; exact Nat.mod_eq_of_lt (by omega)
    simp only [tell, List.map_cons, List.map_nil, List.cons_append, List.nil_append, take7]
    rw [e, if_pos (by omega)]
    simp; omega
  | k + 1, x, r, h0, h1 => by
    by_cases hx : x < 128
    · have e : (UInt8.ofNat x.toNat).toNat = x.toNat := by rw [UInt8.toNat_ofNat']; exact Nat.mod_eq_of_lt (by omega)
      rw [tell, if_pos hx]
      simp only [List.map_cons, List.map_nil, List.cons_append, List.nil_append, take7]
      rw [e, if_pos (by omega)]
      simp; omega
    · have e : (UInt8.ofNat (x % 128 + 128).toNat).toNat = (x % 128 + 128).toNat := by rw [UInt8.toNat_ofNat']; exact Nat.mod_eq_of_lt (by omega)
      have hp : (128 : Int) ^ (k + 1 + 1) = 128 ^ (k + 1) * 128 := Int.pow_succ ..
      have ih := take7_tell k (x / 128) r (by omega) (by omega)
      rw [tell, if_neg hx]
      simp only [List.map_cons, List.cons_append]
      rw [take7, e, if_neg (by omega), ih]
      simp only []
      rw [if_neg (by omega)]
      simp only [List.length_cons, Option.some.injEq, Prod.mk.injEq, and_true]
      omega

theorem getv_tell (x : Int) (r : List UInt8) (h0 : 0 ≤ x) (h1 : x < 4294967296) : getv ((strOfNums (tell 4 x)).data.toList ++ r) = some (x, (tell 4 x).length) := by
  rw [strOfNums_data, getv, take7_tell 4 x r h0 (by show x < 128 ^ 5; omega)]
  simp only []
  rw [if_pos h1]

/-- The first k numbers, each modulo 2^32, told one behind the other. -/
def cat (z : Nat → Int) : Nat → ByteArray
  | 0 => ⟨#[]⟩
  | k + 1 => cat z k ++ strOfNums (tell 4 (z k % 4294967296))

theorem tell_pos (k : Nat) (x : Int) : 1 ≤ (tell k x).length := by
  match k with
  | 0 => simp [tell]
  | k + 1 => rw [tell]; split <;> simp

theorem tell_five (x : Int) (h : x < 4294967296) : (tell 4 x).length ≤ 5 := tell_short 4 4 x (by show x < 128 ^ 5; omega)

theorem cat_size (z : Nat → Int) (k : Nat) : (cat z (k + 1)).size = (cat z k).size + (tell 4 (z k % 4294967296)).length := by
  rw [cat, ByteArray.size_append, strOfNums_size]

theorem cat_le (z : Nat → Int) : ∀ k, (cat z k).size ≤ 5 * k
  | 0 => Nat.le_refl _
  | k + 1 => by have := cat_le z k; have := tell_five (z k % 4294967296) (by omega); rw [cat_size]; omega

theorem cat_front (z : Nat → Int) (k : Nat) : ∀ j, ∃ r, (cat z (k + j)).data.toList = (cat z k).data.toList ++ r
  | 0 => ⟨[], by simp⟩
  | j + 1 => by
    obtain ⟨r, h⟩ := cat_front z k j
    refine ⟨r ++ (strOfNums (tell 4 (z (k + j) % 4294967296))).data.toList, ?_⟩
    show (cat z (k + j) ++ strOfNums (tell 4 (z (k + j) % 4294967296))).data.toList = _
    rw [ByteArray.data_append, Array.toList_append, h, List.append_assoc]

theorem cat_mono (z : Nat → Int) (k m : Nat) (h : k ≤ m) : (cat z k).size ≤ (cat z m).size := by
  obtain ⟨j, rfl⟩ := Nat.exists_eq_add_of_le h
  obtain ⟨r, e⟩ := cat_front z k j
  have e1 : (cat z (k + j)).data.toList.length = (cat z (k + j)).size := by simp
  have e2 : (cat z k).data.toList.length = (cat z k).size := by simp
  rw [← e1, ← e2, e, List.length_append]; omega

/-- At the end of the first k of them stands the next. -/
theorem getv_cat (z : Nat → Int) (k m : Nat) (h : k < m) : getv ((cat z m).data.toList.drop ((cat z k).size : Int).toNat) = some (z k % 4294967296, (tell 4 (z k % 4294967296)).length) := by
  obtain ⟨j, rfl⟩ := Nat.exists_eq_add_of_le (show k + 1 ≤ m from h)
  obtain ⟨r, e⟩ := cat_front z (k + 1) j
  have e2 : (cat z k).data.toList.length = (cat z k).size := by simp
  rw [e, Int.toNat_natCast, cat, ByteArray.data_append, Array.toList_append, List.append_assoc, ← e2, List.drop_left]
  exact getv_tell _ _ (by omega) (by omega)

end Go.Proofs.Ytggccjbedoojmaa.Varint
