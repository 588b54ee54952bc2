/-
  What is told of the number that some bytes tell is those bytes, if the last is not 0, and is shorter, if it is. No condition.
-/
import Derived.Test.YtggccjbedoojmaaVRead
namespace Go.Proofs.Ytggccjbedoojmaa.Varint
open Go.Proofs.Ytggccjbedoojmaa.Num

theorem ext_take (s : ByteArray) (a : Int) (h0 : 0 ≤ a) (n : Nat) (e : Int) (he : e = a + n) : s.extract a.toNat e.toNat = ⟨((s.data.toList.drop a.toNat).take n).toArray⟩ := by
  subst he
  apply ByteArray.ext
  apply Array.toList_inj.1
  rw [ByteArray.data_extract, Array.toList_extract]
  have h1 : (a + (n : Int)).toNat - a.toNat = n := by omega
  simp [List.extract, h1]

theorem same_true (s t : ByteArray) (h : s = t) : (s.toList == t.toList) = true := by rw [h]; exact beq_self_eq_true _
theorem same_false (s t : ByteArray) (h : s.size ≠ t.size) : (s.toList == t.toList) = false := by
  rw [beq_eq_false_iff_ne, ByteArray.toList_eq, ByteArray.toList_eq]
  intro e
  have := congrArg List.length e
  simp at this
  exact h this

theorem tell_short : ∀ (k m : Nat) (x : Int), x < 128 ^ (m + 1) → (tell k x).length ≤ m + 1
  | 0, m, x, h => by simp [tell]
  | k + 1, m, x, h => by
    rw [tell]
    split
    · simp
    · next hx =>
      match m, h with
      | 0, h => exact absurd (by simpa using h) hx
      | m + 1, h =>
        have e : (128 : Int) ^ (m + 1 + 1) = 128 ^ (m + 1) * 128 := Int.pow_succ ..
        have := tell_short k m (x / 128) (by omega)
        simp only [List.length_cons]
        omega

theorem same1 (c0 : UInt8) (h0 : c0.toNat < 128) : strOfNums (tell 4 ((c0.toNat : Int) % 128)) = ⟨[c0].toArray⟩ := by
  have t0 := c0.toNat_lt
  rw [tell1 _ (by omega)]
  have e0 : ((c0.toNat : Int) % 128) = (c0.toNat : Int) := by omega
  rw [e0]
  simp [strOfNums]
theorem same2 (c0 c1 : UInt8) (h0 : ¬ c0.toNat < 128) (h1 : c1.toNat < 128) (z : 0 < c1.toNat) : strOfNums (tell 4 ((c0.toNat : Int) % 128 + (c1.toNat : Int) % 128 * 128)) = ⟨[c0, c1].toArray⟩ := by
  have t0 := c0.toNat_lt
  have t1 := c1.toNat_lt
  rw [tell2 _ (by omega) (by omega)]
  have e0 : ((c0.toNat : Int) % 128 + (c1.toNat : Int) % 128 * 128) % 128 + 128 = (c0.toNat : Int) := by omega
  have e1 : ((c0.toNat : Int) % 128 + (c1.toNat : Int) % 128 * 128) / 128 = (c1.toNat : Int) := by omega
  rw [e0, e1]
  simp [strOfNums]
theorem same3 (c0 c1 c2 : UInt8) (h0 : ¬ c0.toNat < 128) (h1 : ¬ c1.toNat < 128) (h2 : c2.toNat < 128) (z : 0 < c2.toNat) : strOfNums (tell 4 ((c0.toNat : Int) % 128 + (c1.toNat : Int) % 128 * 128 + (c2.toNat : Int) % 128 * 16384)) = ⟨[c0, c1, c2].toArray⟩ := by
  have t0 := c0.toNat_lt
  have t1 := c1.toNat_lt
  have t2 := c2.toNat_lt
  rw [tell3 _ (by omega) (by omega)]
  have e0 : ((c0.toNat : Int) % 128 + (c1.toNat : Int) % 128 * 128 + (c2.toNat : Int) % 128 * 16384) % 128 + 128 = (c0.toNat : Int) := by omega
  have e1 : ((c0.toNat : Int) % 128 + (c1.toNat : Int) % 128 * 128 + (c2.toNat : Int) % 128 * 16384) / 128 % 128 + 128 = (c1.toNat : Int) := by omega
  have e2 : ((c0.toNat : Int) % 128 + (c1.toNat : Int) % 128 * 128 + (c2.toNat : Int) % 128 * 16384) / 128 / 128 = (c2.toNat : Int) := by omega
  rw [e0, e1, e2]
  simp [strOfNums]
theorem same4 (c0 c1 c2 c3 : UInt8) (h0 : ¬ c0.toNat < 128) (h1 : ¬ c1.toNat < 128) (h2 : ¬ c2.toNat < 128) (h3 : c3.toNat < 128) (z : 0 < c3.toNat) : strOfNums (tell 4 ((c0.toNat : Int) % 128 + (c1.toNat : Int) % 128 * 128 + (c2.toNat : Int) % 128 * 16384 + (c3.toNat : Int) % 128 * 2097152)) = ⟨[c0, c1, c2, c3].toArray⟩ := by
  have t0 := c0.toNat_lt
  have t1 := c1.toNat_lt
  have t2 := c2.toNat_lt
  have t3 := c3.toNat_lt
  rw [tell4 _ (by omega) (by omega)]
  have e0 : ((c0.toNat : Int) % 128 + (c1.toNat : Int) % 128 * 128 + (c2.toNat : Int) % 128 * 16384 + (c3.toNat : Int) % 128 * 2097152) % 128 + 128 = (c0.toNat : Int) := by omega
  have e1 : ((c0.toNat : Int) % 128 + (c1.toNat : Int) % 128 * 128 + (c2.toNat : Int) % 128 * 16384 + (c3.toNat : Int) % 128 * 2097152) / 128 % 128 + 128 = (c1.toNat : Int) := by omega
  have e2 : ((c0.toNat : Int) % 128 + (c1.toNat : Int) % 128 * 128 + (c2.toNat : Int) % 128 * 16384 + (c3.toNat : Int) % 128 * 2097152) / 128 / 128 % 128 + 128 = (c2.toNat : Int) := by omega
  have e3 : ((c0.toNat : Int) % 128 + (c1.toNat : Int) % 128 * 128 + (c2.toNat : Int) % 128 * 16384 + (c3.toNat : Int) % 128 * 2097152) / 128 / 128 / 128 = (c3.toNat : Int) := by omega
  rw [e0, e1, e2, e3]
  simp [strOfNums]
theorem same5 (c0 c1 c2 c3 c4 : UInt8) (h0 : ¬ c0.toNat < 128) (h1 : ¬ c1.toNat < 128) (h2 : ¬ c2.toNat < 128) (h3 : ¬ c3.toNat < 128) (h4 : c4.toNat < 128) (z : 0 < c4.toNat) : strOfNums (tell 4 ((c0.toNat : Int) % 128 + (c1.toNat : Int) % 128 * 128 + (c2.toNat : Int) % 128 * 16384 + (c3.toNat : Int) % 128 * 2097152 + (c4.toNat : Int) % 128 * 268435456)) = ⟨[c0, c1, c2, c3, c4].toArray⟩ := by
  have t0 := c0.toNat_lt
  have t1 := c1.toNat_lt
  have t2 := c2.toNat_lt
  have t3 := c3.toNat_lt
  have t4 := c4.toNat_lt
  rw [tell5 _ (by omega)]
  have e0 : ((c0.toNat : Int) % 128 + (c1.toNat : Int) % 128 * 128 + (c2.toNat : Int) % 128 * 16384 + (c3.toNat : Int) % 128 * 2097152 + (c4.toNat : Int) % 128 * 268435456) % 128 + 128 = (c0.toNat : Int) := by omega
  have e1 : ((c0.toNat : Int) % 128 + (c1.toNat : Int) % 128 * 128 + (c2.toNat : Int) % 128 * 16384 + (c3.toNat : Int) % 128 * 2097152 + (c4.toNat : Int) % 128 * 268435456) / 128 % 128 + 128 = (c1.toNat : Int) := by omega
  have e2 : ((c0.toNat : Int) % 128 + (c1.toNat : Int) % 128 * 128 + (c2.toNat : Int) % 128 * 16384 + (c3.toNat : Int) % 128 * 2097152 + (c4.toNat : Int) % 128 * 268435456) / 128 / 128 % 128 + 128 = (c2.toNat : Int) := by omega
  have e3 : ((c0.toNat : Int) % 128 + (c1.toNat : Int) % 128 * 128 + (c2.toNat : Int) % 128 * 16384 + (c3.toNat : Int) % 128 * 2097152 + (c4.toNat : Int) % 128 * 268435456) / 128 / 128 / 128 % 128 + 128 = (c3.toNat : Int) := by omega
  have e4 : ((c0.toNat : Int) % 128 + (c1.toNat : Int) % 128 * 128 + (c2.toNat : Int) % 128 * 16384 + (c3.toNat : Int) % 128 * 2097152 + (c4.toNat : Int) % 128 * 268435456) / 128 / 128 / 128 / 128 = (c4.toNat : Int) := by omega
  rw [e0, e1, e2, e3, e4]
  simp [strOfNums]

end Go.Proofs.Ytggccjbedoojmaa.Varint
