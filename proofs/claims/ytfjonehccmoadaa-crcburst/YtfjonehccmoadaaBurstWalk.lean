/-
  The walk of CrcBurst: it answers true for any text and any two ints. No condition but that the text is one.
-/
import Derived.Test.YtfjonehccmoadaaCBytes
import Derived.RegionTactic
namespace Go.Proofs.Ytfjonehccmoadaa.Crc
open Go.RowKit
set_option linter.unusedVariables false

/-- The text behind j of the four bytes that are turned. -/
def tl (l : List UInt8) (k : Nat) (d : Nat → UInt8) : Nat → List UInt8
  | 0 => l
  | j + 1 => (tl l k d j).set (k + j) (l.getD (k + j) 0 ^^^ d j)

theorem tl_length (l : List UInt8) (k : Nat) (d : Nat → UInt8) : ∀ j, (tl l k d j).length = l.length
  | 0 => rfl
  | j + 1 => by rw [tl, List.length_set, tl_length l k d j]

theorem tl_ahead (l : List UInt8) (k : Nat) (d : Nat → UInt8) : ∀ j i, k + j ≤ i → (tl l k d j)[i]? = l[i]?
  | 0, _, _ => rfl
  | j + 1, i, h => by rw [tl, List.getElem?_set_ne (by omega), tl_ahead l k d j i (by omega)]

theorem tl_cell {w : World} {B : Nat} {l : List UInt8} {k : Nat} {d : Nat → UInt8} {j : Nat} (h : Holds w B (tl l k d j)) (hk : k + j < l.length) :
    w.cell? ⟨B, k + j, none⟩ = some (.int .u8 (((l.getD (k + j) 0).toNat : Nat) : Int)) ∧ w.frozen? ⟨B, k + j, none⟩ = false := by
  have hlen : k + j < (tl l k d j).length := by rw [tl_length]; exact hk
  have e : (tl l k d j)[k + j]'hlen = l.getD (k + j) 0 := by
    have := tl_ahead l k d j (k + j) (Nat.le_refl _)
    rw [List.getElem?_eq_getElem hlen] at this
    rw [List.getD, ← this]; rfl
  have := h (k + j) hlen
  rw [e] at this
  exact this

theorem tl_store {w : World} {B : Nat} {l : List UInt8} {k : Nat} {d : Nat → UInt8} {j : Nat} (h : Holds w B (tl l k d j)) (hk : k + j < l.length) (x : Int) (hx : x = (((l.getD (k + j) 0 ^^^ d j).toNat : Nat) : Int)) :
    Holds (w.setCell ⟨B, k + j, none⟩ (.int .u8 x)) B (tl l k d (j + 1)) := by
  subst hx
  exact h.set (k + j) (by rw [tl_length]; exact hk) _

theorem turned_byte (v : Nat) (g : UInt8) (hv : v = g.toNat) (q : Int) (e : Nat) (he : q = (e : Int)) (he2 : e < 256) : bits .xor .u8 (v : Int) q = (((g ^^^ UInt8.ofNat e).toNat : Nat) : Int) := by
  subst hv he
  rw [u8_xor_nat _ _ g.toNat_lt he2, UInt8.toNat_xor, UInt8.toNat_ofNat', Nat.mod_eq_of_lt he2]

theorem tl_four (p q : List UInt8) (s0 s1 s2 s3 : UInt8) (d : Nat → UInt8) :
    tl (p ++ s0 :: s1 :: s2 :: s3 :: q) p.length d 4 = p ++ (s0 ^^^ d 0) :: (s1 ^^^ d 1) :: (s2 ^^^ d 2) :: (s3 ^^^ d 3) :: q := by
  have g : ∀ (r : List UInt8) (i : Nat), (p ++ r).getD (p.length + i) 0 = r.getD i 0 := by
    intro r i
    rw [List.getD, List.getD, List.getElem?_append_right (by omega)]
    congr 2; omega
  have t : ∀ (r : List UInt8) (i : Nat) (x : UInt8), (p ++ r).set (p.length + i) x = p ++ r.set i x := by
    intro r i x
    rw [List.set_append_right _ _ (by omega)]
    congr 2; omega
  simp only [tl, g, t]
  rfl

theorem four_at (l : List UInt8) (k : Nat) (h : k + 4 ≤ l.length) : ∃ p q s0 s1 s2 s3, l = p ++ s0 :: s1 :: s2 :: s3 :: q ∧ p.length = k := by
  have e := List.take_append_drop k l
  have hl : (l.drop k).length = l.length - k := List.length_drop
  match hd : l.drop k with
  | s0 :: s1 :: s2 :: s3 :: q => exact ⟨l.take k, q, s0, s1, s2, s3, by rw [← hd, e], by rw [List.length_take]; omega⟩
  | [] => rw [hd] at hl; simp at hl; omega
  | [_] => rw [hd] at hl; simp at hl; omega
  | [_, _] => rw [hd] at hl; simp at hl; omega
  | [_, _, _] => rw [hd] at hl; simp at hl; omega

theorem tl_other (l : List UInt8) (k y : Nat) (h : k + 4 ≤ l.length) (hy : y < 4294967295) : crc (tl l k (fun j => UInt8.ofNat ((1 + y) / 256 ^ j % 256)) 4) ≠ crc l := by
  obtain ⟨p, q, s0, s1, s2, s3, rfl, rfl⟩ := four_at l k h
  rw [tl_four]
  refine crc_burst p q s0 s1 s2 s3 _ _ _ _ ?_
  rintro ⟨z0, z1, z2, z3⟩
  have u : ∀ e : Nat, e < 256 → UInt8.ofNat e = 0 → e = 0 := by
    intro e he hz
    have := congrArg UInt8.toNat hz
    rw [UInt8.toNat_ofNat', Nat.mod_eq_of_lt he] at this
    simpa using this
  have y0 := u _ (by omega) z0
  have y1 := u _ (by omega) z1
  have y2 := u _ (by omega) z2
  have y3 := u _ (by omega) z3
  have p0 : 256 ^ 0 = 1 := rfl
  have p1 : 256 ^ 1 = 256 := rfl
  have p2 : 256 ^ 2 = 65536 := rfl
  have p3 : 256 ^ 3 = 16777216 := rfl
  rw [p0] at y0; rw [p1] at y1; rw [p2] at y2; rw [p3] at y3
  omega

theorem kval (n : Int) (z k : Nat) (hz : 4 ≤ z) (hz' : z ≤ 9223372036854775807) (hk : n % 18446744073709551616 % ((z : Int) - 3) = (k : Int)) : wrap64 ((IntKind.u64.wrap n).tmod ((z : Int) - 3)) = (k : Int) := by
  have e : IntKind.u64.wrap n = n % 18446744073709551616 := by simp [IntKind.wrap, IntKind.bits, IntKind.signed]
  have l := Int.emod_lt_of_pos (n % 18446744073709551616) (show (0 : Int) < (z : Int) - 3 by omega)
  rw [e, Int.tmod_eq_emod_of_nonneg (by omega), hk, wrap64]
  omega

theorem yval (m : Int) (y : Nat) (hy : m % 18446744073709551616 % 4294967295 = (y : Int)) : wrap64 ((IntKind.u64.wrap m).tmod 4294967295) = (y : Int) := by
  have e : IntKind.u64.wrap m = m % 18446744073709551616 := by simp [IntKind.wrap, IntKind.bits, IntKind.signed]
  rw [e, Int.tmod_eq_emod_of_nonneg (by omega), hy, wrap64]
  omega

set_option maxHeartbeats 1000000 in
theorem burst_short (s : ByteArray) (n m : Int) (hs : s.size < 4) (w : World) :
    Calls Try.prog 4 #[.string s, .int .i64 n, .int .i64 m] w fun e w' => e = .returned (.bool true) ∧ Below w.heap.size w w' := by
  go_enter Try.func4, Try.ntmps4
  go_wp2_with fail
  refine (awake_true _).mono ?_
  rintro e w0 ⟨rfl, rfl⟩
  go_wp2
  go_ret
  exact ⟨rfl, Below.refl _ _⟩

set_option maxHeartbeats 1000000 in
theorem burst_long (s : ByteArray) (n m : Int) (hs : s.size ≤ maxLen) (h4 : 4 ≤ s.size) (k y : Nat) (hk : n % 18446744073709551616 % ((s.size : Int) - 3) = (k : Int)) (hk4 : k + 4 ≤ s.size) (hy : m % 18446744073709551616 % 4294967295 = (y : Int)) (hy2 : y < 4294967295) (w : World) :
    Calls Try.prog 4 #[.string s, .int .i64 n, .int .i64 m] w fun e w' => e = .returned (.bool true) ∧ Below w.heap.size w w' := by
  unfold maxLen at hs
  have hcv := fun w => run_bytes_of_string (P := Try.prog) w 9 28 5 s Try.underlying9 Try.underlying28 Try.underlying5
  have hkv := kval n s.size k h4 (by omega) hk
  have hyv := yval m y hy
  clear hk hy
  obtain ⟨d, hd⟩ : ∃ d : Nat → UInt8, d = fun j => UInt8.ofNat ((1 + y) / 256 ^ j % 256) := ⟨_, rfl⟩
  have HD : Hid (d = fun j => UInt8.ofNat ((1 + y) / 256 ^ j % 256)) := hd
  clear hd
  go_enter Try.func4, Try.ntmps4
  go_wp2_with fail
  refine (awake_true _).mono ?_
  rintro e w0 ⟨rfl, rfl⟩
  go_wp2_with fail
  go_loopw [10] (fun i wr => ∃ j : Nat, j ≤ 4 ∧ i = .int .i64 j ∧ Holds wr w0.heap.size (tl s.data.toList k d j) ∧ Below w0.heap.size w0 wr) (fun i _ => 4 - (intOf i).toNat)
  case atStart => exact ⟨0, Nat.zero_le _, rfl, (holds_bytes s w0 _ _ rfl _).drew, ((Below.refl _ _).alloc (Nat.le_refl _) _).drew⟩
  case round =>
    obtain ⟨j, hj, rfl, hh, hb⟩ := hrel
    have HH : Hid (Holds wr w0.heap.size (tl s.data.toList k d j)) := hh
    have HB : Hid (Below w0.heap.size w0 wr) := hb
    clear hh hb hcv
    by_cases hlt : j < 4
    · have hlen : k + j < s.data.toList.length := by show k + j < s.size; omega
      obtain ⟨hc, hf⟩ := tl_cell HH.out hlen
      obtain ⟨v, hv⟩ : ∃ v : Nat, v = (s.data.toList.getD (k + j) 0).toNat := ⟨_, rfl⟩
      rw [← hv] at hc
      have hv2 : v < 256 := by rw [hv]; exact UInt8.toNat_lt _
      have HV : Hid (v = (s.data.toList.getD (k + j) 0).toNat) := hv
      clear hv hlen
      rcases (show j = 0 ∨ j = 1 ∨ j = 2 ∨ j = 3 from by omega) with rfl | rfl | rfl | rfl
      · rw [Nat.add_zero] at hc hf
        go_wp2
        go_region
        go_wp2
        go_roundw
        case rel =>
          refine ⟨1, by omega, by go_num, (tl_store HH.out (by show _ < s.size; omega) _ ?_).drew, (HB.out.setCell (Nat.le_refl _) _).drew⟩
          rw [HD.out]
          exact turned_byte v _ HV.out _ _ (by show _ = (((1 + y) / 1 % 256 : Nat) : Int); omega) (by omega)
        case measure => simp [intOf]
      · go_wp2
        go_region
        go_wp2
        go_roundw
        case rel =>
          refine ⟨2, by omega, by go_num, (tl_store HH.out (by show _ < s.size; omega) _ ?_).drew, (HB.out.setCell (Nat.le_refl _) _).drew⟩
          rw [HD.out]
          exact turned_byte v _ HV.out _ _ (by show _ = (((1 + y) / 256 % 256 : Nat) : Int); omega) (by omega)
        case measure => simp [intOf]
      · go_wp2
        go_region
        go_wp2
        go_roundw
        case rel =>
          refine ⟨3, by omega, by go_num, (tl_store HH.out (by show _ < s.size; omega) _ ?_).drew, (HB.out.setCell (Nat.le_refl _) _).drew⟩
          rw [HD.out]
          exact turned_byte v _ HV.out _ _ (by show _ = (((1 + y) / 65536 % 256 : Nat) : Int); omega) (by omega)
        case measure => simp [intOf]
      · go_wp2
        go_region
        go_wp2
        go_roundw
        case rel =>
          refine ⟨4, by omega, by go_num, (tl_store HH.out (by show _ < s.size; omega) _ ?_).drew, (HB.out.setCell (Nat.le_refl _) _).drew⟩
          rw [HD.out]
          exact turned_byte v _ HV.out _ _ (by show _ = (((1 + y) / 16777216 % 256 : Nat) : Int); omega) (by omega)
        case measure => simp [intOf]
    · obtain rfl : j = 4 := by omega
      have hst := HH.out.str (grownCap w0 s.size 0 5) s.size (by rw [tl_length]; rfl)
      have q1 := sum_ok ⟨(tl s.data.toList k d 4).toArray⟩ (by show (tl s.data.toList k d 4).toArray.size ≤ maxLen; rw [List.size_toArray, tl_length]; show s.size ≤ maxLen; unfold maxLen; omega)
      have q2 := sum_ok s (by unfold maxLen; omega)
      have hne : crc (tl s.data.toList k d 4) ≠ crc s.data.toList := by rw [HD.out]; exact tl_other _ _ _ (by show _ ≤ s.size; omega) hy2
      have e1 : crc (ByteArray.mk (tl s.data.toList k d 4).toArray).data.toList = crc (tl s.data.toList k d 4) := rfl
      rw [e1] at q1
      clear e1
      generalize crc (tl s.data.toList k d 4) = a at *
      generalize crc s.data.toList = b at *
      have Q1 : Hid (∀ w, Calls Try.prog 9 #[.string ⟨(tl s.data.toList k d 4).toArray⟩] w fun e w' => e = .returned (.int .i64 (a : Int)) ∧ w' = w) := q1
      have Q2 : Hid (∀ w, Calls Try.prog 9 #[.string s] w fun e w' => e = .returned (.int .i64 (b : Int)) ∧ w' = w) := q2
      clear q1 q2
      go_wp2_with fail
      refine (Q1.out _).mono ?_
      rintro e w1 ⟨rfl, rfl⟩
      go_wp2_with fail
      refine (Q2.out _).mono ?_
      rintro e w2 ⟨rfl, rfl⟩
      go_wp2
      go_ret
      have hbn : ((a : Int) != (b : Int)) = true := by simp; omega
      exact ⟨congrArg (fun v => Ending.returned (.bool v)) hbn, HB.out⟩

theorem burst_walk (s : ByteArray) (n m : Int) (hs : s.size ≤ maxLen) (w : World) :
    Calls Try.prog 4 #[.string s, .int .i64 n, .int .i64 m] w fun e w' => e = .returned (.bool true) ∧ Below w.heap.size w w' := by
  by_cases h4 : 4 ≤ s.size
  · have l1 := Int.emod_lt_of_pos (n % 18446744073709551616) (show (0 : Int) < (s.size : Int) - 3 by omega)
    have l0 := Int.emod_nonneg (n % 18446744073709551616) (show (s.size : Int) - 3 ≠ 0 by omega)
    exact burst_long s n m hs h4 (n % 18446744073709551616 % ((s.size : Int) - 3)).toNat (m % 18446744073709551616 % 4294967295).toNat (by omega) (by omega) (by omega) (by omega) w
  · exact burst_short s n m (by omega) w

end Go.Proofs.Ytfjonehccmoadaa.Crc
