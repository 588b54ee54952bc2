/-
  The contract of varint.Get: what it answers, for every text and every place. No condition but that the place is an int.
-/
import Derived.Test.YtggccjbedoojmaaVGet
import Derived.Test.YtggccjbedoojmaaVRead
namespace Go.Proofs.Ytggccjbedoojmaa.Varint
open Go.RowKit Go.Proofs.Ytggccjbedoojmaa.Num
set_option linter.unusedVariables false

theorem idx (s : ByteArray) (a : Int) (h0 : 0 ≤ a) (j : Nat) (i : Int) (hi : i = a + j) (c : UInt8) (h : (s.data.toList.drop a.toNat)[j]? = some c) (w : World) :
    (Instr.index 9 (.string s) (.int .i64 i)).run Try.prog w = .ok (.int .u8 (c.toNat : Int)) w := by
  subst hi
  rw [List.getElem?_drop] at h
  have hl : a.toNat + j < s.data.toList.length := by
    rcases Nat.lt_or_ge (a.toNat + j) s.data.toList.length with hh | hh
    · exact hh
    · rw [List.getElem?_eq_none hh] at h; cases h
  have hz : s.data.toList.length = s.size := rfl
  rw [run_index_string (P := Try.prog) w 9 s .i64 (a + j) Try.underlying9]
  have hb : 0 ≤ a + (j : Int) ∧ a + (j : Int) < s.size := by omega
  rw [dif_pos hb]
  have ht : (a + (j : Int)).toNat = a.toNat + j := by omega
  have hc : s[(a + (j : Int)).toNat]'(by omega) = c := by
    have e : s[(a + (j : Int)).toNat]'(by omega) = s.data.toList[a.toNat + j]'hl := by
      simp only [ht]; rfl
    rw [e]
    rw [List.getElem?_eq_getElem hl] at h
    exact Option.some.inj h
  rw [hc]

theorem drop_len (s : ByteArray) (a : Int) (h0 : 0 ≤ a) (h1 : a ≤ s.size) (l : List UInt8) (h : s.data.toList.drop a.toNat = l) : (s.size : Int) = a + l.length := by
  have hz : s.data.toList.length = s.size := rfl
  rw [← h, List.length_drop, hz]; omega

/-- What is answered of what is read. -/
def ans (a : Int) : Option (Int × Nat) → Value
  | none => .tuple #[.int .i64 0, .int .i64 0, .int .i64 200]
  | some (x, n) => .tuple #[.int .i64 x, .int .i64 (a + n), .int .i64 0]

theorem get_any (s : ByteArray) (a : Int) (hs : s.size ≤ maxLen) (h0 : 0 ≤ a) (h1 : a ≤ s.size) (w : World) :
    Calls Try.prog 9 #[.string s, .int .i64 a] w fun e w' => e = .returned (ans a (getv (s.data.toList.drop a.toNat))) ∧ Onto w w' := by
  have hl := drop_len s a h0 h1 _ rfl
  have hi := fun j i hi c h => idx s a h0 j i hi c h
  generalize s.data.toList.drop a.toNat = l at hl hi
  match l, hl, hi with
  | [], hl, hi =>
    simp only [List.length_nil] at hl
    rw [getv_out0  ]
    exact get_out0 s a  hs h0 (by omega)   w
  | [c0], hl, hi =>
    simp only [List.length_cons, List.length_nil] at hl
    have t0 := c0.toNat_lt
    by_cases g0 : c0.toNat < 128
    · rw [getv_ok1 c0 _ g0]; exact get_ok1 s a (c0.toNat : Int) hs h0 (by omega) (by omega) (by omega) (hi 0 _ (by omega) c0 rfl) w
    rw [getv_out1 c0 g0]
    exact get_out1 s a (c0.toNat : Int) hs h0 (by omega) (by omega) (by omega) (hi 0 _ (by omega) c0 rfl) w
  | [c0, c1], hl, hi =>
    simp only [List.length_cons, List.length_nil] at hl
    have t0 := c0.toNat_lt
    have t1 := c1.toNat_lt
    by_cases g0 : c0.toNat < 128
    · rw [getv_ok1 c0 _ g0]; exact get_ok1 s a (c0.toNat : Int) hs h0 (by omega) (by omega) (by omega) (hi 0 _ (by omega) c0 rfl) w
    by_cases g1 : c1.toNat < 128
    · by_cases z : 0 < c1.toNat
      · rw [getv_ok2 c0 c1 _ g0 g1 z]
        exact (get_ok2 s a (c0.toNat : Int) (c1.toNat : Int) hs h0 (by omega) (by omega) (by omega) (by omega) (by omega) (hi 0 _ (by omega) c0 rfl) (hi 1 _ (by omega) c1 rfl) w).mono (fun e w' h => ⟨by rw [h.1, ans, show a + 1 + 1 = a + ((2 : Nat) : Int) from by omega], h.2⟩)
      · have z0 : c1.toNat = 0 := by omega
        rw [getv_zero2 c0 c1 _ g0 g1 z0]
        exact get_zero2 s a (c0.toNat : Int) hs h0 (by omega) (by omega) (by omega) (hi 0 _ (by omega) c0 rfl) (fun w => by have := hi 1 (a + 1) (by omega) c1 rfl w; rw [z0] at this; exact this) w
    rw [getv_out2 c0 c1 g0 g1]
    exact get_out2 s a (c0.toNat : Int) (c1.toNat : Int) hs h0 (by omega) (by omega) (by omega) (by omega) (by omega) (hi 0 _ (by omega) c0 rfl) (hi 1 _ (by omega) c1 rfl) w
  | [c0, c1, c2], hl, hi =>
    simp only [List.length_cons, List.length_nil] at hl
    have t0 := c0.toNat_lt
    have t1 := c1.toNat_lt
    have t2 := c2.toNat_lt
    by_cases g0 : c0.toNat < 128
    · rw [getv_ok1 c0 _ g0]; exact get_ok1 s a (c0.toNat : Int) hs h0 (by omega) (by omega) (by omega) (hi 0 _ (by omega) c0 rfl) w
    by_cases g1 : c1.toNat < 128
    · by_cases z : 0 < c1.toNat
      · rw [getv_ok2 c0 c1 _ g0 g1 z]
        exact (get_ok2 s a (c0.toNat : Int) (c1.toNat : Int) hs h0 (by omega) (by omega) (by omega) (by omega) (by omega) (hi 0 _ (by omega) c0 rfl) (hi 1 _ (by omega) c1 rfl) w).mono (fun e w' h => ⟨by rw [h.1, ans, show a + 1 + 1 = a + ((2 : Nat) : Int) from by omega], h.2⟩)
      · have z0 : c1.toNat = 0 := by omega
        rw [getv_zero2 c0 c1 _ g0 g1 z0]
        exact get_zero2 s a (c0.toNat : Int) hs h0 (by omega) (by omega) (by omega) (hi 0 _ (by omega) c0 rfl) (fun w => by have := hi 1 (a + 1) (by omega) c1 rfl w; rw [z0] at this; exact this) w
    by_cases g2 : c2.toNat < 128
    · by_cases z : 0 < c2.toNat
      · rw [getv_ok3 c0 c1 c2 _ g0 g1 g2 z]
        exact (get_ok3 s a (c0.toNat : Int) (c1.toNat : Int) (c2.toNat : Int) hs h0 (by omega) (by omega) (by omega) (by omega) (by omega) (by omega) (by omega) (hi 0 _ (by omega) c0 rfl) (hi 1 _ (by omega) c1 rfl) (hi 2 _ (by omega) c2 rfl) w).mono (fun e w' h => ⟨by rw [h.1, ans, show a + 2 + 1 = a + ((3 : Nat) : Int) from by omega], h.2⟩)
      · have z0 : c2.toNat = 0 := by omega
        rw [getv_zero3 c0 c1 c2 _ g0 g1 g2 z0]
        exact get_zero3 s a (c0.toNat : Int) (c1.toNat : Int) hs h0 (by omega) (by omega) (by omega) (by omega) (by omega) (hi 0 _ (by omega) c0 rfl) (hi 1 _ (by omega) c1 rfl) (fun w => by have := hi 2 (a + 2) (by omega) c2 rfl w; rw [z0] at this; exact this) w
    rw [getv_out3 c0 c1 c2 g0 g1 g2]
    exact get_out3 s a (c0.toNat : Int) (c1.toNat : Int) (c2.toNat : Int) hs h0 (by omega) (by omega) (by omega) (by omega) (by omega) (by omega) (by omega) (hi 0 _ (by omega) c0 rfl) (hi 1 _ (by omega) c1 rfl) (hi 2 _ (by omega) c2 rfl) w
  | [c0, c1, c2, c3], hl, hi =>
    simp only [List.length_cons, List.length_nil] at hl
    have t0 := c0.toNat_lt
    have t1 := c1.toNat_lt
    have t2 := c2.toNat_lt
    have t3 := c3.toNat_lt
    by_cases g0 : c0.toNat < 128
    · rw [getv_ok1 c0 _ g0]; exact get_ok1 s a (c0.toNat : Int) hs h0 (by omega) (by omega) (by omega) (hi 0 _ (by omega) c0 rfl) w
    by_cases g1 : c1.toNat < 128
    · by_cases z : 0 < c1.toNat
      · rw [getv_ok2 c0 c1 _ g0 g1 z]
        exact (get_ok2 s a (c0.toNat : Int) (c1.toNat : Int) hs h0 (by omega) (by omega) (by omega) (by omega) (by omega) (hi 0 _ (by omega) c0 rfl) (hi 1 _ (by omega) c1 rfl) w).mono (fun e w' h => ⟨by rw [h.1, ans, show a + 1 + 1 = a + ((2 : Nat) : Int) from by omega], h.2⟩)
      · have z0 : c1.toNat = 0 := by omega
        rw [getv_zero2 c0 c1 _ g0 g1 z0]
        exact get_zero2 s a (c0.toNat : Int) hs h0 (by omega) (by omega) (by omega) (hi 0 _ (by omega) c0 rfl) (fun w => by have := hi 1 (a + 1) (by omega) c1 rfl w; rw [z0] at this; exact this) w
    by_cases g2 : c2.toNat < 128
    · by_cases z : 0 < c2.toNat
      · rw [getv_ok3 c0 c1 c2 _ g0 g1 g2 z]
        exact (get_ok3 s a (c0.toNat : Int) (c1.toNat : Int) (c2.toNat : Int) hs h0 (by omega) (by omega) (by omega) (by omega) (by omega) (by omega) (by omega) (hi 0 _ (by omega) c0 rfl) (hi 1 _ (by omega) c1 rfl) (hi 2 _ (by omega) c2 rfl) w).mono (fun e w' h => ⟨by rw [h.1, ans, show a + 2 + 1 = a + ((3 : Nat) : Int) from by omega], h.2⟩)
      · have z0 : c2.toNat = 0 := by omega
        rw [getv_zero3 c0 c1 c2 _ g0 g1 g2 z0]
        exact get_zero3 s a (c0.toNat : Int) (c1.toNat : Int) hs h0 (by omega) (by omega) (by omega) (by omega) (by omega) (hi 0 _ (by omega) c0 rfl) (hi 1 _ (by omega) c1 rfl) (fun w => by have := hi 2 (a + 2) (by omega) c2 rfl w; rw [z0] at this; exact this) w
    by_cases g3 : c3.toNat < 128
    · by_cases z : 0 < c3.toNat
      · rw [getv_ok4 c0 c1 c2 c3 _ g0 g1 g2 g3 z]
        exact (get_ok4 s a (c0.toNat : Int) (c1.toNat : Int) (c2.toNat : Int) (c3.toNat : Int) hs h0 (by omega) (by omega) (by omega) (by omega) (by omega) (by omega) (by omega) (by omega) (by omega) (hi 0 _ (by omega) c0 rfl) (hi 1 _ (by omega) c1 rfl) (hi 2 _ (by omega) c2 rfl) (hi 3 _ (by omega) c3 rfl) w).mono (fun e w' h => ⟨by rw [h.1, ans, show a + 3 + 1 = a + ((4 : Nat) : Int) from by omega], h.2⟩)
      · have z0 : c3.toNat = 0 := by omega
        rw [getv_zero4 c0 c1 c2 c3 _ g0 g1 g2 g3 z0]
        exact get_zero4 s a (c0.toNat : Int) (c1.toNat : Int) (c2.toNat : Int) hs h0 (by omega) (by omega) (by omega) (by omega) (by omega) (by omega) (by omega) (hi 0 _ (by omega) c0 rfl) (hi 1 _ (by omega) c1 rfl) (hi 2 _ (by omega) c2 rfl) (fun w => by have := hi 3 (a + 3) (by omega) c3 rfl w; rw [z0] at this; exact this) w
    rw [getv_out4 c0 c1 c2 c3 g0 g1 g2 g3]
    exact get_out4 s a (c0.toNat : Int) (c1.toNat : Int) (c2.toNat : Int) (c3.toNat : Int) hs h0 (by omega) (by omega) (by omega) (by omega) (by omega) (by omega) (by omega) (by omega) (by omega) (hi 0 _ (by omega) c0 rfl) (hi 1 _ (by omega) c1 rfl) (hi 2 _ (by omega) c2 rfl) (hi 3 _ (by omega) c3 rfl) w
  | c0 :: c1 :: c2 :: c3 :: c4 :: r, hl, hi =>
    simp only [List.length_cons] at hl
    have t0 := c0.toNat_lt
    have t1 := c1.toNat_lt
    have t2 := c2.toNat_lt
    have t3 := c3.toNat_lt
    have t4 := c4.toNat_lt
    by_cases g0 : c0.toNat < 128
    · rw [getv_ok1 c0 _ g0]; exact get_ok1 s a (c0.toNat : Int) hs h0 (by omega) (by omega) (by omega) (hi 0 _ (by omega) c0 rfl) w
    by_cases g1 : c1.toNat < 128
    · by_cases z : 0 < c1.toNat
      · rw [getv_ok2 c0 c1 _ g0 g1 z]
        exact (get_ok2 s a (c0.toNat : Int) (c1.toNat : Int) hs h0 (by omega) (by omega) (by omega) (by omega) (by omega) (hi 0 _ (by omega) c0 rfl) (hi 1 _ (by omega) c1 rfl) w).mono (fun e w' h => ⟨by rw [h.1, ans, show a + 1 + 1 = a + ((2 : Nat) : Int) from by omega], h.2⟩)
      · have z0 : c1.toNat = 0 := by omega
        rw [getv_zero2 c0 c1 _ g0 g1 z0]
        exact get_zero2 s a (c0.toNat : Int) hs h0 (by omega) (by omega) (by omega) (hi 0 _ (by omega) c0 rfl) (fun w => by have := hi 1 (a + 1) (by omega) c1 rfl w; rw [z0] at this; exact this) w
    by_cases g2 : c2.toNat < 128
    · by_cases z : 0 < c2.toNat
      · rw [getv_ok3 c0 c1 c2 _ g0 g1 g2 z]
        exact (get_ok3 s a (c0.toNat : Int) (c1.toNat : Int) (c2.toNat : Int) hs h0 (by omega) (by omega) (by omega) (by omega) (by omega) (by omega) (by omega) (hi 0 _ (by omega) c0 rfl) (hi 1 _ (by omega) c1 rfl) (hi 2 _ (by omega) c2 rfl) w).mono (fun e w' h => ⟨by rw [h.1, ans, show a + 2 + 1 = a + ((3 : Nat) : Int) from by omega], h.2⟩)
      · have z0 : c2.toNat = 0 := by omega
        rw [getv_zero3 c0 c1 c2 _ g0 g1 g2 z0]
        exact get_zero3 s a (c0.toNat : Int) (c1.toNat : Int) hs h0 (by omega) (by omega) (by omega) (by omega) (by omega) (hi 0 _ (by omega) c0 rfl) (hi 1 _ (by omega) c1 rfl) (fun w => by have := hi 2 (a + 2) (by omega) c2 rfl w; rw [z0] at this; exact this) w
    by_cases g3 : c3.toNat < 128
    · by_cases z : 0 < c3.toNat
      · rw [getv_ok4 c0 c1 c2 c3 _ g0 g1 g2 g3 z]
        exact (get_ok4 s a (c0.toNat : Int) (c1.toNat : Int) (c2.toNat : Int) (c3.toNat : Int) hs h0 (by omega) (by omega) (by omega) (by omega) (by omega) (by omega) (by omega) (by omega) (by omega) (hi 0 _ (by omega) c0 rfl) (hi 1 _ (by omega) c1 rfl) (hi 2 _ (by omega) c2 rfl) (hi 3 _ (by omega) c3 rfl) w).mono (fun e w' h => ⟨by rw [h.1, ans, show a + 3 + 1 = a + ((4 : Nat) : Int) from by omega], h.2⟩)
      · have z0 : c3.toNat = 0 := by omega
        rw [getv_zero4 c0 c1 c2 c3 _ g0 g1 g2 g3 z0]
        exact get_zero4 s a (c0.toNat : Int) (c1.toNat : Int) (c2.toNat : Int) hs h0 (by omega) (by omega) (by omega) (by omega) (by omega) (by omega) (by omega) (hi 0 _ (by omega) c0 rfl) (hi 1 _ (by omega) c1 rfl) (hi 2 _ (by omega) c2 rfl) (fun w => by have := hi 3 (a + 3) (by omega) c3 rfl w; rw [z0] at this; exact this) w
    by_cases g4 : c4.toNat < 128
    · by_cases z : 0 < c4.toNat
      · by_cases b : c4.toNat < 16
        · rw [getv_ok5 c0 c1 c2 c3 c4 _ g0 g1 g2 g3 g4 z b]
          exact (get_ok5 s a (c0.toNat : Int) (c1.toNat : Int) (c2.toNat : Int) (c3.toNat : Int) (c4.toNat : Int) hs h0 (by omega) (by omega) (by omega) (by omega) (by omega) (by omega) (by omega) (by omega) (by omega) (by omega) (by omega) (hi 0 _ (by omega) c0 rfl) (hi 1 _ (by omega) c1 rfl) (hi 2 _ (by omega) c2 rfl) (hi 3 _ (by omega) c3 rfl) (hi 4 _ (by omega) c4 rfl) w).mono (fun e w' h => ⟨by rw [h.1, ans, show a + 4 + 1 = a + ((5 : Nat) : Int) from by omega], h.2⟩)
        · rw [getv_big c0 c1 c2 c3 c4 _ g0 g1 g2 g3 g4 (by omega)]
          exact get_big s a (c0.toNat : Int) (c1.toNat : Int) (c2.toNat : Int) (c3.toNat : Int) (c4.toNat : Int) hs h0 (by omega) (by omega) (by omega) (by omega) (by omega) (by omega) (by omega) (by omega) (by omega) (by omega) (by omega) (hi 0 _ (by omega) c0 rfl) (hi 1 _ (by omega) c1 rfl) (hi 2 _ (by omega) c2 rfl) (hi 3 _ (by omega) c3 rfl) (hi 4 _ (by omega) c4 rfl) w
      · have z0 : c4.toNat = 0 := by omega
        rw [getv_zero5 c0 c1 c2 c3 c4 _ g0 g1 g2 g3 g4 z0]
        exact get_zero5 s a (c0.toNat : Int) (c1.toNat : Int) (c2.toNat : Int) (c3.toNat : Int) hs h0 (by omega) (by omega) (by omega) (by omega) (by omega) (by omega) (by omega) (by omega) (by omega) (hi 0 _ (by omega) c0 rfl) (hi 1 _ (by omega) c1 rfl) (hi 2 _ (by omega) c2 rfl) (hi 3 _ (by omega) c3 rfl) (fun w => by have := hi 4 (a + 4) (by omega) c4 rfl w; rw [z0] at this; exact this) w
    rw [getv_five c0 c1 c2 c3 c4 _ g0 g1 g2 g3 g4]
    exact get_five s a (c0.toNat : Int) (c1.toNat : Int) (c2.toNat : Int) (c3.toNat : Int) (c4.toNat : Int) hs h0 (by omega) (by omega) (by omega) (by omega) (by omega) (by omega) (by omega) (by omega) (by omega) (by omega) (by omega) (hi 0 _ (by omega) c0 rfl) (hi 1 _ (by omega) c1 rfl) (hi 2 _ (by omega) c2 rfl) (hi 3 _ (by omega) c3 rfl) (hi 4 _ (by omega) c4 rfl) w

end Go.Proofs.Ytggccjbedoojmaa.Varint
