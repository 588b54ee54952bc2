/-
  The contract of descantref1.GetVarint: what it answers, for every text and every place. No condition but that the place is an int.
-/
import Derived.Test.YtggccjbedoojmaaVRget
import Derived.Test.YtggccjbedoojmaaVSame
import Derived.Test.YtggccjbedoojmaaVGetAny
namespace Go.Proofs.Ytggccjbedoojmaa.Varint
open Go.RowKit Go.Proofs.Ytggccjbedoojmaa.Num
set_option linter.unusedVariables false

theorem rget_any (s : ByteArray) (a : Int) (hs : s.size ≤ maxLen) (h0 : 0 ≤ a) (h1 : a ≤ s.size) (w : World) :
    Calls Try.prog 10 #[.string s, .int .i64 a] w fun e w' => e = .returned (ans a (getv (s.data.toList.drop a.toNat))) ∧ Onto w w' := by
  have hl := drop_len s a h0 h1 _ rfl
  have hi := fun j i hi c h => idx s a h0 j i hi c h
  have hx := fun n e he => ext_take s a h0 n e he
  generalize s.data.toList.drop a.toNat = l at hl hi hx
  match l, hl, hi, hx with
  | [], hl, hi, hx =>
    simp only [List.length_nil] at hl
    rw [getv_out0  ]
    exact rget_out0 s a  hs h0 (by omega)   w
  | [c0], hl, hi, hx =>
    simp only [List.length_cons, List.length_nil] at hl
    have t0 := c0.toNat_lt
    by_cases g0 : c0.toNat < 128
    · rw [getv_ok1 c0 _ g0]; exact rget_ok1 s a (c0.toNat : Int) hs h0 (by omega) (by omega) (by omega) (hi 0 _ (by omega) c0 rfl) (same_true _ _ (by rw [same1 c0 g0, hx 1 (a + 1) (by omega)]; rfl)) w
    rw [getv_out1 c0 g0]
    exact rget_out1 s a (c0.toNat : Int) hs h0 (by omega) (by omega) (by omega) (hi 0 _ (by omega) c0 rfl) w
  | [c0, c1], hl, hi, hx =>
    simp only [List.length_cons, List.length_nil] at hl
    have t0 := c0.toNat_lt
    have t1 := c1.toNat_lt
    by_cases g0 : c0.toNat < 128
    · rw [getv_ok1 c0 _ g0]; exact rget_ok1 s a (c0.toNat : Int) hs h0 (by omega) (by omega) (by omega) (hi 0 _ (by omega) c0 rfl) (same_true _ _ (by rw [same1 c0 g0, hx 1 (a + 1) (by omega)]; rfl)) w
    by_cases g1 : c1.toNat < 128
    · by_cases z : 0 < c1.toNat
      · rw [getv_ok2 c0 c1 _ g0 g1 z]
        exact (rget_ok2 s a (c0.toNat : Int) (c1.toNat : Int) hs h0 (by omega) (by omega) (by omega) (by omega) (by omega) (hi 0 _ (by omega) c0 rfl) (hi 1 _ (by omega) c1 rfl) (same_true _ _ (by rw [same2 c0 c1 g0 g1 z, hx 2 (a + 1 + 1) (by omega)]; rfl)) w).mono (fun e w' h => ⟨by rw [h.1, ans, show a + 1 + 1 = a + ((2 : Nat) : Int) from by omega], h.2⟩)
      · have z0 : c1.toNat = 0 := by omega
        rw [getv_zero2 c0 c1 _ g0 g1 z0]
        exact rget_zero2 s a (c0.toNat : Int) hs h0 (by omega) (by omega) (by omega) (hi 0 _ (by omega) c0 rfl) (fun w => by have := hi 1 (a + 1) (by omega) c1 rfl w; rw [z0] at this; exact this) (same_false _ _ (by rw [strOfNums_size, hx 2 (a + 1 + 1) (by omega)]; have := tell_short 4 0 ((c0.toNat : Int) % 128) (by omega); show _ ≠ 2; omega)) w
    rw [getv_out2 c0 c1 g0 g1]
    exact rget_out2 s a (c0.toNat : Int) (c1.toNat : Int) hs h0 (by omega) (by omega) (by omega) (by omega) (by omega) (hi 0 _ (by omega) c0 rfl) (hi 1 _ (by omega) c1 rfl) w
  | [c0, c1, c2], hl, hi, hx =>
    simp only [List.length_cons, List.length_nil] at hl
    have t0 := c0.toNat_lt
    have t1 := c1.toNat_lt
    have t2 := c2.toNat_lt
    by_cases g0 : c0.toNat < 128
    · rw [getv_ok1 c0 _ g0]; exact rget_ok1 s a (c0.toNat : Int) hs h0 (by omega) (by omega) (by omega) (hi 0 _ (by omega) c0 rfl) (same_true _ _ (by rw [same1 c0 g0, hx 1 (a + 1) (by omega)]; rfl)) w
    by_cases g1 : c1.toNat < 128
    · by_cases z : 0 < c1.toNat
      · rw [getv_ok2 c0 c1 _ g0 g1 z]
        exact (rget_ok2 s a (c0.toNat : Int) (c1.toNat : Int) hs h0 (by omega) (by omega) (by omega) (by omega) (by omega) (hi 0 _ (by omega) c0 rfl) (hi 1 _ (by omega) c1 rfl) (same_true _ _ (by rw [same2 c0 c1 g0 g1 z, hx 2 (a + 1 + 1) (by omega)]; rfl)) w).mono (fun e w' h => ⟨by rw [h.1, ans, show a + 1 + 1 = a + ((2 : Nat) : Int) from by omega], h.2⟩)
      · have z0 : c1.toNat = 0 := by omega
        rw [getv_zero2 c0 c1 _ g0 g1 z0]
        exact rget_zero2 s a (c0.toNat : Int) hs h0 (by omega) (by omega) (by omega) (hi 0 _ (by omega) c0 rfl) (fun w => by have := hi 1 (a + 1) (by omega) c1 rfl w; rw [z0] at this; exact this) (same_false _ _ (by rw [strOfNums_size, hx 2 (a + 1 + 1) (by omega)]; have := tell_short 4 0 ((c0.toNat : Int) % 128) (by omega); show _ ≠ 2; omega)) w
    by_cases g2 : c2.toNat < 128
    · by_cases z : 0 < c2.toNat
      · rw [getv_ok3 c0 c1 c2 _ g0 g1 g2 z]
        exact (rget_ok3 s a (c0.toNat : Int) (c1.toNat : Int) (c2.toNat : Int) hs h0 (by omega) (by omega) (by omega) (by omega) (by omega) (by omega) (by omega) (hi 0 _ (by omega) c0 rfl) (hi 1 _ (by omega) c1 rfl) (hi 2 _ (by omega) c2 rfl) (same_true _ _ (by rw [same3 c0 c1 c2 g0 g1 g2 z, hx 3 (a + 2 + 1) (by omega)]; rfl)) w).mono (fun e w' h => ⟨by rw [h.1, ans, show a + 2 + 1 = a + ((3 : Nat) : Int) from by omega], h.2⟩)
      · have z0 : c2.toNat = 0 := by omega
        rw [getv_zero3 c0 c1 c2 _ g0 g1 g2 z0]
        exact rget_zero3 s a (c0.toNat : Int) (c1.toNat : Int) hs h0 (by omega) (by omega) (by omega) (by omega) (by omega) (hi 0 _ (by omega) c0 rfl) (hi 1 _ (by omega) c1 rfl) (fun w => by have := hi 2 (a + 2) (by omega) c2 rfl w; rw [z0] at this; exact this) (same_false _ _ (by rw [strOfNums_size, hx 3 (a + 2 + 1) (by omega)]; have := tell_short 4 1 ((c0.toNat : Int) % 128 + (c1.toNat : Int) % 128 * 128) (by omega); show _ ≠ 3; omega)) w
    rw [getv_out3 c0 c1 c2 g0 g1 g2]
    exact rget_out3 s a (c0.toNat : Int) (c1.toNat : Int) (c2.toNat : Int) hs h0 (by omega) (by omega) (by omega) (by omega) (by omega) (by omega) (by omega) (hi 0 _ (by omega) c0 rfl) (hi 1 _ (by omega) c1 rfl) (hi 2 _ (by omega) c2 rfl) w
  | [c0, c1, c2, c3], hl, hi, hx =>
    simp only [List.length_cons, List.length_nil] at hl
    have t0 := c0.toNat_lt
    have t1 := c1.toNat_lt
    have t2 := c2.toNat_lt
    have t3 := c3.toNat_lt
    by_cases g0 : c0.toNat < 128
    · rw [getv_ok1 c0 _ g0]; exact rget_ok1 s a (c0.toNat : Int) hs h0 (by omega) (by omega) (by omega) (hi 0 _ (by omega) c0 rfl) (same_true _ _ (by rw [same1 c0 g0, hx 1 (a + 1) (by omega)]; rfl)) w
    by_cases g1 : c1.toNat < 128
    · by_cases z : 0 < c1.toNat
      · rw [getv_ok2 c0 c1 _ g0 g1 z]
        exact (rget_ok2 s a (c0.toNat : Int) (c1.toNat : Int) hs h0 (by omega) (by omega) (by omega) (by omega) (by omega) (hi 0 _ (by omega) c0 rfl) (hi 1 _ (by omega) c1 rfl) (same_true _ _ (by rw [same2 c0 c1 g0 g1 z, hx 2 (a + 1 + 1) (by omega)]; rfl)) w).mono (fun e w' h => ⟨by rw [h.1, ans, show a + 1 + 1 = a + ((2 : Nat) : Int) from by omega], h.2⟩)
      · have z0 : c1.toNat = 0 := by omega
        rw [getv_zero2 c0 c1 _ g0 g1 z0]
        exact rget_zero2 s a (c0.toNat : Int) hs h0 (by omega) (by omega) (by omega) (hi 0 _ (by omega) c0 rfl) (fun w => by have := hi 1 (a + 1) (by omega) c1 rfl w; rw [z0] at this; exact this) (same_false _ _ (by rw [strOfNums_size, hx 2 (a + 1 + 1) (by omega)]; have := tell_short 4 0 ((c0.toNat : Int) % 128) (by omega); show _ ≠ 2; omega)) w
    by_cases g2 : c2.toNat < 128
    · by_cases z : 0 < c2.toNat
      · rw [getv_ok3 c0 c1 c2 _ g0 g1 g2 z]
        exact (rget_ok3 s a (c0.toNat : Int) (c1.toNat : Int) (c2.toNat : Int) hs h0 (by omega) (by omega) (by omega) (by omega) (by omega) (by omega) (by omega) (hi 0 _ (by omega) c0 rfl) (hi 1 _ (by omega) c1 rfl) (hi 2 _ (by omega) c2 rfl) (same_true _ _ (by rw [same3 c0 c1 c2 g0 g1 g2 z, hx 3 (a + 2 + 1) (by omega)]; rfl)) w).mono (fun e w' h => ⟨by rw [h.1, ans, show a + 2 + 1 = a + ((3 : Nat) : Int) from by omega], h.2⟩)
      · have z0 : c2.toNat = 0 := by omega
        rw [getv_zero3 c0 c1 c2 _ g0 g1 g2 z0]
        exact rget_zero3 s a (c0.toNat : Int) (c1.toNat : Int) hs h0 (by omega) (by omega) (by omega) (by omega) (by omega) (hi 0 _ (by omega) c0 rfl) (hi 1 _ (by omega) c1 rfl) (fun w => by have := hi 2 (a + 2) (by omega) c2 rfl w; rw [z0] at this; exact this) (same_false _ _ (by rw [strOfNums_size, hx 3 (a + 2 + 1) (by omega)]; have := tell_short 4 1 ((c0.toNat : Int) % 128 + (c1.toNat : Int) % 128 * 128) (by omega); show _ ≠ 3; omega)) w
    by_cases g3 : c3.toNat < 128
    · by_cases z : 0 < c3.toNat
      · rw [getv_ok4 c0 c1 c2 c3 _ g0 g1 g2 g3 z]
        exact (rget_ok4 s a (c0.toNat : Int) (c1.toNat : Int) (c2.toNat : Int) (c3.toNat : Int) hs h0 (by omega) (by omega) (by omega) (by omega) (by omega) (by omega) (by omega) (by omega) (by omega) (hi 0 _ (by omega) c0 rfl) (hi 1 _ (by omega) c1 rfl) (hi 2 _ (by omega) c2 rfl) (hi 3 _ (by omega) c3 rfl) (same_true _ _ (by rw [same4 c0 c1 c2 c3 g0 g1 g2 g3 z, hx 4 (a + 3 + 1) (by omega)]; rfl)) w).mono (fun e w' h => ⟨by rw [h.1, ans, show a + 3 + 1 = a + ((4 : Nat) : Int) from by omega], h.2⟩)
      · have z0 : c3.toNat = 0 := by omega
        rw [getv_zero4 c0 c1 c2 c3 _ g0 g1 g2 g3 z0]
        exact rget_zero4 s a (c0.toNat : Int) (c1.toNat : Int) (c2.toNat : Int) hs h0 (by omega) (by omega) (by omega) (by omega) (by omega) (by omega) (by omega) (hi 0 _ (by omega) c0 rfl) (hi 1 _ (by omega) c1 rfl) (hi 2 _ (by omega) c2 rfl) (fun w => by have := hi 3 (a + 3) (by omega) c3 rfl w; rw [z0] at this; exact this) (same_false _ _ (by rw [strOfNums_size, hx 4 (a + 3 + 1) (by omega)]; have := tell_short 4 2 ((c0.toNat : Int) % 128 + (c1.toNat : Int) % 128 * 128 + (c2.toNat : Int) % 128 * 16384) (by omega); show _ ≠ 4; omega)) w
    rw [getv_out4 c0 c1 c2 c3 g0 g1 g2 g3]
    exact rget_out4 s a (c0.toNat : Int) (c1.toNat : Int) (c2.toNat : Int) (c3.toNat : Int) hs h0 (by omega) (by omega) (by omega) (by omega) (by omega) (by omega) (by omega) (by omega) (by omega) (hi 0 _ (by omega) c0 rfl) (hi 1 _ (by omega) c1 rfl) (hi 2 _ (by omega) c2 rfl) (hi 3 _ (by omega) c3 rfl) w
  | c0 :: c1 :: c2 :: c3 :: c4 :: r, hl, hi, hx =>
    simp only [List.length_cons] at hl
    have t0 := c0.toNat_lt
    have t1 := c1.toNat_lt
    have t2 := c2.toNat_lt
    have t3 := c3.toNat_lt
    have t4 := c4.toNat_lt
    by_cases g0 : c0.toNat < 128
    · rw [getv_ok1 c0 _ g0]; exact rget_ok1 s a (c0.toNat : Int) hs h0 (by omega) (by omega) (by omega) (hi 0 _ (by omega) c0 rfl) (same_true _ _ (by rw [same1 c0 g0, hx 1 (a + 1) (by omega)]; rfl)) w
    by_cases g1 : c1.toNat < 128
    · by_cases z : 0 < c1.toNat
      · rw [getv_ok2 c0 c1 _ g0 g1 z]
        exact (rget_ok2 s a (c0.toNat : Int) (c1.toNat : Int) hs h0 (by omega) (by omega) (by omega) (by omega) (by omega) (hi 0 _ (by omega) c0 rfl) (hi 1 _ (by omega) c1 rfl) (same_true _ _ (by rw [same2 c0 c1 g0 g1 z, hx 2 (a + 1 + 1) (by omega)]; rfl)) w).mono (fun e w' h => ⟨by rw [h.1, ans, show a + 1 + 1 = a + ((2 : Nat) : Int) from by omega], h.2⟩)
      · have z0 : c1.toNat = 0 := by omega
        rw [getv_zero2 c0 c1 _ g0 g1 z0]
        exact rget_zero2 s a (c0.toNat : Int) hs h0 (by omega) (by omega) (by omega) (hi 0 _ (by omega) c0 rfl) (fun w => by have := hi 1 (a + 1) (by omega) c1 rfl w; rw [z0] at this; exact this) (same_false _ _ (by rw [strOfNums_size, hx 2 (a + 1 + 1) (by omega)]; have := tell_short 4 0 ((c0.toNat : Int) % 128) (by omega); show _ ≠ 2; omega)) w
    by_cases g2 : c2.toNat < 128
    · by_cases z : 0 < c2.toNat
      · rw [getv_ok3 c0 c1 c2 _ g0 g1 g2 z]
        exact (rget_ok3 s a (c0.toNat : Int) (c1.toNat : Int) (c2.toNat : Int) hs h0 (by omega) (by omega) (by omega) (by omega) (by omega) (by omega) (by omega) (hi 0 _ (by omega) c0 rfl) (hi 1 _ (by omega) c1 rfl) (hi 2 _ (by omega) c2 rfl) (same_true _ _ (by rw [same3 c0 c1 c2 g0 g1 g2 z, hx 3 (a + 2 + 1) (by omega)]; rfl)) w).mono (fun e w' h => ⟨by rw [h.1, ans, show a + 2 + 1 = a + ((3 : Nat) : Int) from by omega], h.2⟩)
      · have z0 : c2.toNat = 0 := by omega
        rw [getv_zero3 c0 c1 c2 _ g0 g1 g2 z0]
        exact rget_zero3 s a (c0.toNat : Int) (c1.toNat : Int) hs h0 (by omega) (by omega) (by omega) (by omega) (by omega) (hi 0 _ (by omega) c0 rfl) (hi 1 _ (by omega) c1 rfl) (fun w => by have := hi 2 (a + 2) (by omega) c2 rfl w; rw [z0] at this; exact this) (same_false _ _ (by rw [strOfNums_size, hx 3 (a + 2 + 1) (by omega)]; have := tell_short 4 1 ((c0.toNat : Int) % 128 + (c1.toNat : Int) % 128 * 128) (by omega); show _ ≠ 3; omega)) w
    by_cases g3 : c3.toNat < 128
    · by_cases z : 0 < c3.toNat
      · rw [getv_ok4 c0 c1 c2 c3 _ g0 g1 g2 g3 z]
        exact (rget_ok4 s a (c0.toNat : Int) (c1.toNat : Int) (c2.toNat : Int) (c3.toNat : Int) hs h0 (by omega) (by omega) (by omega) (by omega) (by omega) (by omega) (by omega) (by omega) (by omega) (hi 0 _ (by omega) c0 rfl) (hi 1 _ (by omega) c1 rfl) (hi 2 _ (by omega) c2 rfl) (hi 3 _ (by omega) c3 rfl) (same_true _ _ (by rw [same4 c0 c1 c2 c3 g0 g1 g2 g3 z, hx 4 (a + 3 + 1) (by omega)]; rfl)) w).mono (fun e w' h => ⟨by rw [h.1, ans, show a + 3 + 1 = a + ((4 : Nat) : Int) from by omega], h.2⟩)
      · have z0 : c3.toNat = 0 := by omega
        rw [getv_zero4 c0 c1 c2 c3 _ g0 g1 g2 g3 z0]
        exact rget_zero4 s a (c0.toNat : Int) (c1.toNat : Int) (c2.toNat : Int) hs h0 (by omega) (by omega) (by omega) (by omega) (by omega) (by omega) (by omega) (hi 0 _ (by omega) c0 rfl) (hi 1 _ (by omega) c1 rfl) (hi 2 _ (by omega) c2 rfl) (fun w => by have := hi 3 (a + 3) (by omega) c3 rfl w; rw [z0] at this; exact this) (same_false _ _ (by rw [strOfNums_size, hx 4 (a + 3 + 1) (by omega)]; have := tell_short 4 2 ((c0.toNat : Int) % 128 + (c1.toNat : Int) % 128 * 128 + (c2.toNat : Int) % 128 * 16384) (by omega); show _ ≠ 4; omega)) w
    by_cases g4 : c4.toNat < 128
    · by_cases z : 0 < c4.toNat
      · by_cases b : c4.toNat < 16
        · rw [getv_ok5 c0 c1 c2 c3 c4 _ g0 g1 g2 g3 g4 z b]
          exact (rget_ok5 s a (c0.toNat : Int) (c1.toNat : Int) (c2.toNat : Int) (c3.toNat : Int) (c4.toNat : Int) hs h0 (by omega) (by omega) (by omega) (by omega) (by omega) (by omega) (by omega) (by omega) (by omega) (by omega) (by omega) (hi 0 _ (by omega) c0 rfl) (hi 1 _ (by omega) c1 rfl) (hi 2 _ (by omega) c2 rfl) (hi 3 _ (by omega) c3 rfl) (hi 4 _ (by omega) c4 rfl) (same_true _ _ (by rw [same5 c0 c1 c2 c3 c4 g0 g1 g2 g3 g4 z, hx 5 (a + 4 + 1) (by omega)]; rfl)) w).mono (fun e w' h => ⟨by rw [h.1, ans, show a + 4 + 1 = a + ((5 : Nat) : Int) from by omega], h.2⟩)
        · rw [getv_big c0 c1 c2 c3 c4 _ g0 g1 g2 g3 g4 (by omega)]
          exact rget_big s a (c0.toNat : Int) (c1.toNat : Int) (c2.toNat : Int) (c3.toNat : Int) (c4.toNat : Int) hs h0 (by omega) (by omega) (by omega) (by omega) (by omega) (by omega) (by omega) (by omega) (by omega) (by omega) (by omega) (hi 0 _ (by omega) c0 rfl) (hi 1 _ (by omega) c1 rfl) (hi 2 _ (by omega) c2 rfl) (hi 3 _ (by omega) c3 rfl) (hi 4 _ (by omega) c4 rfl) w
      · have z0 : c4.toNat = 0 := by omega
        rw [getv_zero5 c0 c1 c2 c3 c4 _ g0 g1 g2 g3 g4 z0]
        exact rget_zero5 s a (c0.toNat : Int) (c1.toNat : Int) (c2.toNat : Int) (c3.toNat : Int) hs h0 (by omega) (by omega) (by omega) (by omega) (by omega) (by omega) (by omega) (by omega) (by omega) (hi 0 _ (by omega) c0 rfl) (hi 1 _ (by omega) c1 rfl) (hi 2 _ (by omega) c2 rfl) (hi 3 _ (by omega) c3 rfl) (fun w => by have := hi 4 (a + 4) (by omega) c4 rfl w; rw [z0] at this; exact this) (same_false _ _ (by rw [strOfNums_size, hx 5 (a + 4 + 1) (by omega)]; have := tell_short 4 3 ((c0.toNat : Int) % 128 + (c1.toNat : Int) % 128 * 128 + (c2.toNat : Int) % 128 * 16384 + (c3.toNat : Int) % 128 * 2097152) (by omega); show _ ≠ 5; omega)) w
    rw [getv_five c0 c1 c2 c3 c4 _ g0 g1 g2 g3 g4]
    exact rget_five s a (c0.toNat : Int) (c1.toNat : Int) (c2.toNat : Int) (c3.toNat : Int) (c4.toNat : Int) hs h0 (by omega) (by omega) (by omega) (by omega) (by omega) (by omega) (by omega) (by omega) (by omega) (by omega) (by omega) (hi 0 _ (by omega) c0 rfl) (hi 1 _ (by omega) c1 rfl) (hi 2 _ (by omega) c2 rfl) (hi 3 _ (by omega) c3 rfl) (hi 4 _ (by omega) c4 rfl) w

end Go.Proofs.Ytggccjbedoojmaa.Varint
