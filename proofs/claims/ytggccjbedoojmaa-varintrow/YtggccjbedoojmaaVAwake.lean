/-
  The contracts of varint's Get and of the reference's at a place outside the text, and of the check that every statement of layer 2 begins with: it answers true, whatever the world. No condition.
-/
import Derived.Test.YtggccjbedoojmaaVGetAny
import Derived.Test.YtggccjbedoojmaaVRgetAny
namespace Go.Proofs.Ytggccjbedoojmaa.Varint
open Go.RowKit Go.Proofs.Ytggccjbedoojmaa.Num
set_option linter.unusedVariables false

set_option maxHeartbeats 400000 in
theorem get_off (s : ByteArray) (a : Int) (hs : s.size ≤ maxLen) (h : a < 0 ∨ (s.size : Int) < a) (w : World) :
    Calls Try.prog 9 #[.string s, .int .i64 a] w fun e w' => e = .returned (ans a none) ∧ Onto w w' := by
  unfold maxLen at hs
  unfold ans
  rcases h with h | h
  · go_enter Try.func9, Try.ntmps9
    go_wp2
    go_ret3
    exact ⟨rfl, Onto.refl _⟩
  · have h1 : 0 ≤ a := by omega
    go_enter Try.func9, Try.ntmps9
    go_wp2
    go_ret3
    exact ⟨rfl, Onto.refl _⟩

set_option maxHeartbeats 400000 in
theorem rget_off (s : ByteArray) (a : Int) (hs : s.size ≤ maxLen) (h : a < 0 ∨ (s.size : Int) < a) (w : World) :
    Calls Try.prog 10 #[.string s, .int .i64 a] w fun e w' => e = .returned (ans a none) ∧ Onto w w' := by
  unfold maxLen at hs
  unfold ans
  rcases h with h | h
  · go_enter Try.func10, Try.ntmps10
    go_wp2
    go_ret3
    exact ⟨rfl, Onto.refl _⟩
  · have h1 : 0 ≤ a := by omega
    go_enter Try.func10, Try.ntmps10
    go_wp2
    go_ret3
    exact ⟨rfl, Onto.refl _⟩

theorem str300 : strOfNums (tell 4 300) = ⟨#[172, 2]⟩ := by decide +kernel
theorem got300 : getv ((ByteArray.mk #[122] ++ ByteArray.mk #[172, 2]).data.toList.drop (1 : Int).toNat) = some (300, 2) := by decide +kernel
theorem gotZero : getv ((ByteArray.mk #[128, 0]).data.toList.drop (0 : Int).toNat) = none := by decide +kernel

set_option maxHeartbeats 1000000 in
theorem awake_true (w : World) :
    Calls Try.prog 12 #[] w fun e w' => e = .returned (.bool true) ∧ Onto w w' := by
  have hsz : (ByteArray.mk #[122] ++ ByteArray.mk #[172, 2]).size = 3 := by decide +kernel
  go_enter Try.func12, Try.ntmps12
  go_wp2_with fail
  refine (put_ok 300 (by omega) (by omega) _).mono ?_
  rintro e w1 ⟨rfl, g1⟩
  rw [str300]
  go_wp2_with fail
  refine (get_any (ByteArray.mk #[122] ++ ByteArray.mk #[172, 2]) 1 (by rw [hsz]; decide) (by omega) (by rw [hsz]; decide) _).mono ?_
  rintro e w2 ⟨rfl, g2⟩
  rw [got300]
  simp only [ans]
  go_wp2_with fail
  refine (put_no (-1) (by omega) (by omega) (.inl (by omega)) _).mono ?_
  rintro e w3 ⟨rfl, g3⟩
  go_wp2_with fail
  refine (get_any ⟨#[128, 0]⟩ 0 (by decide) (by omega) (by decide) _).mono ?_
  rintro e w4 ⟨rfl, g4⟩
  rw [gotZero]
  simp only [ans]
  have G : Hid (Onto w w4) := g1.trans (g2.trans (g3.trans g4))
  clear g1 g2 g3 g4
  go_wp2
  go_ret
  exact ⟨rfl, G.out⟩

end Go.Proofs.Ytggccjbedoojmaa.Varint
