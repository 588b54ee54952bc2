/-
  The walk of VarintSizes: it answers true for any int. No condition.
-/
import Derived.Test.YtggccjbedoojmaaVAwake
namespace Go.Proofs.Ytggccjbedoojmaa.Varint
open Go.RowKit Go.Proofs.Ytggccjbedoojmaa.Num
set_option linter.unusedVariables false

set_option maxHeartbeats 1000000 in
theorem sizes1 (x : Int) (h : 0 ≤ x % 4294967296) (h' : x % 4294967296 < 128) (w : World) :
    Calls Try.prog 6 #[.int .i64 x] w fun e w' => e = .returned (.bool true) ∧ Onto w w' := by
  have m32 := and32
  go_enter Try.func6, Try.ntmps6
  go_wp2_with fail
  refine (awake_true _).mono ?_
  rintro e w1 ⟨rfl, g1⟩
  go_wp2_with fail
  refine (put_ok (x % 4294967296) (by omega) (by omega) _).mono ?_
  rintro e w2 ⟨rfl, g2⟩
  have G : Hid (Onto w w2) := g1.trans g2
  clear g1 g2
  have hz : (strOfNums (tell 4 (x % 4294967296))).size = 1 := by rw [strOfNums_size, tell1 _ (by omega)]; rfl
  go_wp2
  refine wp_loop_rounds 1 ?_
  rw [rounds_succ]
  go_wp2
  go_ret
  exact ⟨rfl, G.out⟩

set_option maxHeartbeats 1000000 in
theorem sizes2 (x : Int) (h : 128 ≤ x % 4294967296) (h' : x % 4294967296 < 16384) (w : World) :
    Calls Try.prog 6 #[.int .i64 x] w fun e w' => e = .returned (.bool true) ∧ Onto w w' := by
  have m32 := and32
  go_enter Try.func6, Try.ntmps6
  go_wp2_with fail
  refine (awake_true _).mono ?_
  rintro e w1 ⟨rfl, g1⟩
  go_wp2_with fail
  refine (put_ok (x % 4294967296) (by omega) (by omega) _).mono ?_
  rintro e w2 ⟨rfl, g2⟩
  have G : Hid (Onto w w2) := g1.trans g2
  clear g1 g2
  have hz : (strOfNums (tell 4 (x % 4294967296))).size = 2 := by rw [strOfNums_size, tell2 _ (by omega) (by omega)]; rfl
  go_wp2
  refine wp_loop_rounds 2 ?_
  rw [rounds_succ]
  go_wp2
  rw [rounds_succ]
  go_wp2
  go_ret
  exact ⟨rfl, G.out⟩

set_option maxHeartbeats 1000000 in
theorem sizes3 (x : Int) (h : 16384 ≤ x % 4294967296) (h' : x % 4294967296 < 2097152) (w : World) :
    Calls Try.prog 6 #[.int .i64 x] w fun e w' => e = .returned (.bool true) ∧ Onto w w' := by
  have m32 := and32
  go_enter Try.func6, Try.ntmps6
  go_wp2_with fail
  refine (awake_true _).mono ?_
  rintro e w1 ⟨rfl, g1⟩
  go_wp2_with fail
  refine (put_ok (x % 4294967296) (by omega) (by omega) _).mono ?_
  rintro e w2 ⟨rfl, g2⟩
  have G : Hid (Onto w w2) := g1.trans g2
  clear g1 g2
  have hz : (strOfNums (tell 4 (x % 4294967296))).size = 3 := by rw [strOfNums_size, tell3 _ (by omega) (by omega)]; rfl
  go_wp2
  refine wp_loop_rounds 3 ?_
  rw [rounds_succ]
  go_wp2
  rw [rounds_succ]
  go_wp2
  rw [rounds_succ]
  go_wp2
  go_ret
  exact ⟨rfl, G.out⟩

set_option maxHeartbeats 1000000 in
theorem sizes4 (x : Int) (h : 2097152 ≤ x % 4294967296) (h' : x % 4294967296 < 268435456) (w : World) :
    Calls Try.prog 6 #[.int .i64 x] w fun e w' => e = .returned (.bool true) ∧ Onto w w' := by
  have m32 := and32
  go_enter Try.func6, Try.ntmps6
  go_wp2_with fail
  refine (awake_true _).mono ?_
  rintro e w1 ⟨rfl, g1⟩
  go_wp2_with fail
  refine (put_ok (x % 4294967296) (by omega) (by omega) _).mono ?_
  rintro e w2 ⟨rfl, g2⟩
  have G : Hid (Onto w w2) := g1.trans g2
  clear g1 g2
  have hz : (strOfNums (tell 4 (x % 4294967296))).size = 4 := by rw [strOfNums_size, tell4 _ (by omega) (by omega)]; rfl
  go_wp2
  refine wp_loop_rounds 4 ?_
  rw [rounds_succ]
  go_wp2
  rw [rounds_succ]
  go_wp2
  rw [rounds_succ]
  go_wp2
  rw [rounds_succ]
  go_wp2
  go_ret
  exact ⟨rfl, G.out⟩

set_option maxHeartbeats 1000000 in
theorem sizes5 (x : Int) (h : 268435456 ≤ x % 4294967296) (h' : x % 4294967296 < 4294967296) (w : World) :
    Calls Try.prog 6 #[.int .i64 x] w fun e w' => e = .returned (.bool true) ∧ Onto w w' := by
  have m32 := and32
  go_enter Try.func6, Try.ntmps6
  go_wp2_with fail
  refine (awake_true _).mono ?_
  rintro e w1 ⟨rfl, g1⟩
  go_wp2_with fail
  refine (put_ok (x % 4294967296) (by omega) (by omega) _).mono ?_
  rintro e w2 ⟨rfl, g2⟩
  have G : Hid (Onto w w2) := g1.trans g2
  clear g1 g2
  have hz : (strOfNums (tell 4 (x % 4294967296))).size = 5 := by rw [strOfNums_size, tell5 _ (by omega)]; rfl
  go_wp2
  refine wp_loop_rounds 5 ?_
  rw [rounds_succ]
  go_wp2
  rw [rounds_succ]
  go_wp2
  rw [rounds_succ]
  go_wp2
  rw [rounds_succ]
  go_wp2
  rw [rounds_succ]
  go_wp2
  go_ret
  exact ⟨rfl, G.out⟩

theorem sizes_walk (x : Int) (w : World) :
    Calls Try.prog 6 #[.int .i64 x] w fun e w' => e = .returned (.bool true) ∧ Onto w w' := by
  by_cases h1 : x % 4294967296 < 128
  · exact sizes1 x (by omega) h1 w
  by_cases h2 : x % 4294967296 < 16384
  · exact sizes2 x (by omega) h2 w
  by_cases h3 : x % 4294967296 < 2097152
  · exact sizes3 x (by omega) h3 w
  by_cases h4 : x % 4294967296 < 268435456
  · exact sizes4 x (by omega) h4 w
  · exact sizes5 x (by omega) (by omega) w

end Go.Proofs.Ytggccjbedoojmaa.Varint
