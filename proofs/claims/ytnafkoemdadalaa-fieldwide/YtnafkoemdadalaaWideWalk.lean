/-
  The walk of FieldWide: it answers true for any three ints. No condition.
-/
import Derived.Test.YtnafkoemdadalaaAwake
namespace Go.Proofs.Ytnafkoemdadalaa.Field
open Go.RowKit Go.Proofs.Ytnafkoemdadalaa.Num
set_option linter.unusedVariables false

theorem pow_ge (k : Nat) (h : 1 ≤ k) : (256 : Int) ≤ 256 ^ k := by
  obtain ⟨j, rfl⟩ : ∃ j, k = j + 1 := ⟨k - 1, by omega⟩
  rw [Int.pow_succ]
  have : (0 : Int) < 256 ^ j := Int.pow_pos (by decide)
  omega

theorem str_size (v : Int) : (strOfNums [v, 0, 0, 0]).size = 4 := by simp [strOfNums_size]

theorem wide_str (v i : Int) (h0 : 0 ≤ v) (h1 : v < 256) (hi0 : 1 ≤ i) (hi1 : i ≤ 4) : (strOfNums (low i.toNat v)).toList = ((strOfNums [v, 0, 0, 0]).extract 0 i.toNat).toList := by
  have e0 : v % 256 = v := by omega
  have e1 : v / 256 = 0 := by omega
  congr 1
  apply ByteArray.ext
  apply Array.toList_inj.1
  rw [ByteArray.data_extract, Array.toList_extract, strOfNums_data, strOfNums_data]
  rcases four hi0 hi1 with rfl | rfl | rfl | rfl <;> simp [low, e0, e1, List.extract]

theorem cv4' (w : World) (n : Nat) (hn : n = w.heap.size) (a b c d : Int) : (convert 36 9 (.slice (some ⟨n, 0, none⟩) 4 4)).run Try.prog (w.alloc (.cells #[.int .u8 a, .int .u8 b, .int .u8 c, .int .u8 d] 5)) = .ok (.string (strOfNums [a, b, c, d])) (w.alloc (.cells #[.int .u8 a, .int .u8 b, .int .u8 c, .int .u8 d] 5)) := by
  subst hn; exact cv4 w a b c d

set_option maxHeartbeats 1000000 in
theorem wide_walk (a0 a1 a2 : Int) (w : World) :
    Calls Try.prog 6 #[.int .i64 a0, .int .i64 a1, .int .i64 a2] w fun e w' => e = .returned (.bool true) ∧ Grown w w' := by
  have m3 := and3
  have m255 := and255
  have v0 : 0 ≤ a0 % 256 := by omega
  have v1 : a0 % 256 < 256 := by omega
  have i0 : 0 ≤ a1 % 4 := by omega
  have i1 : a1 % 4 < 4 := by omega
  have j0 : 0 ≤ a2 % 4 := by omega
  have j1 : a2 % 4 < 4 := by omega
  have hz := str_size (a0 % 256)
  go_enter Try.func6, Try.ntmps6
  go_wp2_with fail
  refine (awake_true _).mono ?_
  rintro e w1 ⟨rfl, g1⟩
  go_wp2_with fail
  refine (put_ok (a0 % 256) (1 + a1 % 4) (by omega) (by omega) v0 (by have := pow_ge (1 + a1 % 4).toNat (by omega); omega) _).mono ?_
  rintro e w2 ⟨rfl, g2⟩
  go_wp2_with fail
  refine (put_ok (a0 % 256) (1 + a2 % 4) (by omega) (by omega) v0 (by have := pow_ge (1 + a2 % 4).toNat (by omega); omega) _).mono ?_
  rintro e w3 ⟨rfl, g3⟩
  have G : Hid (Grown w w3) := grown_trans g1 (grown_trans g2 g3)
  clear g1 g2 g3
  have hv := cv4 w3 (a0 % 256) 0 0 0
  have hv' := cv4' (w3.alloc (.cells #[.int .u8 (a0 % 256), .int .u8 0, .int .u8 0, .int .u8 0] 5)) (w3.heap.size + 1) (by simp) (a0 % 256) 0 0 0
  have q1 := wide_str (a0 % 256) (1 + a1 % 4) v0 v1 (by omega) (by omega)
  have q2 := wide_str (a0 % 256) (1 + a2 % 4) v0 v1 (by omega) (by omega)
  go_wp2
  go_ret
  exact ⟨rfl, (G.out.alloc _ _).alloc _ _⟩

end Go.Proofs.Ytnafkoemdadalaa.Field
