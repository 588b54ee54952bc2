/-
  The contracts of decoder.New and of the reference's NewDecoder: what they answer at every text. Condition: the text is no longer than an int can tell.
-/
import Derived.Test.YtoldedbfoechlaaGreatDoorYSmall
namespace Go.Proofs.YtoldedbfoechlaaGreatDoor.Deco
open Go.Proofs.YtoldedbfoechlaaGreatDoor.Coder Go.RowKit Go.Proofs.YtoldedbfoechlaaGreatDoor.Num
set_option linter.unusedVariables false

/-- What New answers. -/
def newAns (s : ByteArray) : Value := if s.size ≤ 65536 then .tuple #[.agg #[.int .i64 0, .int .i64 4294967295, .int .i64 (win s 0), .string s, .int .i64 4], .int .i64 0] else .tuple #[.agg #[.int .i64 0, .int .i64 0, .int .i64 0, .string (⟨#[]⟩), .int .i64 0], .int .i64 500]

set_option maxHeartbeats 1000000 in
theorem new_ok (s : ByteArray) (hs : s.size ≤ maxLen) (w : World) :
    Calls Tryz.prog 63 #[.string s] w fun e w' => e = .returned (newAns s) ∧ Bel w w' := by
  have hs' := hs
  unfold maxLen at hs
  by_cases hz : s.size ≤ 65536
  · rw [newAns, if_pos hz]
    have hz' : decide (65536 < (s.size : Int)) = false := by simp; omega
    rw [← now_four s]
    have n := nowAt_in s 0 0 (by omega) (by omega)
    have B0 : Hid (∀ w, Calls Tryz.prog 98 #[.string s, .int .i64 0] w fun e w' => e = .returned (.int .u8 (bz s 0)) ∧ w' = w) := byteAt_ok s 0 (by omega) hs'
    have P0 : Hid (∀ w, Calls Tryz.prog 97 #[.int .i64 0, .int .u8 (bz s 0)] w fun e w' => e = .returned (.int .i64 (nowAt s 0 0 1)) ∧ w' = w) := push_ok (nowAt s 0 0 0) (bz s 0) (n 0).1 (n 0).2 (bz_bounds s 0).1 (bz_bounds s 0).2
    have B1 : Hid (∀ w, Calls Tryz.prog 98 #[.string s, .int .i64 1] w fun e w' => e = .returned (.int .u8 (bz s 1)) ∧ w' = w) := byteAt_ok s 1 (by omega) hs'
    have P1 : Hid (∀ w, Calls Tryz.prog 97 #[.int .i64 (nowAt s 0 0 1), .int .u8 (bz s 1)] w fun e w' => e = .returned (.int .i64 (nowAt s 0 0 2)) ∧ w' = w) := push_ok (nowAt s 0 0 1) (bz s 1) (n 1).1 (n 1).2 (bz_bounds s 1).1 (bz_bounds s 1).2
    have B2 : Hid (∀ w, Calls Tryz.prog 98 #[.string s, .int .i64 2] w fun e w' => e = .returned (.int .u8 (bz s 2)) ∧ w' = w) := byteAt_ok s 2 (by omega) hs'
    have P2 : Hid (∀ w, Calls Tryz.prog 97 #[.int .i64 (nowAt s 0 0 2), .int .u8 (bz s 2)] w fun e w' => e = .returned (.int .i64 (nowAt s 0 0 3)) ∧ w' = w) := push_ok (nowAt s 0 0 2) (bz s 2) (n 2).1 (n 2).2 (bz_bounds s 2).1 (bz_bounds s 2).2
    have B3 : Hid (∀ w, Calls Tryz.prog 98 #[.string s, .int .i64 3] w fun e w' => e = .returned (.int .u8 (bz s 3)) ∧ w' = w) := byteAt_ok s 3 (by omega) hs'
    have P3 : Hid (∀ w, Calls Tryz.prog 97 #[.int .i64 (nowAt s 0 0 3), .int .u8 (bz s 3)] w fun e w' => e = .returned (.int .i64 (nowAt s 0 0 4)) ∧ w' = w) := push_ok (nowAt s 0 0 3) (bz s 3) (n 3).1 (n 3).2 (bz_bounds s 3).1 (bz_bounds s 3).2
    generalize bz s 0 = b0 at *
    generalize bz s 1 = b1 at *
    generalize bz s 2 = b2 at *
    generalize bz s 3 = b3 at *
    generalize nowAt s 0 0 1 = x1 at *
    generalize nowAt s 0 0 2 = x2 at *
    generalize nowAt s 0 0 3 = x3 at *
    generalize nowAt s 0 0 4 = x4 at *
    clear hs' n
    go_enter Tryz.func63, Tryz.ntmps63
    go_wp2
    refine wp_loop_rounds 5 ?_
    rw [rounds_succ]
    go_wp2_with fail
    refine (B0.out _).mono ?_
    rintro e w1 ⟨rfl, rfl⟩
    go_wp2_with fail
    refine (P0.out _).mono ?_
    rintro e w1 ⟨rfl, rfl⟩
    go_wp2_with fail
    rw [rounds_succ]
    go_wp2_with fail
    refine (B1.out _).mono ?_
    rintro e w1 ⟨rfl, rfl⟩
    go_wp2_with fail
    refine (P1.out _).mono ?_
    rintro e w1 ⟨rfl, rfl⟩
    go_wp2_with fail
    rw [rounds_succ]
    go_wp2_with fail
    refine (B2.out _).mono ?_
    rintro e w1 ⟨rfl, rfl⟩
    go_wp2_with fail
    refine (P2.out _).mono ?_
    rintro e w1 ⟨rfl, rfl⟩
    go_wp2_with fail
    rw [rounds_succ]
    go_wp2_with fail
    refine (B3.out _).mono ?_
    rintro e w1 ⟨rfl, rfl⟩
    go_wp2_with fail
    refine (P3.out _).mono ?_
    rintro e w1 ⟨rfl, rfl⟩
    go_wp2_with fail
    rw [rounds_succ]
    go_wp2_with fail
    refine (whole_ok _).mono ?_
    rintro e w1 ⟨rfl, b1⟩
    have d0 : w1.cell? ⟨w.heap.size, 0, none⟩ = some (.int .i64 0) := b1.keep (by simp)
    have f0 : w1.frozen? ⟨w.heap.size, 0, none⟩ = false := by rw [b1.frozen (by simp)]; simp
    have d1 : w1.cell? ⟨w.heap.size, 1, none⟩ = some (.int .i64 0) := b1.keep (by simp)
    have f1 : w1.frozen? ⟨w.heap.size, 1, none⟩ = false := by rw [b1.frozen (by simp)]; simp
    have d2 : w1.cell? ⟨w.heap.size, 2, none⟩ = some (.int .i64 0) := b1.keep (by simp)
    have f2 : w1.frozen? ⟨w.heap.size, 2, none⟩ = false := by rw [b1.frozen (by simp)]; simp
    have d3 : w1.cell? ⟨w.heap.size, 3, none⟩ = some (.string ⟨#[]⟩) := b1.keep (by simp)
    have f3 : w1.frozen? ⟨w.heap.size, 3, none⟩ = false := by rw [b1.frozen (by simp)]; simp
    have d4 : w1.cell? ⟨w.heap.size, 4, none⟩ = some (.int .i64 0) := b1.keep (by simp)
    have f4 : w1.frozen? ⟨w.heap.size, 4, none⟩ = false := by rw [b1.frozen (by simp)]; simp
    have hlt : w.heap.size < w1.heap.size := block_lt_of_cell d0
    have HB1 : Hid (Bel w w1) := Bel.trans ((Bel.refl _).alloc _) b1
    clear b1
    go_wp2
    have r := put5 (.int .i64 0) (.int .i64 4294967295) (.int .i64 x4) (.string s) (.int .i64 4) d0 d1 d2 d3 d4
    have ba := (Bel.refl (((((w1.setCell ⟨w.heap.size, 0, none⟩ (.int .i64 0)).setCell ⟨w.heap.size, 1, none⟩ (.int .i64 4294967295)).setCell ⟨w.heap.size, 2, none⟩ (.int .i64 x4)).setCell ⟨w.heap.size, 3, none⟩ (.string s)).setCell ⟨w.heap.size, 4, none⟩ (.int .i64 4))).alloc (.cells #[.int .i64 0, .int .i64 4294967295] 85)
    refine bodyPost_ret (results_dec2 Tryz.results63 rfl rfl ⟨ba.keep r.1, ba.keep r.2.1, ba.keep r.2.2.1, ba.keep r.2.2.2.1, ba.keep r.2.2.2.2⟩) rfl ⟨rfl, ?_⟩
    exact (bel5 HB1.out (Nat.le_refl _) _ _ _ _ _).trans ba
  · rw [newAns, if_neg hz]
    have hz' : decide (65536 < (s.size : Int)) = true := by simp; omega
    go_enter Tryz.func63, Tryz.ntmps63
    go_wp2
    refine bodyPost_ret (results_dec2 Tryz.results63 rfl rfl ⟨by simp, by simp, by simp, by simp, by simp⟩) rfl ⟨rfl, ?_⟩
    exact (Bel.refl _).alloc _

set_option maxHeartbeats 1000000 in
theorem newDecoder_ok (s : ByteArray) (hs : s.size ≤ maxLen) (w : World) :
    Calls Tryz.prog 36 #[.string s] w fun e w' => e = .returned (newAns s) ∧ Bel w w' := by
  have hs' := hs
  unfold maxLen at hs
  by_cases hz : s.size ≤ 65536
  · rw [newAns, if_pos hz]
    have hz' : decide (65536 < (s.size : Int)) = false := by simp; omega
    rw [win]
    have B0 : Hid (∀ w, Calls Tryz.prog 67 #[.string s, .int .i64 0] w fun e w' => e = .returned (.int .i64 (bz s 0)) ∧ w' = w) := rbyteAt_ok s 0 (by omega) hs'
    obtain ⟨k0, m0⟩ := bz_bounds s 0
    have B1 : Hid (∀ w, Calls Tryz.prog 67 #[.string s, .int .i64 1] w fun e w' => e = .returned (.int .i64 (bz s 1)) ∧ w' = w) := rbyteAt_ok s 1 (by omega) hs'
    obtain ⟨k1, m1⟩ := bz_bounds s 1
    have B2 : Hid (∀ w, Calls Tryz.prog 67 #[.string s, .int .i64 2] w fun e w' => e = .returned (.int .i64 (bz s 2)) ∧ w' = w) := rbyteAt_ok s 2 (by omega) hs'
    obtain ⟨k2, m2⟩ := bz_bounds s 2
    have B3 : Hid (∀ w, Calls Tryz.prog 67 #[.string s, .int .i64 3] w fun e w' => e = .returned (.int .i64 (bz s 3)) ∧ w' = w) := rbyteAt_ok s 3 (by omega) hs'
    obtain ⟨k3, m3⟩ := bz_bounds s 3
    simp only [Nat.zero_add]
    generalize bz s 0 = b0 at *
    generalize bz s 1 = b1 at *
    generalize bz s 2 = b2 at *
    generalize bz s 3 = b3 at *
    have o1 := or_join 24 (by decide) (b0 * 16777216) (b1 * 65536) (by omega) (by omega) (by omega) (by omega) (by omega)
    have o2 := or_join 16 (by decide) (b0 * 16777216 + b1 * 65536) (b2 * 256) (by omega) (by omega) (by omega) (by omega) (by omega)
    have o3 := or_join 8 (by decide) (b0 * 16777216 + b1 * 65536 + b2 * 256) b3 (by omega) (by omega) (by omega) (by omega) (by omega)
    clear hs'
    go_enter Tryz.func36, Tryz.ntmps36
    go_wp2_with fail
    refine (B0.out _).mono ?_
    rintro e w1 ⟨rfl, rfl⟩
    go_wp2_with fail
    refine (B1.out _).mono ?_
    rintro e w1 ⟨rfl, rfl⟩
    go_wp2_with fail
    refine (B2.out _).mono ?_
    rintro e w1 ⟨rfl, rfl⟩
    go_wp2_with fail
    refine (B3.out _).mono ?_
    rintro e w1 ⟨rfl, rfl⟩
    go_wp2
    refine bodyPost_ret (results_dec2 Tryz.results36 rfl rfl ⟨by simp, by simp, by simp, by simp, by simp⟩) rfl ⟨rfl, ?_⟩
    exact (Bel.refl _).alloc _
  · rw [newAns, if_neg hz]
    have hz' : decide (65536 < (s.size : Int)) = true := by simp; omega
    go_enter Tryz.func36, Tryz.ntmps36
    go_wp2
    refine bodyPost_ret (results_dec2 Tryz.results36 rfl rfl ⟨by simp, by simp, by simp, by simp, by simp⟩) rfl ⟨rfl, ?_⟩
    exact (Bel.refl _).alloc _

end Go.Proofs.YtoldedbfoechlaaGreatDoor.Deco
