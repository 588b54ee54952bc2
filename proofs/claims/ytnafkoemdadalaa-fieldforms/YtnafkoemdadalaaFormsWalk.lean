/-
  The walk of FieldForms: it answers true for any two ints. No condition.
-/
import Derived.Test.YtnafkoemdadalaaAwake
import Derived.Deep.OwnRows
namespace Go.Proofs.Ytnafkoemdadalaa.Field
open Go.RowKit Go.Proofs.Ytnafkoemdadalaa.Num
set_option linter.unusedVariables false

theorem infoB : (Try.prog.info? 5).map (fun i => (i.zero, i.size, i.bytes)) = some (some (.int .u8 0), 1, 1) := by kernel_rfl

theorem mkN (n : Int) (h0 : 0 ≤ n) (h1 : n ≤ 100000) (w : World) :
    (Instr.makeSlice 36 (.int .i64 n) (.int .i64 n)).run Try.prog w = .ok (.slice (some ⟨w.heap.size, 0, none⟩) n.toNat n.toNat) (w.alloc (.cells (madeCells #[.int .u8 0] n.toNat) 5)) := by
  obtain ⟨m, rfl⟩ := Int.eq_ofNat_of_zero_le h0
  rw [Int.toNat_natCast]
  exact run_make_row' (P := Try.prog) 36 5 (.int .u8 0) 1 Try.underlying36 infoB rfl .i64 .i64 m (by omega) (by omega) w

theorem cvN (N : Nat) (w : World) : (convert 36 9 (.slice (some ⟨w.heap.size, 0, none⟩) N N)).run Try.prog (w.alloc (.cells (madeCells #[.int .u8 0] N) 5)) = .ok (.string (strOfNums (List.replicate N 0))) (w.alloc (.cells (madeCells #[.int .u8 0] N) 5)) := by
  refine run_convert_bytes_arg (P := Try.prog) _ 36 5 Try.underlying36 Try.underlying5 w.heap.size 0 N N (List.replicate N 0) (by simp) ?_ 9 Try.underlying9
  intro i hi
  rw [Nat.zero_add, World.cell?_alloc_at _ _ _ _ rfl, ← Array.getElem?_toList, toList_madeCells_one]
  simp [hi]

theorem zeros_size (N : Nat) : (strOfNums (List.replicate N 0)).size = N := by rw [strOfNums_size]; simp

theorem full1 : strOfNums (low (1 : Int).toNat 255) = ⟨#[255]⟩ := by decide +kernel
theorem ext1 : (ByteArray.mk #[255, 255, 255, 255]).extract 0 1 = ⟨#[255]⟩ := by decide +kernel
theorem full2 : strOfNums (low (2 : Int).toNat 65535) = ⟨#[255, 255]⟩ := by decide +kernel
theorem ext2 : (ByteArray.mk #[255, 255, 255, 255]).extract 0 2 = ⟨#[255, 255]⟩ := by decide +kernel
theorem full3 : strOfNums (low (3 : Int).toNat 16777215) = ⟨#[255, 255, 255]⟩ := by decide +kernel
theorem ext3 : (ByteArray.mk #[255, 255, 255, 255]).extract 0 3 = ⟨#[255, 255, 255]⟩ := by decide +kernel
theorem full4 : strOfNums (low (4 : Int).toNat 4294967295) = ⟨#[255, 255, 255, 255]⟩ := by decide +kernel
theorem ext4 : (ByteArray.mk #[255, 255, 255, 255]).extract 0 4 = ⟨#[255, 255, 255, 255]⟩ := by decide +kernel

set_option maxRecDepth 100000 in
set_option maxHeartbeats 1000000 in
theorem forms10 (a0 a1 : Int) (hk : a0 % 4 = 0) (hj : wrap64 ((IntKind.u64.wrap a0).tmod 3) = 0) (w : World) :
    Calls Try.prog 4 #[.int .i64 a0, .int .i64 a1] w fun e w' => e = .returned (.bool true) ∧ Grown w w' := by
  have m3 := and3
  have m1023 := and1023
  have d0 : 0 ≤ a1 % 1024 := by omega
  have d1 : a1 % 1024 < 1024 := by omega
  have hm := mkN (4 + (1 + a1 % 1024)) (by omega) (by omega)
  have hc := cvN (4 + (1 + a1 % 1024)).toNat
  go_enter Try.func4, Try.ntmps4
  go_wp2_with fail
  refine (awake_true _).mono ?_
  rintro e w1 ⟨rfl, g1⟩
  go_wp2_with fail
  refine (put_no (-(1 + a1 % 1024)) 1 (by omega) (.inr (.inr (.inl (by omega)))) _).mono ?_
  rintro e w2 ⟨rfl, g2⟩
  go_wp2_with fail
  refine (put_no (255 + (1 + a1 % 1024)) 1 (by omega) (.inr (.inr (.inr ⟨by omega, by omega, by show (256 : Int) ^ 1 ≤ _; omega⟩))) _).mono ?_
  rintro e w3 ⟨rfl, g3⟩
  go_wp2_with fail
  refine (put_no 5 0 (by omega) (.inl (by omega)) _).mono ?_
  rintro e w4 ⟨rfl, g4⟩
  go_wp2_with fail
  refine (get_no (strOfNums (List.replicate (4 + (1 + a1 % 1024)).toNat 0)) (by rw [zeros_size]; unfold maxLen; omega) (by rw [zeros_size]; omega) _).mono ?_
  rintro e w5 ⟨rfl, g5⟩
  go_wp2_with fail
  refine (put_ok 255 1 (by omega) (by omega) (by omega) (by decide) _).mono ?_
  rintro e w6 ⟨rfl, g6⟩
  rw [full1]
  have G : Hid (Grown w w6) := grown_trans g1 (grown_trans g2 (grown_trans g3 (grown_trans ((Grown.refl _).alloc _ _) (grown_trans g4 (grown_trans ((Grown.refl _).alloc _ _) (grown_trans g5 g6))))))
  clear g1 g2 g3 g4 g5 g6 hm hc m3 m1023
  have hx := ext1
  go_wp2
  go_ret
  exact ⟨rfl, G.out⟩

set_option maxRecDepth 100000 in
set_option maxHeartbeats 1000000 in
theorem forms11 (a0 a1 : Int) (hk : a0 % 4 = 0) (hj : wrap64 ((IntKind.u64.wrap a0).tmod 3) = 1) (w : World) :
    Calls Try.prog 4 #[.int .i64 a0, .int .i64 a1] w fun e w' => e = .returned (.bool true) ∧ Grown w w' := by
  have m3 := and3
  have m1023 := and1023
  have d0 : 0 ≤ a1 % 1024 := by omega
  have d1 : a1 % 1024 < 1024 := by omega
  have hm := mkN (4 + (1 + a1 % 1024)) (by omega) (by omega)
  have hc := cvN (4 + (1 + a1 % 1024)).toNat
  go_enter Try.func4, Try.ntmps4
  go_wp2_with fail
  refine (awake_true _).mono ?_
  rintro e w1 ⟨rfl, g1⟩
  go_wp2_with fail
  refine (put_no (-(1 + a1 % 1024)) 1 (by omega) (.inr (.inr (.inl (by omega)))) _).mono ?_
  rintro e w2 ⟨rfl, g2⟩
  go_wp2_with fail
  refine (put_no (255 + (1 + a1 % 1024)) 1 (by omega) (.inr (.inr (.inr ⟨by omega, by omega, by show (256 : Int) ^ 1 ≤ _; omega⟩))) _).mono ?_
  rintro e w3 ⟨rfl, g3⟩
  go_wp2_with fail
  refine (put_no 5 (-(1 + a1 % 1024)) (by omega) (.inl (by omega)) _).mono ?_
  rintro e w4 ⟨rfl, g4⟩
  go_wp2_with fail
  refine (get_no (strOfNums (List.replicate (4 + (1 + a1 % 1024)).toNat 0)) (by rw [zeros_size]; unfold maxLen; omega) (by rw [zeros_size]; omega) _).mono ?_
  rintro e w5 ⟨rfl, g5⟩
  go_wp2_with fail
  refine (put_ok 255 1 (by omega) (by omega) (by omega) (by decide) _).mono ?_
  rintro e w6 ⟨rfl, g6⟩
  rw [full1]
  have G : Hid (Grown w w6) := grown_trans g1 (grown_trans g2 (grown_trans g3 (grown_trans ((Grown.refl _).alloc _ _) (grown_trans g4 (grown_trans ((Grown.refl _).alloc _ _) (grown_trans g5 g6))))))
  clear g1 g2 g3 g4 g5 g6 hm hc m3 m1023
  have hx := ext1
  go_wp2
  go_ret
  exact ⟨rfl, G.out⟩

set_option maxRecDepth 100000 in
set_option maxHeartbeats 1000000 in
theorem forms12 (a0 a1 : Int) (hk : a0 % 4 = 0) (hj : wrap64 ((IntKind.u64.wrap a0).tmod 3) = 2) (w : World) :
    Calls Try.prog 4 #[.int .i64 a0, .int .i64 a1] w fun e w' => e = .returned (.bool true) ∧ Grown w w' := by
  have m3 := and3
  have m1023 := and1023
  have d0 : 0 ≤ a1 % 1024 := by omega
  have d1 : a1 % 1024 < 1024 := by omega
  have hm := mkN (4 + (1 + a1 % 1024)) (by omega) (by omega)
  have hc := cvN (4 + (1 + a1 % 1024)).toNat
  go_enter Try.func4, Try.ntmps4
  go_wp2_with fail
  refine (awake_true _).mono ?_
  rintro e w1 ⟨rfl, g1⟩
  go_wp2_with fail
  refine (put_no (-(1 + a1 % 1024)) 1 (by omega) (.inr (.inr (.inl (by omega)))) _).mono ?_
  rintro e w2 ⟨rfl, g2⟩
  go_wp2_with fail
  refine (put_no (255 + (1 + a1 % 1024)) 1 (by omega) (.inr (.inr (.inr ⟨by omega, by omega, by show (256 : Int) ^ 1 ≤ _; omega⟩))) _).mono ?_
  rintro e w3 ⟨rfl, g3⟩
  go_wp2_with fail
  refine (put_no 5 (4 + (1 + a1 % 1024)) (by omega) (.inr (.inl (by omega))) _).mono ?_
  rintro e w4 ⟨rfl, g4⟩
  go_wp2_with fail
  refine (get_no (strOfNums (List.replicate (4 + (1 + a1 % 1024)).toNat 0)) (by rw [zeros_size]; unfold maxLen; omega) (by rw [zeros_size]; omega) _).mono ?_
  rintro e w5 ⟨rfl, g5⟩
  go_wp2_with fail
  refine (put_ok 255 1 (by omega) (by omega) (by omega) (by decide) _).mono ?_
  rintro e w6 ⟨rfl, g6⟩
  rw [full1]
  have G : Hid (Grown w w6) := grown_trans g1 (grown_trans g2 (grown_trans g3 (grown_trans ((Grown.refl _).alloc _ _) (grown_trans g4 (grown_trans ((Grown.refl _).alloc _ _) (grown_trans g5 g6))))))
  clear g1 g2 g3 g4 g5 g6 hm hc m3 m1023
  have hx := ext1
  go_wp2
  go_ret
  exact ⟨rfl, G.out⟩

set_option maxRecDepth 100000 in
set_option maxHeartbeats 1000000 in
theorem forms20 (a0 a1 : Int) (hk : a0 % 4 = 1) (hj : wrap64 ((IntKind.u64.wrap a0).tmod 3) = 0) (w : World) :
    Calls Try.prog 4 #[.int .i64 a0, .int .i64 a1] w fun e w' => e = .returned (.bool true) ∧ Grown w w' := by
  have m3 := and3
  have m1023 := and1023
  have d0 : 0 ≤ a1 % 1024 := by omega
  have d1 : a1 % 1024 < 1024 := by omega
  have hm := mkN (4 + (1 + a1 % 1024)) (by omega) (by omega)
  have hc := cvN (4 + (1 + a1 % 1024)).toNat
  go_enter Try.func4, Try.ntmps4
  go_wp2_with fail
  refine (awake_true _).mono ?_
  rintro e w1 ⟨rfl, g1⟩
  go_wp2_with fail
  refine (put_no (-(1 + a1 % 1024)) 2 (by omega) (.inr (.inr (.inl (by omega)))) _).mono ?_
  rintro e w2 ⟨rfl, g2⟩
  go_wp2_with fail
  refine (put_no (65535 + (1 + a1 % 1024)) 2 (by omega) (.inr (.inr (.inr ⟨by omega, by omega, by show (256 : Int) ^ 2 ≤ _; omega⟩))) _).mono ?_
  rintro e w3 ⟨rfl, g3⟩
  go_wp2_with fail
  refine (put_no 5 0 (by omega) (.inl (by omega)) _).mono ?_
  rintro e w4 ⟨rfl, g4⟩
  go_wp2_with fail
  refine (get_no (strOfNums (List.replicate (4 + (1 + a1 % 1024)).toNat 0)) (by rw [zeros_size]; unfold maxLen; omega) (by rw [zeros_size]; omega) _).mono ?_
  rintro e w5 ⟨rfl, g5⟩
  go_wp2_with fail
  refine (put_ok 65535 2 (by omega) (by omega) (by omega) (by decide) _).mono ?_
  rintro e w6 ⟨rfl, g6⟩
  rw [full2]
  have G : Hid (Grown w w6) := grown_trans g1 (grown_trans g2 (grown_trans g3 (grown_trans ((Grown.refl _).alloc _ _) (grown_trans g4 (grown_trans ((Grown.refl _).alloc _ _) (grown_trans g5 g6))))))
  clear g1 g2 g3 g4 g5 g6 hm hc m3 m1023
  have hx := ext2
  go_wp2
  go_ret
  exact ⟨rfl, G.out⟩

set_option maxRecDepth 100000 in
set_option maxHeartbeats 1000000 in
theorem forms21 (a0 a1 : Int) (hk : a0 % 4 = 1) (hj : wrap64 ((IntKind.u64.wrap a0).tmod 3) = 1) (w : World) :
    Calls Try.prog 4 #[.int .i64 a0, .int .i64 a1] w fun e w' => e = .returned (.bool true) ∧ Grown w w' := by
  have m3 := and3
  have m1023 := and1023
  have d0 : 0 ≤ a1 % 1024 := by omega
  have d1 : a1 % 1024 < 1024 := by omega
  have hm := mkN (4 + (1 + a1 % 1024)) (by omega) (by omega)
  have hc := cvN (4 + (1 + a1 % 1024)).toNat
  go_enter Try.func4, Try.ntmps4
  go_wp2_with fail
  refine (awake_true _).mono ?_
  rintro e w1 ⟨rfl, g1⟩
  go_wp2_with fail
  refine (put_no (-(1 + a1 % 1024)) 2 (by omega) (.inr (.inr (.inl (by omega)))) _).mono ?_
  rintro e w2 ⟨rfl, g2⟩
  go_wp2_with fail
  refine (put_no (65535 + (1 + a1 % 1024)) 2 (by omega) (.inr (.inr (.inr ⟨by omega, by omega, by show (256 : Int) ^ 2 ≤ _; omega⟩))) _).mono ?_
  rintro e w3 ⟨rfl, g3⟩
  go_wp2_with fail
  refine (put_no 5 (-(1 + a1 % 1024)) (by omega) (.inl (by omega)) _).mono ?_
  rintro e w4 ⟨rfl, g4⟩
  go_wp2_with fail
  refine (get_no (strOfNums (List.replicate (4 + (1 + a1 % 1024)).toNat 0)) (by rw [zeros_size]; unfold maxLen; omega) (by rw [zeros_size]; omega) _).mono ?_
  rintro e w5 ⟨rfl, g5⟩
  go_wp2_with fail
  refine (put_ok 65535 2 (by omega) (by omega) (by omega) (by decide) _).mono ?_
  rintro e w6 ⟨rfl, g6⟩
  rw [full2]
  have G : Hid (Grown w w6) := grown_trans g1 (grown_trans g2 (grown_trans g3 (grown_trans ((Grown.refl _).alloc _ _) (grown_trans g4 (grown_trans ((Grown.refl _).alloc _ _) (grown_trans g5 g6))))))
  clear g1 g2 g3 g4 g5 g6 hm hc m3 m1023
  have hx := ext2
  go_wp2
  go_ret
  exact ⟨rfl, G.out⟩

set_option maxRecDepth 100000 in
set_option maxHeartbeats 1000000 in
theorem forms22 (a0 a1 : Int) (hk : a0 % 4 = 1) (hj : wrap64 ((IntKind.u64.wrap a0).tmod 3) = 2) (w : World) :
    Calls Try.prog 4 #[.int .i64 a0, .int .i64 a1] w fun e w' => e = .returned (.bool true) ∧ Grown w w' := by
  have m3 := and3
  have m1023 := and1023
  have d0 : 0 ≤ a1 % 1024 := by omega
  have d1 : a1 % 1024 < 1024 := by omega
  have hm := mkN (4 + (1 + a1 % 1024)) (by omega) (by omega)
  have hc := cvN (4 + (1 + a1 % 1024)).toNat
  go_enter Try.func4, Try.ntmps4
  go_wp2_with fail
  refine (awake_true _).mono ?_
  rintro e w1 ⟨rfl, g1⟩
  go_wp2_with fail
  refine (put_no (-(1 + a1 % 1024)) 2 (by omega) (.inr (.inr (.inl (by omega)))) _).mono ?_
  rintro e w2 ⟨rfl, g2⟩
  go_wp2_with fail
  refine (put_no (65535 + (1 + a1 % 1024)) 2 (by omega) (.inr (.inr (.inr ⟨by omega, by omega, by show (256 : Int) ^ 2 ≤ _; omega⟩))) _).mono ?_
  rintro e w3 ⟨rfl, g3⟩
  go_wp2_with fail
  refine (put_no 5 (4 + (1 + a1 % 1024)) (by omega) (.inr (.inl (by omega))) _).mono ?_
  rintro e w4 ⟨rfl, g4⟩
  go_wp2_with fail
  refine (get_no (strOfNums (List.replicate (4 + (1 + a1 % 1024)).toNat 0)) (by rw [zeros_size]; unfold maxLen; omega) (by rw [zeros_size]; omega) _).mono ?_
  rintro e w5 ⟨rfl, g5⟩
  go_wp2_with fail
  refine (put_ok 65535 2 (by omega) (by omega) (by omega) (by decide) _).mono ?_
  rintro e w6 ⟨rfl, g6⟩
  rw [full2]
  have G : Hid (Grown w w6) := grown_trans g1 (grown_trans g2 (grown_trans g3 (grown_trans ((Grown.refl _).alloc _ _) (grown_trans g4 (grown_trans ((Grown.refl _).alloc _ _) (grown_trans g5 g6))))))
  clear g1 g2 g3 g4 g5 g6 hm hc m3 m1023
  have hx := ext2
  go_wp2
  go_ret
  exact ⟨rfl, G.out⟩

set_option maxRecDepth 100000 in
set_option maxHeartbeats 1000000 in
theorem forms30 (a0 a1 : Int) (hk : a0 % 4 = 2) (hj : wrap64 ((IntKind.u64.wrap a0).tmod 3) = 0) (w : World) :
    Calls Try.prog 4 #[.int .i64 a0, .int .i64 a1] w fun e w' => e = .returned (.bool true) ∧ Grown w w' := by
  have m3 := and3
  have m1023 := and1023
  have d0 : 0 ≤ a1 % 1024 := by omega
  have d1 : a1 % 1024 < 1024 := by omega
  have hm := mkN (4 + (1 + a1 % 1024)) (by omega) (by omega)
  have hc := cvN (4 + (1 + a1 % 1024)).toNat
  go_enter Try.func4, Try.ntmps4
  go_wp2_with fail
  refine (awake_true _).mono ?_
  rintro e w1 ⟨rfl, g1⟩
  go_wp2_with fail
  refine (put_no (-(1 + a1 % 1024)) 3 (by omega) (.inr (.inr (.inl (by omega)))) _).mono ?_
  rintro e w2 ⟨rfl, g2⟩
  go_wp2_with fail
  refine (put_no (16777215 + (1 + a1 % 1024)) 3 (by omega) (.inr (.inr (.inr ⟨by omega, by omega, by show (256 : Int) ^ 3 ≤ _; omega⟩))) _).mono ?_
  rintro e w3 ⟨rfl, g3⟩
  go_wp2_with fail
  refine (put_no 5 0 (by omega) (.inl (by omega)) _).mono ?_
  rintro e w4 ⟨rfl, g4⟩
  go_wp2_with fail
  refine (get_no (strOfNums (List.replicate (4 + (1 + a1 % 1024)).toNat 0)) (by rw [zeros_size]; unfold maxLen; omega) (by rw [zeros_size]; omega) _).mono ?_
  rintro e w5 ⟨rfl, g5⟩
  go_wp2_with fail
  refine (put_ok 16777215 3 (by omega) (by omega) (by omega) (by decide) _).mono ?_
  rintro e w6 ⟨rfl, g6⟩
  rw [full3]
  have G : Hid (Grown w w6) := grown_trans g1 (grown_trans g2 (grown_trans g3 (grown_trans ((Grown.refl _).alloc _ _) (grown_trans g4 (grown_trans ((Grown.refl _).alloc _ _) (grown_trans g5 g6))))))
  clear g1 g2 g3 g4 g5 g6 hm hc m3 m1023
  have hx := ext3
  go_wp2
  go_ret
  exact ⟨rfl, G.out⟩

set_option maxRecDepth 100000 in
set_option maxHeartbeats 1000000 in
theorem forms31 (a0 a1 : Int) (hk : a0 % 4 = 2) (hj : wrap64 ((IntKind.u64.wrap a0).tmod 3) = 1) (w : World) :
    Calls Try.prog 4 #[.int .i64 a0, .int .i64 a1] w fun e w' => e = .returned (.bool true) ∧ Grown w w' := by
  have m3 := and3
  have m1023 := and1023
  have d0 : 0 ≤ a1 % 1024 := by omega
  have d1 : a1 % 1024 < 1024 := by omega
  have hm := mkN (4 + (1 + a1 % 1024)) (by omega) (by omega)
  have hc := cvN (4 + (1 + a1 % 1024)).toNat
  go_enter Try.func4, Try.ntmps4
  go_wp2_with fail
  refine (awake_true _).mono ?_
  rintro e w1 ⟨rfl, g1⟩
  go_wp2_with fail
  refine (put_no (-(1 + a1 % 1024)) 3 (by omega) (.inr (.inr (.inl (by omega)))) _).mono ?_
  rintro e w2 ⟨rfl, g2⟩
  go_wp2_with fail
  refine (put_no (16777215 + (1 + a1 % 1024)) 3 (by omega) (.inr (.inr (.inr ⟨by omega, by omega, by show (256 : Int) ^ 3 ≤ _; omega⟩))) _).mono ?_
  rintro e w3 ⟨rfl, g3⟩
  go_wp2_with fail
  refine (put_no 5 (-(1 + a1 % 1024)) (by omega) (.inl (by omega)) _).mono ?_
  rintro e w4 ⟨rfl, g4⟩
  go_wp2_with fail
  refine (get_no (strOfNums (List.replicate (4 + (1 + a1 % 1024)).toNat 0)) (by rw [zeros_size]; unfold maxLen; omega) (by rw [zeros_size]; omega) _).mono ?_
  rintro e w5 ⟨rfl, g5⟩
  go_wp2_with fail
  refine (put_ok 16777215 3 (by omega) (by omega) (by omega) (by decide) _).mono ?_
  rintro e w6 ⟨rfl, g6⟩
  rw [full3]
  have G : Hid (Grown w w6) := grown_trans g1 (grown_trans g2 (grown_trans g3 (grown_trans ((Grown.refl _).alloc _ _) (grown_trans g4 (grown_trans ((Grown.refl _).alloc _ _) (grown_trans g5 g6))))))
  clear g1 g2 g3 g4 g5 g6 hm hc m3 m1023
  have hx := ext3
  go_wp2
  go_ret
  exact ⟨rfl, G.out⟩

set_option maxRecDepth 100000 in
set_option maxHeartbeats 1000000 in
theorem forms32 (a0 a1 : Int) (hk : a0 % 4 = 2) (hj : wrap64 ((IntKind.u64.wrap a0).tmod 3) = 2) (w : World) :
    Calls Try.prog 4 #[.int .i64 a0, .int .i64 a1] w fun e w' => e = .returned (.bool true) ∧ Grown w w' := by
  have m3 := and3
  have m1023 := and1023
  have d0 : 0 ≤ a1 % 1024 := by omega
  have d1 : a1 % 1024 < 1024 := by omega
  have hm := mkN (4 + (1 + a1 % 1024)) (by omega) (by omega)
  have hc := cvN (4 + (1 + a1 % 1024)).toNat
  go_enter Try.func4, Try.ntmps4
  go_wp2_with fail
  refine (awake_true _).mono ?_
  rintro e w1 ⟨rfl, g1⟩
  go_wp2_with fail
  refine (put_no (-(1 + a1 % 1024)) 3 (by omega) (.inr (.inr (.inl (by omega)))) _).mono ?_
  rintro e w2 ⟨rfl, g2⟩
  go_wp2_with fail
  refine (put_no (16777215 + (1 + a1 % 1024)) 3 (by omega) (.inr (.inr (.inr ⟨by omega, by omega, by show (256 : Int) ^ 3 ≤ _; omega⟩))) _).mono ?_
  rintro e w3 ⟨rfl, g3⟩
  go_wp2_with fail
  refine (put_no 5 (4 + (1 + a1 % 1024)) (by omega) (.inr (.inl (by omega))) _).mono ?_
  rintro e w4 ⟨rfl, g4⟩
  go_wp2_with fail
  refine (get_no (strOfNums (List.replicate (4 + (1 + a1 % 1024)).toNat 0)) (by rw [zeros_size]; unfold maxLen; omega) (by rw [zeros_size]; omega) _).mono ?_
  rintro e w5 ⟨rfl, g5⟩
  go_wp2_with fail
  refine (put_ok 16777215 3 (by omega) (by omega) (by omega) (by decide) _).mono ?_
  rintro e w6 ⟨rfl, g6⟩
  rw [full3]
  have G : Hid (Grown w w6) := grown_trans g1 (grown_trans g2 (grown_trans g3 (grown_trans ((Grown.refl _).alloc _ _) (grown_trans g4 (grown_trans ((Grown.refl _).alloc _ _) (grown_trans g5 g6))))))
  clear g1 g2 g3 g4 g5 g6 hm hc m3 m1023
  have hx := ext3
  go_wp2
  go_ret
  exact ⟨rfl, G.out⟩

set_option maxRecDepth 100000 in
set_option maxHeartbeats 1000000 in
theorem forms40 (a0 a1 : Int) (hk : a0 % 4 = 3) (hj : wrap64 ((IntKind.u64.wrap a0).tmod 3) = 0) (w : World) :
    Calls Try.prog 4 #[.int .i64 a0, .int .i64 a1] w fun e w' => e = .returned (.bool true) ∧ Grown w w' := by
  have m3 := and3
  have m1023 := and1023
  have d0 : 0 ≤ a1 % 1024 := by omega
  have d1 : a1 % 1024 < 1024 := by omega
  have hm := mkN (4 + (1 + a1 % 1024)) (by omega) (by omega)
  have hc := cvN (4 + (1 + a1 % 1024)).toNat
  go_enter Try.func4, Try.ntmps4
  go_wp2_with fail
  refine (awake_true _).mono ?_
  rintro e w1 ⟨rfl, g1⟩
  go_wp2_with fail
  refine (put_no (-(1 + a1 % 1024)) 4 (by omega) (.inr (.inr (.inl (by omega)))) _).mono ?_
  rintro e w2 ⟨rfl, g2⟩
  go_wp2_with fail
  refine (put_no (4294967295 + (1 + a1 % 1024)) 4 (by omega) (.inr (.inr (.inr ⟨by omega, by omega, by show (256 : Int) ^ 4 ≤ _; omega⟩))) _).mono ?_
  rintro e w3 ⟨rfl, g3⟩
  go_wp2_with fail
  refine (put_no 5 0 (by omega) (.inl (by omega)) _).mono ?_
  rintro e w4 ⟨rfl, g4⟩
  go_wp2_with fail
  refine (get_no (strOfNums (List.replicate (4 + (1 + a1 % 1024)).toNat 0)) (by rw [zeros_size]; unfold maxLen; omega) (by rw [zeros_size]; omega) _).mono ?_
  rintro e w5 ⟨rfl, g5⟩
  go_wp2_with fail
  refine (put_ok 4294967295 4 (by omega) (by omega) (by omega) (by decide) _).mono ?_
  rintro e w6 ⟨rfl, g6⟩
  rw [full4]
  have G : Hid (Grown w w6) := grown_trans g1 (grown_trans g2 (grown_trans g3 (grown_trans ((Grown.refl _).alloc _ _) (grown_trans g4 (grown_trans ((Grown.refl _).alloc _ _) (grown_trans g5 g6))))))
  clear g1 g2 g3 g4 g5 g6 hm hc m3 m1023
  have hx := ext4
  go_wp2
  go_ret
  exact ⟨rfl, G.out⟩

set_option maxRecDepth 100000 in
set_option maxHeartbeats 1000000 in
theorem forms41 (a0 a1 : Int) (hk : a0 % 4 = 3) (hj : wrap64 ((IntKind.u64.wrap a0).tmod 3) = 1) (w : World) :
    Calls Try.prog 4 #[.int .i64 a0, .int .i64 a1] w fun e w' => e = .returned (.bool true) ∧ Grown w w' := by
  have m3 := and3
  have m1023 := and1023
  have d0 : 0 ≤ a1 % 1024 := by omega
  have d1 : a1 % 1024 < 1024 := by omega
  have hm := mkN (4 + (1 + a1 % 1024)) (by omega) (by omega)
  have hc := cvN (4 + (1 + a1 % 1024)).toNat
  go_enter Try.func4, Try.ntmps4
  go_wp2_with fail
  refine (awake_true _).mono ?_
  rintro e w1 ⟨rfl, g1⟩
  go_wp2_with fail
  refine (put_no (-(1 + a1 % 1024)) 4 (by omega) (.inr (.inr (.inl (by omega)))) _).mono ?_
  rintro e w2 ⟨rfl, g2⟩
  go_wp2_with fail
  refine (put_no (4294967295 + (1 + a1 % 1024)) 4 (by omega) (.inr (.inr (.inr ⟨by omega, by omega, by show (256 : Int) ^ 4 ≤ _; omega⟩))) _).mono ?_
  rintro e w3 ⟨rfl, g3⟩
  go_wp2_with fail
  refine (put_no 5 (-(1 + a1 % 1024)) (by omega) (.inl (by omega)) _).mono ?_
  rintro e w4 ⟨rfl, g4⟩
  go_wp2_with fail
  refine (get_no (strOfNums (List.replicate (4 + (1 + a1 % 1024)).toNat 0)) (by rw [zeros_size]; unfold maxLen; omega) (by rw [zeros_size]; omega) _).mono ?_
  rintro e w5 ⟨rfl, g5⟩
  go_wp2_with fail
  refine (put_ok 4294967295 4 (by omega) (by omega) (by omega) (by decide) _).mono ?_
  rintro e w6 ⟨rfl, g6⟩
  rw [full4]
  have G : Hid (Grown w w6) := grown_trans g1 (grown_trans g2 (grown_trans g3 (grown_trans ((Grown.refl _).alloc _ _) (grown_trans g4 (grown_trans ((Grown.refl _).alloc _ _) (grown_trans g5 g6))))))
  clear g1 g2 g3 g4 g5 g6 hm hc m3 m1023
  have hx := ext4
  go_wp2
  go_ret
  exact ⟨rfl, G.out⟩

set_option maxRecDepth 100000 in
set_option maxHeartbeats 1000000 in
theorem forms42 (a0 a1 : Int) (hk : a0 % 4 = 3) (hj : wrap64 ((IntKind.u64.wrap a0).tmod 3) = 2) (w : World) :
    Calls Try.prog 4 #[.int .i64 a0, .int .i64 a1] w fun e w' => e = .returned (.bool true) ∧ Grown w w' := by
  have m3 := and3
  have m1023 := and1023
  have d0 : 0 ≤ a1 % 1024 := by omega
  have d1 : a1 % 1024 < 1024 := by omega
  have hm := mkN (4 + (1 + a1 % 1024)) (by omega) (by omega)
  have hc := cvN (4 + (1 + a1 % 1024)).toNat
  go_enter Try.func4, Try.ntmps4
  go_wp2_with fail
  refine (awake_true _).mono ?_
  rintro e w1 ⟨rfl, g1⟩
  go_wp2_with fail
  refine (put_no (-(1 + a1 % 1024)) 4 (by omega) (.inr (.inr (.inl (by omega)))) _).mono ?_
  rintro e w2 ⟨rfl, g2⟩
  go_wp2_with fail
  refine (put_no (4294967295 + (1 + a1 % 1024)) 4 (by omega) (.inr (.inr (.inr ⟨by omega, by omega, by show (256 : Int) ^ 4 ≤ _; omega⟩))) _).mono ?_
  rintro e w3 ⟨rfl, g3⟩
  go_wp2_with fail
  refine (put_no 5 (4 + (1 + a1 % 1024)) (by omega) (.inr (.inl (by omega))) _).mono ?_
  rintro e w4 ⟨rfl, g4⟩
  go_wp2_with fail
  refine (get_no (strOfNums (List.replicate (4 + (1 + a1 % 1024)).toNat 0)) (by rw [zeros_size]; unfold maxLen; omega) (by rw [zeros_size]; omega) _).mono ?_
  rintro e w5 ⟨rfl, g5⟩
  go_wp2_with fail
  refine (put_ok 4294967295 4 (by omega) (by omega) (by omega) (by decide) _).mono ?_
  rintro e w6 ⟨rfl, g6⟩
  rw [full4]
  have G : Hid (Grown w w6) := grown_trans g1 (grown_trans g2 (grown_trans g3 (grown_trans ((Grown.refl _).alloc _ _) (grown_trans g4 (grown_trans ((Grown.refl _).alloc _ _) (grown_trans g5 g6))))))
  clear g1 g2 g3 g4 g5 g6 hm hc m3 m1023
  have hx := ext4
  go_wp2
  go_ret
  exact ⟨rfl, G.out⟩

theorem third (a0 : Int) : wrap64 ((IntKind.u64.wrap a0).tmod 3) = 0 ∨ wrap64 ((IntKind.u64.wrap a0).tmod 3) = 1 ∨ wrap64 ((IntKind.u64.wrap a0).tmod 3) = 2 := by
  have h0 : 0 ≤ IntKind.u64.wrap a0 := by simp only [IntKind.wrap, IntKind.bits, IntKind.signed]; simp; omega
  rw [Int.tmod_eq_emod_of_nonneg h0]
  have h1 : 0 ≤ IntKind.u64.wrap a0 % 3 := by omega
  have h2 : IntKind.u64.wrap a0 % 3 < 3 := by omega
  rw [IntWalk.wrap64_in _ ⟨by omega, by omega⟩]
  omega

theorem forms_walk (a0 a1 : Int) (w : World) :
    Calls Try.prog 4 #[.int .i64 a0, .int .i64 a1] w fun e w' => e = .returned (.bool true) ∧ Grown w w' := by
  have hk : a0 % 4 = 0 ∨ a0 % 4 = 1 ∨ a0 % 4 = 2 ∨ a0 % 4 = 3 := by omega
  rcases hk with hk | hk | hk | hk
  · rcases third a0 with hj | hj | hj
    · exact forms10 a0 a1 hk hj w
    · exact forms11 a0 a1 hk hj w
    · exact forms12 a0 a1 hk hj w
  · rcases third a0 with hj | hj | hj
    · exact forms20 a0 a1 hk hj w
    · exact forms21 a0 a1 hk hj w
    · exact forms22 a0 a1 hk hj w
  · rcases third a0 with hj | hj | hj
    · exact forms30 a0 a1 hk hj w
    · exact forms31 a0 a1 hk hj w
    · exact forms32 a0 a1 hk hj w
  · rcases third a0 with hj | hj | hj
    · exact forms40 a0 a1 hk hj w
    · exact forms41 a0 a1 hk hj w
    · exact forms42 a0 a1 hk hj w

end Go.Proofs.Ytnafkoemdadalaa.Field
