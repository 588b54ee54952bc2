/-
  ShiftForms, walked: it answers true for every two ints. Condition: the library's table is laid as its text lays it.
-/
import Derived.Test.YtlgknbcdmiecdaaDoorShAwake
namespace Go.Proofs.YtlgknbcdmiecdaaDoor.Shf
open Go.RowKit Go.Sort Go.Proofs.YtlgknbcdmiecdaaDoor.Mod Go.Proofs.YtlgknbcdmiecdaaDoor.Lin Go.Proofs.YtlgknbcdmiecdaaDoor.Ints Go.Proofs.YtlgknbcdmiecdaaDoor.Num
set_option linter.unusedVariables false
set_option linter.unusedSimpArgs false

theorem and_10 (n : Int) : bits .and .i64 n 1023 = n % 1024 := and_mask 10 1023 (by decide) (by decide) n
theorem far_row (y : Int) (h : y < -131072 ∨ 131072 < y) : okRow [4, y] = false := by
  refine Bool.eq_false_iff.2 fun q => ?_
  have : -131072 ≤ y ∧ y ≤ 131072 := okRow_iff.1 q 1 (by simp)
  omega
theorem far_w (y : Int) (h : y < -131072 ∨ 131072 < y) : wstV [4, y] = 0 ∧ wstE [4, y] = 1800 := by
  unfold wstV wstE
  rw [far_row y h]
  exact ⟨rfl, rfl⟩
theorem not_d {L : List Int} {b : Int} (h : okD L b = false) : downE L b = 1800 ∧ downL L b = [] := by
  unfold downE downL
  rw [h]
  exact ⟨rfl, rfl⟩
theorem not_u {L : List Int} {b : Int} (h : okU L b = false) : upE L b = 1800 ∧ upL L b = [] := by
  unfold upE upL
  rw [h]
  exact ⟨rfl, rfl⟩
theorem far_d (y : Int) (h : y < -131072 ∨ 131072 < y) : downE [4, y] 0 = 1800 ∧ downL [4, y] 0 = [] :=
  not_d (Bool.eq_false_iff.2 fun q => by have := (okD_iff.1 q).2.1; rw [far_row y h] at this; cases this)
theorem far_u (y : Int) (h : y < -131072 ∨ 131072 < y) : upE [4, y] 0 = 1800 ∧ upL [4, y] 0 = [] :=
  not_u (Bool.eq_false_iff.2 fun q => by have := (okU_iff.1 q).2.1; rw [far_row y h] at this; cases this)
theorem by_d (b : Int) (h : b < 0 ∨ 15 < b) : downE [0] b = 1800 ∧ downL [0] b = [] :=
  not_d (Bool.eq_false_iff.2 fun q => by have := inB_iff.1 (okD_iff.1 q).1; omega)
theorem by_u (b : Int) (h : b < 0 ∨ 15 < b) : upE [0] b = 1800 ∧ upL [0] b = [] :=
  not_u (Bool.eq_false_iff.2 fun q => by have := inB_iff.1 (okU_iff.1 q).1; omega)
theorem odd_d : downE [4, 6] 2 = 1800 ∧ downL [4, 6] 2 = [] := by decide +kernel
theorem high_u (y : Int) (h : 65536 < y) : upE [y] 1 = 1800 ∧ upL [y] 1 = [] :=
  not_u (Bool.eq_false_iff.2 fun q => by
    have h1 := okRow_iff.1 (okU_iff.1 q).2.2 0 (by simp)
    rw [getD_map _ _ _ (by simp)] at h1
    have h2 : y * 2 ≤ 131072 := h1.2
    omega)

set_option maxRecDepth 20000 in
set_option maxHeartbeats 2000000 in
theorem forms_0 (a x : Int) (ha : bits .and .i64 a 1 = 0) (w : World) (T : Tab w) :
    Calls Tryd.prog 5 #[.int .i64 a, .int .i64 x] w fun e w' => e = .returned (.bool true) ∧ Bel w w' := by
  obtain ⟨r, hr⟩ : ∃ r, x % 1024 = r := ⟨_, rfl⟩
  have hx : bits .and .i64 x 1023 = r := (and_10 x).trans hr
  have r0 : 0 ≤ r := by omega
  have r1 : r ≤ 1023 := by omega
  have TT : Hid (Tab w) := T
  have AW : Hid (Calls Tryd.prog 20 #[] w fun e w' => e = .returned (.bool true) ∧ Bel w w') := awake_true w T
  clear T hr
  obtain ⟨d, hd⟩ : ∃ d, 1 + r = d := ⟨_, rfl⟩
  have d0 : 1 ≤ d := by omega
  have d1 : d ≤ 1024 := by omega
  have HD : Hid (1 + r = d) := hd
  go_enter Tryd.func5, Tryd.ntmps5
  go_wp2_with fail
  refine AW.out.mono ?_
  rintro e w1 ⟨rfl, b1⟩
  have B1 : Hid (Bel w w1) := b1
  clear b1
  obtain ⟨y, hy⟩ : ∃ y, -131072 - d = y := ⟨_, rfl⟩
  have HY : Hid (-131072 - d = y) := hy
  obtain ⟨z, hz⟩ : ∃ z, -d = z := ⟨_, rfl⟩
  have HZ : Hid (-d = z) := hz
  go_wp2_with fail
  refine (wasted_at _ [4, y] 2 _ _ _ rfl (by unfold maxLen; omega) (far_w y (by have := HY.out; omega)).1 (far_w y (by have := HY.out; omega)).2 _ (TT.out.bel ((B1.out.alloc _).alloc _)) (slc_2 (by go_simp) (by go_simp))).mono ?_
  rintro e w2 ⟨rfl, hw⟩
  have b2 : Bel w1 w2 := hw ▸ ((Bel.refl w1).alloc _).alloc _
  have S2 : Hid (Slc w2 (some ⟨w1.heap.size + 1, 0, none⟩) [4, y]) := by
    rw [hw]
    exact slc_2 (by go_simp) (by go_simp)
  have B2 : Hid (Bel w w2) := B1.out.trans b2
  clear hw b2 B1
  go_wp2_with fail
  refine (down_at _ [4, y] [] 2 0 _ _ _ rfl (by omega) (far_d y (by have := HY.out; omega)).1 (far_d y (by have := HY.out; omega)).2 rfl _ S2.out).mono ?_
  rintro e w3 ⟨a3, c3, rfl, -, b3⟩
  have B3 : Hid (Bel w w3) := B2.out.trans b3
  have S3 : Hid (Slc w3 (some ⟨w1.heap.size + 1, 0, none⟩) [4, y]) := S2.out.bel b3
  clear b3 B2 S2
  go_wp2_with fail
  refine (rise_at _ [4, y] [] 2 0 _ _ _ rfl (by omega) (far_u y (by have := HY.out; omega)).1 (far_u y (by have := HY.out; omega)).2 rfl _ S3.out).mono ?_
  rintro e w4 ⟨a4, c4, rfl, -, b4⟩
  have B4 : Hid (Bel w w4) := B3.out.trans b4
  clear b4 B3 S3
  go_wp2_with fail
  refine (down_at _ [0] [] 1 0 _ z _ rfl (by omega) (by_d z (by have := HZ.out; omega)).1 (by_d z (by have := HZ.out; omega)).2 rfl _ (slc_1 (by go_simp))).mono ?_
  rintro e w5 ⟨a5, c5, rfl, -, b5⟩
  have B5 : Hid (Bel w w5) := B4.out.trans (Bel.trans (((Bel.refl w4).alloc _).alloc _) b5)
  clear b5 B4
  go_wp2_with fail
  refine (rise_at _ [0] [] 1 0 _ z _ rfl (by omega) (by_u z (by have := HZ.out; omega)).1 (by_u z (by have := HZ.out; omega)).2 rfl _ (slc_1 (by go_simp))).mono ?_
  rintro e w6 ⟨a6, c6, rfl, -, b6⟩
  have B6 : Hid (Bel w w6) := B5.out.trans (Bel.trans (((Bel.refl w5).alloc _).alloc _) b6)
  clear b6 B5
  go_wp2_with fail
  refine (down_at _ [4, 6] [] 2 0 _ _ _ rfl (by omega) odd_d.1 odd_d.2 rfl _ (slc_2 (by go_simp) (by go_simp))).mono ?_
  rintro e w7 ⟨a7, c7, rfl, -, b7⟩
  have B7 : Hid (Bel w w7) := B6.out.trans (Bel.trans ((Bel.refl w6).alloc _) b7)
  clear b7 B6
  go_wp2_with fail
  refine (rise_at _ [65536 + d] [] 1 0 _ _ _ rfl (by omega) (high_u _ (by omega)).1 (high_u _ (by omega)).2 rfl _ (slc_1 (by go_simp))).mono ?_
  rintro e w8 ⟨a8, c8, rfl, -, b8⟩
  have B8 : Hid (Bel w w8) := B7.out.trans (Bel.trans ((Bel.refl w7).alloc _) b8)
  clear b8 B7
  go_wp2_with (go_at_call 16; refine (num_ok _ _).mono ?_; rintro e w99 ⟨rfl, hw⟩; replace hw := hw.symm; subst hw)
  go_ret
  exact ⟨rfl, B8.out⟩

set_option maxRecDepth 20000 in
set_option maxHeartbeats 2000000 in
theorem forms_1 (a x : Int) (ha : bits .and .i64 a 1 = 1) (w : World) (T : Tab w) :
    Calls Tryd.prog 5 #[.int .i64 a, .int .i64 x] w fun e w' => e = .returned (.bool true) ∧ Bel w w' := by
  obtain ⟨r, hr⟩ : ∃ r, x % 1024 = r := ⟨_, rfl⟩
  have hx : bits .and .i64 x 1023 = r := (and_10 x).trans hr
  have r0 : 0 ≤ r := by omega
  have r1 : r ≤ 1023 := by omega
  have TT : Hid (Tab w) := T
  have AW : Hid (Calls Tryd.prog 20 #[] w fun e w' => e = .returned (.bool true) ∧ Bel w w') := awake_true w T
  clear T hr
  obtain ⟨d, hd⟩ : ∃ d, 1 + r = d := ⟨_, rfl⟩
  have d0 : 1 ≤ d := by omega
  have d1 : d ≤ 1024 := by omega
  have HD : Hid (1 + r = d) := hd
  go_enter Tryd.func5, Tryd.ntmps5
  go_wp2_with fail
  refine AW.out.mono ?_
  rintro e w1 ⟨rfl, b1⟩
  have B1 : Hid (Bel w w1) := b1
  clear b1
  obtain ⟨y, hy⟩ : ∃ y, 131072 + d = y := ⟨_, rfl⟩
  have HY : Hid (131072 + d = y) := hy
  obtain ⟨z, hz⟩ : ∃ z, 15 + d = z := ⟨_, rfl⟩
  have HZ : Hid (15 + d = z) := hz
  go_wp2_with fail
  refine (wasted_at _ [4, y] 2 _ _ _ rfl (by unfold maxLen; omega) (far_w y (by have := HY.out; omega)).1 (far_w y (by have := HY.out; omega)).2 _ (TT.out.bel ((B1.out.alloc _).alloc _)) (slc_2 (by go_simp) (by go_simp))).mono ?_
  rintro e w2 ⟨rfl, hw⟩
  have b2 : Bel w1 w2 := hw ▸ ((Bel.refl w1).alloc _).alloc _
  have S2 : Hid (Slc w2 (some ⟨w1.heap.size + 1, 0, none⟩) [4, y]) := by
    rw [hw]
    exact slc_2 (by go_simp) (by go_simp)
  have B2 : Hid (Bel w w2) := B1.out.trans b2
  clear hw b2 B1
  go_wp2_with fail
  refine (down_at _ [4, y] [] 2 0 _ _ _ rfl (by omega) (far_d y (by have := HY.out; omega)).1 (far_d y (by have := HY.out; omega)).2 rfl _ S2.out).mono ?_
  rintro e w3 ⟨a3, c3, rfl, -, b3⟩
  have B3 : Hid (Bel w w3) := B2.out.trans b3
  have S3 : Hid (Slc w3 (some ⟨w1.heap.size + 1, 0, none⟩) [4, y]) := S2.out.bel b3
  clear b3 B2 S2
  go_wp2_with fail
  refine (rise_at _ [4, y] [] 2 0 _ _ _ rfl (by omega) (far_u y (by have := HY.out; omega)).1 (far_u y (by have := HY.out; omega)).2 rfl _ S3.out).mono ?_
  rintro e w4 ⟨a4, c4, rfl, -, b4⟩
  have B4 : Hid (Bel w w4) := B3.out.trans b4
  clear b4 B3 S3
  go_wp2_with fail
  refine (down_at _ [0] [] 1 0 _ z _ rfl (by omega) (by_d z (by have := HZ.out; omega)).1 (by_d z (by have := HZ.out; omega)).2 rfl _ (slc_1 (by go_simp))).mono ?_
  rintro e w5 ⟨a5, c5, rfl, -, b5⟩
  have B5 : Hid (Bel w w5) := B4.out.trans (Bel.trans (((Bel.refl w4).alloc _).alloc _) b5)
  clear b5 B4
  go_wp2_with fail
  refine (rise_at _ [0] [] 1 0 _ z _ rfl (by omega) (by_u z (by have := HZ.out; omega)).1 (by_u z (by have := HZ.out; omega)).2 rfl _ (slc_1 (by go_simp))).mono ?_
  rintro e w6 ⟨a6, c6, rfl, -, b6⟩
  have B6 : Hid (Bel w w6) := B5.out.trans (Bel.trans (((Bel.refl w5).alloc _).alloc _) b6)
  clear b6 B5
  go_wp2_with fail
  refine (down_at _ [4, 6] [] 2 0 _ _ _ rfl (by omega) odd_d.1 odd_d.2 rfl _ (slc_2 (by go_simp) (by go_simp))).mono ?_
  rintro e w7 ⟨a7, c7, rfl, -, b7⟩
  have B7 : Hid (Bel w w7) := B6.out.trans (Bel.trans ((Bel.refl w6).alloc _) b7)
  clear b7 B6
  go_wp2_with fail
  refine (rise_at _ [65536 + d] [] 1 0 _ _ _ rfl (by omega) (high_u _ (by omega)).1 (high_u _ (by omega)).2 rfl _ (slc_1 (by go_simp))).mono ?_
  rintro e w8 ⟨a8, c8, rfl, -, b8⟩
  have B8 : Hid (Bel w w8) := B7.out.trans (Bel.trans ((Bel.refl w7).alloc _) b8)
  clear b8 B7
  go_wp2_with (go_at_call 16; refine (num_ok _ _).mono ?_; rintro e w99 ⟨rfl, hw⟩; replace hw := hw.symm; subst hw)
  go_ret
  exact ⟨rfl, B8.out⟩

theorem forms_walk (a x : Int) (w : World) (T : Tab w) :
    Calls Tryd.prog 5 #[.int .i64 a, .int .i64 x] w fun e w' => e = .returned (.bool true) ∧ Bel w w' := by
  have h := and_one a
  rcases (by omega : a % 2 = 0 ∨ a % 2 = 1) with q | q
  · exact forms_0 a x (h.trans q) w T
  · exact forms_1 a x (h.trans q) w T

end Go.Proofs.YtlgknbcdmiecdaaDoor.Shf
