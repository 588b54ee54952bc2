/-
  The statements' own awake: it answers true. Condition: the library's table is laid as its text lays it.
-/
import Derived.Test.YtlgknbcdmiecdaaDoorShWasted
import Derived.Test.YtlgknbcdmiecdaaDoorShUp
import Derived.Test.YtlgknbcdmiecdaaDoorLOwn
namespace Go.Proofs.YtlgknbcdmiecdaaDoor.Shf
open Go.RowKit Go.Sort Go.Proofs.YtlgknbcdmiecdaaDoor.Mod Go.Proofs.YtlgknbcdmiecdaaDoor.Lin Go.Proofs.YtlgknbcdmiecdaaDoor.Ints
set_option linter.unusedVariables false
set_option linter.unusedSimpArgs false

theorem wasted_at (ao : Option Addr) (L : List Int) (n cap : Nat) (k er : Int) (hn : n = L.length) (hx : n ≤ maxLen) (hk : wstV L = k) (he : wstE L = er) (w : World) (T : Tab w) (hA : Slc w ao L) :
    Calls Tryd.prog 10 #[.slice ao n cap] w fun e w' => e = .returned (.tuple #[.int .i64 k, .int .i64 er]) ∧ w' = w := by
  subst hk
  subst he
  exact wasted_ok ao L n cap hn hx w T hA
theorem down_at (ao : Option Addr) (L M : List Int) (n m cap : Nat) (b er : Int) (hn : n = L.length) (h8 : n * 8 ≤ 140737488351232) (he : downE L b = er) (hM : downL L b = M) (hm : m = M.length) (w : World) (hA : Slc w ao L) :
    Calls Tryd.prog 12 #[.slice ao n cap, .int .i64 b] w fun e w' => ∃ bo c, e = .returned (.tuple #[.slice bo m c, .int .i64 er]) ∧ Slc w' bo M ∧ Bel w w' := by
  subst he
  subst hM
  refine (down_ok ao L n cap hn h8 b w hA).mono ?_
  rintro e w' ⟨bo, k, c, rfl, o, hB⟩
  obtain rfl : k = m := o.1.trans hm.symm
  exact ⟨bo, c, rfl, o.2.2.2.1, hB⟩
theorem rise_at (ao : Option Addr) (L M : List Int) (n m cap : Nat) (b er : Int) (hn : n = L.length) (h8 : n * 8 ≤ 140737488351232) (he : upE L b = er) (hM : upL L b = M) (hm : m = M.length) (w : World) (hA : Slc w ao L) :
    Calls Tryd.prog 14 #[.slice ao n cap, .int .i64 b] w fun e w' => ∃ bo c, e = .returned (.tuple #[.slice bo m c, .int .i64 er]) ∧ Slc w' bo M ∧ Bel w w' := by
  subst he
  subst hM
  refine (rise_ok ao L n cap hn h8 b w hA).mono ?_
  rintro e w' ⟨bo, k, c, rfl, o, hB⟩
  obtain rfl : k = m := o.1.trans hm.symm
  exact ⟨bo, c, rfl, o.2.2.2.1, hB⟩

theorem aw_1 : wstV [8, -24, 0] = 3 ∧ wstE [8, -24, 0] = 0 := by decide +kernel
theorem aw_2 : downE [8, -24, 0] 3 = 0 ∧ downL [8, -24, 0] 3 = [1, -3, 0] := by decide +kernel
theorem aw_3 : upE [1, -3, 0] 3 = 0 ∧ upL [1, -3, 0] 3 = [8, -24, 0] := by decide +kernel
theorem aw_4 : downE [3] 1 = 1800 ∧ downL [3] 1 = [] := by decide +kernel
theorem aw_5 : upE [131072] 1 = 1800 ∧ upL [131072] 1 = [] := by decide +kernel
theorem aw_6 : wstV [131073] = 0 ∧ wstE [131073] = 1800 := by decide +kernel

set_option maxRecDepth 20000 in
set_option maxHeartbeats 1000000 in
theorem awake_true (w : World) (T : Tab w) : Calls Tryd.prog 20 #[] w fun e w' => e = .returned (.bool true) ∧ Bel w w' := by
  have TT : Hid (Tab w) := T
  clear T
  go_enter Tryd.func20, Tryd.ntmps20
  go_wp2_with fail
  refine (wasted_at _ [8, -24, 0] 3 _ _ _ rfl (by unfold maxLen; omega) aw_1.1 aw_1.2 _ (TT.out.bel ((Bel.refl _).alloc _)) (slc_3 (by go_simp) (by go_simp) (by go_simp))).mono ?_
  rintro e w1 ⟨rfl, hw⟩
  have B1 : Hid (Bel w w1) := hw ▸ (Bel.refl w).alloc _
  clear hw
  go_wp2_with fail
  refine (down_at _ [8, -24, 0] [1, -3, 0] 3 3 _ _ _ rfl (by omega) aw_2.1 aw_2.2 rfl _ (slc_3 (by go_simp) (by go_simp) (by go_simp))).mono ?_
  rintro e w2 ⟨a2, c2, rfl, s2, b2⟩
  have B2 : Hid (Bel w w2) := B1.out.trans (Bel.trans ((Bel.refl w1).alloc _) b2)
  have S2 : Hid (Slc w2 a2 [1, -3, 0]) := s2
  clear s2 b2 B1
  go_wp2_with fail
  refine (rise_at _ [1, -3, 0] [8, -24, 0] 3 3 _ _ _ rfl (by omega) aw_3.1 aw_3.2 rfl _ S2.out).mono ?_
  rintro e w3 ⟨a3, c3, rfl, s3, b3⟩
  have B3 : Hid (Bel w w3) := B2.out.trans b3
  have S3 : Hid (Slc w3 a2 [1, -3, 0] ∧ Slc w3 a3 [8, -24, 0]) := ⟨S2.out.bel b3, s3⟩
  clear s3 b3 B2 S2
  go_wp2_with fail
  refine (down_at _ [3] [] 1 0 _ _ _ rfl (by omega) aw_4.1 aw_4.2 rfl _ (slc_1 (by go_simp))).mono ?_
  rintro e w4 ⟨a4, c4, rfl, s4, b4⟩
  have b4' : Bel w3 w4 := Bel.trans ((Bel.refl w3).alloc _) b4
  have B4 : Hid (Bel w w4) := B3.out.trans b4'
  have S4 : Hid (Slc w4 a2 [1, -3, 0] ∧ Slc w4 a3 [8, -24, 0]) := ⟨S3.out.1.bel b4', S3.out.2.bel b4'⟩
  clear s4 b4 b4' B3 S3
  go_wp2_with fail
  refine (rise_at _ [131072] [] 1 0 _ _ _ rfl (by omega) aw_5.1 aw_5.2 rfl _ (slc_1 (by go_simp))).mono ?_
  rintro e w5 ⟨a5, c5, rfl, s5, b5⟩
  have b5' : Bel w4 w5 := Bel.trans ((Bel.refl w4).alloc _) b5
  have B5 : Hid (Bel w w5) := B4.out.trans b5'
  have S5 : Hid (Slc w5 a2 [1, -3, 0] ∧ Slc w5 a3 [8, -24, 0]) := ⟨S4.out.1.bel b5', S4.out.2.bel b5'⟩
  clear s5 b5 b5' B4 S4
  go_wp2_with fail
  refine (wasted_at _ [131073] 1 _ _ _ rfl (by unfold maxLen; omega) aw_6.1 aw_6.2 _ (TT.out.bel (B5.out.alloc _)) (slc_1 (by go_simp))).mono ?_
  rintro e w6 ⟨rfl, hw⟩
  have b6 : Bel w5 w6 := hw ▸ (Bel.refl w5).alloc _
  have B6 : Hid (Bel w w6) := B5.out.trans b6
  have S6 : Hid (Slc w6 a2 [1, -3, 0] ∧ Slc w6 a3 [8, -24, 0]) := ⟨S5.out.1.bel b6, S5.out.2.bel b6⟩
  clear hw b6 B5 S5
  go_wp2_with (go_at_call 16; refine (num_ok _ _).mono ?_; rintro e w99 ⟨rfl, hw⟩; replace hw := hw.symm; subst hw)
  refine (same_ok _ _ [1, -3, 0] [1, -3, 0] 3 3 _ _ rfl rfl (by unfold maxLen; omega) (by unfold maxLen; omega) _ (S6.out.1.bel ((Bel.refl _).alloc _)) (slc_3 (by go_simp) (by go_simp) (by go_simp))).mono ?_
  rw [decide_eq_true rfl]
  rintro e w7 ⟨rfl, q7, hw⟩
  have b7 : Bel w6 w7 := hw ▸ ((Bel.refl w6).alloc _).drewN q7
  have B7 : Hid (Bel w w7) := B6.out.trans b7
  have S7 : Hid (Slc w7 a3 [8, -24, 0]) := S6.out.2.bel b7
  clear b7 hw S6 B6
  go_wp2_with (go_at_call 16; refine (num_ok _ _).mono ?_; rintro e w99 ⟨rfl, hw⟩; replace hw := hw.symm; subst hw)
  refine (same_ok _ _ [8, -24, 0] [8, -24, 0] 3 3 _ _ rfl rfl (by unfold maxLen; omega) (by unfold maxLen; omega) _ (S7.out.bel ((Bel.refl _).alloc _)) (slc_3 (by go_simp) (by go_simp) (by go_simp))).mono ?_
  rw [decide_eq_true rfl]
  rintro e w8 ⟨rfl, q8, hw⟩
  have B8 : Hid (Bel w w8) := B7.out.trans (hw ▸ ((Bel.refl w7).alloc _).drewN q8)
  clear hw B7 S7
  go_wp2_with (go_at_call 16; refine (num_ok _ _).mono ?_; rintro e w99 ⟨rfl, hw⟩; replace hw := hw.symm; subst hw)
  go_ret
  exact ⟨rfl, B8.out⟩

end Go.Proofs.YtlgknbcdmiecdaaDoor.Shf
