/-
  ShiftBack, walked: it answers true for every row of ints and every int. Conditions: the row is there, within the reach; the library's table is laid as its text lays it.
-/
import Derived.Test.YtlgknbcdmiecdaaDoorShAwake
import Derived.Test.YtlgknbcdmiecdaaDoorShRows
import Derived.Test.YtlgknbcdmiecdaaDoorGApp
namespace Go.Proofs.YtlgknbcdmiecdaaDoor.Shf
open Go.RowKit Go.Sort Go.Proofs.YtlgknbcdmiecdaaDoor.Mod Go.Proofs.YtlgknbcdmiecdaaDoor.Lin Go.Proofs.YtlgknbcdmiecdaaDoor.Ints Go.Proofs.YtlgknbcdmiecdaaDoor.Num
set_option linter.unusedVariables false
set_option linter.unusedSimpArgs false

theorem and_8 (n : Int) : bits .and .i64 n 255 = n % 256 := and_mask 8 255 (by decide) (by decide) n
theorem and_3 (n : Int) : bits .and .i64 n 7 = n % 8 := and_mask 3 7 (by decide) (by decide) n

/-- Is none of the first j another than 0? -/
def ZeroTo (F : Nat → Int) (j : Nat) (z : Bool) : Prop := z = true ↔ ∀ k, k < j → F k = 0
theorem zeroTo_start (F : Nat → Int) : ZeroTo F 0 true := ⟨fun _ k hk => absurd hk (Nat.not_lt_zero k), fun _ => rfl⟩
theorem zeroTo_yes {F : Nat → Int} {j : Nat} {y : Int} (h : ZeroTo F j true) (e : F j = y) : ZeroTo F (j + 1) (y == 0) := by
  unfold ZeroTo
  rw [beq_iff_eq]
  constructor
  · intro hy k hk
    rcases Nat.lt_or_ge k j with q | q
    · exact h.1 rfl k q
    · obtain rfl : k = j := by omega
      exact e.trans hy
  · intro g
    exact e.symm.trans (g j (by omega))
theorem zeroTo_no {F : Nat → Int} {j : Nat} (h : ZeroTo F j false) : ZeroTo F (j + 1) false :=
  ⟨fun q => absurd q (by decide), fun g => h.2 fun k hk => g k (by omega)⟩

theorem pw7 : ∀ n : Nat, n < 8 → (1 : Int) ≤ 2 ^ n ∧ (2 : Int) ^ n ≤ 128 := by decide

set_option maxRecDepth 20000 in
set_option maxHeartbeats 2000000 in
theorem back_walk (ao : Option Addr) (xs : List Int) (n cap : Nat) (hn : n = xs.length) (hc : n ≤ cap) (h8 : cap * 8 ≤ 140737488351232) (b : Int) (w : World) (T : Tab w) (hA : Slc w ao xs) :
    Calls Tryd.prog 4 #[.slice ao n cap, .int .i64 b] w fun e w' => e = .returned (.bool true) ∧ Bel w w' := by
  have s8 : n * 8 ≤ 140737488351232 := by omega
  have HA : Hid (∀ j, j < n → ∃ x, ao = some x ∧ w.cell? (x.add j) = some (.int .i64 (xs.getD j 0))) := fun j hj => hA j (hn ▸ hj)
  obtain ⟨t, ht⟩ : ∃ t, b % 8 = t := ⟨_, rfl⟩
  have hb7 : bits .and .i64 b 7 = t := (and_3 b).trans ht
  have t0 : 0 ≤ t := by omega
  have t1 : t ≤ 7 := by omega
  obtain ⟨P, ep⟩ : ∃ P : Int, (2 : Int) ^ t.toNat = P := ⟨_, rfl⟩
  have pp := pw7 t.toNat (by omega)
  rw [ep] at pp
  obtain ⟨P1, P2⟩ := pp
  obtain ⟨F, hF⟩ : ∃ F : Nat → Int, F = fun k => (xs.getD k 0 % 256 - 128) * P := ⟨_, rfl⟩
  have FE : Hid (∀ k, F k = (xs.getD k 0 % 256 - 128) * P) := (fun k => by rw [hF] : ∀ k, F k = (xs.getD k 0 % 256 - 128) * P)
  have FR : ∀ k, -131072 ≤ F k ∧ F k ≤ 131072 := fun k => by
    have := prod_le (xs.getD k 0 % 256 - 128) P 128 128 (by omega) (by omega)
    rw [FE.out]
    omega
  have OK : okRow (rowOf F n) = true := rowOf_ok F n fun k _ => FR k
  obtain ⟨D, D0, D1, D2, D3, D4⟩ := waste_goes OK
  have DZ : (∀ k, k < n → F k = 0) → wstL (rowOf F n) = 0 := fun h => wstL_zero OK ((rowOf_zero F n).2 h)
  have DN : ¬ (∀ k, k < n → F k = 0) → downE (rowOf F n) ((wstL (rowOf F n) : Int) + 1) = 1800 ∧ t ≤ (wstL (rowOf F n) : Int) := fun h => by
    have z : ¬ Naught (rowOf F n) := fun q => h ((rowOf_zero F n).1 q)
    refine ⟨more_not OK z, ?_⟩
    have := (wstL_dvd OK z (show t.toNat ≤ 15 by omega)).1 ((rowOf_mul F n t.toNat).2 fun i _ => by
      rw [FE.out, ep]
      exact Int.dvd_mul_left _ _)
    omega
  obtain ⟨W1, W2⟩ := yes_w OK
  obtain ⟨er, her⟩ : ∃ er, downE (rowOf F n) ((wstL (rowOf F n) : Int) + 1) = er := ⟨_, rfl⟩
  obtain ⟨M, hM⟩ : ∃ M, downL (rowOf F n) ((wstL (rowOf F n) : Int) + 1) = M := ⟨_, rfl⟩
  rw [her] at DN
  have hk15 := wstL_le (rowOf F n)
  have RL := rowOf_length F n
  obtain ⟨L, hL⟩ : ∃ L, rowOf F n = L := ⟨_, rfl⟩
  rw [hL] at D0 D1 D2 D3 D4 DZ DN W1 W2 her hM hk15 RL
  obtain ⟨k, hk⟩ : ∃ k, wstL L = k := ⟨_, rfl⟩
  rw [hk] at D1 D2 D3 D4 DZ DN W1 her hM hk15
  have HL : Hid (rowOf F n = L ∧ L.length = n) := ⟨hL, RL⟩
  have HW : Hid (wstV L = (k : Int) ∧ wstE L = 0) := ⟨W1, W2⟩
  have HD : Hid (D.length = n ∧ downE L (k : Int) = 0 ∧ downL L (k : Int) = D ∧ upE D (k : Int) = 0 ∧ upL D (k : Int) = L) := ⟨D0.trans RL, D1, D2, D3, D4⟩
  have HM : Hid (downE L ((k : Int) + 1) = er ∧ downL L ((k : Int) + 1) = M) := ⟨her, hM⟩
  have HZ : Hid ((∀ k, k < n → F k = 0) → k = 0) := DZ
  have HY : Hid (¬ (∀ k, k < n → F k = 0) → er = 1800 ∧ t ≤ (k : Int)) := DN
  have HR : Hid (∀ k, -131072 ≤ F k ∧ F k ≤ 131072) := FR
  have TT : Hid (Tab w) := T
  have AW : Hid (Calls Tryd.prog 20 #[] w fun e w' => e = .returned (.bool true) ∧ Bel w w') := awake_true w T
  clear hA hn hc h8 hF FR OK D0 D1 D2 D3 D4 DZ DN W1 W2 her hM RL hL hk T ht
  go_enter Tryd.func4, Tryd.ntmps4
  go_wp2_with fail
  refine AW.out.mono ?_
  rintro e w1 ⟨rfl, b1⟩
  have B1 : Hid (Bel w w1) := b1
  clear b1
  go_wp2
  go_loopw [5, 6, 7] (fun o u i wr => ∃ (v : Value) (z : Bool) (j : Nat), v = o ∧ u = .bool z ∧ j ≤ n ∧ i = .int .i64 (j : Int) ∧ Hid (ZeroTo F j z) ∧ Hid (wr.ownsRow w.heap.size 3 1 v j (vals (rowOf F j)) ∧ Bel w wr)) (fun _ _ i _ => n - (intOf i).toNat)
  case atStart => exact ⟨_, true, 0, rfl, rfl, Nat.zero_le _, rfl, zeroTo_start F, ⟨rfl, .inl ⟨rfl, rfl⟩⟩, B1.out⟩
  case round =>
    obtain ⟨o, z, j, rfl, rfl, hj, rfl, hz, hb⟩ := hrel
    by_cases hlt : j < n
    · obtain ⟨x, rfl, hx⟩ := HA.out j hlt
      have hd : decide ((j : Int) < (n : Int)) = true := decide_eq_true (by omega)
      have j0 : (0 : Int) ≤ (j : Int) := by omega
      have jn : (j : Int) < (n : Int) := by omega
      have f1 : wr.cell? (x.add j) = some (.int .i64 (xs.getD j 0)) := hb.out.2.keep hx
      clear hx
      have fe := FE.out j
      have fr := HR.out j
      generalize xs.getD j 0 = p at *
      obtain ⟨m, hm⟩ : ∃ m, p % 256 = m := ⟨_, rfl⟩
      have ha : bits .and .i64 p 255 = m := (and_8 p).trans hm
      have m0 : 0 ≤ m := by omega
      have m1 : m ≤ 255 := by omega
      obtain ⟨m2, hm2⟩ : ∃ m2, m - 128 = m2 := ⟨_, rfl⟩
      obtain ⟨y, hy⟩ : ∃ y, m2 * P = y := ⟨_, rfl⟩
      have HF : Hid (F j = y) := (by rw [fe, hm, hm2, hy] : F j = y)
      rw [HF.out] at fr
      obtain ⟨y0, y1⟩ := fr
      have H8 : Hid (j * 8 ≤ 140737488351232 ∧ w.heap.size ≤ wr.heap.size) := ⟨by omega, hb.out.2.size⟩
      clear fe hm
      go_wp2_with (at_builtin; refine wpl_more_exc wr rfl (.tmp 24) (.tmp 34) rfl w.heap.size j H8.out.2 o _ _ rfl rfl hb.out.1 H8.out.1 ?_)
      intro v' w2 hv he
      have HV : w2.ownsRow w.heap.size 3 1 v' (j + 1) (vals (rowOf F (j + 1))) := by
        rw [← rowOf_next F j, HF.out]
        exact hv
      have B2 : Hid (Bel w w2) := he.from hb.out.2 (fun i hi => (own_old hb.out.1 hi).1)
      have OV : Hid (w2.ownsRow w.heap.size 3 1 v' (j + 1) (vals (rowOf F (j + 1)))) := HV
      obtain ⟨g, c, rfl, -, -, q1, -, -, hh⟩ := owns_shape HV (by omega)
      have f2 : w2.cell? ⟨g, j, none⟩ = some (.int .i64 y) := by
        rw [hh.cell j (by rw [rowOf_length]; omega), rowOf_get _ _ _ (by omega), HF.out]
      have jj : (j : Int) < ((j + 1 : Nat) : Int) := by omega
      clear hv he f1 hh HV
      cases z
      · have HZ2 : Hid (ZeroTo F (j + 1) false) := zeroTo_no hz.out
        clear hz
        go_wp2
        go_roundw
        case rel => exact ⟨_, _, j + 1, rfl, rfl, by omega, by go_num, HZ2, ⟨OV.out, B2.out⟩⟩
        case measure => simp [intOf]; omega
      · have HZ2 : Hid (ZeroTo F (j + 1) (y == 0)) := zeroTo_yes hz.out HF.out
        clear hz
        go_wp2
        go_roundw
        case rel => exact ⟨_, _, j + 1, rfl, rfl, by omega, by go_num, HZ2, ⟨OV.out, B2.out⟩⟩
        case measure => simp [intOf]; omega
    · have hjn : n = j := by omega
      subst hjn
      have hd : decide ((n : Int) < (n : Int)) = false := decide_eq_false (by omega)
      have ho := hb.out.1
      rw [HL.out.1] at ho
      obtain ⟨yo, yc, rfl, -, -, -, hs⟩ := owns_slc ho
      have YS : Hid (Slc wr yo L ∧ Bel w wr) := ⟨hs, hb.out.2⟩
      clear hs ho hb FE HR
      have nm : n ≤ maxLen := by unfold maxLen; omega
      have NM : Hid (n ≤ maxLen ∧ n * 8 ≤ 140737488351232) := ⟨nm, s8⟩
      clear nm
      go_wp2_with fail
      refine (wasted_at yo L n yc (k : Int) 0 HL.out.2.symm NM.out.1 HW.out.1 HW.out.2 wr (TT.out.bel YS.out.2) YS.out.1).mono ?_
      rintro e w99 ⟨rfl, hw⟩; replace hw := hw.symm; subst hw
      go_wp2_with fail
      refine (down_at yo L D n n yc (k : Int) 0 HL.out.2.symm NM.out.2 HD.out.2.1 HD.out.2.2.1 HD.out.1.symm _ YS.out.1).mono ?_
      rintro e w2 ⟨a2, c2, rfl, s2, b2⟩
      have B2 : Hid (Bel w w2 ∧ Bel wr w2) := ⟨YS.out.2.trans b2, b2⟩
      have S2 : Hid (Slc w2 a2 D) := s2
      clear s2 b2
      go_wp2_with fail
      refine (rise_at a2 D L n n c2 (k : Int) 0 HD.out.1.symm NM.out.2 HD.out.2.2.2.1 HD.out.2.2.2.2 HL.out.2.symm _ S2.out).mono ?_
      rintro e w3 ⟨a3, c3, rfl, s3, b3⟩
      have B3 : Hid (Bel w w3 ∧ Bel wr w3) := ⟨B2.out.1.trans b3, B2.out.2.trans b3⟩
      have S3 : Hid (Slc w3 a3 L) := s3
      clear s3 b3 B2 S2
      go_wp2_with fail
      refine (down_at yo L M n _ yc ((k : Int) + 1) er HL.out.2.symm NM.out.2 HM.out.1 HM.out.2 rfl _ (YS.out.1.bel B3.out.2)).mono ?_
      rintro e w4 ⟨a4, c4, rfl, -, b4⟩
      have B4 : Hid (Bel w w4 ∧ Bel wr w4) := ⟨B3.out.1.trans b4, B3.out.2.trans b4⟩
      have S4 : Hid (Slc w4 a3 L) := S3.out.bel b4
      clear b4 B3 S3
      go_wp2_with (go_at_call 16; refine (num_ok _ _).mono ?_; rintro e w99 ⟨rfl, hw⟩; replace hw := hw.symm; subst hw)
      refine (same_ok a3 yo L L n n c3 yc HL.out.2.symm HL.out.2.symm NM.out.1 NM.out.1 w4 S4.out (YS.out.1.bel B4.out.2)).mono ?_
      rw [decide_eq_true rfl]
      rintro e w5 ⟨rfl, q5, hw⟩
      have B5 : Hid (Bel w w5) := hw ▸ B4.out.1.drewN q5
      clear hw B4 S4
      cases z
      · obtain ⟨rfl, hy⟩ := HY.out (fun h => absurd (hz.out.2 h) (by decide))
        clear HM HW HD HZ HY
        go_wp2_with (go_at_call 16; refine (num_ok _ _).mono ?_; rintro e w99 ⟨rfl, hw⟩; replace hw := hw.symm; subst hw)
        go_ret
        exact ⟨rfl, B5.out⟩
      · obtain rfl := HZ.out (hz.out.1 rfl)
        clear HM HW HD HZ HY
        go_wp2_with (go_at_call 16; refine (num_ok _ _).mono ?_; rintro e w99 ⟨rfl, hw⟩; replace hw := hw.symm; subst hw)
        go_ret
        exact ⟨rfl, B5.out⟩

end Go.Proofs.YtlgknbcdmiecdaaDoor.Shf
