/-
  ShiftTwice, walked: it answers true for every row of ints and every two ints. Conditions: the row is there, within the reach; the library's table is laid as its text lays it.
-/
import Derived.Test.YtlgknbcdmiecdaaDoorShiftBackWalk
namespace Go.Proofs.YtlgknbcdmiecdaaDoor.Shf
open Go.RowKit Go.Sort Go.Proofs.YtlgknbcdmiecdaaDoor.Mod Go.Proofs.YtlgknbcdmiecdaaDoor.Lin Go.Proofs.YtlgknbcdmiecdaaDoor.Ints Go.Proofs.YtlgknbcdmiecdaaDoor.Num
set_option linter.unusedVariables false
set_option linter.unusedSimpArgs false

theorem pw14 : ∀ n : Nat, n < 15 → (1 : Int) ≤ 2 ^ n ∧ (2 : Int) ^ n ≤ 16384 := by decide
theorem rowOf_map (g : Int → Int) (f : Nat → Int) (n : Nat) : (rowOf f n).map g = rowOf (fun k => g (f k)) n := by
  unfold rowOf
  rw [List.map_map]
  rfl

set_option maxRecDepth 20000 in
set_option maxHeartbeats 2000000 in
theorem twice_walk (ao : Option Addr) (xs : List Int) (n cap : Nat) (hn : n = xs.length) (hc : n ≤ cap) (h8 : cap * 8 ≤ 140737488351232) (a b : Int) (w : World) (T : Tab w) (hA : Slc w ao xs) :
    Calls Tryd.prog 7 #[.slice ao n cap, .int .i64 a, .int .i64 b] w fun e w' => e = .returned (.bool true) ∧ Bel w w' := by
  have s8 : n * 8 ≤ 140737488351232 := by omega
  have HA : Hid (∀ j, j < n → ∃ x, ao = some x ∧ w.cell? (x.add j) = some (.int .i64 (xs.getD j 0))) := fun j hj => hA j (hn ▸ hj)
  obtain ⟨s, hs⟩ : ∃ t, a % 8 = t := ⟨_, rfl⟩
  have ha7 : bits .and .i64 a 7 = s := (and_3 a).trans hs
  have s0 : 0 ≤ s := by omega
  have s1 : s ≤ 7 := by omega
  obtain ⟨t, ht⟩ : ∃ t, b % 8 = t := ⟨_, rfl⟩
  have hb7 : bits .and .i64 b 7 = t := (and_3 b).trans ht
  have t0 : 0 ≤ t := by omega
  have t1 : t ≤ 7 := by omega
  obtain ⟨G, hG⟩ : ∃ G : Nat → Int, G = fun k => xs.getD k 0 % 8 := ⟨_, rfl⟩
  have GE : Hid (∀ k, G k = xs.getD k 0 % 8) := (fun k => by rw [hG] : ∀ k, G k = xs.getD k 0 % 8)
  have GR : ∀ k, 0 ≤ G k ∧ G k ≤ 7 := fun k => by
    rw [GE.out]
    omega
  obtain ⟨⟨d1, d2⟩, ⟨e1, e2⟩, ⟨f1, f2⟩, u1, u2⟩ := twice_goes (rowOf G n) s t ⟨s0, s1⟩ ⟨t0, t1⟩ (fun i hi => by
    rw [rowOf_length] at hi
    rw [rowOf_get _ _ _ hi]
    exact GR i)
  obtain ⟨P, hP⟩ : ∃ P, pw (s + t) = P := ⟨_, rfl⟩
  rw [hP] at d1 d2 f1 f2
  have ep : (2 : Int) ^ (s + t).toNat = P := hP
  have PP := pw14 (s + t).toNat (by omega)
  rw [ep] at PP
  obtain ⟨P1, P2⟩ := PP
  rw [rowOf_map] at d1 d2 f1 f2
  obtain ⟨F, hF⟩ : ∃ F : Nat → Int, (fun k => G k * P) = F := ⟨_, rfl⟩
  have FE : Hid (∀ k, F k = G k * P) := (fun k => by rw [← hF] : ∀ k, F k = G k * P)
  rw [hF] at d1 d2 f1 f2
  have RL := rowOf_length F n
  have RM := rowOf_length G n
  obtain ⟨L, hL⟩ : ∃ L, rowOf F n = L := ⟨_, rfl⟩
  rw [hL] at d1 d2 f1 f2 RL
  obtain ⟨M, hM⟩ : ∃ L, rowOf G n = L := ⟨_, rfl⟩
  rw [hM] at d2 e1 e2 f2 u1 u2 RM
  obtain ⟨Q, hQ⟩ : ∃ Q, M.map (· * pw t) = Q := ⟨_, rfl⟩
  have RQ : Q.length = n := by rw [← hQ, List.length_map, RM]
  rw [hQ] at d2 e1 e2 u2
  have HL : Hid (rowOf F n = L ∧ L.length = n ∧ M.length = n ∧ Q.length = n) := ⟨hL, RL, RM, RQ⟩
  have HD : Hid ((downE L s = 0 ∧ downL L s = Q) ∧ (downE Q t = 0 ∧ downL Q t = M) ∧ (downE L (s + t) = 0 ∧ downL L (s + t) = M) ∧ upE M t = 0 ∧ upL M t = Q) := ⟨⟨d1, d2⟩, ⟨e1, e2⟩, ⟨f1, f2⟩, u1, u2⟩
  have AW : Hid (Calls Tryd.prog 20 #[] w fun e w' => e = .returned (.bool true) ∧ Bel w w') := awake_true w T
  have HG : Hid (∀ k, 0 ≤ G k ∧ G k ≤ 7) := GR
  clear hA hn hc h8 hG GR d1 d2 e1 e2 f1 f2 u1 u2 hP hF RL RM hL hM hQ RQ T hs ht
  go_enter Tryd.func7, Tryd.ntmps7
  go_wp2_with fail
  refine AW.out.mono ?_
  rintro e w1 ⟨rfl, b1⟩
  have B1 : Hid (Bel w w1) := b1
  clear b1
  go_wp2
  go_loopw [9, 10] (fun o i wr => ∃ (v : Value) (j : Nat), v = o ∧ j ≤ n ∧ i = .int .i64 (j : Int) ∧ Hid (wr.ownsRow w.heap.size 3 1 v j (vals (rowOf F j)) ∧ Bel w wr)) (fun _ i _ => n - (intOf i).toNat)
  case atStart => exact ⟨_, 0, rfl, Nat.zero_le _, rfl, ⟨rfl, .inl ⟨rfl, rfl⟩⟩, B1.out⟩
  case round =>
    obtain ⟨o, j, rfl, hj, rfl, hb⟩ := hrel
    by_cases hlt : j < n
    · obtain ⟨x, rfl, hx⟩ := HA.out j hlt
      have hd : decide ((j : Int) < (n : Int)) = true := decide_eq_true (by omega)
      have j0 : (0 : Int) ≤ (j : Int) := by omega
      have jn : (j : Int) < (n : Int) := by omega
      have f1 : wr.cell? (x.add j) = some (.int .i64 (xs.getD j 0)) := hb.out.2.keep hx
      clear hx
      have fe := FE.out j
      have gr := HG.out j
      rw [GE.out] at fe gr
      generalize xs.getD j 0 = p at *
      obtain ⟨m, hm⟩ : ∃ m, p % 8 = m := ⟨_, rfl⟩
      have ha : bits .and .i64 p 7 = m := (and_3 p).trans hm
      rw [hm] at gr fe
      obtain ⟨y, hy⟩ : ∃ y, m * P = y := ⟨_, rfl⟩
      have HF : Hid (F j = y) := fe.trans hy
      have yr := prod_le m P 7 16384 (by omega) (by omega)
      rw [hy] at yr
      obtain ⟨y0, y1⟩ := yr
      obtain ⟨m0, m1⟩ := gr
      have H8 : Hid (j * 8 ≤ 140737488351232 ∧ w.heap.size ≤ wr.heap.size) := ⟨by omega, hb.out.2.size⟩
      clear fe hm
      go_wp2_with (at_builtin; refine wpl_more_exc wr rfl (.tmp 31) (.tmp 41) rfl w.heap.size j H8.out.2 o _ _ rfl rfl hb.out.1 H8.out.1 ?_)
      intro v' w2 hv he
      have HV : Hid (w2.ownsRow w.heap.size 3 1 v' (j + 1) (vals (rowOf F (j + 1)))) := by
        rw [← rowOf_next F j, HF.out]
        exact hv
      have B2 : Hid (Bel w w2) := he.from hb.out.2 (fun i hi => (own_old hb.out.1 hi).1)
      clear hv he f1
      go_wp2
      go_roundw
      case rel => exact ⟨_, j + 1, rfl, by omega, by go_num, ⟨HV.out, B2.out⟩⟩
      case measure => simp [intOf]; omega
    · have hjn : n = j := by omega
      subst hjn
      have hd : decide ((n : Int) < (n : Int)) = false := decide_eq_false (by omega)
      have ho := hb.out.1
      rw [HL.out.1] at ho
      obtain ⟨yo, yc, rfl, -, -, -, hs⟩ := owns_slc ho
      have YS : Hid (Slc wr yo L ∧ Bel w wr) := ⟨hs, hb.out.2⟩
      clear hs ho hb FE GE HG
      have nm : n ≤ maxLen := by unfold maxLen; omega
      have NM : Hid (n ≤ maxLen ∧ n * 8 ≤ 140737488351232) := ⟨nm, s8⟩
      clear nm
      go_wp2_with fail
      refine (down_at yo L Q n n yc s 0 HL.out.2.1.symm NM.out.2 HD.out.1.1 HD.out.1.2 HL.out.2.2.2.symm wr YS.out.1).mono ?_
      rintro e w2 ⟨a2, c2, rfl, s2, b2⟩
      have B2 : Hid (Bel w w2 ∧ Bel wr w2) := ⟨YS.out.2.trans b2, b2⟩
      have S2 : Hid (Slc w2 a2 Q) := s2
      clear s2 b2
      go_wp2_with fail
      refine (down_at a2 Q M n n c2 t 0 HL.out.2.2.2.symm NM.out.2 HD.out.2.1.1 HD.out.2.1.2 HL.out.2.2.1.symm w2 S2.out).mono ?_
      rintro e w3 ⟨a3, c3, rfl, s3, b3⟩
      have B3 : Hid (Bel w w3 ∧ Bel wr w3) := ⟨B2.out.1.trans b3, B2.out.2.trans b3⟩
      have S3 : Hid (Slc w3 a2 Q ∧ Slc w3 a3 M) := ⟨S2.out.bel b3, s3⟩
      clear s3 b3 S2 B2
      go_wp2_with fail
      refine (down_at yo L M n n yc (s + t) 0 HL.out.2.1.symm NM.out.2 HD.out.2.2.1.1 HD.out.2.2.1.2 HL.out.2.2.1.symm w3 (YS.out.1.bel B3.out.2)).mono ?_
      rintro e w4 ⟨a4, c4, rfl, s4, b4⟩
      have B4 : Hid (Bel w w4) := B3.out.1.trans b4
      have S4 : Hid (Slc w4 a2 Q ∧ Slc w4 a3 M ∧ Slc w4 a4 M) := ⟨S3.out.1.bel b4, S3.out.2.bel b4, s4⟩
      clear s4 b4 S3 B3
      go_wp2_with fail
      refine (rise_at a3 M Q n n c3 t 0 HL.out.2.2.1.symm NM.out.2 HD.out.2.2.2.1 HD.out.2.2.2.2 HL.out.2.2.2.symm w4 S4.out.2.1).mono ?_
      rintro e w5 ⟨a5, c5, rfl, s5, b5⟩
      have B5 : Hid (Bel w w5) := B4.out.trans b5
      have S5 : Hid (Slc w5 a2 Q ∧ Slc w5 a3 M ∧ Slc w5 a4 M ∧ Slc w5 a5 Q) := ⟨S4.out.1.bel b5, S4.out.2.1.bel b5, S4.out.2.2.bel b5, s5⟩
      clear s5 b5 S4 B4 HD
      go_wp2_with (go_at_call 16; refine (num_ok _ _).mono ?_; rintro e w99 ⟨rfl, hw⟩; replace hw := hw.symm; subst hw)
      refine (same_ok a3 a4 M M n n c3 c4 HL.out.2.2.1.symm HL.out.2.2.1.symm NM.out.1 NM.out.1 w5 S5.out.2.1 S5.out.2.2.1).mono ?_
      rw [decide_eq_true rfl]
      rintro e w6 ⟨rfl, q6, hw⟩
      have B6 : Hid (Bel w w6 ∧ Slc w6 a2 Q ∧ Slc w6 a5 Q) := hw ▸ ⟨B5.out.drewN q6, S5.out.1.drewN q6, S5.out.2.2.2.drewN q6⟩
      clear hw B5 S5
      go_wp2_with (go_at_call 16; refine (num_ok _ _).mono ?_; rintro e w99 ⟨rfl, hw⟩; replace hw := hw.symm; subst hw)
      refine (same_ok a5 a2 Q Q n n c5 c2 HL.out.2.2.2.symm HL.out.2.2.2.symm NM.out.1 NM.out.1 w6 B6.out.2.2 B6.out.2.1).mono ?_
      rw [decide_eq_true rfl]
      rintro e w7 ⟨rfl, q7, hw⟩
      have B7 : Hid (Bel w w7) := hw ▸ B6.out.1.drewN q7
      clear hw B6
      go_wp2
      go_ret
      exact ⟨rfl, B7.out⟩

end Go.Proofs.YtlgknbcdmiecdaaDoor.Shf
