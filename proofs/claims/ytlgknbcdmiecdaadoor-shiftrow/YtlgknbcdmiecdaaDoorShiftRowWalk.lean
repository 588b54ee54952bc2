/-
  ShiftRow, walked: it answers true for every row of ints and every int. Conditions: the row is there, within the reach; the library's table is laid as its text lays it.
-/
import Derived.Test.YtlgknbcdmiecdaaDoorShiftBackWalk
import Derived.Test.YtlgknbcdmiecdaaDoorGTwo
import Derived.Test.YtlgknbcdmiecdaaDoorGPlace
namespace Go.Proofs.YtlgknbcdmiecdaaDoor.Shf
open Go.RowKit Go.Sort Go.Proofs.YtlgknbcdmiecdaaDoor.Mod Go.Proofs.YtlgknbcdmiecdaaDoor.Lin Go.Proofs.YtlgknbcdmiecdaaDoor.Ints Go.Proofs.YtlgknbcdmiecdaaDoor.Num
set_option linter.unusedVariables false
set_option linter.unusedSimpArgs false

theorem and_12 (n : Int) : bits .and .i64 n 4095 = n % 4096 := and_mask 12 4095 (by decide) (by decide) n

set_option maxRecDepth 20000 in
set_option maxHeartbeats 2000000 in
theorem row_walk (ao : Option Addr) (xs : List Int) (n cap : Nat) (hn : n = xs.length) (hc : n ≤ cap) (h8 : cap * 8 ≤ 140737488351232) (b : Int) (w : World) (T : Tab w) (hA : Slc w ao xs) :
    Calls Tryd.prog 8 #[.slice ao n cap, .int .i64 b] w fun e w' => e = .returned (.bool true) ∧ Bel w w' := by
  have s8 : n * 8 ≤ 140737488351232 := by omega
  have HA : Hid (∀ j, j < n → ∃ x, ao = some x ∧ w.cell? (x.add j) = some (.int .i64 (xs.getD j 0))) := fun j hj => hA j (hn ▸ hj)
  obtain ⟨F, hF⟩ : ∃ F : Nat → Int, F = fun k => xs.getD k 0 % 4096 * 4 := ⟨_, rfl⟩
  have FE : Hid (∀ k, F k = xs.getD k 0 % 4096 * 4) := (fun k => by rw [hF] : ∀ k, F k = xs.getD k 0 % 4096 * 4)
  have FR : ∀ k, -131072 ≤ F k ∧ F k ≤ 131072 := fun k => by
    rw [FE.out]
    omega
  obtain ⟨G, hG⟩ : ∃ G : Nat → Int, G = fun k => -F k := ⟨_, rfl⟩
  have GE : Hid (∀ k, G k = -F k) := (fun k => by rw [hG] : ∀ k, G k = -F k)
  obtain ⟨K, hK⟩ : ∃ K : Nat, 0 < n → (K : Int) < (n : Int) ∧ wrap64 ((IntKind.u64.wrap b).tmod (n : Int)) = (K : Int) := by
    rcases Nat.eq_zero_or_pos n with q | q
    · exact ⟨0, fun h => by omega⟩
    · obtain ⟨K, h1, h2⟩ := place_of b (n : Int) (by omega) (by omega)
      exact ⟨K, fun _ => ⟨h1, h2⟩⟩
  have HK : Hid (0 < n → (K : Int) < (n : Int) ∧ wrap64 ((IntKind.u64.wrap b).tmod (n : Int)) = (K : Int)) := hK
  obtain ⟨H, hH⟩ : ∃ H : Nat → Int, H = fun k => F ((k + K) % n) := ⟨_, rfl⟩
  have HE : Hid (∀ k, H k = F ((k + K) % n)) := (fun k => by rw [hH] : ∀ k, H k = F ((k + K) % n))
  have ok1 : okRow (rowOf F n) = true := rowOf_ok F n fun k _ => FR k
  have ok2 : okRow (rowOf G n) = true := rowOf_ok G n fun k _ => by rw [GE.out]; have := FR k; omega
  have ok3 : okRow (rowOf H n) = true := rowOf_ok H n fun k _ => by rw [HE.out]; exact FR _
  obtain ⟨v1, e1⟩ := yes_w ok1
  obtain ⟨v2, e2⟩ := yes_w ok2
  obtain ⟨v3, e3⟩ := yes_w ok3
  have q2 : wstL (rowOf G n) = wstL (rowOf F n) := by rw [hG]; exact waste_neg F n fun k _ => FR k
  have q3 : wstL (rowOf H n) = wstL (rowOf F n) := by rw [hH]; exact waste_turn F n K fun k _ => FR k
  rw [q2] at v2
  rw [q3] at v3
  obtain ⟨k, hk⟩ : ∃ k, wstL (rowOf F n) = k := ⟨_, rfl⟩
  rw [hk] at v1 v2 v3
  have HW : Hid ((wstV (rowOf F n) = (k : Int) ∧ wstE (rowOf F n) = 0) ∧ (wstV (rowOf G n) = (k : Int) ∧ wstE (rowOf G n) = 0) ∧ wstV (rowOf H n) = (k : Int) ∧ wstE (rowOf H n) = 0) := ⟨⟨v1, e1⟩, ⟨v2, e2⟩, v3, e3⟩
  have TT : Hid (Tab w) := T
  have AW : Hid (Calls Tryd.prog 20 #[] w fun e w' => e = .returned (.bool true) ∧ Bel w w') := awake_true w T
  clear hA hn hc h8 hF FR hG hK hH ok1 ok2 ok3 v1 v2 v3 e1 e2 e3 q2 q3 hk T
  go_enter Tryd.func8, Tryd.ntmps8
  go_wp2_with fail
  refine AW.out.mono ?_
  rintro e w1 ⟨rfl, b1⟩
  have B1 : Hid (Bel w w1) := b1
  clear b1
  go_wp2
  go_loopw [5, 6, 8] (fun o u i wr => ∃ (v v2 : Value) (j : Nat), v = o ∧ v2 = u ∧ j ≤ n ∧ i = .int .i64 (j : Int) ∧ Hid (wr.ownsRow w.heap.size 3 1 v j (vals (rowOf F j)) ∧ wr.ownsRow w.heap.size 3 1 v2 j (vals (rowOf G j)) ∧ ∀ i, v.ownBlock = some i → v2.ownBlock ≠ some i) ∧ Hid (Bel w wr)) (fun _ _ i _ => n - (intOf i).toNat)
  case atStart => exact ⟨_, _, 0, rfl, rfl, Nat.zero_le _, rfl, ⟨⟨rfl, .inl ⟨rfl, rfl⟩⟩, ⟨rfl, .inl ⟨rfl, rfl⟩⟩, fun i h => by simp [Value.ownBlock] at h⟩, B1.out⟩
  case round =>
    obtain ⟨o, u, j, rfl, rfl, hj, rfl, ho, hb⟩ := hrel
    by_cases hlt : j < n
    · obtain ⟨x, rfl, hx⟩ := HA.out j hlt
      have hd : decide ((j : Int) < (n : Int)) = true := decide_eq_true (by omega)
      have jn : (j : Int) < (n : Int) := by omega
      have j0 : (0 : Int) ≤ (j : Int) := by omega
      have f1 : wr.cell? (x.add j) = some (.int .i64 (xs.getD j 0)) := hb.out.keep hx
      have HX : Hid (w.cell? (x.add j) = some (.int .i64 (xs.getD j 0))) := hx
      clear hx
      have fe := FE.out j
      have ge := GE.out j
      generalize xs.getD j 0 = p at *
      obtain ⟨p1, hp1⟩ : ∃ y, p % 4096 = y := ⟨_, rfl⟩
      have pa : bits .and .i64 p 4095 = p1 := (and_12 p).trans hp1
      have p2 : 0 ≤ p1 := by omega
      have p3 : p1 ≤ 4095 := by omega
      have HZ : Hid (F j = p1 * 4 ∧ G j = -(p1 * 4)) := ⟨by rw [fe, hp1], by rw [ge, fe, hp1]⟩
      clear hp1 fe ge
      have H8 : Hid (j * 8 ≤ 140737488351232 ∧ w.heap.size ≤ wr.heap.size) := ⟨by omega, hb.out.size⟩
      go_wp2_with (at_builtin; refine wpl_more_at wr rfl (.tmp 24) (.tmp 31) rfl w.heap.size j H8.out.2 o _ _ rfl rfl ho.out.1 H8.out.1 ?_)
      intro v' w2 hv he hl
      have HV : Hid (w2.ownsRow w.heap.size 3 1 v' (j + 1) (vals (rowOf F (j + 1)))) := by
        rw [← rowOf_next F j, HZ.out.1]
        exact hv
      have HU : Hid (w2.ownsRow w.heap.size 3 1 u j (vals (rowOf G j))) := own_beside ho.out.2.1 he (apart_sym ho.out.2.2)
      have HD : Hid (∀ i, u.ownBlock = some i → v'.ownBlock ≠ some i) := apart_more ho.out.2.1 (apart_sym ho.out.2.2) hl
      have B2 : Hid (Bel w w2) := he.from hb.out (fun i hi => (own_old ho.out.1 hi).1)
      have f2 : w2.cell? (x.add j) = some (.int .i64 p) := B2.out.keep HX.out
      have H82 : Hid (w.heap.size ≤ w2.heap.size) := B2.out.size
      clear hv he hl f1 ho hb
      go_wp2_with (at_builtin; refine wpl_more_at w2 rfl (.tmp 33) (.tmp 41) rfl w.heap.size j H82.out u _ _ rfl rfl HU.out H8.out.1 ?_)
      intro v2' w3 hv he hl
      have HU2 : Hid (w3.ownsRow w.heap.size 3 1 v2' (j + 1) (vals (rowOf G (j + 1)))) := by
        rw [← rowOf_next G j, HZ.out.2]
        exact hv
      have HV2 : Hid (w3.ownsRow w.heap.size 3 1 v' (j + 1) (vals (rowOf F (j + 1)))) := own_beside HV.out he (apart_sym HD.out)
      have HD2 : Hid (∀ i, v'.ownBlock = some i → v2'.ownBlock ≠ some i) := apart_more HV.out (apart_sym HD.out) hl
      have B3 : Hid (Bel w w3) := he.from B2.out (fun i hi => (own_old HU.out hi).1)
      clear hv he hl f2 pa p2 p3
      go_wp2
      go_roundw
      case rel => exact ⟨_, _, j + 1, rfl, rfl, by omega, by go_num, ⟨HV2.out, HU2.out, HD2.out⟩, B3⟩
      case measure => simp [intOf]; omega
    · have hkj : n = j := by omega
      have ho2 := ho.out
      clear ho
      subst hkj
      have hd : decide ((n : Int) < (n : Int)) = false := decide_eq_false (by omega)
      obtain ⟨o1, o2, -⟩ := ho2
      obtain ⟨po, pc, rfl, -, -, -, hs⟩ := owns_slc o1
      obtain ⟨qo, qc, rfl, -, -, -, ht⟩ := owns_slc o2
      have SA : Hid (Slc wr po (rowOf F n) ∧ Slc wr qo (rowOf G n) ∧ Bel w wr) := ⟨hs, ht, hb.out⟩
      clear hs ht hb o1 o2 GE
      obtain ⟨W0, hW0⟩ : ∃ W0, W0 = wr := ⟨_, rfl⟩
      subst hW0
      go_wp2
      go_loopw [7, 9] (fun o i wq => ∃ (v : Value) (j : Nat), v = o ∧ j ≤ n ∧ i = .int .i64 (j : Int) ∧ Hid (wq.ownsRow W0.heap.size 3 1 v j (vals (rowOf H j)) ∧ Bel W0 wq)) (fun _ i _ => n - (intOf i).toNat)
      case atStart => exact ⟨_, 0, rfl, Nat.zero_le _, rfl, ⟨rfl, .inl ⟨rfl, rfl⟩⟩, Bel.refl _⟩
      case round =>
        obtain ⟨o, j, rfl, hj, rfl, hb⟩ := hrel
        by_cases hlt : j < n
        · obtain ⟨K1, K2⟩ := HK.out (by omega)
          have hz : ((n : Int) == 0) = false := by simp; omega
          have hd2 : decide ((j : Int) < (n : Int)) = true := decide_eq_true (by omega)
          have j0 : (0 : Int) ≤ (j : Int) := by omega
          have jn : (j : Int) < (n : Int) := by omega
          obtain ⟨r, hr⟩ : ∃ r, (j + K) % n = r := ⟨_, rfl⟩
          have rn : r < n := by rw [← hr]; exact Nat.mod_lt _ (by omega)
          have hq : ((j : Int) + (K : Int)).tmod (n : Int) = (r : Int) := by
            rw [Int.tmod_eq_emod_of_nonneg (by omega), ← hr]
            exact (Int.natCast_emod (j + K) n).symm
          have r0 : (0 : Int) ≤ (r : Int) := by omega
          have r1 : (r : Int) < (n : Int) := by omega
          obtain ⟨x, rfl, hx⟩ := SA.out.1 r (by rw [rowOf_length]; exact rn)
          rw [rowOf_get _ _ _ rn] at hx
          have f1 := hb.out.2.keep hx
          have HZ : Hid (H j = F r) := (by rw [HE.out, hr] : H j = F r)
          have H8 : Hid (j * 8 ≤ 140737488351232 ∧ W0.heap.size ≤ wr.heap.size) := ⟨by omega, hb.out.2.size⟩
          have HR : Hid ((j + K) % n = r) := hr
          have kn : (K : Int) < (n : Int) := K1
          have k0 : (0 : Int) ≤ (K : Int) := by omega
          clear hr hx
          generalize F r = y at *
          go_wp2_with (at_builtin; refine wpl_more_exc wr rfl (.tmp 49) (.tmp 65) rfl W0.heap.size j H8.out.2 o _ _ rfl rfl hb.out.1 H8.out.1 ?_)
          intro v' w2 hv he
          have HV : Hid (w2.ownsRow W0.heap.size 3 1 v' (j + 1) (vals (rowOf H (j + 1)))) := by
            rw [← rowOf_next H j, HZ.out]
            exact hv
          have B2 : Hid (Bel W0 w2) := he.from hb.out.2 (fun i hi => (own_old hb.out.1 hi).1)
          clear hv he f1
          go_wp2
          go_roundw
          case rel => exact ⟨_, j + 1, rfl, by omega, by go_num, ⟨HV.out, B2.out⟩⟩
          case measure => simp [intOf]; omega
        · have hkj : n = j := by omega
          subst hkj
          have hd2 : decide ((n : Int) < (n : Int)) = false := decide_eq_false (by omega)
          obtain ⟨zo, zc, rfl, -, -, -, hs⟩ := owns_slc hb.out.1
          have BW : Hid (Bel w wr) := SA.out.2.2.trans hb.out.2
          have SB : Hid (Slc wr po (rowOf F n) ∧ Slc wr qo (rowOf G n) ∧ Slc wr zo (rowOf H n) ∧ Tab wr) := ⟨SA.out.1.bel hb.out.2, SA.out.2.1.bel hb.out.2, hs, TT.out.bel (SA.out.2.2.trans hb.out.2)⟩
          have nm : n ≤ maxLen := by unfold maxLen; omega
          have NM : Hid (n ≤ maxLen) := nm
          have L1 : Hid (n = (rowOf F n).length ∧ n = (rowOf G n).length ∧ n = (rowOf H n).length) := ⟨(rowOf_length F n).symm, (rowOf_length G n).symm, (rowOf_length H n).symm⟩
          clear hs hb SA FE HE HK nm
          generalize rowOf F n = X at *
          generalize rowOf G n = Y at *
          generalize rowOf H n = Z at *
          have hkk : ((k : Int) == (k : Int)) = true := by simp
          go_wp2_with fail
          refine (wasted_at po X n pc (k : Int) 0 L1.out.1 NM.out HW.out.1.1 HW.out.1.2 wr SB.out.2.2.2 SB.out.1).mono ?_
          rintro e w99 ⟨rfl, hw⟩; replace hw := hw.symm; subst hw
          go_wp2_with fail
          refine (wasted_at qo Y n qc (k : Int) 0 L1.out.2.1 NM.out HW.out.2.1.1 HW.out.2.1.2 wr SB.out.2.2.2 SB.out.2.1).mono ?_
          rintro e w99 ⟨rfl, hw⟩; replace hw := hw.symm; subst hw
          go_wp2_with fail
          refine (wasted_at zo Z n zc (k : Int) 0 L1.out.2.2 NM.out HW.out.2.2.1 HW.out.2.2.2 wr SB.out.2.2.2 SB.out.2.2.1).mono ?_
          rintro e w99 ⟨rfl, hw⟩; replace hw := hw.symm; subst hw
          go_wp2_with (go_at_call 16; refine (num_ok _ _).mono ?_; rintro e w99 ⟨rfl, hw⟩; replace hw := hw.symm; subst hw)
          go_ret
          exact ⟨rfl, BW.out⟩

end Go.Proofs.YtlgknbcdmiecdaaDoor.Shf
