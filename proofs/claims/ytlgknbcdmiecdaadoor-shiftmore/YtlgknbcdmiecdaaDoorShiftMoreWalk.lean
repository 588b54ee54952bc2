/-
  ShiftMore, walked: it answers true for every row of ints and every int. Conditions: the row is there, within the reach; the library's table is laid as its text lays it.
-/
import Derived.Test.YtlgknbcdmiecdaaDoorShiftBackWalk
namespace Go.Proofs.YtlgknbcdmiecdaaDoor.Shf
open Go.RowKit Go.Sort Go.Proofs.YtlgknbcdmiecdaaDoor.Mod Go.Proofs.YtlgknbcdmiecdaaDoor.Lin Go.Proofs.YtlgknbcdmiecdaaDoor.Ints Go.Proofs.YtlgknbcdmiecdaaDoor.Num
set_option linter.unusedVariables false
set_option linter.unusedSimpArgs false

theorem and_16 (n : Int) : bits .and .i64 n 65535 = n % 65536 := and_mask 16 65535 (by decide) (by decide) n
theorem ok_more {L : List Int} {y : Int} (h : okRow L = true) (hy : -131072 ≤ y ∧ y ≤ 131072) : okRow (L ++ [y]) = true := okRow_iff.2 fun k hk => by
  rcases Nat.lt_or_ge k L.length with q | q
  · rw [List.getD_eq_getElem?_getD, List.getElem?_append_left q, ← List.getD_eq_getElem?_getD]
    exact okRow_iff.1 h k q
  · have : k = L.length := by simp at hk; omega
    subst this
    rw [List.getD_eq_getElem?_getD, List.getElem?_append_right (Nat.le_refl _), Nat.sub_self]
    exact hy

set_option maxRecDepth 20000 in
set_option maxHeartbeats 2000000 in
theorem more_walk (ao : Option Addr) (xs : List Int) (n cap : Nat) (hn : n = xs.length) (hc : n ≤ cap) (h8 : cap * 8 ≤ 140737488351232) (b : Int) (w : World) (T : Tab w) (hA : Slc w ao xs) :
    Calls Tryd.prog 6 #[.slice ao n cap, .int .i64 b] w fun e w' => e = .returned (.bool true) ∧ Bel w w' := by
  have s8 : n * 8 ≤ 140737488351232 := by omega
  have HA : Hid (∀ j, j < n → ∃ x, ao = some x ∧ w.cell? (x.add j) = some (.int .i64 (xs.getD j 0))) := fun j hj => hA j (hn ▸ hj)
  obtain ⟨t, ht⟩ : ∃ t, b % 65536 = t := ⟨_, rfl⟩
  have hb7 : bits .and .i64 b 65535 = t := (and_16 b).trans ht
  have t0 : 0 ≤ t := by omega
  have t1 : t ≤ 65535 := by omega
  obtain ⟨F, hF⟩ : ∃ F : Nat → Int, F = fun k => xs.getD k 0 % 65536 - 30000 := ⟨_, rfl⟩
  have FE : Hid (∀ k, F k = xs.getD k 0 % 65536 - 30000) := (fun k => by rw [hF] : ∀ k, F k = xs.getD k 0 % 65536 - 30000)
  have FR : ∀ k, -131072 ≤ F k ∧ F k ≤ 131072 := fun k => by
    rw [FE.out]
    omega
  have OK : okRow (rowOf F n) = true := rowOf_ok F n fun k _ => FR k
  have OM : okRow (rowOf F n ++ [t]) = true := ok_more OK (by omega)
  have DZ : (∀ k, k < n → F k = 0) → wstL (rowOf F n) = 0 := fun h => wstL_zero OK ((rowOf_zero F n).2 h)
  have DN : ¬ (∀ k, k < n → F k = 0) → wstL (rowOf F n ++ [t]) ≤ wstL (rowOf F n) := fun h => wstL_more OK OM fun q => h ((rowOf_zero F n).1 q)
  obtain ⟨W1, W2⟩ := yes_w OK
  obtain ⟨V1, V2⟩ := yes_w OM
  have RL := rowOf_length F n
  obtain ⟨L, hL⟩ : ∃ L, rowOf F n = L := ⟨_, rfl⟩
  rw [hL] at DZ DN W1 W2 V1 V2 RL
  obtain ⟨k, hk⟩ : ∃ k, wstL L = k := ⟨_, rfl⟩
  rw [hk] at DZ DN W1
  obtain ⟨m, hm⟩ : ∃ m, wstL (L ++ [t]) = m := ⟨_, rfl⟩
  rw [hm] at DN V1
  have HL : Hid (rowOf F n = L ∧ L.length = n) := ⟨hL, RL⟩
  have HW : Hid (wstV L = (k : Int) ∧ wstE L = 0) := ⟨W1, W2⟩
  have HV2 : Hid (wstV (L ++ [t]) = (m : Int) ∧ wstE (L ++ [t]) = 0) := ⟨V1, V2⟩
  have HZ : Hid ((∀ k, k < n → F k = 0) → k = 0) := DZ
  have HY : Hid (¬ (∀ k, k < n → F k = 0) → m ≤ k) := DN
  have TT : Hid (Tab w) := T
  have AW : Hid (Calls Tryd.prog 20 #[] w fun e w' => e = .returned (.bool true) ∧ Bel w w') := awake_true w T
  clear hA hn hc h8 hF FR OK OM DZ DN W1 W2 V1 V2 RL hL hk hm T ht
  go_enter Tryd.func6, Tryd.ntmps6
  go_wp2_with fail
  refine AW.out.mono ?_
  rintro e w1 ⟨rfl, b1⟩
  have B1 : Hid (Bel w w1) := b1
  clear b1
  go_wp2
  go_loopw [5, 6, 7] (fun o u i wr => ∃ (v : Value) (z : Bool) (j : Nat), v = o ∧ u = .bool z ∧ j ≤ n ∧ i = .int .i64 (j : Int) ∧ Hid (ZeroTo F j z) ∧ Hid (wr.ownsRow w.heap.size 3 1 v j (vals (rowOf F j)) ∧ Bel w wr)) (fun _ _ i _ => n - (intOf i).toNat)
  case atStart => exact ⟨_, true, 0, rfl, rfl, Nat.zero_le _, rfl, zeroTo_start F, ⟨rfl, .inl ⟨rfl, rfl⟩⟩, B1.out⟩
  case round =>
    obtain ⟨o, z, j, rfl, rfl, hj, rfl, hz, hb⟩ := hrel
    by_cases hlt : j < n
    · obtain ⟨x, rfl, hx⟩ := HA.out j hlt
      have hd : decide ((j : Int) < (n : Int)) = true := decide_eq_true (by omega)
      have j0 : (0 : Int) ≤ (j : Int) := by omega
      have jn : (j : Int) < (n : Int) := by omega
      have f1 : wr.cell? (x.add j) = some (.int .i64 (xs.getD j 0)) := hb.out.2.keep hx
      clear hx
      have fe := FE.out j
      generalize xs.getD j 0 = p at *
      obtain ⟨q, hq⟩ : ∃ q, p % 65536 = q := ⟨_, rfl⟩
      have ha : bits .and .i64 p 65535 = q := (and_16 p).trans hq
      have q0 : 0 ≤ q := by omega
      have q1 : q ≤ 65535 := by omega
      obtain ⟨y, hy⟩ : ∃ y, q - 30000 = y := ⟨_, rfl⟩
      have HF : Hid (F j = y) := (by rw [fe, hq, hy] : F j = y)
      have H8 : Hid (j * 8 ≤ 140737488351232 ∧ w.heap.size ≤ wr.heap.size) := ⟨by omega, hb.out.2.size⟩
      clear fe hq
      go_wp2_with (at_builtin; refine wpl_more_exc wr rfl (.tmp 20) (.tmp 27) rfl w.heap.size j H8.out.2 o _ _ rfl rfl hb.out.1 H8.out.1 ?_)
      intro v' w2 hv he
      have HV : w2.ownsRow w.heap.size 3 1 v' (j + 1) (vals (rowOf F (j + 1))) := by
        rw [← rowOf_next F j, HF.out, ← hy]
        first | exact hv | (rw [hy]; exact hv)
      have B2 : Hid (Bel w w2) := he.from hb.out.2 (fun i hi => (own_old hb.out.1 hi).1)
      have OV : Hid (w2.ownsRow w.heap.size 3 1 v' (j + 1) (vals (rowOf F (j + 1)))) := HV
      obtain ⟨g, c, rfl, -, -, q1, -, -, hh⟩ := owns_shape HV (by omega)
      have f2 : w2.cell? ⟨g, j, none⟩ = some (.int .i64 y) := by
        rw [hh.cell j (by rw [rowOf_length]; omega), rowOf_get _ _ _ (by omega), HF.out]
      have jj : (j : Int) < ((j + 1 : Nat) : Int) := by omega
      clear hv he f1 hh HV hy
      cases z
      · have HZ2 : Hid (ZeroTo F (j + 1) false) := zeroTo_no hz.out
        clear hz
        go_wp2
        go_roundw
        case rel => exact ⟨_, _, j + 1, rfl, rfl, by omega, by go_num, HZ2, ⟨OV.out, B2.out⟩⟩
        case measure => simp [intOf]; omega
      · have HZ2 : Hid (ZeroTo F (j + 1) (y == 0)) := zeroTo_yes hz.out HF.out
        clear hz
        go_wp2
        go_roundw
        case rel => exact ⟨_, _, j + 1, rfl, rfl, by omega, by go_num, HZ2, ⟨OV.out, B2.out⟩⟩
        case measure => simp [intOf]; omega
    · have hjn : n = j := by omega
      subst hjn
      have hd : decide ((n : Int) < (n : Int)) = false := decide_eq_false (by omega)
      have ho := hb.out.1
      rw [HL.out.1] at ho
      have OV : Hid (wr.ownsRow w.heap.size 3 1 o n (vals L)) := ho
      obtain ⟨yo, yc, rfl, -, -, -, hs⟩ := owns_slc ho
      have YS : Hid (Slc wr yo L ∧ Bel w wr) := ⟨hs, hb.out.2⟩
      clear hs ho hb FE
      have nm : n ≤ maxLen := by unfold maxLen; omega
      have nm1 : n + 1 ≤ maxLen := by unfold maxLen; omega
      have NM : Hid (n ≤ maxLen ∧ n * 8 ≤ 140737488351232 ∧ n + 1 ≤ maxLen ∧ w.heap.size ≤ wr.heap.size) := ⟨nm, s8, nm1, YS.out.2.size⟩
      clear nm nm1
      go_wp2_with fail
      refine (wasted_at yo L n yc (k : Int) 0 HL.out.2.symm NM.out.1 HW.out.1 HW.out.2 wr (TT.out.bel YS.out.2) YS.out.1).mono ?_
      rintro e w99 ⟨rfl, hw⟩; replace hw := hw.symm; subst hw
      go_wp2_with (at_builtin; refine wpl_more_exc wr rfl (.tmp 42) (.tmp 45) rfl w.heap.size n NM.out.2.2.2 _ L t rfl rfl OV.out NM.out.2.1 ?_)
      intro v' w2 hv he
      have B2 : Hid (Bel w w2) := he.from YS.out.2 (fun i hi => (own_old OV.out hi).1)
      obtain ⟨zo, zc, rfl, -, -, -, hs⟩ := owns_slc hv
      have ZS : Hid (Slc w2 zo (L ++ [t])) := hs
      have LL : Hid (n + 1 = (L ++ [t]).length) := (by rw [List.length_append, HL.out.2]; rfl : n + 1 = (L ++ [t]).length)
      clear hv he hs
      go_wp2_with fail
      refine (wasted_at zo (L ++ [t]) (n + 1) zc (m : Int) 0 LL.out NM.out.2.2.1 HV2.out.1 HV2.out.2 w2 (TT.out.bel B2.out) ZS.out).mono ?_
      rintro e w99 ⟨rfl, hw⟩; replace hw := hw.symm; subst hw
      cases z
      · have hy := HY.out (fun h => absurd (hz.out.2 h) (by decide))
        have hmk : decide ((m : Int) ≤ (k : Int)) = true := decide_eq_true (by omega)
        clear HW HV2 HZ HY LL
        go_wp2_with (go_at_call 16; refine (num_ok _ _).mono ?_; rintro e w99 ⟨rfl, hw⟩; replace hw := hw.symm; subst hw)
        go_ret
        exact ⟨rfl, B2.out⟩
      · obtain rfl := HZ.out (hz.out.1 rfl)
        clear HW HV2 HZ HY LL
        go_wp2_with (go_at_call 16; refine (num_ok _ _).mono ?_; rintro e w99 ⟨rfl, hw⟩; replace hw := hw.symm; subst hw)
        go_ret
        exact ⟨rfl, B2.out⟩

end Go.Proofs.YtlgknbcdmiecdaaDoor.Shf
