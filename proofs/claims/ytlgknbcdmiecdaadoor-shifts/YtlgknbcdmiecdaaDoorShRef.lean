/-
  The contracts of the reference's Wasted, Down and Up. Conditions: the row is there, within the reach.
-/
import Derived.Test.YtlgknbcdmiecdaaDoorShDown
import Derived.Test.YtlgknbcdmiecdaaDoorGUpRow
import Derived.Test.YtlgknbcdmiecdaaDoorGApp
import Derived.Deep.CutRange
namespace Go.Proofs.YtlgknbcdmiecdaaDoor.Shf
open Go.RowKit Go.Sort Go.Proofs.YtlgknbcdmiecdaaDoor.Mod Go.Proofs.YtlgknbcdmiecdaaDoor.Lin Go.Proofs.YtlgknbcdmiecdaaDoor.Has Go.Proofs.YtlgknbcdmiecdaaDoor.Ints
set_option linter.unusedVariables false
set_option linter.unusedSimpArgs false

set_option maxHeartbeats 1000000 in
theorem rwasted_ok (ao : Option Addr) (L : List Int) (n cap : Nat) (hn : n = L.length) (hx : n ≤ maxLen) (w : World) (hA : Slc w ao L) :
    Calls Tryd.prog 11 #[.slice ao n cap] w fun e w' => e = .returned (.tuple #[.int .i64 (wstV L), .int .i64 (wstE L)]) ∧ w' = w := by
  have C := samples_ok ao L n cap hn hx w hA
  unfold maxLen at hx
  have hok : (!anyOf (passed 131072) (fun j => L.getD j 0) n) = okRow L := by unfold okRow; rw [hn]
  rw [hok] at C
  cases ho : okRow L
  · rw [ho] at C
    have CC : Hid (Calls Tryd.prog 25 #[.slice ao n cap] w fun e w' => e = .returned (.bool false) ∧ w' = w) := C
    have e1 : wstV L = 0 := by unfold wstV; rw [ho]; rfl
    have e2 : wstE L = 1800 := by unfold wstE; rw [ho]; rfl
    rw [e1, e2]
    clear C hok ho e1 e2 hA hn
    go_enter Tryd.func11, Tryd.ntmps11
    go_wp2_with fail
    refine (CC.out).mono ?_
    rintro e w1 ⟨rfl, rfl⟩
    go_wp2
    go_ret2
    exact ⟨rfl, rfl⟩
  · rw [ho] at C
    have CC : Hid (Calls Tryd.prog 25 #[.slice ao n cap] w fun e w' => e = .returned (.bool true) ∧ w' = w) := C
    have e1 : wstV L = (wstL L : Int) := by unfold wstV; rw [ho]; rfl
    have e2 : wstE L = 0 := by unfold wstE; rw [ho]; rfl
    rw [e1, e2]
    have HA : Hid (∀ j, j < n → ∃ x, ao = some x ∧ w.cell? (x.add j) = some (.int .i64 (L.getD j 0))) := fun j hj => hA j (hn ▸ hj)
    have EW : wstL L = wst (laidTo (fun j => L.getD j 0) n) := by unfold wstL; rw [hn]
    rw [EW]
    generalize hf : (fun j => L.getD j 0) = f at *
    have FE : Hid (∀ j, L.getD j 0 = f j) := fun j => by rw [← hf]
    have IN : Hid (In64 (laidTo f n)) := laid_in f n
    obtain ⟨k, hk⟩ : ∃ k, wst (laidTo f n) = k := ⟨_, rfl⟩
    rw [hk]
    have HK : Hid (wst (laidTo f n) = k) := hk
    clear C hok ho e1 e2 hA hn EW hf hk
    go_enter Tryd.func11, Tryd.ntmps11
    go_wp2_with fail
    refine (CC.out).mono ?_
    rintro e w1 ⟨rfl, rfl⟩
    go_wp2
    go_loopw [4, 5] (fun o i wr => ∃ j : Nat, j ≤ n ∧ i = .int .i64 (j : Int) ∧ o = .int .i64 (laidTo f j) ∧ wr = w1) (fun _ i _ => n - (intOf i).toNat)
    case atStart => exact ⟨0, Nat.zero_le _, rfl, rfl, rfl⟩
    case round =>
      obtain ⟨j, hj, rfl, rfl, rfl⟩ := hrel
      by_cases hlt : j < n
      · obtain ⟨x, rfl, c⟩ := HA.out j hlt
        have hd : decide ((j : Int) < (n : Int)) = true := decide_eq_true (by omega)
        rw [FE.out] at c
        have E : Hid (laidTo f (j + 1) = bits .or .i64 (laidTo f j) (f j)) := rfl
        generalize laidTo f j = a at *
        generalize f j = y at *
        go_wp2
        go_roundw
        case rel => exact ⟨j + 1, by omega, by go_num, by rw [E.out], by trivial⟩
        case measure => simp [intOf]; omega
      · have hjn : n = j := by omega
        subst hjn
        have hd : decide ((n : Int) < (n : Int)) = false := decide_eq_false (by omega)
        generalize laidTo f n = a at *
        clear HA FE
        go_wp2
        go_loopw [6] (fun u wq => ∃ t : Nat, t ≤ 15 ∧ u = .int .i64 (t : Int) ∧ Hid ((2 : Int) ^ t ∣ a ∧ (a = 0 → t = 0)) ∧ wq = wr) (fun u _ => 15 - (intOf u).toNat)
        case atStart => exact ⟨0, Nat.zero_le _, rfl, ⟨by rw [Int.pow_zero]; exact Int.one_dvd _, fun _ => rfl⟩, rfl⟩
        case round =>
          obtain ⟨t, ht, rfl, D, rfl⟩ := hrel
          by_cases h0 : a = 0
          · subst h0
            obtain rfl : k = 0 := HK.out.symm.trans wst_zero
            obtain rfl : t = 0 := D.out.2 rfl
            clear HK D IN
            go_wp2
            go_ret2
            exact ⟨rfl, rfl⟩
          · have hb : (a != 0) = true := by simpa using h0
            by_cases h15 : t < 15
            · have hl : decide ((t : Int) < 15) = true := decide_eq_true (by omega)
              have t0 : (0 : Int) ≤ (t : Int) := by omega
              obtain ⟨d, hd2⟩ : ∃ d, a / 2 ^ t = d := ⟨_, rfl⟩
              have ND := next_dvd a t D.out.1
              rw [hd2] at ND
              by_cases hz : d % 2 = 0
              · have ha : bits .and .i64 d 1 = 0 := (and_one d).trans hz
                have D2 : Hid ((2 : Int) ^ (t + 1) ∣ a ∧ (a = 0 → t + 1 = 0)) := ⟨ND.2 hz, fun q => absurd q h0⟩
                clear ND D hz h0
                go_wp2
                go_roundw
                case rel => exact ⟨t + 1, by omega, by go_num, D2, by trivial⟩
                case measure => simp [intOf]; omega
              · have ha : bits .and .i64 d 1 = 1 := (and_one d).trans (by omega)
                obtain rfl : k = t := HK.out.symm.trans (wst_unique IN.out h0 ht D.out.1 (.inr fun q => hz (ND.1 q))).symm
                clear ND D hz h0 HK IN
                go_wp2
                go_ret2
                exact ⟨rfl, rfl⟩
            · have h15b : t = 15 := by omega
              obtain rfl : k = t := HK.out.symm.trans (wst_unique IN.out h0 ht D.out.1 (.inl h15b)).symm
              have hl : decide ((k : Int) < 15) = false := decide_eq_false (by omega)
              clear D h0 HK IN
              go_wp2
              go_ret2
              exact ⟨rfl, rfl⟩

theorem range_map (g : Int → Int) (L : List Int) : (List.range L.length).map (fun k => g (L.getD k 0)) = L.map g := by
  refine Mod.ext_getD _ _ (by simp) fun k hk => ?_
  have hk2 : k < L.length := by simpa using hk
  rw [getD_map _ _ _ hk2, List.getD_eq_getElem?_getD, List.getElem?_map, List.getElem?_range hk2]
  rfl
theorem range_next (f : Nat → Int) (j : Nat) : (List.range j).map f ++ [f j] = (List.range (j + 1)).map f := by
  rw [List.range_succ, List.map_append]; rfl
theorem inB_not (b : Int) : (!(decide (0 ≤ b) && decide (b ≤ 15))) = !inB b := rfl

/-- What is refused ahead of the loops. -/
theorem ref_no (F : Nat) (hF : F = 13 ∨ F = 15) (ao : Option Addr) (L : List Int) (n cap : Nat) (hn : n = L.length) (hx : n ≤ maxLen) (b : Int) (h : okRow L = false ∨ inB b = false) (w : World) (hA : Slc w ao L) :
    Calls Tryd.prog F #[.slice ao n cap, .int .i64 b] w fun e w' => e = .returned (.tuple #[.slice none 0 0, .int .i64 1800]) ∧ w' = w := by
  have C := samples_ok ao L n cap hn hx w hA
  have hok : (!anyOf (passed 131072) (fun j => L.getD j 0) n) = okRow L := by unfold okRow; rw [hn]
  rw [hok] at C
  have U : Hid (Calls Tryd.prog 28 #[.int .i64 b, .int .i64 0, .int .i64 15] w fun e w' => e = .returned (.bool (inB b)) ∧ w' = w) := upto_any b 0 15 w
  cases ho : okRow L
  · rw [ho] at C
    have CC : Hid (Calls Tryd.prog 25 #[.slice ao n cap] w fun e w' => e = .returned (.bool false) ∧ w' = w) := C
    clear C hok ho hA hn h U
    rcases hF with rfl | rfl
    · go_enter Tryd.func13, Tryd.ntmps13
      go_wp2_with fail
      refine (CC.out).mono ?_
      rintro e w1 ⟨rfl, rfl⟩
      go_wp2
      go_ret2
      exact ⟨rfl, rfl⟩
    · go_enter Tryd.func15, Tryd.ntmps15
      go_wp2_with fail
      refine (CC.out).mono ?_
      rintro e w1 ⟨rfl, rfl⟩
      go_wp2
      go_ret2
      exact ⟨rfl, rfl⟩
  · rw [ho] at C
    have hb : inB b = false := by rcases h with h | h <;> simp_all
    rw [hb] at U
    have CC : Hid (Calls Tryd.prog 25 #[.slice ao n cap] w fun e w' => e = .returned (.bool true) ∧ w' = w) := C
    clear C hok ho hA hn h
    rcases hF with rfl | rfl
    · go_enter Tryd.func13, Tryd.ntmps13
      go_wp2_with fail
      refine (CC.out).mono ?_
      rintro e w1 ⟨rfl, rfl⟩
      go_wp2_with fail
      refine (U.out).mono ?_
      rintro e w1 ⟨rfl, rfl⟩
      go_wp2
      go_ret2
      exact ⟨rfl, rfl⟩
    · go_enter Tryd.func15, Tryd.ntmps15
      go_wp2_with fail
      refine (CC.out).mono ?_
      rintro e w1 ⟨rfl, rfl⟩
      go_wp2_with fail
      refine (U.out).mono ?_
      rintro e w1 ⟨rfl, rfl⟩
      go_wp2
      go_ret2
      exact ⟨rfl, rfl⟩

/-- What the reference answers: a row, be it nil. -/
abbrev Row (w' : World) (bo : Option Addr) (k c : Nat) (A : List Int) : Prop := k = A.length ∧ k ≤ c ∧ c ≤ maxLen ∧ Slc w' bo A

set_option maxHeartbeats 1000000 in
theorem rdown_yes (ao : Option Addr) (L : List Int) (n cap : Nat) (hn : n = L.length) (h8 : n * 8 ≤ 140737488351232) (b p : Int) (hb : inB b = true) (hp : pw b = p) (ho : okRow L = true) (A : List Int) (er : Int)
    (hy : (∀ j, j < n → p ∣ L.getD j 0) → A = L.map (· / p) ∧ er = 0) (hz : ∀ j, j < n → ¬ p ∣ L.getD j 0 → A = [] ∧ er = 1800) (w : World) (hA : Slc w ao L) :
    Calls Tryd.prog 13 #[.slice ao n cap, .int .i64 b] w fun e w' => ∃ bo k c, e = .returned (.tuple #[.slice bo k c, .int .i64 er]) ∧ Row w' bo k c A ∧ Bel w w' := by
  have hx : n ≤ maxLen := by unfold maxLen; omega
  have C := samples_ok ao L n cap hn hx w hA
  have hok : (!anyOf (passed 131072) (fun j => L.getD j 0) n) = okRow L := by unfold okRow; rw [hn]
  rw [hok, ho] at C
  have U : Hid (Calls Tryd.prog 28 #[.int .i64 b, .int .i64 0, .int .i64 15] w fun e w' => e = .returned (.bool true) ∧ w' = w) := hb ▸ upto_any b 0 15 w
  have CC : Hid (Calls Tryd.prog 25 #[.slice ao n cap] w fun e w' => e = .returned (.bool true) ∧ w' = w) := C
  obtain ⟨b0, b1⟩ := inB_iff.1 hb
  obtain ⟨p1, p2, p3⟩ := pw_range hb
  rw [hp] at p1 p2
  have ep : (2 : Int) ^ b.toNat = p := hp
  have HA : Hid (∀ j, j < n → ∃ x, ao = some x ∧ w.cell? (x.add j) = some (.int .i64 (L.getD j 0))) := fun j hj => hA j (hn ▸ hj)
  obtain ⟨f, hf⟩ : ∃ f : Nat → Int, f = fun j => L.getD j 0 := ⟨_, rfl⟩
  have FE : Hid (∀ j, L.getD j 0 = f j) := fun j => by rw [hf]
  have HR : Hid (∀ j, j < n → -131072 ≤ f j ∧ f j ≤ 131072) := fun j hj => by rw [hf]; exact okRow_iff.1 ho j (hn ▸ hj)
  have HY : Hid ((∀ j, j < n → p ∣ f j) → A = (List.range n).map (fun k => f k / p) ∧ er = 0) := fun h => by
    have := hy (fun j hj => by rw [FE.out]; exact h j hj)
    rw [hf, hn, range_map (· / p) L]
    exact this
  have HZ : Hid (∀ j, j < n → ¬ p ∣ f j → A = [] ∧ er = 1800) := fun j hj h => hz j hj (by rw [FE.out]; exact h)
  clear C hok ho hA hn hy hz hb hp hx hf p3
  go_enter Tryd.func13, Tryd.ntmps13
  go_wp2_with fail
  refine (CC.out).mono ?_
  rintro e w1 ⟨rfl, rfl⟩
  go_wp2_with fail
  refine (U.out).mono ?_
  rintro e w2 ⟨rfl, rfl⟩
  go_wp2
  go_loopw [6, 7] (fun o i wr => ∃ (v : Value) (j : Nat), v = o ∧ j ≤ n ∧ i = .int .i64 (j : Int) ∧ Hid (∀ k, k < j → p ∣ f k) ∧ Hid (wr.ownsRow w2.heap.size 3 1 v j (vals ((List.range j).map (fun k => f k / p))) ∧ Bel w2 wr)) (fun _ i _ => n - (intOf i).toNat)
  case atStart => exact ⟨_, 0, rfl, Nat.zero_le _, rfl, (fun k hk => by omega : ∀ k, k < 0 → p ∣ f k), ⟨⟨rfl, .inl ⟨rfl, rfl⟩⟩, Bel.refl _⟩⟩
  case round =>
    obtain ⟨o, j, rfl, hj, rfl, HD, hb⟩ := hrel
    by_cases hlt : j < n
    · obtain ⟨x, rfl, cx⟩ := HA.out j hlt
      have hd : decide ((j : Int) < (n : Int)) = true := decide_eq_true (by omega)
      have j0 : (0 : Int) ≤ (j : Int) := by omega
      have jn : (j : Int) < (n : Int) := by omega
      have c1 : wr.cell? (x.add j) = some (.int .i64 (L.getD j 0)) := hb.out.2.keep cx
      rw [FE.out] at c1 cx
      obtain ⟨r0, r1⟩ := HR.out j hlt
      obtain ⟨v, hv⟩ : ∃ v, f j = v := ⟨_, rfl⟩
      rw [hv] at c1 cx r0 r1
      have HV : Hid (f j = v) := hv
      obtain ⟨d, hd2⟩ : ∃ d, v / p = d := ⟨_, rfl⟩
      have HDV : Hid (v / p = d) := hd2
      obtain ⟨u, hu⟩ : ∃ u, d * p = u := ⟨_, rfl⟩
      have e1 := Int.mul_ediv_add_emod v p
      have e2 := Int.emod_nonneg v (show p ≠ 0 by omega)
      have e3 := Int.emod_lt_of_pos v (show 0 < p by omega)
      rw [hd2, Int.mul_comm, hu] at e1
      have u0 : -163840 ≤ u := by omega
      have u1 : u ≤ 131072 := by omega
      have EU : Hid (v % p = v - u) := (by omega : v % p = v - u)
      have CW : Hid (w2.cell? (x.add j) = some (.int .i64 v)) := cx
      clear e1 e2 e3 hv cx
      by_cases hdv : p ∣ v
      · have huv : u = v := by
          have := Int.emod_eq_zero_of_dvd hdv
          have := EU.out
          omega
        have ht : (u != v) = false := by simp [huv]
        have HDN : Hid (∀ k, k < j + 1 → p ∣ f k) := fun k hk => by
          rcases Nat.lt_or_ge k j with h | h
          · exact HD.out k h
          · obtain rfl : k = j := by omega
            rw [HV.out]; exact hdv
        have HU : Hid (u = v) := huv
        clear hdv huv HD
        go_wp2_with fail
        go_cut [34] from 22 to 34 (fun s wx => s = .bool false ∧ ∃ q, wx = wr.drewN q)
        case first =>
          go_wp2_with fail
          go_quiet (fail)
          go_wp2_with fail
          go_meet
          exact ⟨rfl, _, rfl⟩
        case rest =>
          obtain ⟨rfl, q, hw⟩ := hcut
          have BC : Hid (Bel w2 wc) := hw ▸ hb.out.2.drewN q
          have OC : Hid (wc.ownsRow w2.heap.size 3 1 o j (vals ((List.range j).map (fun k => f k / p)))) := by
            rw [hw]
            exact owns_bel hb.out.1 ((Bel.refl wr).drewN q)
          have c2 : wc.cell? (x.add j) = some (.int .i64 v) := BC.out.keep CW.out
          have H8 : Hid (j * 8 ≤ 140737488351232 ∧ w2.heap.size ≤ wc.heap.size) := ⟨by omega, BC.out.size⟩
          clear hw c1 hb
          go_wp2_with (at_builtin; refine wpl_more_exc wc rfl (.tmp 35) (.tmp 42) rfl w2.heap.size j H8.out.2 o _ _ rfl rfl OC.out H8.out.1 ?_)
          intro v' w3 hv he
          have HV2 : Hid (w3.ownsRow w2.heap.size 3 1 v' (j + 1) (vals ((List.range (j + 1)).map (fun k => f k / p)))) := by
            rw [← range_next (fun k => f k / p) j, HV.out, HDV.out]
            exact hv
          have B3 : Hid (Bel w2 w3) := he.from BC.out (fun i hi => (own_old OC.out hi).1)
          clear hv he c2
          go_wp2
          go_roundw
          case rel => exact ⟨_, j + 1, rfl, by omega, by go_num, HDN, ⟨HV2.out, B3.out⟩⟩
          case measure => simp [intOf]; omega
      · have huv : u ≠ v := fun q => hdv (Int.dvd_of_emod_eq_zero (by have := EU.out; omega))
        have ht : (u != v) = true := by simpa using huv
        obtain ⟨hA0, rfl⟩ := HZ.out j hlt (by rw [HV.out]; exact hdv)
        subst hA0
        have BW : Hid (∀ q, Bel w2 (wr.drewN q)) := fun q => hb.out.2.drewN q
        clear hdv huv HD hb HY HZ
        go_wp2_with fail
        go_quiet (fail)
        go_wp2
        go_ret2
        exact ⟨none, 0, 0, rfl, ⟨rfl, Nat.le_refl _, Nat.zero_le _, slc_nil _ _⟩, BW.out _⟩
    · obtain rfl : j = n := by omega
      have hd : decide ((j : Int) < (j : Int)) = false := decide_eq_false (by omega)
      obtain ⟨hA1, rfl⟩ := HY.out HD.out
      obtain ⟨yo, yc, rfl, q1, q2, q3, q4⟩ := owns_slc (hA1 ▸ hb.out.1)
      have HS : Hid (Row wr yo j yc A ∧ Bel w2 wr) := ⟨⟨q3, q1, q2, q4⟩, hb.out.2⟩
      clear q1 q2 q3 q4 hb HY HZ HD hA1
      go_wp2
      go_ret2
      exact ⟨_, _, _, rfl, HS.out.1, HS.out.2⟩

end Go.Proofs.YtlgknbcdmiecdaaDoor.Shf
