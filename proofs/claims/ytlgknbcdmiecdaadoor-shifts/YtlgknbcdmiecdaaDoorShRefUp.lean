/-
  The contract of the reference's Up; Down and Up in one form. Conditions: the row is there, within the reach.
-/
import Derived.Test.YtlgknbcdmiecdaaDoorShRef
namespace Go.Proofs.YtlgknbcdmiecdaaDoor.Shf
open Go.RowKit Go.Sort Go.Proofs.YtlgknbcdmiecdaaDoor.Mod Go.Proofs.YtlgknbcdmiecdaaDoor.Lin Go.Proofs.YtlgknbcdmiecdaaDoor.Has Go.Proofs.YtlgknbcdmiecdaaDoor.Ints
set_option linter.unusedVariables false
set_option linter.unusedSimpArgs false

theorem prod_in (v p : Int) (h : -131072 ≤ v ∧ v ≤ 131072) (h1 : 1 ≤ p) (h2 : p ≤ 32768) : -4294967296 ≤ v * p ∧ v * p ≤ 4294967296 := by
  have := prod_le v p 131072 32768 h (by omega)
  omega

set_option maxHeartbeats 1000000 in
theorem rup_yes (ao : Option Addr) (L : List Int) (n cap : Nat) (hn : n = L.length) (h8 : n * 8 ≤ 140737488351232) (b p : Int) (hb : inB b = true) (hp : pw b = p) (ho : okRow L = true) (A : List Int) (er : Int)
    (hy : okRow (L.map (· * p)) = true → A = L.map (· * p) ∧ er = 0) (hz : okRow (L.map (· * p)) = false → A = [] ∧ er = 1800) (w : World) (hA : Slc w ao L) :
    Calls Tryd.prog 15 #[.slice ao n cap, .int .i64 b] w fun e w' => ∃ bo k c, e = .returned (.tuple #[.slice bo k c, .int .i64 er]) ∧ Row w' bo k c A ∧ Bel w w' := by
  have hx : n ≤ maxLen := by unfold maxLen; omega
  have C := samples_ok ao L n cap hn hx w hA
  have hok : (!anyOf (passed 131072) (fun j => L.getD j 0) n) = okRow L := by unfold okRow; rw [hn]
  rw [hok, ho] at C
  have U : Hid (Calls Tryd.prog 28 #[.int .i64 b, .int .i64 0, .int .i64 15] w fun e w' => e = .returned (.bool true) ∧ w' = w) := hb ▸ upto_any b 0 15 w
  have CC : Hid (Calls Tryd.prog 25 #[.slice ao n cap] w fun e w' => e = .returned (.bool true) ∧ w' = w) := C
  obtain ⟨b0, b1⟩ := inB_iff.1 hb
  obtain ⟨p1, p2, p3⟩ := pw_range hb
  rw [hp] at p1 p2
  have ep : (2 : Int) ^ b.toNat = p := hp
  have HA : Hid (∀ j, j < n → ∃ x, ao = some x ∧ w.cell? (x.add j) = some (.int .i64 (L.getD j 0))) := fun j hj => hA j (hn ▸ hj)
  obtain ⟨f, hf⟩ : ∃ f : Nat → Int, f = fun j => L.getD j 0 := ⟨_, rfl⟩
  have FE : Hid (∀ j, L.getD j 0 = f j) := fun j => by rw [hf]
  have HR : Hid (∀ j, j < n → -131072 ≤ f j ∧ f j ≤ 131072) := fun j hj => by rw [hf]; exact okRow_iff.1 ho j (hn ▸ hj)
  have HM : Hid ((List.range n).map (fun k => f k * p) = L.map (· * p)) := by
    rw [hf, hn]
    exact range_map (· * p) L
  have HO : Hid (∃ r, okRow (L.map (· * p)) = r) := ⟨_, rfl⟩
  obtain ⟨r, hr⟩ := HO.out
  have HL : Hid ((L.map (· * p)).length = n) := (by rw [List.length_map]; exact hn.symm : (L.map (· * p)).length = n)
  have HW : Hid (if r = true then A = L.map (· * p) ∧ er = 0 else A = [] ∧ er = 1800) := by
    cases hq : r
    · exact hz (by rw [hr, hq])
    · exact hy (by rw [hr, hq])
  have HQ : Hid (okRow (L.map (· * p)) = r) := hr
  clear C hok ho hA hn hy hz hb hp hx hf p3 HO hr
  go_enter Tryd.func15, Tryd.ntmps15
  go_wp2_with fail
  refine (CC.out).mono ?_
  rintro e w1 ⟨rfl, rfl⟩
  go_wp2_with fail
  refine (U.out).mono ?_
  rintro e w2 ⟨rfl, rfl⟩
  go_wp2
  go_loopw [6, 7] (fun o i wr => ∃ (v : Value) (j : Nat), v = o ∧ j ≤ n ∧ i = .int .i64 (j : Int) ∧ Hid (wr.ownsRow w2.heap.size 3 1 v j (vals ((List.range j).map (fun k => f k * p))) ∧ Bel w2 wr)) (fun _ i _ => n - (intOf i).toNat)
  case atStart => exact ⟨_, 0, rfl, Nat.zero_le _, rfl, ⟨⟨rfl, .inl ⟨rfl, rfl⟩⟩, Bel.refl _⟩⟩
  case round =>
    obtain ⟨o, j, rfl, hj, rfl, hb⟩ := hrel
    by_cases hlt : j < n
    · obtain ⟨x, rfl, cx⟩ := HA.out j hlt
      have hd : decide ((j : Int) < (n : Int)) = true := decide_eq_true (by omega)
      have j0 : (0 : Int) ≤ (j : Int) := by omega
      have jn : (j : Int) < (n : Int) := by omega
      have c1 : wr.cell? (x.add j) = some (.int .i64 (L.getD j 0)) := hb.out.2.keep cx
      rw [FE.out] at c1
      have rr := HR.out j hlt
      obtain ⟨v, hv⟩ : ∃ v, f j = v := ⟨_, rfl⟩
      rw [hv] at c1 rr
      have HV : Hid (f j = v) := hv
      obtain ⟨u0, u1⟩ := prod_in v p rr p1 p2
      obtain ⟨u, hu⟩ : ∃ u, v * p = u := ⟨_, rfl⟩
      rw [hu] at u0 u1
      have HU : Hid (v * p = u) := hu
      have H8 : Hid (j * 8 ≤ 140737488351232 ∧ w2.heap.size ≤ wr.heap.size) := ⟨by omega, hb.out.2.size⟩
      clear hv cx
      go_wp2_with (at_builtin; refine wpl_more_exc wr rfl (.tmp 22) (.tmp 29) rfl w2.heap.size j H8.out.2 o _ _ rfl rfl hb.out.1 H8.out.1 ?_)
      intro v' w3 hv he
      have HV2 : Hid (w3.ownsRow w2.heap.size 3 1 v' (j + 1) (vals ((List.range (j + 1)).map (fun k => f k * p)))) := by
        rw [← range_next (fun k => f k * p) j, HV.out, HU.out]
        exact hv
      have B3 : Hid (Bel w2 w3) := he.from hb.out.2 (fun i hi => (own_old hb.out.1 hi).1)
      clear hv he c1
      go_wp2
      go_roundw
      case rel => exact ⟨_, j + 1, rfl, by omega, by go_num, ⟨HV2.out, B3.out⟩⟩
      case measure => simp [intOf]; omega
    · obtain rfl : j = n := by omega
      have hd : decide ((j : Int) < (j : Int)) = false := decide_eq_false (by omega)
      obtain ⟨yo, yc, rfl, q1, q2, q3, q4⟩ := owns_slc (HM.out ▸ hb.out.1)
      have HS : Hid (Row wr yo j yc (L.map (· * p)) ∧ Bel w2 wr) := ⟨⟨q3, q1, q2, q4⟩, hb.out.2⟩
      have S := samples_ok yo (L.map (· * p)) j yc q3 (Nat.le_trans q1 q2) wr q4
      have hs : (!anyOf (passed 131072) (fun k => (L.map (· * p)).getD k 0) j) = r := by
        rw [← HQ.out]
        unfold okRow
        rw [HL.out]
      rw [hs] at S
      clear q1 q2 q3 q4 hb HM hs HQ
      cases r
      · obtain ⟨hA1, rfl⟩ := (show A = [] ∧ er = 1800 from HW.out)
        subst hA1
        have SS : Hid (Calls Tryd.prog 25 #[.slice yo j yc] wr fun e w' => e = .returned (.bool false) ∧ w' = wr) := S
        clear S HW
        go_wp2_with fail
        refine (SS.out).mono ?_
        rintro e w3 ⟨rfl, rfl⟩
        go_wp2
        go_ret2
        exact ⟨none, 0, 0, rfl, ⟨rfl, Nat.le_refl _, Nat.zero_le _, slc_nil _ _⟩, HS.out.2⟩
      · obtain ⟨hA1, rfl⟩ := (show A = L.map (· * p) ∧ er = 0 from HW.out)
        subst hA1
        have SS : Hid (Calls Tryd.prog 25 #[.slice yo j yc] wr fun e w' => e = .returned (.bool true) ∧ w' = wr) := S
        clear S HW
        go_wp2_with fail
        refine (SS.out).mono ?_
        rintro e w3 ⟨rfl, rfl⟩
        go_wp2
        go_ret2
        exact ⟨_, _, _, rfl, HS.out.1, HS.out.2⟩

theorem rdown_ok (ao : Option Addr) (L : List Int) (n cap : Nat) (hn : n = L.length) (h8 : n * 8 ≤ 140737488351232) (b : Int) (w : World) (hA : Slc w ao L) :
    Calls Tryd.prog 13 #[.slice ao n cap, .int .i64 b] w fun e w' => ∃ bo k c, e = .returned (.tuple #[.slice bo k c, .int .i64 (downE L b)]) ∧ Row w' bo k c (downL L b) ∧ Bel w w' := by
  have hx : n ≤ maxLen := by unfold maxLen; omega
  by_cases h : inB b = true ∧ okRow L = true
  · refine rdown_yes ao L n cap hn h8 b _ h.1 rfl h.2 _ _ (fun g => ?_) (fun j hj g => ?_) w hA
    · have o : okD L b = true := okD_iff.2 ⟨h.1, h.2, fun i hi => g i (hn ▸ hi)⟩
      unfold downL downE
      rw [o]
      exact ⟨rfl, rfl⟩
    · have o : okD L b = false := Bool.eq_false_iff.2 fun q => g ((okD_iff.1 q).2.2 j (hn ▸ hj))
      unfold downL downE
      rw [o]
      exact ⟨rfl, rfl⟩
  · have o : okD L b = false := Bool.eq_false_iff.2 fun q => h ⟨(okD_iff.1 q).1, (okD_iff.1 q).2.1⟩
    have g : okRow L = false ∨ inB b = false := by
      cases h1 : okRow L
      · exact .inl rfl
      · cases h2 : inB b
        · exact .inr rfl
        · exact absurd ⟨h2, h1⟩ h
    refine (ref_no _ (.inl rfl) ao L n cap hn hx b g w hA).mono ?_
    rintro e w' ⟨rfl, rfl⟩
    unfold downL downE
    rw [o]
    exact ⟨none, 0, 0, rfl, ⟨rfl, Nat.le_refl _, Nat.zero_le _, slc_nil _ _⟩, Bel.refl _⟩

theorem rup_ok (ao : Option Addr) (L : List Int) (n cap : Nat) (hn : n = L.length) (h8 : n * 8 ≤ 140737488351232) (b : Int) (w : World) (hA : Slc w ao L) :
    Calls Tryd.prog 15 #[.slice ao n cap, .int .i64 b] w fun e w' => ∃ bo k c, e = .returned (.tuple #[.slice bo k c, .int .i64 (upE L b)]) ∧ Row w' bo k c (upL L b) ∧ Bel w w' := by
  have hx : n ≤ maxLen := by unfold maxLen; omega
  by_cases h : inB b = true ∧ okRow L = true
  · refine rup_yes ao L n cap hn h8 b _ h.1 rfl h.2 _ _ (fun g => ?_) (fun g => ?_) w hA
    · have o : okU L b = true := okU_iff.2 ⟨h.1, h.2, g⟩
      unfold upL upE
      rw [o]
      exact ⟨rfl, rfl⟩
    · have o : okU L b = false := Bool.eq_false_iff.2 fun q => by rw [(okU_iff.1 q).2.2] at g; exact absurd g (by decide)
      unfold upL upE
      rw [o]
      exact ⟨rfl, rfl⟩
  · have o : okU L b = false := Bool.eq_false_iff.2 fun q => h ⟨(okU_iff.1 q).1, (okU_iff.1 q).2.1⟩
    have g : okRow L = false ∨ inB b = false := by
      cases h1 : okRow L
      · exact .inl rfl
      · cases h2 : inB b
        · exact .inr rfl
        · exact absurd ⟨h2, h1⟩ h
    refine (ref_no _ (.inr rfl) ao L n cap hn hx b g w hA).mono ?_
    rintro e w' ⟨rfl, rfl⟩
    unfold upL upE
    rw [o]
    exact ⟨none, 0, 0, rfl, ⟨rfl, Nat.le_refl _, Nat.zero_le _, slc_nil _ _⟩, Bel.refl _⟩

end Go.Proofs.YtlgknbcdmiecdaaDoor.Shf
