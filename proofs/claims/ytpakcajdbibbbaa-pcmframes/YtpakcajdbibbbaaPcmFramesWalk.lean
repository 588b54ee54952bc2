/-
  PcmFrames, walked: it answers true of all bytes at each of the four formats. Conditions: the text's length is within the reach.
-/
import Derived.Test.YtpakcajdbibbbaaPcAwake
import Derived.Test.YtpakcajdbibbbaaGBytes
import Derived.BigQuiet
import Derived.Deep.CutRange
namespace Go.Proofs.Ytpakcajdbibbbaa.Pcm
open Go.RowKit Go.Sort Go.Proofs.Ytpakcajdbibbbaa.Mod Go.Proofs.Ytpakcajdbibbbaa.Ints
set_option linter.unusedVariables false
set_option linter.unusedSimpArgs false

theorem ext_front (s : ByteArray) (k : Nat) (h : k ≤ s.size) : (s.extract 0 k).size = k ∧ (s.extract 0 k).data.toList.length = k := by
  have e : (s.extract 0 k).data.toList.length = k := by
    rw [ext_take, List.length_take, Array.length_toList]
    exact Nat.min_eq_left h
  refine ⟨?_, e⟩
  rw [Array.length_toList] at e
  exact e

set_option maxRecDepth 20000 in
set_option maxHeartbeats 1000000 in
theorem frames_a (s : ByteArray) (hs : s.size ≤ 140737488351232) (w : World) :
    Calls Try.prog 5 #[.string s, .bool false, .bool false] w fun e w' => e = .returned (.bool true) ∧ Bel w w' := by
  have AW : Hid (∀ w, Calls Try.prog 17 #[] w fun e w' => e = .returned (.bool true) ∧ Bel w w') := awake_true
  obtain ⟨m, hm⟩ : ∃ m, s.size / 1 = m := ⟨_, rfl⟩
  have hmn : m * 1 ≤ s.size := by omega
  have hdv : (s.size : Int) / 1 = (m : Int) := by rw [← hm]; rfl
  have E1 : Hid (s.size = m * 1 ∧ s.data.toList.length = m * 1) := ⟨by omega, by rw [Array.length_toList]; have : s.data.size = s.size := rfl; omega⟩
  clear hm
  go_enter Try.func5, Try.ntmps5
  go_wp2_with fail
  refine (AW.out _).mono ?_
  rintro e w1 ⟨rfl, b1⟩
  have B1 : Hid (Bel w w1) := b1
  clear b1
  have XX : Hid (∀ w : World, Box (w.alloc (.cells #[.int .i64 1, .int .i64 8] 24)) w.heap.size 1 8 ∧ Bel w (w.alloc (.cells #[.int .i64 1, .int .i64 8] 24))) := fun w => ⟨box_new w 1 8, (Bel.refl _).alloc _⟩
  go_wp2_with fail
  obtain ⟨s1, rfl⟩ : ∃ s1, s1 = s := ⟨_, rfl⟩
  obtain ⟨L, hL⟩ : ∃ L, s1.data.toList = L := ⟨_, rfl⟩
  rw [hL] at E1
  have HL : Hid (s1.data.toList = L) := hL
  have X0 := XX.out w1
  obtain ⟨wb, hwb⟩ : ∃ wb, w1.alloc (.cells #[.int .i64 1, .int .i64 8] 24) = wb := ⟨_, rfl⟩
  obtain ⟨gb, hgb⟩ : ∃ gb, w1.heap.size = gb := ⟨_, rfl⟩
  rw [hwb, hgb] at X0
  rw [hwb, hgb]
  have XB : Hid (Box wb gb 1 8 ∧ Bel w wb) := ⟨X0.1, B1.out.trans X0.2⟩
  have HM : Hid (m * 1 ≤ 140737488351232) := (by omega : m * 1 ≤ 140737488351232)
  clear hwb hgb X0 XX hL hdv hmn hs
  by_cases hl : m * 1 ≤ 4096
  · have hd1 : (s1.size : Int) / 1 = (m : Int) := by have := E1.out.1; omega
    have G := get_yes 1 1 m 8 (by decide) (by decide) s1 L HL.out (by have := E1.out.2; omega) (by have := E1.out.2; omega) wb
    refine G.mono ?_
    clear G
    rintro e w2 ⟨g, rfl, o2, b2⟩
    have B2 : Hid (Box w2 gb 1 8 ∧ Bel w w2) := ⟨XB.out.1.bel b2, XB.out.2.trans b2⟩
    have LL := o2.lls
    obtain ⟨R, hR⟩ : ∃ R, ((List.range 1).map fun j => (List.range m).map fun k => smpAt 1 L (k * 1 + j)) = R := ⟨_, rfl⟩
    rw [hR] at LL
    have HR : Hid (R.length = 1 ∧ ∀ j, j < 1 → (R.getD j []).length = m ∧ ∀ t, t < m → (R.getD j []).getD t 0 = smpAt 1 L (t * 1 + j)) := by
      refine ⟨by rw [← hR]; simp, fun j hj => ?_⟩
      have e : R.getD j [] = (List.range m).map fun k => smpAt 1 L (k * 1 + j) := by
        rw [← hR, List.getD_eq_getElem?_getD, List.getElem?_map, List.getElem?_range hj]; rfl
      rw [e]
      exact ⟨by simp, fun t ht => tab_get _ _ _ ht⟩
    have HA : Hid (Lls w2 (some ⟨g, 0, none⟩) R) := LL
    have IX : Hid (∀ k, k < m * 1 → ∀ w, (Instr.index 9 (.string s1) (.int .i64 (k : Int))).run Try.prog w = .ok (.int .u8 (byt L k)) w) := fun k hk w => Byt.idx s1 L HL.out k (by have := E1.out.2; omega) w
    have hm4 : m ≤ 4096 := by omega
    obtain ⟨x2, y2⟩ := B2.out.1
    have hmm : ((m : Int) != (m : Int)) = false := by simp
    have hmm2 : ((m : Int) != (s1.size : Int)) = false := by have := E1.out.1; simp; omega
    clear hR LL o2 b2
    go_wp2_with (go_at_call 13; refine (num_ok _ _).mono ?_; rintro e w99 ⟨rfl, hw⟩; replace hw := hw.symm; subst hw)
    go_loopw [12] (fun i wr => ∃ j : Nat, j ≤ 1 ∧ i = .int .i64 (j : Int) ∧ Hid (∃ q, wr = w2.drewN q)) (fun i _ => 1 - (intOf i).toNat)
    case atStart => exact ⟨0, Nat.zero_le _, rfl, ⟨0, rfl⟩⟩
    case round =>
      obtain ⟨j, hj, rfl, hw⟩ := hrel
      have x3 : wr.cell? ⟨gb, 0, none⟩ = some (.int .i64 1) := by obtain ⟨q, rfl⟩ := hw.out; exact B2.out.1.1
      have y3 : wr.cell? ⟨gb, 1, none⟩ = some (.int .i64 8) := by obtain ⟨q, rfl⟩ := hw.out; exact B2.out.1.2
      by_cases hjt : j < 1
      · have hdj : decide ((j : Int) < 1) = true := decide_eq_true (by omega)
        obtain ⟨y, hy, b1, c1, p1, _, _, t1⟩ := HA.out j (by rw [HR.out.1]; exact hjt)
        cases hy
        obtain ⟨r1, r2⟩ := HR.out.2 j hjt
        rw [r1, Addr.add_lit, Nat.zero_add] at p1
        have T1 : Hid (Slc w2 b1 (R.getD j [])) := t1
        have R1 : Hid ((R.getD j []).length = m ∧ ∀ t, t < m → (R.getD j []).getD t 0 = smpAt 1 L (t * 1 + j)) := ⟨r1, r2⟩
        have P1 : Hid (w2.cell? ⟨g, j, none⟩ = some (.slice b1 m c1)) := p1
        have g1 : wr.cell? ⟨g, j, none⟩ = some (.slice b1 m c1) := by obtain ⟨q, rfl⟩ := hw.out; exact p1
        clear r1 r2 t1 p1
        go_wp2
        go_quiet (fail)
        go_wp2
        go_loopw [13] (fun i wr => ∃ t : Nat, t ≤ m ∧ i = .int .i64 (t : Int) ∧ Hid (∃ q, wr = w2.drewN q)) (fun i _ => m - (intOf i).toNat)
        case atStart => exact ⟨0, Nat.zero_le _, rfl, (by obtain ⟨q, e⟩ := hw.out; exact ⟨_, by rw [e, World.drewN_drewN]⟩ : ∃ q, _ = w2.drewN q)⟩
        case round =>
          obtain ⟨t, ht, rfl, hw⟩ := hrel
          clear x3 y3 g1
          have x3 : wr.cell? ⟨gb, 0, none⟩ = some (.int .i64 1) := by obtain ⟨q, rfl⟩ := hw.out; exact B2.out.1.1
          have y3 : wr.cell? ⟨gb, 1, none⟩ = some (.int .i64 8) := by obtain ⟨q, rfl⟩ := hw.out; exact B2.out.1.2
          have g1 : wr.cell? ⟨g, j, none⟩ = some (.slice b1 m c1) := by obtain ⟨q, rfl⟩ := hw.out; exact P1.out
          by_cases htm : t < m
          · have hdt : decide ((t : Int) < (m : Int)) = true := decide_eq_true (by omega)
            obtain ⟨z, rfl, hz0⟩ := T1.out t (by rw [R1.out.1]; exact htm)
            have hz : wr.cell? (z.add t) = some (.int .i64 ((R.getD j []).getD t 0)) := by obtain ⟨q, rfl⟩ := hw.out; exact hz0
            clear hz0
            rw [R1.out.2 t htm] at hz
            obtain ⟨a, ha⟩ : ∃ a, t * 1 + j * 1 = a := ⟨_, rfl⟩
            have h89 : (t : Int) + (j : Int) = (a : Int) := by omega
            have hal : a + 1 ≤ m * 1 := by omega
            have a4 : a ≤ 4096 := by omega
            have i1 := IX.out a (by omega)
            have hia : t * 1 + j = a / 1 := by omega
            have haq : a / 1 * 1 = a := by omega
            rw [hia] at hz
            have AL : Hid (a + 1 ≤ L.length ∧ a / 1 * 1 = a) := ⟨by have := E1.out.2; omega, haq⟩
            obtain ⟨z0, z1⟩ := byt_range L a
            clear hia haq hal ha
            have hy : smpAt 1 L (a / 1) = byt L a - 128 := by
              rw [Nat.div_one, smpAt_1 L a (by have := AL.out.1; omega)]
            rw [hy] at hz
            obtain ⟨u, hu⟩ : ∃ u, byt L a = u := ⟨_, rfl⟩
            rw [hu] at hz i1 z0 z1
            clear hy hu
            have hyy : (u - 128 != u - 128) = false := by simp
            go_wp2
            go_roundw
            case rel => exact ⟨t + 1, by omega, by go_num, hw⟩
            case measure => simp [intOf]; omega
          · obtain rfl : m = t := by omega
            have hdt : decide ((m : Int) < (m : Int)) = false := decide_eq_false (by omega)
            go_wp2
            go_roundw
            case rel => exact ⟨j + 1, by omega, by go_num, hw⟩
            case measure => simp [intOf]; omega
      · obtain rfl : 1 = j := by omega
        have hdj : decide (((1 : Nat) : Int) < 1) = false := by decide
        go_wp2
        go_ret
        exact ⟨rfl, by obtain ⟨q, rfl⟩ := hw.out; exact B2.out.2.drewN q⟩
  · have hok : okGet 1 8 L = false := by
      unfold okGet
      rw [show decide (L.length ≤ 4096) = false from decide_eq_false (by have := E1.out.2; omega), Bool.false_and, Bool.and_false]
    have hdl : decide ((4096 : Int) < (s1.size : Int)) = true := decide_eq_true (by have := E1.out.1; omega)
    have G := get_no 1 8 s1 L HL.out (by have := E1.out.1; have := HM.out; unfold maxLen; omega) hok wb
    refine G.mono ?_
    clear G hok
    rintro e w2 ⟨rfl, b2⟩
    have B2 : Hid (Bel w w2) := XB.out.2.trans b2
    clear b2
    go_wp2_with (go_at_call 13; refine (num_ok _ _).mono ?_; rintro e w99 ⟨rfl, hw⟩; replace hw := hw.symm; subst hw)
    go_ret
    exact ⟨rfl, B2.out⟩

set_option maxRecDepth 20000 in
set_option maxHeartbeats 1000000 in
theorem frames_b (s : ByteArray) (hs : s.size ≤ 140737488351232) (w : World) :
    Calls Try.prog 5 #[.string s, .bool true, .bool false] w fun e w' => e = .returned (.bool true) ∧ Bel w w' := by
  have AW : Hid (∀ w, Calls Try.prog 17 #[] w fun e w' => e = .returned (.bool true) ∧ Bel w w') := awake_true
  obtain ⟨m, hm⟩ : ∃ m, s.size / 2 = m := ⟨_, rfl⟩
  have hmn : m * 2 ≤ s.size := by omega
  have hdv : (s.size : Int) / 2 = (m : Int) := by rw [← hm]; rfl
  clear hm
  go_enter Try.func5, Try.ntmps5
  go_wp2_with fail
  refine (AW.out _).mono ?_
  rintro e w1 ⟨rfl, b1⟩
  have B1 : Hid (Bel w w1) := b1
  clear b1
  have E1 : Hid ((s.extract 0 (m * 2)).size = m * 2 ∧ (s.extract 0 (m * 2)).data.toList.length = m * 2) := ext_front s (m * 2) hmn
  have XX : Hid (∀ w : World, Box (w.alloc (.cells #[.int .i64 2, .int .i64 8] 24)) w.heap.size 2 8 ∧ Bel w (w.alloc (.cells #[.int .i64 2, .int .i64 8] 24))) := fun w => ⟨box_new w 2 8, (Bel.refl _).alloc _⟩
  go_wp2_with fail
  generalize s.extract 0 (m * 2) = s1 at *
  obtain ⟨L, hL⟩ : ∃ L, s1.data.toList = L := ⟨_, rfl⟩
  rw [hL] at E1
  have HL : Hid (s1.data.toList = L) := hL
  have X0 := XX.out w1
  obtain ⟨wb, hwb⟩ : ∃ wb, w1.alloc (.cells #[.int .i64 2, .int .i64 8] 24) = wb := ⟨_, rfl⟩
  obtain ⟨gb, hgb⟩ : ∃ gb, w1.heap.size = gb := ⟨_, rfl⟩
  rw [hwb, hgb] at X0
  rw [hwb, hgb]
  have XB : Hid (Box wb gb 2 8 ∧ Bel w wb) := ⟨X0.1, B1.out.trans X0.2⟩
  have HM : Hid (m * 2 ≤ 140737488351232) := (by omega : m * 2 ≤ 140737488351232)
  clear hwb hgb X0 XX hL hdv hmn hs
  by_cases hl : m * 2 ≤ 4096
  · have hd1 : (s1.size : Int) / 2 = (m : Int) := by have := E1.out.1; omega
    have G := get_yes 2 1 m 8 (by decide) (by decide) s1 L HL.out (by have := E1.out.2; omega) (by have := E1.out.2; omega) wb
    refine G.mono ?_
    clear G
    rintro e w2 ⟨g, rfl, o2, b2⟩
    have B2 : Hid (Box w2 gb 2 8 ∧ Bel w w2) := ⟨XB.out.1.bel b2, XB.out.2.trans b2⟩
    have LL := o2.lls
    obtain ⟨R, hR⟩ : ∃ R, ((List.range 2).map fun j => (List.range m).map fun k => smpAt 1 L (k * 2 + j)) = R := ⟨_, rfl⟩
    rw [hR] at LL
    have HR : Hid (R.length = 2 ∧ ∀ j, j < 2 → (R.getD j []).length = m ∧ ∀ t, t < m → (R.getD j []).getD t 0 = smpAt 1 L (t * 2 + j)) := by
      refine ⟨by rw [← hR]; simp, fun j hj => ?_⟩
      have e : R.getD j [] = (List.range m).map fun k => smpAt 1 L (k * 2 + j) := by
        rw [← hR, List.getD_eq_getElem?_getD, List.getElem?_map, List.getElem?_range hj]; rfl
      rw [e]
      exact ⟨by simp, fun t ht => tab_get _ _ _ ht⟩
    have HA : Hid (Lls w2 (some ⟨g, 0, none⟩) R) := LL
    have IX : Hid (∀ k, k < m * 2 → ∀ w, (Instr.index 9 (.string s1) (.int .i64 (k : Int))).run Try.prog w = .ok (.int .u8 (byt L k)) w) := fun k hk w => Byt.idx s1 L HL.out k (by have := E1.out.2; omega) w
    have hm4 : m ≤ 4096 := by omega
    obtain ⟨x2, y2⟩ := B2.out.1
    have hmm : ((m : Int) != (m : Int)) = false := by simp
    clear hR LL o2 b2
    go_wp2_with (go_at_call 13; refine (num_ok _ _).mono ?_; rintro e w99 ⟨rfl, hw⟩; replace hw := hw.symm; subst hw)
    go_loopw [12] (fun i wr => ∃ j : Nat, j ≤ 2 ∧ i = .int .i64 (j : Int) ∧ Hid (∃ q, wr = w2.drewN q)) (fun i _ => 2 - (intOf i).toNat)
    case atStart => exact ⟨0, Nat.zero_le _, rfl, ⟨0, rfl⟩⟩
    case round =>
      obtain ⟨j, hj, rfl, hw⟩ := hrel
      have x3 : wr.cell? ⟨gb, 0, none⟩ = some (.int .i64 2) := by obtain ⟨q, rfl⟩ := hw.out; exact B2.out.1.1
      have y3 : wr.cell? ⟨gb, 1, none⟩ = some (.int .i64 8) := by obtain ⟨q, rfl⟩ := hw.out; exact B2.out.1.2
      by_cases hjt : j < 2
      · have hdj : decide ((j : Int) < 2) = true := decide_eq_true (by omega)
        obtain ⟨y, hy, b1, c1, p1, _, _, t1⟩ := HA.out j (by rw [HR.out.1]; exact hjt)
        cases hy
        obtain ⟨r1, r2⟩ := HR.out.2 j hjt
        rw [r1, Addr.add_lit, Nat.zero_add] at p1
        have T1 : Hid (Slc w2 b1 (R.getD j [])) := t1
        have R1 : Hid ((R.getD j []).length = m ∧ ∀ t, t < m → (R.getD j []).getD t 0 = smpAt 1 L (t * 2 + j)) := ⟨r1, r2⟩
        have P1 : Hid (w2.cell? ⟨g, j, none⟩ = some (.slice b1 m c1)) := p1
        have g1 : wr.cell? ⟨g, j, none⟩ = some (.slice b1 m c1) := by obtain ⟨q, rfl⟩ := hw.out; exact p1
        clear r1 r2 t1 p1
        go_wp2
        go_quiet (fail)
        go_wp2
        go_loopw [13] (fun i wr => ∃ t : Nat, t ≤ m ∧ i = .int .i64 (t : Int) ∧ Hid (∃ q, wr = w2.drewN q)) (fun i _ => m - (intOf i).toNat)
        case atStart => exact ⟨0, Nat.zero_le _, rfl, (by obtain ⟨q, e⟩ := hw.out; exact ⟨_, by rw [e, World.drewN_drewN]⟩ : ∃ q, _ = w2.drewN q)⟩
        case round =>
          obtain ⟨t, ht, rfl, hw⟩ := hrel
          clear x3 y3 g1
          have x3 : wr.cell? ⟨gb, 0, none⟩ = some (.int .i64 2) := by obtain ⟨q, rfl⟩ := hw.out; exact B2.out.1.1
          have y3 : wr.cell? ⟨gb, 1, none⟩ = some (.int .i64 8) := by obtain ⟨q, rfl⟩ := hw.out; exact B2.out.1.2
          have g1 : wr.cell? ⟨g, j, none⟩ = some (.slice b1 m c1) := by obtain ⟨q, rfl⟩ := hw.out; exact P1.out
          by_cases htm : t < m
          · have hdt : decide ((t : Int) < (m : Int)) = true := decide_eq_true (by omega)
            obtain ⟨z, rfl, hz0⟩ := T1.out t (by rw [R1.out.1]; exact htm)
            have hz : wr.cell? (z.add t) = some (.int .i64 ((R.getD j []).getD t 0)) := by obtain ⟨q, rfl⟩ := hw.out; exact hz0
            clear hz0
            rw [R1.out.2 t htm] at hz
            obtain ⟨a, ha⟩ : ∃ a, t * 2 + j * 1 = a := ⟨_, rfl⟩
            have h89 : (t : Int) * 2 + (j : Int) = (a : Int) := by omega
            have hal : a + 1 ≤ m * 2 := by omega
            have a4 : a ≤ 4096 := by omega
            have i1 := IX.out a (by omega)
            have hia : t * 2 + j = a / 1 := by omega
            have haq : a / 1 * 1 = a := by omega
            rw [hia] at hz
            have AL : Hid (a + 1 ≤ L.length ∧ a / 1 * 1 = a) := ⟨by have := E1.out.2; omega, haq⟩
            obtain ⟨z0, z1⟩ := byt_range L a
            clear hia haq hal ha
            have hy : smpAt 1 L (a / 1) = byt L a - 128 := by
              rw [Nat.div_one, smpAt_1 L a (by have := AL.out.1; omega)]
            rw [hy] at hz
            obtain ⟨u, hu⟩ : ∃ u, byt L a = u := ⟨_, rfl⟩
            rw [hu] at hz i1 z0 z1
            clear hy hu
            have hyy : (u - 128 != u - 128) = false := by simp
            go_wp2
            go_roundw
            case rel => exact ⟨t + 1, by omega, by go_num, hw⟩
            case measure => simp [intOf]; omega
          · obtain rfl : m = t := by omega
            have hdt : decide ((m : Int) < (m : Int)) = false := decide_eq_false (by omega)
            go_wp2
            go_roundw
            case rel => exact ⟨j + 1, by omega, by go_num, hw⟩
            case measure => simp [intOf]; omega
      · obtain rfl : 2 = j := by omega
        have hdj : decide (((2 : Nat) : Int) < 2) = false := by decide
        go_wp2
        go_ret
        exact ⟨rfl, by obtain ⟨q, rfl⟩ := hw.out; exact B2.out.2.drewN q⟩
  · have hok : okGet 2 8 L = false := by
      unfold okGet
      rw [show decide (L.length ≤ 4096) = false from decide_eq_false (by have := E1.out.2; omega), Bool.false_and, Bool.and_false]
    have hdl : decide ((4096 : Int) < (s1.size : Int)) = true := decide_eq_true (by have := E1.out.1; omega)
    have G := get_no 2 8 s1 L HL.out (by have := E1.out.1; have := HM.out; unfold maxLen; omega) hok wb
    refine G.mono ?_
    clear G hok
    rintro e w2 ⟨rfl, b2⟩
    have B2 : Hid (Bel w w2) := XB.out.2.trans b2
    clear b2
    go_wp2_with (go_at_call 13; refine (num_ok _ _).mono ?_; rintro e w99 ⟨rfl, hw⟩; replace hw := hw.symm; subst hw)
    go_ret
    exact ⟨rfl, B2.out⟩

set_option maxRecDepth 20000 in
set_option maxHeartbeats 1000000 in
theorem frames_c (s : ByteArray) (hs : s.size ≤ 140737488351232) (w : World) :
    Calls Try.prog 5 #[.string s, .bool false, .bool true] w fun e w' => e = .returned (.bool true) ∧ Bel w w' := by
  have AW : Hid (∀ w, Calls Try.prog 17 #[] w fun e w' => e = .returned (.bool true) ∧ Bel w w') := awake_true
  obtain ⟨m, hm⟩ : ∃ m, s.size / 2 = m := ⟨_, rfl⟩
  have hmn : m * 2 ≤ s.size := by omega
  have hdv : (s.size : Int) / 2 = (m : Int) := by rw [← hm]; rfl
  clear hm
  go_enter Try.func5, Try.ntmps5
  go_wp2_with fail
  refine (AW.out _).mono ?_
  rintro e w1 ⟨rfl, b1⟩
  have B1 : Hid (Bel w w1) := b1
  clear b1
  have E1 : Hid ((s.extract 0 (m * 2)).size = m * 2 ∧ (s.extract 0 (m * 2)).data.toList.length = m * 2) := ext_front s (m * 2) hmn
  have XX : Hid (∀ w : World, Box (w.alloc (.cells #[.int .i64 1, .int .i64 16] 24)) w.heap.size 1 16 ∧ Bel w (w.alloc (.cells #[.int .i64 1, .int .i64 16] 24))) := fun w => ⟨box_new w 1 16, (Bel.refl _).alloc _⟩
  go_wp2_with fail
  generalize s.extract 0 (m * 2) = s1 at *
  obtain ⟨L, hL⟩ : ∃ L, s1.data.toList = L := ⟨_, rfl⟩
  rw [hL] at E1
  have HL : Hid (s1.data.toList = L) := hL
  have X0 := XX.out w1
  obtain ⟨wb, hwb⟩ : ∃ wb, w1.alloc (.cells #[.int .i64 1, .int .i64 16] 24) = wb := ⟨_, rfl⟩
  obtain ⟨gb, hgb⟩ : ∃ gb, w1.heap.size = gb := ⟨_, rfl⟩
  rw [hwb, hgb] at X0
  rw [hwb, hgb]
  have XB : Hid (Box wb gb 1 16 ∧ Bel w wb) := ⟨X0.1, B1.out.trans X0.2⟩
  have HM : Hid (m * 2 ≤ 140737488351232) := (by omega : m * 2 ≤ 140737488351232)
  clear hwb hgb X0 XX hL hdv hmn hs
  by_cases hl : m * 2 ≤ 4096
  · have hd1 : (s1.size : Int) / 2 = (m : Int) := by have := E1.out.1; omega
    have G := get_yes 1 2 m 16 (by decide) (by decide) s1 L HL.out (by have := E1.out.2; omega) (by have := E1.out.2; omega) wb
    refine G.mono ?_
    clear G
    rintro e w2 ⟨g, rfl, o2, b2⟩
    have B2 : Hid (Box w2 gb 1 16 ∧ Bel w w2) := ⟨XB.out.1.bel b2, XB.out.2.trans b2⟩
    have LL := o2.lls
    obtain ⟨R, hR⟩ : ∃ R, ((List.range 1).map fun j => (List.range m).map fun k => smpAt 2 L (k * 1 + j)) = R := ⟨_, rfl⟩
    rw [hR] at LL
    have HR : Hid (R.length = 1 ∧ ∀ j, j < 1 → (R.getD j []).length = m ∧ ∀ t, t < m → (R.getD j []).getD t 0 = smpAt 2 L (t * 1 + j)) := by
      refine ⟨by rw [← hR]; simp, fun j hj => ?_⟩
      have e : R.getD j [] = (List.range m).map fun k => smpAt 2 L (k * 1 + j) := by
        rw [← hR, List.getD_eq_getElem?_getD, List.getElem?_map, List.getElem?_range hj]; rfl
      rw [e]
      exact ⟨by simp, fun t ht => tab_get _ _ _ ht⟩
    have HA : Hid (Lls w2 (some ⟨g, 0, none⟩) R) := LL
    have IX : Hid (∀ k, k < m * 2 → ∀ w, (Instr.index 9 (.string s1) (.int .i64 (k : Int))).run Try.prog w = .ok (.int .u8 (byt L k)) w) := fun k hk w => Byt.idx s1 L HL.out k (by have := E1.out.2; omega) w
    have hm4 : m ≤ 4096 := by omega
    obtain ⟨x2, y2⟩ := B2.out.1
    have hmm : ((m : Int) != (m : Int)) = false := by simp
    clear hR LL o2 b2
    go_wp2_with (go_at_call 13; refine (num_ok _ _).mono ?_; rintro e w99 ⟨rfl, hw⟩; replace hw := hw.symm; subst hw)
    go_loopw [12] (fun i wr => ∃ j : Nat, j ≤ 1 ∧ i = .int .i64 (j : Int) ∧ Hid (∃ q, wr = w2.drewN q)) (fun i _ => 1 - (intOf i).toNat)
    case atStart => exact ⟨0, Nat.zero_le _, rfl, ⟨0, rfl⟩⟩
    case round =>
      obtain ⟨j, hj, rfl, hw⟩ := hrel
      have x3 : wr.cell? ⟨gb, 0, none⟩ = some (.int .i64 1) := by obtain ⟨q, rfl⟩ := hw.out; exact B2.out.1.1
      have y3 : wr.cell? ⟨gb, 1, none⟩ = some (.int .i64 16) := by obtain ⟨q, rfl⟩ := hw.out; exact B2.out.1.2
      by_cases hjt : j < 1
      · have hdj : decide ((j : Int) < 1) = true := decide_eq_true (by omega)
        obtain ⟨y, hy, b1, c1, p1, _, _, t1⟩ := HA.out j (by rw [HR.out.1]; exact hjt)
        cases hy
        obtain ⟨r1, r2⟩ := HR.out.2 j hjt
        rw [r1, Addr.add_lit, Nat.zero_add] at p1
        have T1 : Hid (Slc w2 b1 (R.getD j [])) := t1
        have R1 : Hid ((R.getD j []).length = m ∧ ∀ t, t < m → (R.getD j []).getD t 0 = smpAt 2 L (t * 1 + j)) := ⟨r1, r2⟩
        have P1 : Hid (w2.cell? ⟨g, j, none⟩ = some (.slice b1 m c1)) := p1
        have g1 : wr.cell? ⟨g, j, none⟩ = some (.slice b1 m c1) := by obtain ⟨q, rfl⟩ := hw.out; exact p1
        clear r1 r2 t1 p1
        go_wp2
        go_quiet (fail)
        go_wp2
        go_loopw [13] (fun i wr => ∃ t : Nat, t ≤ m ∧ i = .int .i64 (t : Int) ∧ Hid (∃ q, wr = w2.drewN q)) (fun i _ => m - (intOf i).toNat)
        case atStart => exact ⟨0, Nat.zero_le _, rfl, (by obtain ⟨q, e⟩ := hw.out; exact ⟨_, by rw [e, World.drewN_drewN]⟩ : ∃ q, _ = w2.drewN q)⟩
        case round =>
          obtain ⟨t, ht, rfl, hw⟩ := hrel
          clear x3 y3 g1
          have x3 : wr.cell? ⟨gb, 0, none⟩ = some (.int .i64 1) := by obtain ⟨q, rfl⟩ := hw.out; exact B2.out.1.1
          have y3 : wr.cell? ⟨gb, 1, none⟩ = some (.int .i64 16) := by obtain ⟨q, rfl⟩ := hw.out; exact B2.out.1.2
          have g1 : wr.cell? ⟨g, j, none⟩ = some (.slice b1 m c1) := by obtain ⟨q, rfl⟩ := hw.out; exact P1.out
          by_cases htm : t < m
          · have hdt : decide ((t : Int) < (m : Int)) = true := decide_eq_true (by omega)
            obtain ⟨z, rfl, hz0⟩ := T1.out t (by rw [R1.out.1]; exact htm)
            have hz : wr.cell? (z.add t) = some (.int .i64 ((R.getD j []).getD t 0)) := by obtain ⟨q, rfl⟩ := hw.out; exact hz0
            clear hz0
            rw [R1.out.2 t htm] at hz
            obtain ⟨a, ha⟩ : ∃ a, t * 2 + j * 2 = a := ⟨_, rfl⟩
            obtain ⟨a0, ha0⟩ : ∃ a0, j * 2 = a0 := ⟨_, rfl⟩
            have h88 : (j : Int) * 16 / 8 = (a0 : Int) := by omega
            have h89 : (t : Int) * 2 + (a0 : Int) = (a : Int) := by omega
            have hal : a + 2 ≤ m * 2 := by omega
            have a4 : a ≤ 4096 := by omega
            have i1 := IX.out a (by omega)
            have hia : t * 1 + j = a / 2 := by omega
            have haq : a / 2 * 2 = a := by omega
            rw [hia] at hz
            have AL : Hid (a + 2 ≤ L.length ∧ a / 2 * 2 = a) := ⟨by have := E1.out.2; omega, haq⟩
            obtain ⟨z0, z1⟩ := byt_range L a
            clear hia haq hal ha ha0
            have i2 : ∀ w, (Instr.index 9 (.string s1) (.int .i64 ((a : Int) + 1))).run Try.prog w = .ok (.int .u8 (byt L (a + 1))) w := fun w => IX.out (a + 1) (by have := AL.out.1; have := E1.out.2; omega) w
            obtain ⟨u0, u1⟩ := byt_range L (a + 1)
            have hy : smpAt 2 L (a / 2) = if 32768 ≤ byt L a + 256 * byt L (a + 1) then byt L a + 256 * byt L (a + 1) - 65536 else byt L a + 256 * byt L (a + 1) := by
              rw [smpAt_2 L (a / 2) (by have := AL.out; omega), AL.out.2]
            rw [hy] at hz
            obtain ⟨u, hu⟩ : ∃ u, byt L a = u := ⟨_, rfl⟩
            obtain ⟨v, hv⟩ : ∃ v, byt L (a + 1) = v := ⟨_, rfl⟩
            rw [hu, hv] at hz
            rw [hu] at i1 z0 z1
            rw [hv] at i2 u0 u1
            obtain ⟨s2, hs2⟩ : ∃ s2, u + 256 * v = s2 := ⟨_, rfl⟩
            rw [hs2] at hz
            have s0 : 0 ≤ s2 ∧ s2 < 65536 := by omega
            clear hy hu hv
            by_cases hb : 32768 ≤ s2
            · rw [if_pos hb] at hz
              have hgt : decide ((32767 : Int) < s2) = true := decide_eq_true (by omega)
              have hyy : (s2 - 65536 != s2 - 65536) = false := by simp
              go_wp2
              go_quiet (fail)
              go_wp2
              go_roundw
              case rel => exact ⟨t + 1, by omega, by go_num, (by obtain ⟨q, e⟩ := hw.out; exact ⟨_, by rw [e, World.drewN_drewN]⟩ : ∃ q, _ = w2.drewN q)⟩
              case measure => simp [intOf]; omega
            · rw [if_neg hb] at hz
              have hgt : decide ((32767 : Int) < s2) = false := decide_eq_false (by omega)
              have hyy : (s2 != s2) = false := by simp
              go_wp2
              go_quiet (fail)
              go_wp2
              go_roundw
              case rel => exact ⟨t + 1, by omega, by go_num, (by obtain ⟨q, e⟩ := hw.out; exact ⟨_, by rw [e, World.drewN_drewN]⟩ : ∃ q, _ = w2.drewN q)⟩
              case measure => simp [intOf]; omega
          · obtain rfl : m = t := by omega
            have hdt : decide ((m : Int) < (m : Int)) = false := decide_eq_false (by omega)
            go_wp2
            go_roundw
            case rel => exact ⟨j + 1, by omega, by go_num, hw⟩
            case measure => simp [intOf]; omega
      · obtain rfl : 1 = j := by omega
        have hdj : decide (((1 : Nat) : Int) < 1) = false := by decide
        go_wp2
        go_ret
        exact ⟨rfl, by obtain ⟨q, rfl⟩ := hw.out; exact B2.out.2.drewN q⟩
  · have hok : okGet 1 16 L = false := by
      unfold okGet
      rw [show decide (L.length ≤ 4096) = false from decide_eq_false (by have := E1.out.2; omega), Bool.false_and, Bool.and_false]
    have hdl : decide ((4096 : Int) < (s1.size : Int)) = true := decide_eq_true (by have := E1.out.1; omega)
    have G := get_no 1 16 s1 L HL.out (by have := E1.out.1; have := HM.out; unfold maxLen; omega) hok wb
    refine G.mono ?_
    clear G hok
    rintro e w2 ⟨rfl, b2⟩
    have B2 : Hid (Bel w w2) := XB.out.2.trans b2
    clear b2
    go_wp2_with (go_at_call 13; refine (num_ok _ _).mono ?_; rintro e w99 ⟨rfl, hw⟩; replace hw := hw.symm; subst hw)
    go_ret
    exact ⟨rfl, B2.out⟩

set_option maxRecDepth 20000 in
set_option maxHeartbeats 1000000 in
theorem frames_d (s : ByteArray) (hs : s.size ≤ 140737488351232) (w : World) :
    Calls Try.prog 5 #[.string s, .bool true, .bool true] w fun e w' => e = .returned (.bool true) ∧ Bel w w' := by
  have AW : Hid (∀ w, Calls Try.prog 17 #[] w fun e w' => e = .returned (.bool true) ∧ Bel w w') := awake_true
  obtain ⟨m, hm⟩ : ∃ m, s.size / 4 = m := ⟨_, rfl⟩
  have hmn : m * 4 ≤ s.size := by omega
  have hdv : (s.size : Int) / 4 = (m : Int) := by rw [← hm]; rfl
  clear hm
  go_enter Try.func5, Try.ntmps5
  go_wp2_with fail
  refine (AW.out _).mono ?_
  rintro e w1 ⟨rfl, b1⟩
  have B1 : Hid (Bel w w1) := b1
  clear b1
  have E1 : Hid ((s.extract 0 (m * 4)).size = m * 4 ∧ (s.extract 0 (m * 4)).data.toList.length = m * 4) := ext_front s (m * 4) hmn
  have XX : Hid (∀ w : World, Box (w.alloc (.cells #[.int .i64 2, .int .i64 16] 24)) w.heap.size 2 16 ∧ Bel w (w.alloc (.cells #[.int .i64 2, .int .i64 16] 24))) := fun w => ⟨box_new w 2 16, (Bel.refl _).alloc _⟩
  go_wp2_with fail
  generalize s.extract 0 (m * 4) = s1 at *
  obtain ⟨L, hL⟩ : ∃ L, s1.data.toList = L := ⟨_, rfl⟩
  rw [hL] at E1
  have HL : Hid (s1.data.toList = L) := hL
  have X0 := XX.out w1
  obtain ⟨wb, hwb⟩ : ∃ wb, w1.alloc (.cells #[.int .i64 2, .int .i64 16] 24) = wb := ⟨_, rfl⟩
  obtain ⟨gb, hgb⟩ : ∃ gb, w1.heap.size = gb := ⟨_, rfl⟩
  rw [hwb, hgb] at X0
  rw [hwb, hgb]
  have XB : Hid (Box wb gb 2 16 ∧ Bel w wb) := ⟨X0.1, B1.out.trans X0.2⟩
  have HM : Hid (m * 4 ≤ 140737488351232) := (by omega : m * 4 ≤ 140737488351232)
  clear hwb hgb X0 XX hL hdv hmn hs
  by_cases hl : m * 4 ≤ 4096
  · have hd1 : (s1.size : Int) / 4 = (m : Int) := by have := E1.out.1; omega
    have G := get_yes 2 2 m 16 (by decide) (by decide) s1 L HL.out (by have := E1.out.2; omega) (by have := E1.out.2; omega) wb
    refine G.mono ?_
    clear G
    rintro e w2 ⟨g, rfl, o2, b2⟩
    have B2 : Hid (Box w2 gb 2 16 ∧ Bel w w2) := ⟨XB.out.1.bel b2, XB.out.2.trans b2⟩
    have LL := o2.lls
    obtain ⟨R, hR⟩ : ∃ R, ((List.range 2).map fun j => (List.range m).map fun k => smpAt 2 L (k * 2 + j)) = R := ⟨_, rfl⟩
    rw [hR] at LL
    have HR : Hid (R.length = 2 ∧ ∀ j, j < 2 → (R.getD j []).length = m ∧ ∀ t, t < m → (R.getD j []).getD t 0 = smpAt 2 L (t * 2 + j)) := by
      refine ⟨by rw [← hR]; simp, fun j hj => ?_⟩
      have e : R.getD j [] = (List.range m).map fun k => smpAt 2 L (k * 2 + j) := by
        rw [← hR, List.getD_eq_getElem?_getD, List.getElem?_map, List.getElem?_range hj]; rfl
      rw [e]
      exact ⟨by simp, fun t ht => tab_get _ _ _ ht⟩
    have HA : Hid (Lls w2 (some ⟨g, 0, none⟩) R) := LL
    have IX : Hid (∀ k, k < m * 4 → ∀ w, (Instr.index 9 (.string s1) (.int .i64 (k : Int))).run Try.prog w = .ok (.int .u8 (byt L k)) w) := fun k hk w => Byt.idx s1 L HL.out k (by have := E1.out.2; omega) w
    have hm4 : m ≤ 4096 := by omega
    obtain ⟨x2, y2⟩ := B2.out.1
    have hmm : ((m : Int) != (m : Int)) = false := by simp
    clear hR LL o2 b2
    go_wp2_with (go_at_call 13; refine (num_ok _ _).mono ?_; rintro e w99 ⟨rfl, hw⟩; replace hw := hw.symm; subst hw)
    go_loopw [12] (fun i wr => ∃ j : Nat, j ≤ 2 ∧ i = .int .i64 (j : Int) ∧ Hid (∃ q, wr = w2.drewN q)) (fun i _ => 2 - (intOf i).toNat)
    case atStart => exact ⟨0, Nat.zero_le _, rfl, ⟨0, rfl⟩⟩
    case round =>
      obtain ⟨j, hj, rfl, hw⟩ := hrel
      have x3 : wr.cell? ⟨gb, 0, none⟩ = some (.int .i64 2) := by obtain ⟨q, rfl⟩ := hw.out; exact B2.out.1.1
      have y3 : wr.cell? ⟨gb, 1, none⟩ = some (.int .i64 16) := by obtain ⟨q, rfl⟩ := hw.out; exact B2.out.1.2
      by_cases hjt : j < 2
      · have hdj : decide ((j : Int) < 2) = true := decide_eq_true (by omega)
        obtain ⟨y, hy, b1, c1, p1, _, _, t1⟩ := HA.out j (by rw [HR.out.1]; exact hjt)
        cases hy
        obtain ⟨r1, r2⟩ := HR.out.2 j hjt
        rw [r1, Addr.add_lit, Nat.zero_add] at p1
        have T1 : Hid (Slc w2 b1 (R.getD j [])) := t1
        have R1 : Hid ((R.getD j []).length = m ∧ ∀ t, t < m → (R.getD j []).getD t 0 = smpAt 2 L (t * 2 + j)) := ⟨r1, r2⟩
        have P1 : Hid (w2.cell? ⟨g, j, none⟩ = some (.slice b1 m c1)) := p1
        have g1 : wr.cell? ⟨g, j, none⟩ = some (.slice b1 m c1) := by obtain ⟨q, rfl⟩ := hw.out; exact p1
        clear r1 r2 t1 p1
        go_wp2
        go_quiet (fail)
        go_wp2
        go_loopw [13] (fun i wr => ∃ t : Nat, t ≤ m ∧ i = .int .i64 (t : Int) ∧ Hid (∃ q, wr = w2.drewN q)) (fun i _ => m - (intOf i).toNat)
        case atStart => exact ⟨0, Nat.zero_le _, rfl, (by obtain ⟨q, e⟩ := hw.out; exact ⟨_, by rw [e, World.drewN_drewN]⟩ : ∃ q, _ = w2.drewN q)⟩
        case round =>
          obtain ⟨t, ht, rfl, hw⟩ := hrel
          clear x3 y3 g1
          have x3 : wr.cell? ⟨gb, 0, none⟩ = some (.int .i64 2) := by obtain ⟨q, rfl⟩ := hw.out; exact B2.out.1.1
          have y3 : wr.cell? ⟨gb, 1, none⟩ = some (.int .i64 16) := by obtain ⟨q, rfl⟩ := hw.out; exact B2.out.1.2
          have g1 : wr.cell? ⟨g, j, none⟩ = some (.slice b1 m c1) := by obtain ⟨q, rfl⟩ := hw.out; exact P1.out
          by_cases htm : t < m
          · have hdt : decide ((t : Int) < (m : Int)) = true := decide_eq_true (by omega)
            obtain ⟨z, rfl, hz0⟩ := T1.out t (by rw [R1.out.1]; exact htm)
            have hz : wr.cell? (z.add t) = some (.int .i64 ((R.getD j []).getD t 0)) := by obtain ⟨q, rfl⟩ := hw.out; exact hz0
            clear hz0
            rw [R1.out.2 t htm] at hz
            obtain ⟨a, ha⟩ : ∃ a, t * 4 + j * 2 = a := ⟨_, rfl⟩
            obtain ⟨a0, ha0⟩ : ∃ a0, j * 2 = a0 := ⟨_, rfl⟩
            have h88 : (j : Int) * 16 / 8 = (a0 : Int) := by omega
            have h89 : (t : Int) * 4 + (a0 : Int) = (a : Int) := by omega
            have hal : a + 2 ≤ m * 4 := by omega
            have a4 : a ≤ 4096 := by omega
            have i1 := IX.out a (by omega)
            have hia : t * 2 + j = a / 2 := by omega
            have haq : a / 2 * 2 = a := by omega
            rw [hia] at hz
            have AL : Hid (a + 2 ≤ L.length ∧ a / 2 * 2 = a) := ⟨by have := E1.out.2; omega, haq⟩
            obtain ⟨z0, z1⟩ := byt_range L a
            clear hia haq hal ha ha0
            have i2 : ∀ w, (Instr.index 9 (.string s1) (.int .i64 ((a : Int) + 1))).run Try.prog w = .ok (.int .u8 (byt L (a + 1))) w := fun w => IX.out (a + 1) (by have := AL.out.1; have := E1.out.2; omega) w
            obtain ⟨u0, u1⟩ := byt_range L (a + 1)
            have hy : smpAt 2 L (a / 2) = if 32768 ≤ byt L a + 256 * byt L (a + 1) then byt L a + 256 * byt L (a + 1) - 65536 else byt L a + 256 * byt L (a + 1) := by
              rw [smpAt_2 L (a / 2) (by have := AL.out; omega), AL.out.2]
            rw [hy] at hz
            obtain ⟨u, hu⟩ : ∃ u, byt L a = u := ⟨_, rfl⟩
            obtain ⟨v, hv⟩ : ∃ v, byt L (a + 1) = v := ⟨_, rfl⟩
            rw [hu, hv] at hz
            rw [hu] at i1 z0 z1
            rw [hv] at i2 u0 u1
            obtain ⟨s2, hs2⟩ : ∃ s2, u + 256 * v = s2 := ⟨_, rfl⟩
            rw [hs2] at hz
            have s0 : 0 ≤ s2 ∧ s2 < 65536 := by omega
            clear hy hu hv
            by_cases hb : 32768 ≤ s2
            · rw [if_pos hb] at hz
              have hgt : decide ((32767 : Int) < s2) = true := decide_eq_true (by omega)
              have hyy : (s2 - 65536 != s2 - 65536) = false := by simp
              go_wp2
              go_quiet (fail)
              go_wp2
              go_roundw
              case rel => exact ⟨t + 1, by omega, by go_num, (by obtain ⟨q, e⟩ := hw.out; exact ⟨_, by rw [e, World.drewN_drewN]⟩ : ∃ q, _ = w2.drewN q)⟩
              case measure => simp [intOf]; omega
            · rw [if_neg hb] at hz
              have hgt : decide ((32767 : Int) < s2) = false := decide_eq_false (by omega)
              have hyy : (s2 != s2) = false := by simp
              go_wp2
              go_quiet (fail)
              go_wp2
              go_roundw
              case rel => exact ⟨t + 1, by omega, by go_num, (by obtain ⟨q, e⟩ := hw.out; exact ⟨_, by rw [e, World.drewN_drewN]⟩ : ∃ q, _ = w2.drewN q)⟩
              case measure => simp [intOf]; omega
          · obtain rfl : m = t := by omega
            have hdt : decide ((m : Int) < (m : Int)) = false := decide_eq_false (by omega)
            go_wp2
            go_roundw
            case rel => exact ⟨j + 1, by omega, by go_num, hw⟩
            case measure => simp [intOf]; omega
      · obtain rfl : 2 = j := by omega
        have hdj : decide (((2 : Nat) : Int) < 2) = false := by decide
        go_wp2
        go_ret
        exact ⟨rfl, by obtain ⟨q, rfl⟩ := hw.out; exact B2.out.2.drewN q⟩
  · have hok : okGet 2 16 L = false := by
      unfold okGet
      rw [show decide (L.length ≤ 4096) = false from decide_eq_false (by have := E1.out.2; omega), Bool.false_and, Bool.and_false]
    have hdl : decide ((4096 : Int) < (s1.size : Int)) = true := decide_eq_true (by have := E1.out.1; omega)
    have G := get_no 2 16 s1 L HL.out (by have := E1.out.1; have := HM.out; unfold maxLen; omega) hok wb
    refine G.mono ?_
    clear G hok
    rintro e w2 ⟨rfl, b2⟩
    have B2 : Hid (Bel w w2) := XB.out.2.trans b2
    clear b2
    go_wp2_with (go_at_call 13; refine (num_ok _ _).mono ?_; rintro e w99 ⟨rfl, hw⟩; replace hw := hw.symm; subst hw)
    go_ret
    exact ⟨rfl, B2.out⟩

theorem frames_walk (s : ByteArray) (hs : s.size ≤ 140737488351232) (x y : Bool) (w : World) :
    Calls Try.prog 5 #[.string s, .bool x, .bool y] w fun e w' => e = .returned (.bool true) ∧ Bel w w' := by
  cases x
  · cases y
    · exact frames_a s hs w
    · exact frames_c s hs w
  · cases y
    · exact frames_b s hs w
    · exact frames_d s hs w

end Go.Proofs.Ytpakcajdbibbbaa.Pcm
