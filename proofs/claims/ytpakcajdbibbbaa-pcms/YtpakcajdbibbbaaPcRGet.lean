/-
  The contract of the reference's GetPcm: the rows that bytes are, or the error. Conditions: the text's length is an int.
-/
import Derived.Test.YtpakcajdbibbbaaPcGet
import Derived.Test.YtpakcajdbibbbaaPcMade
import Derived.Test.YtpakcajdbibbbaaGBytes
import Derived.Test.YtpakcajdbibbbaaGAppL
import Derived.BigQuiet
import Derived.Deep.CutRange
namespace Go.Proofs.Ytpakcajdbibbbaa.Pcm
open Go.RowKit Go.Sort Go.Proofs.Ytpakcajdbibbbaa.Mod Go.Proofs.Ytpakcajdbibbbaa.Num Go.Proofs.Ytpakcajdbibbbaa.Ints
set_option linter.unusedVariables false
set_option linter.unusedSimpArgs false

theorem take_snoc (R : List Int) (t : Nat) (h : t < R.length) : R.take t ++ [R.getD t 0] = R.take (t + 1) := by
  rw [List.getD_eq_getElem?_getD, List.getElem?_eq_getElem h]
  simp
theorem take_snocL (L : List (List Int)) (j : Nat) (h : j < L.length) : L.take j ++ [L.getD j []] = L.take (j + 1) := by
  rw [List.getD_eq_getElem?_getD, List.getElem?_eq_getElem h]
  simp

set_option maxHeartbeats 1000000 in
theorem rget_no (c b : Int) (s : ByteArray) (L : List UInt8) (hs : s.data.toList = L) (hx : s.size ≤ maxLen) (h : okGet c b L = false) (w : World) :
    Calls Try.prog 9 #[.string s, fmt c b] w fun e w' => e = .returned (.tuple #[.slice none 0 0, .int .i64 1900]) ∧ Bel w w' := by
  have hn : s.size = L.length := by rw [← hs, Array.length_toList]; rfl
  unfold maxLen at hx
  have M : Hid (∀ w, Calls Try.prog 15 #[fmt c b] w fun e w' => e = .returned (.bool (okF c b)) ∧ Bel w w') := fun w => rmay_ok c b w
  have FR : Hid (okF c b = true → ∀ w, Calls Try.prog 23 #[fmt c b] w fun e w' => e = .returned (.int .i64 ((fC c * fQ b : Nat) : Int)) ∧ Bel w w') := fun h w => rframe_ok c b h w
  have BX : Hid (∀ w1, Bel (w.alloc (.cells #[.int .i64 c, .int .i64 b] 24)) w1 → Box w1 w.heap.size c b) := fun w1 k => (box_new w c b).bel k
  unfold okGet at h
  rw [← hn] at h
  have HF : Hid (okF c b = true → (decide (s.size ≤ 4096) && decide (s.size % (fC c * fQ b) = 0)) = false) := fun k => by rw [k, Bool.true_and] at h; exact h
  have FP : Hid (okF c b = true → 0 < fC c * fQ b ∧ fC c * fQ b ≤ 4) := fun k => by
    obtain ⟨h1, h2, _⟩ := okF_nat k
    rcases h1 with e | e <;> rcases h2 with q | q <;> rw [e, q] <;> decide
  clear h hs hn
  cases ho : okF c b
  · rw [ho] at M
    clear HF FP FR
    go_enter Try.func9, Try.ntmps9
    go_wp2_with fail
    refine (M.out _).mono ?_
    rintro e w1 ⟨rfl, b1⟩
    have B1 : Hid (Bel w w1) := ((Bel.refl _).alloc _).trans b1
    clear b1
    go_wp2
    go_ret2
    exact ⟨rfl, B1.out⟩
  · rw [ho] at M FR HF FP
    have HF2 := HF.out rfl
    obtain ⟨f0, f1⟩ := FP.out rfl
    have FR2 : Hid (∀ w, Calls Try.prog 23 #[fmt c b] w fun e w' => e = .returned (.int .i64 ((fC c * fQ b : Nat) : Int)) ∧ Bel w w') := FR.out rfl
    clear HF FP FR ho
    obtain ⟨f, hf⟩ : ∃ f, fC c * fQ b = f := ⟨_, rfl⟩
    rw [hf] at FR2 HF2 f0 f1
    clear hf
    have hz : ((f : Int) == 0) = false := by simp; omega
    by_cases hr : s.size % f = 0
    · rw [decide_eq_true hr, Bool.and_true, decide_eq_false_iff_not] at HF2
      have hl2 : decide ((4096 : Int) < (s.size : Int)) = true := decide_eq_true (by omega)
      have hm : ((s.size : Int) % (f : Int) != 0) = false := by rw [rem_nat, decide_eq_true hr]; rfl
      go_enter Try.func9, Try.ntmps9
      go_wp2_with fail
      refine (M.out _).mono ?_
      rintro e w1 ⟨rfl, b1⟩
      have B1 : Hid (Bel w w1) := ((Bel.refl _).alloc _).trans b1
      obtain ⟨x1, x2⟩ := BX.out _ b1
      clear b1
      go_wp2_with fail
      refine (FR2.out _).mono ?_
      rintro e w2 ⟨rfl, b2⟩
      have B2 : Hid (Bel w w2) := B1.out.trans b2
      clear b2
      go_wp2
      go_ret2
      exact ⟨rfl, B2.out⟩
    · have hm : ((s.size : Int) % (f : Int) != 0) = true := by rw [rem_nat, decide_eq_false hr]; rfl
      go_enter Try.func9, Try.ntmps9
      go_wp2_with fail
      refine (M.out _).mono ?_
      rintro e w1 ⟨rfl, b1⟩
      have B1 : Hid (Bel w w1) := ((Bel.refl _).alloc _).trans b1
      obtain ⟨x1, x2⟩ := BX.out _ b1
      clear b1
      go_wp2_with fail
      refine (FR2.out _).mono ?_
      rintro e w2 ⟨rfl, b2⟩
      have B2 : Hid (Bel w w2) := B1.out.trans b2
      clear b2
      go_wp2
      go_ret2
      exact ⟨rfl, B2.out⟩

set_option maxRecDepth 20000 in
set_option maxHeartbeats 1000000 in
theorem rget_one (C m : Nat) (hC : C = 1 ∨ C = 2) (s : ByteArray) (L : List UInt8) (hs : s.data.toList = L) (hm : L.length = m * (C * 1)) (hx : L.length ≤ 4096) (w : World) :
    Calls Try.prog 9 #[.string s, fmt (C : Int) 8] w fun e w' => ∃ ao cp, e = .returned (.tuple #[.slice ao C cp, .int .i64 0]) ∧ Lls w' ao ((List.range C).map fun j => (List.range m).map fun k => smpAt 1 L (k * C + j)) ∧ Bel w w' := by
  have hok : okF (C : Int) 8 = true := by rcases hC with rfl | rfl <;> rfl
  have hfq : fQ 8 = 1 := rfl
  have hn : s.size = L.length := by rw [← hs, Array.length_toList]; rfl
  have hf : 0 < C * 1 ∧ C * 1 ≤ 4 := by omega
  have M : Hid (∀ w, Calls Try.prog 15 #[fmt (C : Int) 8] w fun e w' => e = .returned (.bool true) ∧ Bel w w') := fun w => hok ▸ rmay_ok (C : Int) 8 w
  have FR : Hid (∀ w, Calls Try.prog 23 #[fmt (C : Int) 8] w fun e w' => e = .returned (.int .i64 ((C * 1 : Nat) : Int)) ∧ Bel w w') := fun w => by
    have := rframe_ok (C : Int) 8 hok w
    rwa [hfq] at this
  obtain ⟨R, hR⟩ : ∃ R, ((List.range C).map fun j => (List.range m).map fun k => smpAt 1 L (k * C + j)) = R := ⟨_, rfl⟩
  rw [hR]
  have HR : Hid (R.length = C ∧ ∀ j, j < C → (R.getD j []).length = m ∧ ∀ t, t < m → (R.getD j []).getD t 0 = smpAt 1 L (t * C + j)) := by
    refine ⟨by rw [← hR]; simp, fun j hj => ?_⟩
    have e : R.getD j [] = (List.range m).map fun k => smpAt 1 L (k * C + j) := by
      rw [← hR, List.getD_eq_getElem?_getD, List.getElem?_map, List.getElem?_range hj]; rfl
    rw [e]
    exact ⟨by simp, fun t ht => tab_get _ _ _ ht⟩
  clear hR
  have IX : Hid (∀ k, k < s.size → ∀ w, (Instr.index 9 (.string s) (.int .i64 (k : Int))).run Try.prog w = .ok (.int .u8 (byt L k)) w) := fun k hk w => Byt.idx s L hs k (by omega) w
  obtain ⟨f, hfe⟩ : ∃ f, C * 1 = f := ⟨_, rfl⟩
  rw [hfe] at FR hf
  have HF : Hid (C * 1 = f ∧ s.size = m * f ∧ s.size = L.length) := ⟨hfe, by rw [hn, hm, hfe], hn⟩
  have hmn : s.size = m * f := by rw [hn, hm, hfe]
  have hm4 : m ≤ 4096 := by
    have : m * 1 ≤ m * f := Nat.mul_le_mul_left m hf.1
    omega
  have hz : ((f : Int) == 0) = false := by simp; omega
  have hr : ((s.size : Int) % (f : Int) != 0) = false := by rw [rem_nat, hmn, decide_eq_true (Nat.mul_mod_left m f)]; rfl
  have hl2 : decide ((4096 : Int) < (s.size : Int)) = false := decide_eq_false (by omega)
  have hl3 : s.size ≤ 4096 := by omega
  have C0 : 1 ≤ C ∧ C ≤ 2 := by omega
  clear hs hm hok hfq hn hmn hfe hC hx
  obtain ⟨wb, hwb⟩ : ∃ wb, w.alloc (.cells #[.int .i64 (C : Int), .int .i64 8] 24) = wb := ⟨_, rfl⟩
  have HW : Hid (w.alloc (.cells #[.int .i64 (C : Int), .int .i64 8] 24) = wb) := hwb
  obtain ⟨gb, hgb⟩ : ∃ gb, w.heap.size = gb := ⟨_, rfl⟩
  have HG : Hid (w.heap.size = gb) := hgb
  have B0 : Hid (Bel w wb) := (by rw [← hwb]; exact (Bel.refl _).alloc _ : Bel w wb)
  have BX := box_new w (C : Int) 8
  rw [hwb, hgb] at BX
  have XX : Hid (Box wb gb (C : Int) 8) := BX
  clear hwb hgb BX
  go_enter Try.func9, Try.ntmps9
  go_wp2_with fail
  rw [HW.out, HG.out]
  refine (M.out _).mono ?_
  rintro e w1 ⟨rfl, b1⟩
  have B1 : Hid (Bel wb w1) := b1
  obtain ⟨x1, x2⟩ := XX.out.bel b1
  clear b1
  go_wp2_with fail
  refine (FR.out _).mono ?_
  rintro e w2 ⟨rfl, b2⟩
  have B2 : Hid (Bel wb w2) := B1.out.trans b2
  obtain ⟨y1, y2⟩ := XX.out.bel B2.out
  clear b2 x1 x2 B1
  go_wp2
  clear y1 y2 hr hl2
  go_loopw [6, 8] (fun o i wr => ∃ (v : Value) (j : Nat), v = o ∧ j ≤ C ∧ i = .int .i64 (j : Int) ∧ Hid (∃ us, OwnsL wr wb.heap.size v us (R.take j)) ∧ Hid (Bel wb wr)) (fun _ i _ => C - (intOf i).toNat)
  case atStart => exact ⟨_, 0, rfl, Nat.zero_le _, rfl, ⟨[], ownsL_none _ _⟩, B2⟩
  case round =>
    obtain ⟨o, j, rfl, hj, rfl, ho, hb⟩ := hrel
    obtain ⟨y1, y2⟩ := XX.out.bel hb.out
    by_cases hlt : j < C
    · have hdj : decide ((j : Int) < (C : Int)) = true := decide_eq_true (by omega)
      obtain ⟨us, hus⟩ := ho.out
      have HU : Hid (OwnsL wr wb.heap.size o us (R.take j)) := hus
      clear hus ho
      go_wp2
      obtain ⟨W1, hW1⟩ : ∃ W, W = wr := ⟨_, rfl⟩
      subst hW1
      go_loopw [9, 10] (fun o i wr => ∃ (v : Value) (t a : Nat), v = o ∧ t ≤ m ∧ i = .int .i64 (a : Int) ∧ Hid (a = j * 1 + t * f) ∧ Hid (wr.ownsRow W1.heap.size 3 1 v t (vals ((R.getD j []).take t))) ∧ Hid (Bel W1 wr)) (fun _ i _ => s.size + f - (intOf i).toNat)
      case atStart => exact ⟨_, 0, j * 1, rfl, Nat.zero_le _, by go_num, (by simp : j * 1 = j * 1 + 0 * f), ⟨rfl, .inl ⟨rfl, rfl⟩⟩, Bel.refl _⟩
      case round =>
        obtain ⟨o2, t, a, rfl, ht, rfl, ha, ho2, hb2⟩ := hrel
        by_cases htm : t < m
        · have hatl := at_lt (q := 1) htm hlt
          have ea : a = (t * C + j) * 1 := by
            have := ha.out
            rw [this, ← HF.out.1, Nat.add_mul, Nat.mul_assoc]; omega
          have hal : a + 1 ≤ s.size := by rw [ea, HF.out.2.1, ← HF.out.1]; exact hatl
          have hda : decide (a < s.size) = true := decide_eq_true (by omega)
          have i1 := IX.out a (by omega)
          obtain ⟨z0, z1⟩ := byt_range L a
          have hv1 : byt L a - 128 = (R.getD j []).getD t 0 := by
            rw [(HR.out.2 j hlt).2 t htm, smpAt_1 L _ (by have := HF.out.2.2; omega), ea, Nat.mul_one]
          obtain ⟨z, hz⟩ : ∃ z, byt L a = z := ⟨_, rfl⟩
          rw [hz] at i1 z0 z1 hv1
          obtain ⟨y, hy⟩ : ∃ y, z - 128 = y := ⟨_, rfl⟩
          have HY : Hid ((R.getD j []).take t ++ [y] = (R.getD j []).take (t + 1)) := (by rw [← hy, hv1]; exact take_snoc _ _ (by rw [(HR.out.2 j hlt).1]; exact htm) : (R.getD j []).take t ++ [y] = (R.getD j []).take (t + 1))
          clear hz hv1
          clear hatl ea
          have H8 : Hid (t * 8 ≤ 140737488351232 ∧ W1.heap.size ≤ wr.heap.size) := ⟨by omega, hb2.out.size⟩
          have HA2 : Hid (a + f = j * 1 + (t + 1) * f) := by
            show _ = _
            rw [ha.out, Nat.succ_mul]; omega
          have AL : Hid (a ≤ 4096) := (by omega : a ≤ 4096)
          go_wp2_with (at_builtin; refine wpl_more wr rfl (.tmp 68) (.tmp 70) rfl W1.heap.size t H8.out.2 o2 ((R.getD j []).take t) y rfl rfl ho2.out H8.out.1 ?_)
          intro v' w3 hv hb3
          have HV : Hid (w3.ownsRow W1.heap.size 3 1 v' (t + 1) (vals ((R.getD j []).take (t + 1)))) := by rw [← HY.out]; exact hv
          have B3 : Hid (Bel W1 w3) := Below.trans hb2.out hb3
          obtain ⟨q1, q2⟩ := XX.out.bel (hb.out.trans B3.out)
          clear hv hb3 y1 y2 i1
          go_wp2_with fail
          refine (FR.out _).mono ?_
          rintro e w4 ⟨rfl, b4⟩
          have HV4 : Hid (w4.ownsRow W1.heap.size 3 1 v' (t + 1) (vals ((R.getD j []).take (t + 1)))) := Ints.owns_bel HV.out b4
          have B4 : Hid (Bel W1 w4) := B3.out.trans b4
          clear b4 q1 q2
          have al := AL.out
          go_wp2
          go_roundw
          case rel => exact ⟨_, t + 1, a + f, rfl, by omega, by go_num, HA2, HV4, B4⟩
          case measure => simp [intOf]; omega
        · obtain rfl : m = t := by omega
          have hda : decide (a < s.size) = false := decide_eq_false (by
            have := ha.out
            have := HF.out.2.1
            omega)
          have HY : Hid (wr.ownsRow W1.heap.size 3 1 o2 m (vals (R.getD j []))) := (by
            have := ho2.out
            rwa [← (HR.out.2 j hlt).1, List.take_length, (HR.out.2 j hlt).1] at this : wr.ownsRow W1.heap.size 3 1 o2 m (vals (R.getD j [])))
          have HU2 : Hid (OwnsL wr wb.heap.size o us (R.take j)) := HU.out.bel hb2.out
          have HT : Hid (j = (R.take j).length) := (by rw [List.length_take, HR.out.1]; omega : j = (R.take j).length)
          have SZ : Hid (wb.heap.size ≤ W1.heap.size ∧ wb.heap.size ≤ wr.heap.size) := ⟨hb.out.size, Nat.le_trans hb.out.size hb2.out.size⟩
          have HO : Hid (wr.ownsRow wb.heap.size 44 1 o j us) := (by have := HU2.out.1; rwa [← HT.out] at this)
          obtain ⟨yo, yc, rfl, -⟩ := owns_slc HY.out
          have j24 : j * 24 ≤ 140737488351232 := by omega
          go_wp2_with (at_builtin; refine wpl_moreL wr rfl (.tmp 72) (.tmp 74) rfl wb.heap.size j SZ.out.2 o us (.slice yo m yc) rfl rfl rfl HO.out j24 ?_)
          intro v' w3 hv he
          have HV : Hid (OwnsL w3 wb.heap.size v' (us ++ [.slice yo m yc]) (R.take (j + 1))) := by
            have hl := (HR.out.2 j hlt).1
            have := HU2.out.more (y := .slice yo m yc) (L := R.getD j []) (v' := v') (w' := w3) (by rw [hl]; exact owns_up HY.out SZ.out.1) (by rw [hl]; omega) (by rw [← HT.out]; exact hv) he
            rwa [take_snocL R j (by rw [HR.out.1]; exact hlt)] at this
          have B3 : Hid (Bel wb w3) := he.from (hb.out.trans hb2.out) (fun i hi => (own_oldL HO.out hi).1)
          clear hv he
          go_wp2
          go_roundw
          case rel => exact ⟨_, j + 1, rfl, by omega, by go_num, ⟨_, HV.out⟩, B3⟩
          case measure => simp [intOf]; omega
    · obtain rfl : C = j := by omega
      have hdj : decide ((C : Int) < (C : Int)) = false := decide_eq_false (by omega)
      obtain ⟨us, hus⟩ := ho.out
      have HU : Hid (OwnsL wr wb.heap.size o us R) := (by rwa [← HR.out.1, List.take_length] at hus)
      clear hus
      obtain ⟨ao, cp, rfl, -, l1⟩ := HU.out.lls
      have FIN : Hid (Lls wr ao R ∧ Bel w wr) := ⟨l1, B0.out.trans hb.out⟩
      rw [HR.out.1]
      clear l1 HU hb
      go_wp2
      go_ret2
      exact ⟨_, _, rfl, FIN.out⟩

set_option maxRecDepth 20000 in
set_option maxHeartbeats 1000000 in
theorem rget_two (C m : Nat) (hC : C = 1 ∨ C = 2) (s : ByteArray) (L : List UInt8) (hs : s.data.toList = L) (hm : L.length = m * (C * 2)) (hx : L.length ≤ 4096) (w : World) :
    Calls Try.prog 9 #[.string s, fmt (C : Int) 16] w fun e w' => ∃ ao cp, e = .returned (.tuple #[.slice ao C cp, .int .i64 0]) ∧ Lls w' ao ((List.range C).map fun j => (List.range m).map fun k => smpAt 2 L (k * C + j)) ∧ Bel w w' := by
  have hok : okF (C : Int) 16 = true := by rcases hC with rfl | rfl <;> rfl
  have hfq : fQ 16 = 2 := rfl
  have hn : s.size = L.length := by rw [← hs, Array.length_toList]; rfl
  have hf : 0 < C * 2 ∧ C * 2 ≤ 4 := by omega
  have M : Hid (∀ w, Calls Try.prog 15 #[fmt (C : Int) 16] w fun e w' => e = .returned (.bool true) ∧ Bel w w') := fun w => hok ▸ rmay_ok (C : Int) 16 w
  have FR : Hid (∀ w, Calls Try.prog 23 #[fmt (C : Int) 16] w fun e w' => e = .returned (.int .i64 ((C * 2 : Nat) : Int)) ∧ Bel w w') := fun w => by
    have := rframe_ok (C : Int) 16 hok w
    rwa [hfq] at this
  obtain ⟨R, hR⟩ : ∃ R, ((List.range C).map fun j => (List.range m).map fun k => smpAt 2 L (k * C + j)) = R := ⟨_, rfl⟩
  rw [hR]
  have HR : Hid (R.length = C ∧ ∀ j, j < C → (R.getD j []).length = m ∧ ∀ t, t < m → (R.getD j []).getD t 0 = smpAt 2 L (t * C + j)) := by
    refine ⟨by rw [← hR]; simp, fun j hj => ?_⟩
    have e : R.getD j [] = (List.range m).map fun k => smpAt 2 L (k * C + j) := by
      rw [← hR, List.getD_eq_getElem?_getD, List.getElem?_map, List.getElem?_range hj]; rfl
    rw [e]
    exact ⟨by simp, fun t ht => tab_get _ _ _ ht⟩
  clear hR
  have IX : Hid (∀ k, k < s.size → ∀ w, (Instr.index 9 (.string s) (.int .i64 (k : Int))).run Try.prog w = .ok (.int .u8 (byt L k)) w) := fun k hk w => Byt.idx s L hs k (by omega) w
  obtain ⟨f, hfe⟩ : ∃ f, C * 2 = f := ⟨_, rfl⟩
  rw [hfe] at FR hf
  have HF : Hid (C * 2 = f ∧ s.size = m * f ∧ s.size = L.length) := ⟨hfe, by rw [hn, hm, hfe], hn⟩
  have hmn : s.size = m * f := by rw [hn, hm, hfe]
  have hm4 : m ≤ 4096 := by
    have : m * 1 ≤ m * f := Nat.mul_le_mul_left m hf.1
    omega
  have hz : ((f : Int) == 0) = false := by simp; omega
  have hr : ((s.size : Int) % (f : Int) != 0) = false := by rw [rem_nat, hmn, decide_eq_true (Nat.mul_mod_left m f)]; rfl
  have hl2 : decide ((4096 : Int) < (s.size : Int)) = false := decide_eq_false (by omega)
  have hl3 : s.size ≤ 4096 := by omega
  have C0 : 1 ≤ C ∧ C ≤ 2 := by omega
  clear hs hm hok hfq hn hmn hfe hC hx
  obtain ⟨wb, hwb⟩ : ∃ wb, w.alloc (.cells #[.int .i64 (C : Int), .int .i64 16] 24) = wb := ⟨_, rfl⟩
  have HW : Hid (w.alloc (.cells #[.int .i64 (C : Int), .int .i64 16] 24) = wb) := hwb
  obtain ⟨gb, hgb⟩ : ∃ gb, w.heap.size = gb := ⟨_, rfl⟩
  have HG : Hid (w.heap.size = gb) := hgb
  have B0 : Hid (Bel w wb) := (by rw [← hwb]; exact (Bel.refl _).alloc _ : Bel w wb)
  have BX := box_new w (C : Int) 16
  rw [hwb, hgb] at BX
  have XX : Hid (Box wb gb (C : Int) 16) := BX
  clear hwb hgb BX
  go_enter Try.func9, Try.ntmps9
  go_wp2_with fail
  rw [HW.out, HG.out]
  refine (M.out _).mono ?_
  rintro e w1 ⟨rfl, b1⟩
  have B1 : Hid (Bel wb w1) := b1
  obtain ⟨x1, x2⟩ := XX.out.bel b1
  clear b1
  go_wp2_with fail
  refine (FR.out _).mono ?_
  rintro e w2 ⟨rfl, b2⟩
  have B2 : Hid (Bel wb w2) := B1.out.trans b2
  obtain ⟨y1, y2⟩ := XX.out.bel B2.out
  clear b2 x1 x2 B1
  go_wp2
  clear y1 y2 hr hl2
  go_loopw [6, 8] (fun o i wr => ∃ (v : Value) (j : Nat), v = o ∧ j ≤ C ∧ i = .int .i64 (j : Int) ∧ Hid (∃ us, OwnsL wr wb.heap.size v us (R.take j)) ∧ Hid (Bel wb wr)) (fun _ i _ => C - (intOf i).toNat)
  case atStart => exact ⟨_, 0, rfl, Nat.zero_le _, rfl, ⟨[], ownsL_none _ _⟩, B2⟩
  case round =>
    obtain ⟨o, j, rfl, hj, rfl, ho, hb⟩ := hrel
    obtain ⟨y1, y2⟩ := XX.out.bel hb.out
    by_cases hlt : j < C
    · have hdj : decide ((j : Int) < (C : Int)) = true := decide_eq_true (by omega)
      obtain ⟨us, hus⟩ := ho.out
      have HU : Hid (OwnsL wr wb.heap.size o us (R.take j)) := hus
      clear hus ho
      go_wp2
      obtain ⟨W1, hW1⟩ : ∃ W, W = wr := ⟨_, rfl⟩
      subst hW1
      go_loopw [9, 10] (fun o i wr => ∃ (v : Value) (t a : Nat), v = o ∧ t ≤ m ∧ i = .int .i64 (a : Int) ∧ Hid (a = j * 2 + t * f) ∧ Hid (wr.ownsRow W1.heap.size 3 1 v t (vals ((R.getD j []).take t))) ∧ Hid (Bel W1 wr)) (fun _ i _ => s.size + f - (intOf i).toNat)
      case atStart => exact ⟨_, 0, j * 2, rfl, Nat.zero_le _, by go_num, (by simp : j * 2 = j * 2 + 0 * f), ⟨rfl, .inl ⟨rfl, rfl⟩⟩, Bel.refl _⟩
      case round =>
        obtain ⟨o2, t, a, rfl, ht, rfl, ha, ho2, hb2⟩ := hrel
        by_cases htm : t < m
        · have hatl := at_lt (q := 2) htm hlt
          have ea : a = (t * C + j) * 2 := by
            have := ha.out
            rw [this, ← HF.out.1, Nat.add_mul, Nat.mul_assoc]; omega
          have hal : a + 2 ≤ s.size := by rw [ea, HF.out.2.1, ← HF.out.1]; exact hatl
          have hda : decide (a < s.size) = true := decide_eq_true (by omega)
          have i1 := IX.out a (by omega)
          obtain ⟨z0, z1⟩ := byt_range L a
          have i2 : ∀ w, (Instr.index 9 (.string s) (.int .i64 ((a : Int) + 1))).run Try.prog w = .ok (.int .u8 (byt L (a + 1))) w := fun w => IX.out (a + 1) (by omega) w
          obtain ⟨u0, u1⟩ := byt_range L (a + 1)
          obtain ⟨z, hz⟩ : ∃ z, byt L a = z := ⟨_, rfl⟩
          obtain ⟨u, hu⟩ : ∃ u, byt L (a + 1) = u := ⟨_, rfl⟩
          rw [hz] at i1 z0 z1
          rw [hu] at i2 u0 u1
          have EA : Hid (a = (t * C + j) * 2 ∧ a + 2 ≤ s.size ∧ byt L a = z ∧ byt L (a + 1) = u) := ⟨ea, hal, hz, hu⟩
          clear ea hatl hz hu
          go_upto_region 14 with fail
          have HV0 : Hid (wrap64 (IntKind.i16.wrap (bits .or .u16 z (u * 256))) = (R.getD j []).getD t 0) := by
            show _ = _
            rw [(HR.out.2 j hlt).2 t htm, Byt.i16_join z u z0 z1 u0 u1, smpAt_2 L _ (by have := HF.out.2.2; have := EA.out; omega), ← EA.out.1, EA.out.2.2.1, EA.out.2.2.2]
          obtain ⟨y, hy⟩ : ∃ y, wrap64 (IntKind.i16.wrap (bits .or .u16 z (u * 256))) = y := ⟨_, rfl⟩
          have HYE : Hid (wrap64 (IntKind.i16.wrap (bits .or .u16 z (u * 256))) = y) := hy
          rw [hy] at HV0
          clear hy
          go_cut [11] from 55 to 67 (fun s wx => s = .int .i64 y ∧ ∃ q, wx = wr.drewN q)
          case first =>
            go_wp2_with fail
            go_quiet (fail)
            rw [HYE.out]
            go_wp2_with fail
            go_meet
            exact ⟨rfl, _, rfl⟩
          case rest =>
            obtain ⟨rfl, nq, hw⟩ := hcut
            have HY : Hid ((R.getD j []).take t ++ [y] = (R.getD j []).take (t + 1)) := (by rw [HV0.out]; exact take_snoc _ _ (by rw [(HR.out.2 j hlt).1]; exact htm) : (R.getD j []).take t ++ [y] = (R.getD j []).take (t + 1))
            have hb3 : Hid (Bel W1 wc) := hw ▸ hb2.out.drewN nq
            have ho3 : Hid (wc.ownsRow W1.heap.size 3 1 o2 t (vals ((R.getD j []).take t))) := (by rw [hw]; exact ho2.out : wc.ownsRow W1.heap.size 3 1 o2 t (vals ((R.getD j []).take t)))
            clear hw ho2 hb2
            have H8 : Hid (t * 8 ≤ 140737488351232 ∧ W1.heap.size ≤ wc.heap.size) := ⟨by omega, hb3.out.size⟩
            have HA2 : Hid (a + f = j * 2 + (t + 1) * f) := by
              show _ = _
              rw [ha.out, Nat.succ_mul]; omega
            have AL : Hid (a ≤ 4096) := (by omega : a ≤ 4096)
            go_wp2_with (at_builtin; refine wpl_more wc rfl (.tmp 68) (.tmp 70) rfl W1.heap.size t H8.out.2 o2 ((R.getD j []).take t) y rfl rfl ho3.out H8.out.1 ?_)
            intro v' w3 hv hb4
            have HV : Hid (w3.ownsRow W1.heap.size 3 1 v' (t + 1) (vals ((R.getD j []).take (t + 1)))) := by rw [← HY.out]; exact hv
            have B3 : Hid (Bel W1 w3) := Below.trans hb3.out hb4
            obtain ⟨q1, q2⟩ := XX.out.bel (hb.out.trans B3.out)
            clear hv hb4 y1 y2 i1 i2
            go_wp2_with fail
            refine (FR.out _).mono ?_
            rintro e w4 ⟨rfl, b4⟩
            have HV4 : Hid (w4.ownsRow W1.heap.size 3 1 v' (t + 1) (vals ((R.getD j []).take (t + 1)))) := Ints.owns_bel HV.out b4
            have B4 : Hid (Bel W1 w4) := B3.out.trans b4
            clear b4 q1 q2
            have al := AL.out
            go_wp2
            go_roundw
            case rel => exact ⟨_, t + 1, a + f, rfl, by omega, by go_num, HA2, HV4, B4⟩
            case measure => simp [intOf]; omega
        · obtain rfl : m = t := by omega
          have hda : decide (a < s.size) = false := decide_eq_false (by
            have := ha.out
            have := HF.out.2.1
            omega)
          have HY : Hid (wr.ownsRow W1.heap.size 3 1 o2 m (vals (R.getD j []))) := (by
            have := ho2.out
            rwa [← (HR.out.2 j hlt).1, List.take_length, (HR.out.2 j hlt).1] at this : wr.ownsRow W1.heap.size 3 1 o2 m (vals (R.getD j [])))
          have HU2 : Hid (OwnsL wr wb.heap.size o us (R.take j)) := HU.out.bel hb2.out
          have HT : Hid (j = (R.take j).length) := (by rw [List.length_take, HR.out.1]; omega : j = (R.take j).length)
          have SZ : Hid (wb.heap.size ≤ W1.heap.size ∧ wb.heap.size ≤ wr.heap.size) := ⟨hb.out.size, Nat.le_trans hb.out.size hb2.out.size⟩
          have HO : Hid (wr.ownsRow wb.heap.size 44 1 o j us) := (by have := HU2.out.1; rwa [← HT.out] at this)
          obtain ⟨yo, yc, rfl, -⟩ := owns_slc HY.out
          have j24 : j * 24 ≤ 140737488351232 := by omega
          go_wp2_with (at_builtin; refine wpl_moreL wr rfl (.tmp 72) (.tmp 74) rfl wb.heap.size j SZ.out.2 o us (.slice yo m yc) rfl rfl rfl HO.out j24 ?_)
          intro v' w3 hv he
          have HV : Hid (OwnsL w3 wb.heap.size v' (us ++ [.slice yo m yc]) (R.take (j + 1))) := by
            have hl := (HR.out.2 j hlt).1
            have := HU2.out.more (y := .slice yo m yc) (L := R.getD j []) (v' := v') (w' := w3) (by rw [hl]; exact owns_up HY.out SZ.out.1) (by rw [hl]; omega) (by rw [← HT.out]; exact hv) he
            rwa [take_snocL R j (by rw [HR.out.1]; exact hlt)] at this
          have B3 : Hid (Bel wb w3) := he.from (hb.out.trans hb2.out) (fun i hi => (own_oldL HO.out hi).1)
          clear hv he
          go_wp2
          go_roundw
          case rel => exact ⟨_, j + 1, rfl, by omega, by go_num, ⟨_, HV.out⟩, B3⟩
          case measure => simp [intOf]; omega
    · obtain rfl : C = j := by omega
      have hdj : decide ((C : Int) < (C : Int)) = false := decide_eq_false (by omega)
      obtain ⟨us, hus⟩ := ho.out
      have HU : Hid (OwnsL wr wb.heap.size o us R) := (by rwa [← HR.out.1, List.take_length] at hus)
      clear hus
      obtain ⟨ao, cp, rfl, -, l1⟩ := HU.out.lls
      have FIN : Hid (Lls wr ao R ∧ Bel w wr) := ⟨l1, B0.out.trans hb.out⟩
      rw [HR.out.1]
      clear l1 HU hb
      go_wp2
      go_ret2
      exact ⟨_, _, rfl, FIN.out⟩

/-- The reference's, of whatever text and format. -/
theorem rget_ok (c b : Int) (s : ByteArray) (L : List UInt8) (hs : s.data.toList = L) (hx : s.size ≤ maxLen) (w : World) :
    Calls Try.prog 9 #[.string s, fmt c b] w fun e w' => ∃ bo k cp, e = .returned (.tuple #[.slice bo k cp, .int .i64 (errGet c b L)]) ∧ k = (ansGet c b L).length ∧ k ≤ 2 ∧ Lls w' bo (ansGet c b L) ∧ Bel w w' := by
  cases h : okGet c b L
  · refine (rget_no c b s L hs hx h w).mono ?_
    rintro e w1 ⟨rfl, b1⟩
    unfold ansGet errGet
    rw [h]
    exact ⟨none, 0, 0, rfl, rfl, by omega, lls_nil _ _, b1⟩
  · unfold ansGet errGet
    rw [h]
    unfold okGet at h
    rw [Bool.and_eq_true, Bool.and_eq_true, decide_eq_true_eq, decide_eq_true_eq] at h
    obtain ⟨h1, h2, h3, h4⟩ := okF_nat h.1
    have hm := div_facts (Nat.mul_pos (by omega) (by omega) : 0 < fC c * fQ b) h.2.2
    have fin : ∀ e w', (∃ ao cp, e = Ending.returned (.tuple #[.slice ao (fC c) cp, .int .i64 0]) ∧ Lls w' ao (rows (fC c) (fQ b) L) ∧ Bel w w') → ∃ bo k cp, e = Ending.returned (.tuple #[.slice bo k cp, .int .i64 (if true then 0 else 1900)]) ∧ k = (if true then rows (fC c) (fQ b) L else []).length ∧ k ≤ 2 ∧ Lls w' bo (if true then rows (fC c) (fQ b) L else []) ∧ Bel w w' := by
      rintro e w1 ⟨ao, cp, rfl, l1, b1⟩
      simp only [if_true]
      exact ⟨ao, _, cp, rfl, (rows_length _ _ _).symm, by omega, l1, b1⟩
    refine Calls.mono ?_ fin
    rcases h2 with q | q
    · have G := rget_one (fC c) (L.length / (fC c * fQ b)) h1 s L hs (by rw [q] at hm ⊢; exact hm.symm) h.2.1 w
      rw [← h3] at G
      rw [q, Int.ofNat_one, Int.mul_one] at h4
      unfold rows
      rw [h4]
      rw [h4] at G
      exact G
    · have G := rget_two (fC c) (L.length / (fC c * fQ b)) h1 s L hs (by rw [q] at hm ⊢; exact hm.symm) h.2.1 w
      rw [← h3] at G
      rw [q] at h4
      have h5 : b = 16 := h4
      unfold rows
      rw [h5]
      rw [h5] at G
      exact G

end Go.Proofs.Ytpakcajdbibbbaa.Pcm
