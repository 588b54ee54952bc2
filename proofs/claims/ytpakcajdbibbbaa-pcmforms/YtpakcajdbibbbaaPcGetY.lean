/-
  The contract of pcm.Get where the format may be and the bytes are frames: each channel's samples, each in a block of its own. No condition more.
-/
import Derived.Test.YtpakcajdbibbbaaPcGet
import Derived.Test.YtpakcajdbibbbaaPcMade
namespace Go.Proofs.Ytpakcajdbibbbaa.Pcm
open Go.RowKit Go.Sort Go.Proofs.Ytpakcajdbibbbaa.Mod Go.Proofs.Ytpakcajdbibbbaa.Num Go.Proofs.Ytpakcajdbibbbaa.Sid
set_option linter.unusedVariables false
set_option linter.unusedSimpArgs false

set_option maxRecDepth 20000 in
set_option maxHeartbeats 1000000 in
theorem get_yes (C q m : Nat) (b : Int) (hC : C = 1 ∨ C = 2) (hq : q = 1 ∧ b = 8 ∨ q = 2 ∧ b = 16) (s : ByteArray) (L : List UInt8) (hs : s.data.toList = L) (hm : L.length = m * (C * q)) (hx : L.length ≤ 4096) (w : World) :
    Calls Try.prog 8 #[.string s, fmt (C : Int) b] w fun e w' => ∃ g, e = .returned (.tuple #[.slice (some ⟨g, 0, none⟩) C C, .int .i64 0]) ∧ OwnL w' w.heap.size w'.heap.size (some ⟨g, 0, none⟩) ((List.range C).map fun j => (List.range m).map fun k => smpAt q L (k * C + j)) ∧ Bel w w' := by
  have hok : okF (C : Int) b = true := by rcases hC with rfl | rfl <;> rcases hq with ⟨_, rfl⟩ | ⟨_, rfl⟩ <;> rfl
  have hfq : fQ b = q := by rcases hq with ⟨rfl, rfl⟩ | ⟨rfl, rfl⟩ <;> rfl
  have hn : s.size = L.length := by rw [← hs, Array.length_toList]; rfl
  have hf : 0 < C * q ∧ C * q ≤ 4 := by rcases hC with rfl | rfl <;> rcases hq with ⟨rfl, _⟩ | ⟨rfl, _⟩ <;> decide
  have M : Hid (∀ w, Calls Try.prog 14 #[fmt (C : Int) b] w fun e w' => e = .returned (.bool true) ∧ Bel w w') := fun w => hok ▸ may_ok (C : Int) b w
  have FR : Hid (∀ w, Calls Try.prog 19 #[fmt (C : Int) b] w fun e w' => e = .returned (.int .i64 ((C * q : Nat) : Int)) ∧ Bel w w') := fun w => by
    have := frame_ok (C : Int) b hok w
    rwa [hfq] at this
  have BY : Hid (∀ w, Calls Try.prog 21 #[.int .i64 b] w fun e w' => e = .returned (.int .i64 (q : Int)) ∧ w' = w) := fun w => by
    have := bytes_ok b (by omega) w
    rwa [hfq] at this
  have SM : Hid (∀ u : Int, 0 ≤ u → u < 65536 → ∀ w, Calls Try.prog 22 #[.int .i64 b, .int .i64 u] w fun e w' => e = .returned (.int .i64 (smp q u)) ∧ w' = w) := fun u h0 h1 w => by
    have := sample_ok b u (by omega) h0 h1 w
    rwa [hfq] at this
  have BX : Hid (∀ w1, Bel (w.alloc (.cells #[.int .i64 (C : Int), .int .i64 b] 24)) w1 → Box w1 w.heap.size (C : Int) b) := fun w1 k => (box_new w (C : Int) b).bel k
  have BW : Hid (∀ w1, Bel (w.alloc (.cells #[.int .i64 (C : Int), .int .i64 b] 24)) w1 → Bel w w1) := fun w1 k => ((Bel.refl _).alloc _).trans k
  have HS : Hid (s.data.toList = L ∧ L.length = m * (C * q)) := ⟨hs, hm⟩
  have CQ : Hid ((C = 1 ∨ C = 2) ∧ (q = 1 ∨ q = 2)) := ⟨hC, by omega⟩
  obtain ⟨f, hfe⟩ : ∃ f, C * q = f := ⟨_, rfl⟩
  rw [hfe] at FR hf
  have hmn : s.size = m * f := by rw [hn, hm, hfe]
  have hm4 : m ≤ 4096 := by
    have : m * 1 ≤ m * f := Nat.mul_le_mul_left m hf.1
    omega
  have hz : ((f : Int) == 0) = false := by simp; omega
  have hr : ((s.size : Int) % (f : Int) != 0) = false := by rw [rem_nat, hmn, decide_eq_true (Nat.mul_mod_left m f)]; rfl
  have hd : (s.size : Int) / (f : Int) = (m : Int) := by
    have : s.size / f = m := by rw [hmn]; exact Nat.mul_div_cancel m hf.1
    rw [← this]; rfl
  have hl2 : decide ((4096 : Int) < (s.size : Int)) = false := decide_eq_false (by omega)
  have C0 : 1 ≤ C ∧ C ≤ 2 := by omega
  have hmkC : ∀ w, (Instr.makeSlice 22 (.int .i64 (C : Int)) (.int .i64 (C : Int))).run Try.prog w = .ok (.slice (some ⟨w.heap.size, 0, none⟩) C C) (w.alloc (.cells (madeCells #[.slice none 0 0] C) 44)) := fun w => mk_rows C (by omega) w
  have hmk : ∀ w, (Instr.makeSlice 44 (.int .i64 (m : Int)) (.int .i64 (m : Int))).run Try.prog w = .ok (.slice (some ⟨w.heap.size, 0, none⟩) m m) (w.alloc (.cells (vals (List.replicate m 0)).toArray 3)) := fun w => mk_row m (by omega) w
  clear hs hm hok hfq hn hmn hfe hC hq hx
  obtain ⟨wb, hwb⟩ : ∃ wb, w.alloc (.cells #[.int .i64 (C : Int), .int .i64 b] 24) = wb := ⟨_, rfl⟩
  have HW : Hid (w.alloc (.cells #[.int .i64 (C : Int), .int .i64 b] 24) = wb) := hwb
  have SZ : Hid (w.heap.size ≤ wb.heap.size) := (by rw [← hwb]; simp : w.heap.size ≤ wb.heap.size)
  rw [hwb] at BX BW
  obtain ⟨gb, hgb⟩ : ∃ gb, w.heap.size = gb := ⟨_, rfl⟩
  rw [hgb] at BX
  have HG : Hid (w.heap.size = gb) := hgb
  clear hwb hgb
  go_enter Try.func8, Try.ntmps8
  go_wp2_with fail
  rw [HW.out, HG.out]
  refine (M.out _).mono ?_
  rintro e w1 ⟨rfl, b1⟩
  have B1 : Hid (Bel wb w1) := b1
  obtain ⟨x1, x2⟩ := BX.out _ b1
  clear b1
  go_wp2_with fail
  refine (FR.out _).mono ?_
  rintro e w2 ⟨rfl, b2⟩
  have B2 : Hid (Bel wb w2) := B1.out.trans b2
  obtain ⟨y1, y2⟩ := BX.out _ B2.out
  clear b2 x1 x2 B1
  go_wp2
  obtain ⟨W0, hW0⟩ : ∃ W, W = w2.alloc (.cells (madeCells #[.slice none 0 0] C) 44) := ⟨_, rfl⟩
  obtain ⟨G, hG⟩ : ∃ G, G = w2.heap.size := ⟨_, rfl⟩
  have L0 : Hid (Chs wb W0 G C m 0 (fun _ => 0) (fun _ => List.replicate m 0)) := (by rw [hW0, hG]; exact chs_start wb w2 C m _ _ B2.out : Chs wb W0 G C m 0 (fun _ => 0) (fun _ => List.replicate m 0))
  rw [← hW0, ← hG]
  clear hW0 hG y1 y2 B2
  go_loopw [37] (fun i wr => ∃ j : Nat, j ≤ C ∧ i = .int .i64 (j : Int) ∧ Hid (∃ h, Chs wb wr G C m j h (fun _ => List.replicate m 0))) (fun i _ => C - (intOf i).toNat)
  case atStart => exact ⟨0, Nat.zero_le _, rfl, ⟨_, L0.out⟩⟩
  case round =>
    obtain ⟨j, hj, rfl, hL⟩ := hrel
    by_cases hlt : j < C
    · have hdj : decide ((j : Int) < (C : Int)) = true := decide_eq_true (by omega)
      obtain ⟨h, hh⟩ := hL.out
      obtain ⟨y1, y2⟩ := BX.out _ hh.bel
      have HH : Hid (Chs wb wr G C m j h (fun _ => List.replicate m 0)) := hh
      clear hh hL
      go_wp2_with fail
      refine (FR.out _).mono ?_
      rintro e w3 ⟨rfl, b3⟩
      have H3 : Hid (Chs wb w3 G C m j h (fun _ => List.replicate m 0)) := HH.out.more hj b3
      have c0 := H3.out.todo j (Nat.le_refl _) hlt
      have c2 := H3.out.free j hlt
      have hca : ∀ o, (w3.alloc o).cell? ⟨G, j, none⟩ = some (.slice none 0 0) := fun o => ((Bel.refl w3).alloc o).keep c0
      have hfa : ∀ o, (w3.alloc o).frozen? ⟨G, j, none⟩ = false := fun o => Bel.free ((Bel.refl w3).alloc o) c0 c2
      clear b3 HH y1 y2
      go_wp2
      go_roundw
      case rel => exact ⟨j + 1, by omega, by go_num, (⟨_, H3.out.step hlt rfl⟩ : ∃ h, Chs wb _ G C m (j + 1) h (fun _ => List.replicate m 0))⟩
      case measure => simp [intOf]; omega
    · obtain rfl : C = j := by omega
      have hdj : decide ((C : Int) < (C : Int)) = false := decide_eq_false (by omega)
      obtain ⟨h, hh⟩ := hL.out
      have d1 := (hh.done 0 (by omega)).1
      have H1 : Hid (Chs wb wr G C m C h (fun i => part m 0 (fun t => smpAt q L (t * C + i)))) := hh.congr (fun i => part_none _ _)
      have S0 : Hid (s.data.toList = L.drop (0 * C * q)) := (by rw [HS.out.1]; simp : s.data.toList = L.drop (0 * C * q))
      clear hh hL L0 hd hr hl2 hmk hmkC
      go_wp2
      clear d1
      obtain ⟨W1, hW1⟩ : ∃ W, W = wr := ⟨_, rfl⟩
      subst hW1
      go_loopw [0, 54] (fun d i wr => ∃ (s1 : ByteArray) (k : Nat), d = .string s1 ∧ k ≤ m ∧ i = .int .i64 (k : Int) ∧ Hid (s1.data.toList = L.drop (k * C * q)) ∧ Hid (Chs wb wr G C m C h (fun i => part m k (fun t => smpAt q L (t * C + i))))) (fun _ i _ => m - (intOf i).toNat)
      case atStart => exact ⟨s, 0, rfl, Nat.zero_le _, rfl, S0, H1⟩
      case round =>
        obtain ⟨s1, k, rfl, hk, rfl, hs1, h2⟩ := hrel
        by_cases hkt : k < m
        · have hdk : decide ((k : Int) < (m : Int)) = true := decide_eq_true (by omega)
          have H2 : Hid (Chs wb wr G C m C h (fun i => part m (if i < 0 then k + 1 else k) (fun t => smpAt q L (t * C + i)))) := h2
          have S2 : Hid (s1.data.toList = L.drop ((k * C + 0) * q)) := hs1
          clear h2 hs1
          go_wp2
          go_loopw [0, 59] (fun d i wr => ∃ (s1 : ByteArray) (j : Nat), d = .string s1 ∧ j ≤ C ∧ i = .int .i64 (j : Int) ∧ Hid (s1.data.toList = L.drop ((k * C + j) * q)) ∧ Hid (Chs wb wr G C m C h (fun i => part m (if i < j then k + 1 else k) (fun t => smpAt q L (t * C + i))))) (fun _ i _ => C - (intOf i).toNat)
          case atStart => exact ⟨s1, 0, rfl, Nat.zero_le _, rfl, S2, H2⟩
          case round =>
            obtain ⟨s2, j, rfl, hj, rfl, hs2, h2⟩ := hrel
            by_cases hjt : j < C
            · have hdj : decide ((j : Int) < (C : Int)) = true := decide_eq_true (by omega)
              obtain ⟨d1, d2, d3, d4, d5, d6⟩ := h2.out.done j hjt
              obtain ⟨B, hB⟩ : ∃ B, h j = B := ⟨_, rfl⟩
              rw [hB] at d1 d5
              have HB : Hid (h j = B) := hB
              have c0 : wr.cell? ⟨B, k, none⟩ = some (.int .i64 ((part m (if j < j then k + 1 else k) (fun t => smpAt q L (t * C + j))).getD k 0)) := d5.cell k (by rw [d6]; exact hkt)
              have c2 := d5.free k (by rw [d6]; exact hkt)
              obtain ⟨z, hz0⟩ : ∃ z, (part m (if j < j then k + 1 else k) (fun t => smpAt q L (t * C + j))).getD k 0 = z := ⟨_, rfl⟩
              rw [hz0] at c0
              clear hz0 d2 d3 d4 d5 d6 hB
              have hsz : s2.size = L.length - (k * C + j) * q := by
                have : s2.size = s2.data.toList.length := by rw [Array.length_toList]; rfl
                rw [this, hs2.out, List.length_drop]
              have hat := at_lt (q := q) hkt hjt
              have hq1 : q ≤ s2.size := by rw [hsz, HS.out.2]; omega
              have hq2 : (q : Int) ≤ (s2.size : Int) := by omega
              go_wp2_with fail
              refine (BY.out _).mono ?_
              rintro e w3 ⟨rfl, rfl⟩
              have he : (s2.extract 0 q).data.toList = (L.drop ((k * C + j) * q)).take q := by rw [ext_take, hs2.out]
              have hes : (s2.extract 0 q).size = q := by
                have : (s2.extract 0 q).size = (s2.extract 0 q).data.toList.length := by rw [Array.length_toList]; rfl
                rw [this, he, List.length_take, List.length_drop]
                omega
              have F : Hid (∀ w, Calls Try.prog 20 #[.string (s2.extract 0 q)] w fun e w' => e = .returned (.tuple #[.int .i64 (num ((L.drop ((k * C + j) * q)).take q)), .int .i64 0]) ∧ w' = w) := fun w => by
                rw [← he]
                exact Field.get_ok _ (by rw [hes]; have := CQ.out.2; omega) (by rw [hes]; have := CQ.out.2; omega) w
              have hu0 := num_nonneg ((L.drop ((k * C + j) * q)).take q)
              have hu1 : num ((L.drop ((k * C + j) * q)).take q) < 65536 := by
                have h1 := num_lt ((L.drop ((k * C + j) * q)).take q)
                rw [← he] at h1 ⊢
                rw [show (s2.extract 0 q).data.toList.length = q by rw [Array.length_toList]; exact hes] at h1
                have hp : (256 : Int) ^ q ≤ 65536 := by rcases CQ.out.2 with e | e <;> rw [e] <;> decide
                exact Int.lt_of_lt_of_le h1 hp
              have S3 : Hid ((s2.extract q s2.size).data.toList = L.drop ((k * C + (j + 1)) * q)) := by
                show _ = _
                rw [ext_drop, hs2.out, List.drop_drop]
                congr 1
                rw [← Nat.add_assoc, Nat.succ_mul]
              have SV := SM.out _ hu0 hu1
              have hv : smp q (num ((L.drop ((k * C + j) * q)).take q)) = smpAt q L (k * C + j) := rfl
              rw [hv] at SV
              obtain ⟨u, hu⟩ : ∃ u, num ((L.drop ((k * C + j) * q)).take q) = u := ⟨_, rfl⟩
              rw [hu] at F SV
              obtain ⟨v, hv2⟩ : ∃ v, smpAt q L (k * C + j) = v := ⟨_, rfl⟩
              rw [hv2] at SV
              have SV2 : Hid (∀ w, Calls Try.prog 22 #[.int .i64 b, .int .i64 u] w fun e w' => e = .returned (.int .i64 v) ∧ w' = w) := SV
              have P : Hid (Chs wb (w3.setCell ⟨B, k, none⟩ (.int .i64 v)) G C m C h (fun i => part m (if i < j + 1 then k + 1 else k) (fun t => smpAt q L (t * C + i)))) := by
                have := h2.out.put (R' := fun i => part m (if i < j + 1 then k + 1 else k) (fun t => smpAt q L (t * C + i))) (x := v) hjt hkt (by
                  simp only [Nat.lt_irrefl, if_false, Nat.lt_succ_self, if_true]
                  rw [← hv2]
                  exact (part_set m k (fun t => smpAt q L (t * C + j)) hkt).symm) (fun i hi => by
                  by_cases r : i < j
                  · simp only [r, if_true, Nat.lt_succ_of_lt r]
                  · show part m (if i < j + 1 then k + 1 else k) _ = part m (if i < j then k + 1 else k) _
                    rw [if_neg r, if_neg (by omega)])
                rwa [HB.out] at this
              clear he hes hu0 hu1 SV hv hu hv2 h2 hs2 hsz hat HB
              go_wp2_with fail
              refine (F.out _).mono ?_
              rintro e w4 ⟨rfl, rfl⟩
              go_wp2_with fail
              refine (SV2.out _).mono ?_
              rintro e w5 ⟨rfl, rfl⟩
              go_wp2_with fail
              refine (BY.out _).mono ?_
              rintro e w6 ⟨rfl, hw6⟩
              subst hw6
              go_wp2
              go_roundw
              case rel => exact ⟨_, j + 1, rfl, by omega, by go_num, S3, P⟩
              case measure => simp [intOf]; omega
            · obtain rfl : C = j := by omega
              have hdj : decide ((C : Int) < (C : Int)) = false := decide_eq_false (by omega)
              have H4 : Hid (Chs wb wr G C m C h (fun i => part m (k + 1) (fun t => smpAt q L (t * C + i)))) := by
                refine ⟨h2.out.bel, h2.out.lt, fun i hi => ?_, h2.out.todo, h2.out.free⟩
                have := h2.out.done i hi
                simp only [hi, if_true] at this
                exact this
              have S4 : Hid (s2.data.toList = L.drop ((k + 1) * C * q)) := by
                show _ = _
                rw [hs2.out, Nat.succ_mul k C]
              clear hs2 h2
              go_wp2
              go_roundw
              case rel => exact ⟨_, k + 1, rfl, by omega, by go_num, S4, H4⟩
              case measure => simp [intOf]; omega
        · obtain rfl : m = k := by omega
          have hdk : decide ((m : Int) < (m : Int)) = false := decide_eq_false (by omega)
          have FIN : Hid (OwnL wr w.heap.size wr.heap.size (some ⟨G, 0, none⟩) ((List.range C).map fun j => (List.range m).map fun k => smpAt q L (k * C + j)) ∧ Bel w wr) := by
            refine ⟨?_, BW.out _ h2.out.bel⟩
            have := lowerL (h2.out.own (by omega)) SZ.out
            simp only [part_all] at this
            exact this
          clear h2 hs1
          go_wp2
          go_ret2
          exact ⟨_, rfl, FIN.out⟩

/-- Get, of whatever text and format. -/
theorem get_ok (c b : Int) (s : ByteArray) (L : List UInt8) (hs : s.data.toList = L) (hx : s.size ≤ maxLen) (w : World) :
    Calls Try.prog 8 #[.string s, fmt c b] w fun e w' => ∃ bo k cp, e = .returned (.tuple #[.slice bo k cp, .int .i64 (errGet c b L)]) ∧ k = (ansGet c b L).length ∧ k ≤ 2 ∧ OwnL w' w.heap.size w'.heap.size bo (ansGet c b L) ∧ Bel w w' := by
  cases h : okGet c b L
  · refine (get_no c b s L hs hx h w).mono ?_
    rintro e w1 ⟨rfl, b1⟩
    unfold ansGet errGet
    rw [h]
    exact ⟨none, 0, 0, rfl, rfl, by omega, ownL_nil _ _ _ _, b1⟩
  · unfold ansGet errGet
    rw [h]
    unfold okGet at h
    rw [Bool.and_eq_true, Bool.and_eq_true, decide_eq_true_eq, decide_eq_true_eq] at h
    obtain ⟨h1, h2, h3, h4⟩ := okF_nat h.1
    have hm := div_facts (Nat.mul_pos (by omega) (by omega) : 0 < fC c * fQ b) h.2.2
    have G := get_yes (fC c) (fQ b) (L.length / (fC c * fQ b)) b h1 (by omega) s L hs hm.symm h.2.1 w
    rw [← h3] at G
    refine G.mono ?_
    rintro e w1 ⟨g, rfl, o1, b1⟩
    simp only [if_true]
    exact ⟨some ⟨g, 0, none⟩, _, _, rfl, (rows_length _ _ _).symm, by omega, o1, b1⟩

end Go.Proofs.Ytpakcajdbibbbaa.Pcm
