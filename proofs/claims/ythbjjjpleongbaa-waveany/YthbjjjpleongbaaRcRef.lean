/-
  The contract of the reference's Chunks. Condition: the text's length is an int.
-/
import Derived.Test.YthbjjjpleongbaaRcChunks
import Derived.Test.YthbjjjpleongbaaGRef
import Derived.Lib.QuietBelow
import Derived.BigQuiet
namespace Go.Proofs.Ythbjjjpleongbaa.Chk
open Go.RowKit Go.Sort Go.Proofs.Ythbjjjpleongbaa.Mod Go.Proofs.Ythbjjjpleongbaa.Num
set_option linter.unusedVariables false
set_option linter.unusedSimpArgs false

/-- k bytes of x, the lowest first. -/
def lw (k : Nat) (x : Int) : List UInt8 := (low k x).map fun n => UInt8.ofNat n.toNat
theorem lw_length (k : Nat) (x : Int) : (lw k x).length = k := by unfold lw; rw [List.length_map, low_length]
theorem num_lw (k : Nat) (x : Int) (h0 : 0 ≤ x) (h1 : x < 256 ^ k) : num (lw k x) = x := num_low k x h0 h1
theorem lw_num (k : Nat) (l : List UInt8) (h : l.length = k) : lw k (num l) = l := by subst h; exact low_num l
theorem eq_lw (l : List UInt8) (hl : l.length = 4) (x : Int) (h0 : 0 ≤ x) (h1 : x < 4294967296) : (l == lw 4 x) = decide (num l = x) := by
  rw [Bool.eq_iff_iff, beq_iff_eq, decide_eq_true_eq]
  constructor
  · rintro rfl; exact num_lw 4 x h0 (by omega)
  · rintro rfl; exact (lw_num 4 l hl).symm
theorem low4_ok (x : Int) (h0 : 0 ≤ x) (h1 : x < 4294967296) (w : World) :
    Calls Try.prog 16 #[.int .i64 x, .int .i64 4] w fun e w' => e = .returned (.string (tx (lw 4 x))) ∧ Bel w w' := by
  have h := Ref.low4 x h0 h1 w
  rw [Field.low_at4 x h0 h1] at h
  exact h
theorem and1 (n : Int) : bits .and .i64 n 1 = n % 2 := and_mask 1 1 (by decide) (by decide) n

set_option maxHeartbeats 2000000 in
theorem ref_no (s : ByteArray) (L : List UInt8) (hs : s.data.toList = L) (hx : s.size ≤ maxLen) (h : isWav L = false) (w : World) :
    Calls Try.prog 15 #[.string s] w fun e w' => e = .returned (.tuple #[.slice none 0 0, .int .i64 2000]) ∧ Bel w w' := by
  have hn := size_len s L hs
  unfold maxLen at hx
  unfold isWav at h
  by_cases h12 : 12 ≤ L.length
  · by_cases h4 : L.length ≤ 4096
    · rw [decide_eq_true h12, decide_eq_true h4, Bool.true_and, Bool.true_and] at h
      have hd1 : decide ((s.size : Int) < 12) = false := decide_eq_false (by omega)
      have hd2 : decide (4096 < (s.size : Int)) = false := decide_eq_false (by omega)
      have LW : Hid (∀ w, Calls Try.prog 16 #[.int .i64 ((s.size : Int) - 8), .int .i64 4] w fun e w' => e = .returned (.string (tx (lw 4 ((s.size : Int) - 8)))) ∧ Bel w w') := fun w => low4_ok _ (by omega) (by omega) w
      have e0 : s.extract 0 4 = tx (L.take 4) := ba_eq (by rw [ext_mid, hs]; rfl)
      have e4 : s.extract 4 8 = tx ((L.drop 4).take 4) := ba_eq (by rw [ext_mid, hs])
      have e8 : s.extract 8 12 = tx ((L.drop 8).take 4) := ba_eq (by rw [ext_mid, hs])
      have c0 : (L.take 4 == [82, 73, 70, 70]) = decide (L.take 4 = [82, 73, 70, 70]) := by rw [Bool.eq_iff_iff, beq_iff_eq, decide_eq_true_eq]
      have c4 : ((L.drop 4).take 4 == lw 4 ((s.size : Int) - 8)) = decide (num ((L.drop 4).take 4) = ((L.length - 8 : Nat) : Int)) := by
        rw [eq_lw _ (by rw [List.length_take, List.length_drop]; omega) _ (by omega) (by omega)]
        congr 1
        rw [hn, eq_iff_iff]
        omega
      have c8 : ((L.drop 8).take 4 == [87, 65, 86, 69]) = decide ((L.drop 8).take 4 = [87, 65, 86, 69]) := by rw [Bool.eq_iff_iff, beq_iff_eq, decide_eq_true_eq]
      have z12 : 12 ≤ s.size := by omega
      have z4 : s.size ≤ 4096 := by omega
      generalize decide (L.take 4 = [82, 73, 70, 70]) = r0 at *
      generalize decide (num ((L.drop 4).take 4) = ((L.length - 8 : Nat) : Int)) = r4 at *
      generalize decide ((L.drop 8).take 4 = [87, 65, 86, 69]) = r8 at *
      clear hs hn h12 h4
      generalize L.take 4 = l0 at *
      generalize (L.drop 4).take 4 = l4 at *
      generalize (L.drop 8).take 4 = l8 at *
      generalize lw 4 ((s.size : Int) - 8) = m4 at *
      cases r0
      · go_enter Try.func15, Try.ntmps15
        go_wp2
        refine wp_region_quiet_below (by kernel_rfl) (by kernel_rfl) ?_
        repeat (go_big_quiet_step ((go_at_call 16; with_reducible exact Calls.regrown_of (LW.out _))))
        refine wpQuiet_nil ?_
        intro _ hw'
        obtain ⟨⟨dq, osq⟩, hw''⟩ := hw'
        subst hw''
        go_wp2
        go_ret2
        exact ⟨rfl, below_regrown w dq osq⟩
      · cases r4
        · go_enter Try.func15, Try.ntmps15
          go_wp2
          refine wp_region_quiet_below (by kernel_rfl) (by kernel_rfl) ?_
          repeat (go_big_quiet_step ((go_at_call 16; with_reducible exact Calls.regrown_of (LW.out _))))
          refine wpQuiet_nil ?_
          intro _ hw'
          obtain ⟨⟨dq, osq⟩, hw''⟩ := hw'
          subst hw''
          go_wp2
          go_ret2
          exact ⟨rfl, below_regrown w dq osq⟩
        · cases r8
          · go_enter Try.func15, Try.ntmps15
            go_wp2
            refine wp_region_quiet_below (by kernel_rfl) (by kernel_rfl) ?_
            repeat (go_big_quiet_step ((go_at_call 16; with_reducible exact Calls.regrown_of (LW.out _))))
            refine wpQuiet_nil ?_
            intro _ hw'
            obtain ⟨⟨dq, osq⟩, hw''⟩ := hw'
            subst hw''
            go_wp2
            go_ret2
            exact ⟨rfl, below_regrown w dq osq⟩
          · cases h
    · have hd1 : decide ((s.size : Int) < 12) = false := decide_eq_false (by omega)
      have hd2 : decide (4096 < (s.size : Int)) = true := decide_eq_true (by omega)
      have LW : Hid True := trivial
      clear hs hn h12 h4 h
      go_enter Try.func15, Try.ntmps15
      go_wp2
      refine wp_region_quiet_below (by kernel_rfl) (by kernel_rfl) ?_
      repeat (go_big_quiet_step (fail))
      refine wpQuiet_nil ?_
      intro _ hw'
      obtain ⟨⟨dq, osq⟩, hw''⟩ := hw'
      subst hw''
      go_wp2
      go_ret2
      exact ⟨rfl, below_regrown w dq osq⟩
  · have hd1 : decide ((s.size : Int) < 12) = true := decide_eq_true (by omega)
    have LW : Hid True := trivial
    clear hs hn h12 h
    go_enter Try.func15, Try.ntmps15
    go_wp2
    refine wp_region_quiet_below (by kernel_rfl) (by kernel_rfl) ?_
    repeat (go_big_quiet_step (fail))
    refine wpQuiet_nil ?_
    intro _ hw'
    obtain ⟨⟨dq, osq⟩, hw''⟩ := hw'
    subst hw''
    go_wp2
    go_ret2
    exact ⟨rfl, below_regrown w dq osq⟩

set_option maxHeartbeats 2000000 in
theorem ref_yes (s : ByteArray) (L : List UInt8) (hs : s.data.toList = L) (hx : s.size ≤ maxLen) (h : isWav L = true) (w : World) :
    Calls Try.prog 15 #[.string s] w fun e w' => Told w.heap.size (run L 12 []) e w' ∧ Bel w w' := by
  have hn := size_len s L hs
  have hx2 := hx
  unfold maxLen at hx2
  unfold isWav at h
  rw [Bool.and_eq_true, Bool.and_eq_true, decide_eq_true_eq, decide_eq_true_eq] at h
  obtain ⟨h12, h4, h⟩ := h
  have N : Hid (s.size = L.length) := hn
  have G : Hid (∀ (p : Nat) w, p + 8 ≤ L.length → Calls Try.prog 25 #[.string (s.extract (p + 4) (p + 8))] w fun e w' => e = .returned (.tuple #[.int .i64 ((csz L p : Nat) : Int), .int .i64 0]) ∧ w' = w) := fun p w hp => by
    have e1 : (s.extract (p + 4) (p + 8)).data.toList = (L.drop (p + 4)).take 4 := by rw [ext_mid, hs, show p + 8 - (p + 4) = 4 by omega]
    have z1 := size_len _ _ e1
    have hl : (List.take 4 (List.drop (p + 4) L)).length = 4 := by rw [List.length_take, List.length_drop]; omega
    have hnum : num (s.extract (p + 4) (p + 8)).data.toList = ((csz L p : Nat) : Int) := by
      rw [e1]
      unfold csz
      have := num_nonneg ((L.drop (p + 4)).take 4)
      omega
    rw [← hnum]
    exact Ref.get_ok _ (by omega) (by omega) w
  have X : Hid (∀ p : Nat, s.extract p (p + 4) = tx (cid L p)) := fun p => ba_eq (by rw [ext_mid, hs, show p + 4 - p = 4 by omega]; rfl)
  obtain ⟨B, hB⟩ : ∃ B, B = w.heap.size := ⟨_, rfl⟩
  have HB : Hid (B = w.heap.size) := hB
  rw [← hB]
  clear hB
  obtain ⟨R, hR⟩ : ∃ R, run L 12 [] = R := ⟨_, rfl⟩
  rw [hR]
  have HR : Hid (run L 12 [] = R) := hR
  clear hR
  obtain ⟨r0, r4, r8, hr0, hr4, hr8⟩ : ∃ r0 r4 r8 : Bool, r0 = true ∧ r4 = true ∧ r8 = true := ⟨true, true, true, rfl, rfl, rfl⟩
  have hd1 : decide ((s.size : Int) < 12) = false := decide_eq_false (by omega)
  have hd2 : decide (4096 < (s.size : Int)) = false := decide_eq_false (by omega)
  have LW : Hid (∀ w, Calls Try.prog 16 #[.int .i64 ((s.size : Int) - 8), .int .i64 4] w fun e w' => e = .returned (.string (tx (lw 4 ((s.size : Int) - 8)))) ∧ Bel w w') := fun w => low4_ok _ (by omega) (by omega) w
  have e0 : s.extract 0 4 = tx (L.take 4) := ba_eq (by rw [ext_mid, hs]; rfl)
  have e4 : s.extract 4 8 = tx ((L.drop 4).take 4) := ba_eq (by rw [ext_mid, hs])
  have e8 : s.extract 8 12 = tx ((L.drop 8).take 4) := ba_eq (by rw [ext_mid, hs])
  have c0 : (L.take 4 == [82, 73, 70, 70]) = decide (L.take 4 = [82, 73, 70, 70]) := by rw [Bool.eq_iff_iff, beq_iff_eq, decide_eq_true_eq]
  have c4 : ((L.drop 4).take 4 == lw 4 ((s.size : Int) - 8)) = decide (num ((L.drop 4).take 4) = ((L.length - 8 : Nat) : Int)) := by
    rw [eq_lw _ (by rw [List.length_take, List.length_drop]; omega) _ (by omega) (by omega)]
    congr 1
    rw [hn, eq_iff_iff]
    omega
  have c8 : ((L.drop 8).take 4 == [87, 65, 86, 69]) = decide ((L.drop 8).take 4 = [87, 65, 86, 69]) := by rw [Bool.eq_iff_iff, beq_iff_eq, decide_eq_true_eq]
  have z12 : 12 ≤ s.size := by omega
  have z4 : s.size ≤ 4096 := by omega
  generalize decide (L.take 4 = [82, 73, 70, 70]) = q0 at *
  generalize decide (num ((L.drop 4).take 4) = ((L.length - 8 : Nat) : Int)) = q4 at *
  generalize decide ((L.drop 8).take 4 = [87, 65, 86, 69]) = q8 at *
  rw [Bool.and_eq_true, Bool.and_eq_true] at h
  obtain ⟨rfl, rfl, rfl⟩ := h
  clear hs hn h12 h4 hr0 hr4 hr8 r0 r4 r8 hx hx2
  generalize L.take 4 = l0 at *
  generalize (L.drop 4).take 4 = l4 at *
  generalize (L.drop 8).take 4 = l8 at *
  generalize lw 4 ((s.size : Int) - 8) = m4 at *
  have K1 := and1
  go_enter Try.func15, Try.ntmps15
  go_wp2
  refine wp_region_quiet_below (by kernel_rfl) (by kernel_rfl) ?_
  repeat (go_big_quiet_step ((go_at_call 16; with_reducible exact Calls.regrown_of (LW.out _))))
  refine wpQuiet_nil ?_
  intro _ hw'
  obtain ⟨⟨dq, osq⟩, hw''⟩ := hw'
  subst hw''
  have B1 : Hid (Bel w (grow (redrawn w dq) osq)) := below_regrown w dq osq
  generalize grow (redrawn w dq) osq = w1 at *
  go_wp2
  go_loopw [4, 5] (fun v i wr => ∃ (p n : Nat) (ao : Option Addr) (cap : Nat) (acc : List Ch), p ≤ 4096 ∧ n ≤ 64 ∧ i = .int .i64 p ∧ v = .slice ao n cap ∧ Hid (run L p acc = R) ∧ Hid (OwnR wr B (.slice ao n cap) n acc) ∧ Hid (Bel w wr)) (fun _ i _ => 4096 - (intOf i).toNat)
  case atStart => exact ⟨12, 0, none, 0, [], by omega, by omega, rfl, rfl, HR.out, own_none _ _, B1⟩
  case round =>
    obtain ⟨p, n, ao, cap, acc, hp, hn, rfl, rfl, hr, ho, hb⟩ := hrel
    by_cases hlt : p < s.size
    · have hd1 : decide ((p : Int) < (s.size : Int)) = true := decide_eq_true (by omega)
      have hl := own_len ho.out
      by_cases h8 : p + 8 ≤ s.size
      · have g5 : decide ((s.size : Int) - (p : Int) < 8) = false := decide_eq_false (by omega)
        by_cases h64 : n = 64
        · have RN : Hid (R = none) := hr.out.symm.trans (run_bad L p acc (by rw [← N.out]; omega) (by unfold bad; rw [← hl, h64]; simp))
          subst h64
          clear hl hr h8
          go_wp2
          go_ret2
          exact ⟨by rw [RN.out]; exact told_none, hb.out⟩
        · have g3 : ((n : Int) == 64) = false := by simp; omega
          have g4 : (n == 64) = false := by simp; omega
          have g6 : decide (s.size < p + 8) = false := decide_eq_false (by omega)
          have g7 : decide ((s.size : Int) < (p : Int) + 8) = false := decide_eq_false (by omega)
          have k8 : csz L p ≤ 4294967295 := csz_le L p
          have e2 : at8 L p = (cid L p, p + 8, csz L p) := rfl
          have ex : nxt L p = p + 8 + csz L p + csz L p % 2 := by unfold nxt whole; omega
          have GP := G.out p wr (by rw [← N.out]; exact h8)
          have GP2 : Hid (Calls Try.prog 25 #[.string (s.extract (p + 4) (p + 8))] wr fun e w' => e = .returned (.tuple #[.int .i64 ((csz L p : Nat) : Int), .int .i64 0]) ∧ w' = wr) := GP
          have XP : Hid (s.extract p (p + 4) = tx (cid L p)) := X.out p
          have K2 : bits .and .i64 ((csz L p : Nat) : Int) 1 = ((csz L p : Nat) : Int) % 2 := and1 _
          clear GP
          by_cases hf : nxt L p ≤ s.size
          · have RN : Hid (run L (nxt L p) (acc ++ [at8 L p]) = R) := (run_on L p acc (by rw [← N.out]; omega) (no_bad (by omega) (by rw [← N.out]; omega))).symm.trans hr.out
            rw [e2] at RN
            have y2 : nxt L p ≤ 4096 := by omega
            have y1 : p < nxt L p := by omega
            have g1 : decide ((s.size : Int) - (p : Int) - 8 < ((csz L p : Nat) : Int) + ((csz L p : Nat) : Int) % 2) = false := decide_eq_false (by omega)
            have XQ : Hid (((p : Int) + 8 + ((csz L p : Nat) : Int) + ((csz L p : Nat) : Int) % 2) = ((nxt L p : Nat) : Int)) := (by rw [ex]; omega : _ = _)
            clear hl hr hf e2 ex K1
            generalize nxt L p = y at *
            generalize csz L p = k at *
            generalize cid L p = l at *
            have SZ : Hid (B ≤ wr.heap.size ∧ n ≤ 4096) := ⟨by rw [HB.out]; exact hb.out.size, by omega⟩
            go_wp2_with fail
            refine GP2.out.mono ?_
            rintro e w2 ⟨rfl, rfl⟩
            go_wp2_with (at_builtin; refine wpl_moreC w2 rfl (.tmp 69) (.tmp 79) rfl B n SZ.out.1 (.slice ao n cap) acc l (p + 8) k _ XP.out rfl rfl ho.out SZ.out.2 ?_)
            intro v' w4 ho4 x4
            obtain ⟨ao4, cap4, rfl⟩ := own_form ho4
            have O4 : Hid (OwnR w4 B (.slice ao4 (n + 1) cap4) (n + 1) (acc ++ [(l, p + 8, k)])) := ho4
            have B4 : Hid (Bel w w4) := x4.from hb.out (fun i hi => by rw [← HB.out]; exact (ho.out.lt i hi).1)
            clear x4 ho4 ho hb
            go_wp2
            rw [XQ.out]
            go_roundw
            case rel => exact ⟨y, n + 1, ao4, cap4, acc ++ [(l, p + 8, k)], y2, by omega, by go_num, by go_num, RN.out, O4.out, B4.out⟩
            case measure => simp [intOf]; omega
          · have RN : Hid (R = none) := hr.out.symm.trans (run_bad L p acc (by rw [← N.out]; omega) (by unfold bad; rw [decide_eq_true (show L.length < nxt L p by rw [← N.out]; omega)]; simp))
            have g1 : decide ((s.size : Int) - (p : Int) - 8 < ((csz L p : Nat) : Int) + ((csz L p : Nat) : Int) % 2) = true := decide_eq_true (by omega)
            clear hl hr hf e2 ex K1
            generalize csz L p = k at *
            generalize cid L p = l at *
            go_wp2_with fail
            refine GP2.out.mono ?_
            rintro e w2 ⟨rfl, rfl⟩
            go_wp2
            go_ret2
            exact ⟨by rw [RN.out]; exact told_none, hb.out⟩
      · have RN : Hid (R = none) := hr.out.symm.trans (run_bad L p acc (by rw [← N.out]; omega) (by unfold bad; rw [decide_eq_true (show L.length < p + 8 by rw [← N.out]; omega)]; rfl))
        have g5 : decide ((s.size : Int) - (p : Int) < 8) = true := decide_eq_true (by omega)
        clear hl hr h8
        go_wp2
        go_ret2
        exact ⟨by rw [RN.out]; exact told_none, hb.out⟩
    · have hd1 : decide ((p : Int) < (s.size : Int)) = false := decide_eq_false (by omega)
      have RN : Hid (R = some acc) := hr.out.symm.trans (run_end L p acc (by rw [← N.out]; omega))
      go_wp2
      go_ret2
      exact ⟨by rw [RN.out]; exact told_some ho.out, hb.out⟩

/-- The reference's Chunks, of whatever text. -/
theorem ref_ok (s : ByteArray) (L : List UInt8) (hs : s.data.toList = L) (hx : s.size ≤ maxLen) (w : World) :
    Calls Try.prog 15 #[.string s] w fun e w' => Told w.heap.size (chunks L) e w' ∧ Bel w w' := by
  unfold chunks
  cases h : isWav L
  · refine (ref_no s L hs hx h w).mono ?_
    rintro e w' ⟨rfl, b⟩
    exact ⟨told_none, b⟩
  · exact ref_yes s L hs hx h w

end Go.Proofs.Ythbjjjpleongbaa.Chk
