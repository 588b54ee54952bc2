/-
  WaveAny, walked: it answers true for every two texts and every int, where the program's Parse and Build keep their contracts. Condition: they do; lengths are within the reach.
-/
import Derived.Test.YthbjjjpleongbaaWvAny
import Derived.Lib.LazyBuf
namespace Go.Proofs.Ythbjjjpleongbaa.Wav
open Go.RowKit Go.Sort Go.Proofs.Ythbjjjpleongbaa.Mod Go.Proofs.Ythbjjjpleongbaa.Num Go.Proofs.Ythbjjjpleongbaa.Chk
set_option linter.unusedVariables false
set_option linter.unusedSimpArgs false

/-- Bytes laid into a list from place o on. -/
def setL : List UInt8 → Nat → List UInt8 → List UInt8
  | l, _, [] => l
  | l, o, a :: r => setL (l.set o a) (o + 1) r
theorem setL_length : ∀ (T : List UInt8) (o : Nat) (l : List UInt8), (setL l o T).length = l.length
  | [], _, _ => rfl
  | a :: r, o, l => by rw [setL, setL_length r, List.length_set]
abbrev bcs (T : List UInt8) : List Value := T.map fun x => Value.int .u8 (x.toNat : Int)
theorem hold_setL {B : Nat} : ∀ (T : List UInt8) (o : Nat) (l : List UInt8) (w : World), HoldB w B l → o + T.length ≤ l.length → HoldB (w.setCells B o (bcs T)) B (setL l o T)
  | [], _, _, _, h, _ => h
  | a :: r, o, l, w, h, ho => by
    rw [List.length_cons] at ho
    exact hold_setL r (o + 1) (l.set o a) _ (h.set o (by omega) a _ rfl) (by rw [List.length_set]; omega)
theorem bel_setCells {w0 : World} {B : Nat} (hB : w0.heap.size ≤ B) : ∀ (vs : List Value) (o : Nat) (w : World), Bel w0 w → Bel w0 (w.setCells B o vs)
  | [], _, _, h => h
  | v :: r, o, w, h => bel_setCells hB r (o + 1) _ (h.setCell hB v)
theorem hold_copy {w : World} {B : Nat} {l : List UInt8} (h : HoldB w B l) (o : Nat) (T : ByteArray) (ho : o + T.size ≤ l.length) (n cap : Nat) (hn : T.size ≤ n) (ty : TypeId) :
    (Builtin.copy_ #[39, 9] ty #[.slice (some ⟨B, o, none⟩) n cap, .string T]).run Try.prog w = .ok (goInt T.size) (w.setCells B o (bcs T.data.toList)) :=
  run_copy_string (P := Try.prog) w 39 9 ty 5 B o n cap T Try.underlying39 Try.sizeOf5 hn
    (fun j hj => by rw [(h (o + j) (by omega)).1]; rfl) (fun j hj => (h (o + j) (by omega)).2)

set_option maxHeartbeats 1000000 in
/-- Too long a file, or too few rates. -/
theorem any_no (P : ProgW) (D : List UInt8) (hD : D.length ≤ 140737488351232) (r : ByteArray) (hr : r.size ≤ 140737488351232) (h : 4096 < D.length + D.length % 2 + 56 ∨ r.size < 8) (p : Int) (w : World) :
    Calls Try.prog 5 #[.string (tx D), .string r, .int .i64 p] w fun e w' => e = .returned (.bool true) ∧ Bel w w' := by
  have AW : Hid (∀ w, Calls Try.prog 13 #[] w fun e w' => e = .returned (.bool true) ∧ Bel w w') := awake_ok P
  have WV : Hid (∀ w, Calls Try.prog 14 #[.agg #[.int .i64 1, .int .i64 8], .string (tx D)] w fun e w' => e = .returned (.string (tx (fil_1_8 D))) ∧ Bel w w') := wav_1_8 D hD
  obtain ⟨S, hS⟩ : ∃ S : ByteArray, tx (fil_1_8 D) = S := ⟨_, rfl⟩
  rw [hS] at WV
  have z : S.size = D.length + D.length % 2 + 56 := by rw [← hS, tx_size, filA_of, filA_length]
  obtain ⟨n, hn⟩ : ∃ n, D.length + D.length % 2 + 56 = n := ⟨_, rfl⟩
  rw [hn] at h z
  have n64 : n ≤ 140737488351232 + 57 := by omega
  clear P hS hn hD
  by_cases h4 : 4096 < n
  · have k1 : decide (4096 < (n : Int)) = true := decide_eq_true (by omega)
    go_enter Try.func5, Try.ntmps5
    go_wp2_with fail
    refine (AW.out _).mono ?_
    rintro e w1 ⟨rfl, b1⟩
    go_wp2_with fail
    refine (WV.out _).mono ?_
    rintro e w2 ⟨rfl, b2⟩
    have B2 : Hid (Bel w w2) := (Bel.trans b1 ((Bel.refl _).alloc _)).trans b2
    clear b1 b2
    go_wp2
    go_ret
    exact ⟨rfl, B2.out⟩
  · have k1 : decide (4096 < (n : Int)) = false := decide_eq_false (by omega)
    have k2 : decide ((r.size : Int) < 8) = true := decide_eq_true (by omega)
    go_enter Try.func5, Try.ntmps5
    go_wp2_with fail
    refine (AW.out _).mono ?_
    rintro e w1 ⟨rfl, b1⟩
    go_wp2_with fail
    refine (WV.out _).mono ?_
    rintro e w2 ⟨rfl, b2⟩
    have B2 : Hid (Bel w w2) := (Bel.trans b1 ((Bel.refl _).alloc _)).trans b2
    clear b1 b2
    go_wp2
    go_ret
    exact ⟨rfl, B2.out⟩

set_option maxRecDepth 20000 in
set_option maxHeartbeats 8000000 in
theorem any_yes (P : ProgW) (D : List UInt8) (hD : D.length + D.length % 2 + 56 ≤ 4096) (r : ByteArray) (hr : r.size ≤ 140737488351232) (h8 : 8 ≤ r.size) (p : Int) (w : World) :
    Calls Try.prog 5 #[.string (tx D), .string r, .int .i64 p] w fun e w' => e = .returned (.bool true) ∧ Bel w w' := by
  have AW : Hid (∀ w, Calls Try.prog 13 #[] w fun e w' => e = .returned (.bool true) ∧ Bel w w') := awake_ok P
  have WV : Hid (∀ w, Calls Try.prog 14 #[.agg #[.int .i64 1, .int .i64 8], .string (tx D)] w fun e w' => e = .returned (.string (tx (fil_1_8 D))) ∧ Bel w w') := wav_1_8 D (by omega)
  obtain ⟨q, hq⟩ : ∃ q : Nat, p % 256 = (q : Int) := ⟨(p % 256).toNat, by omega⟩
  have q256 : q < 256 := by omega
  obtain ⟨m, hm⟩ : ∃ m, D.length + D.length % 2 + 48 = m := ⟨_, rfl⟩
  have re : (r.extract 0 8).data.toList = r.data.toList.take 8 := by rw [ext_mid, List.drop_zero]
  obtain ⟨R, hR⟩ : ∃ R, r.extract 0 8 = R := ⟨_, rfl⟩
  rw [hR] at re
  have zR : R.size = 8 := by rw [size_len _ _ re, List.length_take, ← size_len r _ rfl]; omega
  obtain ⟨r0, r1, r2, r3, r4, r5, r6, r7, hRL⟩ : ∃ r0 r1 r2 r3 r4 r5 r6 r7, R.data.toList = [r0, r1, r2, r3, r4, r5, r6, r7] := by
    have hl : R.data.toList.length = 8 := by rw [← size_len R _ rfl]; exact zR
    match R.data.toList, hl with
    | [r0, r1, r2, r3, r4, r5, r6, r7], _ => exact ⟨r0, r1, r2, r3, r4, r5, r6, r7, rfl⟩
  have hF1 : setL (fil_1_8 D) 24 [r0, r1, r2, r3, r4, r5, r6, r7] = filA m D r0 r1 r2 r3 r4 r5 r6 r7 100 := by rw [filA_of, hm]; rfl
  have hF2 : (setL (fil_1_8 D) 24 [r0, r1, r2, r3, r4, r5, r6, r7]).set (D.length + D.length % 2 + 55) (UInt8.ofNat q) = filA m D r0 r1 r2 r3 r4 r5 r6 r7 (UInt8.ofNat q) := by rw [hF1, filA_last]
  have PA := parse_any D hD m hm.symm r0 r1 r2 r3 r4 r5 r6 r7 (UInt8.ofNat q)
  have FL := filA_length m D r0 r1 r2 r3 r4 r5 r6 r7 (UInt8.ofNat q)
  obtain ⟨M, hM⟩ : ∃ M, filA m D r0 r1 r2 r3 r4 r5 r6 r7 (UInt8.ofNat q) = M := ⟨_, rfl⟩
  rw [hM] at hF2 PA FL
  have BA := build_parse PA
  have Q1 : Hid (∀ w, Calls Try.prog 8 #[.string (tx M)] w fun e w' => e = .returned (.tuple #[.agg #[.int .i64 1, .int .i64 8, .string (tx (M.take 44)), .string (tx D), .string (tx (M.drop (44 + D.length)))], .int .i64 0]) ∧ Bel w w') := fun w => by
    have := P.parse (tx M) M rfl (by show M.length ≤ maxLen; unfold maxLen; omega) w
    rw [PA] at this
    exact this
  have Q2 : Hid (∀ w, Calls Try.prog 10 #[.agg #[.int .i64 1, .int .i64 8, .string (tx (M.take 44)), .string (tx D), .string (tx (M.drop (44 + D.length)))]] w fun e w' => e = .returned (.tuple #[.string (tx M), .int .i64 0]) ∧ Bel w w') := fun w => by
    have := P.build (1, 8, M.take 44, D, M.drop (44 + D.length)) (by show (M.take 44).length ≤ _; rw [List.length_take]; omega) (by show D.length ≤ _; omega) (by show (M.drop _).length ≤ _; rw [List.length_drop]; omega) w
    rw [BA] at this
    exact this
  have x1 : (tx M).extract 0 44 = tx (M.take 44) := ba_eq (by rw [ext_mid, List.drop_zero, Nat.sub_zero])
  have x2 : (tx M).extract (44 + D.length) M.length = tx (M.drop (44 + D.length)) := ba_eq (by rw [ext_mid, List.take_of_length_le (by rw [List.length_drop]; exact Nat.le_refl _)])
  obtain ⟨S, hS⟩ : ∃ S : ByteArray, tx (fil_1_8 D) = S := ⟨_, rfl⟩
  rw [hS] at WV
  have sl : (fil_1_8 D).length = D.length + D.length % 2 + 56 := by rw [filA_of, filA_length]
  obtain ⟨n, hn⟩ : ∃ n, D.length + D.length % 2 + 56 = n := ⟨_, rfl⟩
  have z : S.size = n := by rw [← hS, tx_size, sl, hn]
  rw [hn] at sl FL
  have n1 : 56 ≤ n ∧ n ≤ 4096 := by omega
  have hn2 : D.length + D.length % 2 + 55 = n - 1 := by omega
  rw [hn2] at hF2
  have dn : 44 + D.length ≤ n := by omega
  have HS : Hid (S.data.toList = fil_1_8 D) := (by rw [← hS] : _ = _)
  have SL : Hid ((fil_1_8 D).length = n) := sl
  have HF : Hid ((setL (fil_1_8 D) 24 [r0, r1, r2, r3, r4, r5, r6, r7]).set (n - 1) (UInt8.ofNat q) = M) := hF2
  have RL : Hid (R.data.toList = [r0, r1, r2, r3, r4, r5, r6, r7]) := hRL
  have MLn : Hid (M.length = n) := FL
  rw [FL] at x2
  have zM : (tx M).size = n := FL
  have hcv := fun w => run_bytes_of_string (P := Try.prog) w 9 39 5 S Try.underlying9 Try.underlying39 Try.underlying5
  rw [z] at hcv
  have k1 : decide (4096 < (n : Int)) = false := decide_eq_false (by omega)
  have k2 : decide ((r.size : Int) < 8) = false := decide_eq_false (by omega)
  clear P PA BA hS hm hF1 hF2 hM re hRL hn FL sl hn2
  generalize fil_1_8 D = F at *
  generalize M.take 44 = MH at *
  generalize M.drop (44 + D.length) = MT at *
  have zD := tx_size D
  go_enter Try.func5, Try.ntmps5
  go_wp2_with fail
  refine (AW.out _).mono ?_
  rintro e w1 ⟨rfl, b1⟩
  go_wp2_with fail
  refine (WV.out _).mono ?_
  rintro e w2 ⟨rfl, b2⟩
  have B2 : Hid (Bel w w2) := (Bel.trans b1 ((Bel.refl _).alloc _)).trans b2
  clear b1 b2
  go_upto_region 8 with fail
  obtain ⟨cap, hcap⟩ : ∃ cap, grownCap w2 n 0 5 = cap := ⟨_, rfl⟩
  have cn : n ≤ cap := hcap ▸ grownCap_ge w2 n 0 5
  simp only [hcap]
  obtain ⟨B, hB⟩ : ∃ B, w2.heap.size = B := ⟨_, rfl⟩
  have SZ : Hid (w.heap.size ≤ B) := hB ▸ B2.out.size
  have H3 : Hid (HoldB (w2.alloc (.cells (bytesRow S cap) 5 ((bytesRow S cap).size, (bytesRow S cap).size + 1))).drew B F) := (by rw [← hB, ← HS.out]; exact (holdB_bytes S w2 cap _).drew : HoldB _ _ _)
  have B3 : Hid (Bel w (w2.alloc (.cells (bytesRow S cap) 5 ((bytesRow S cap).size, (bytesRow S cap).size + 1))).drew) := (B2.out.alloc _).drew
  rw [hB]
  generalize (w2.alloc (.cells (bytesRow S cap) 5 ((bytesRow S cap).size, (bytesRow S cap).size + 1))).drew = w3 at *
  clear hB hcap hcv B2
  have H3d : Hid (HoldB w3.drew B F) := H3.out.drew
  have cp := fun ty => hold_copy H3d.out 24 R (by rw [zR, SL.out]; omega) 8 (cap - 24) (by omega) ty
  rw [RL.out, zR] at cp
  have H4 : Hid (HoldB (w3.drew.setCells B 24 [.int .u8 (r0.toNat : Int), .int .u8 (r1.toNat : Int), .int .u8 (r2.toNat : Int), .int .u8 (r3.toNat : Int), .int .u8 (r4.toNat : Int), .int .u8 (r5.toNat : Int), .int .u8 (r6.toNat : Int), .int .u8 (r7.toNat : Int)]) B (setL F 24 [r0, r1, r2, r3, r4, r5, r6, r7])) := hold_setL [r0, r1, r2, r3, r4, r5, r6, r7] 24 F _ H3d.out (by rw [SL.out]; show 24 + 8 ≤ n; omega)
  have B4 : Hid (Bel w (w3.drew.setCells B 24 [.int .u8 (r0.toNat : Int), .int .u8 (r1.toNat : Int), .int .u8 (r2.toNat : Int), .int .u8 (r3.toNat : Int), .int .u8 (r4.toNat : Int), .int .u8 (r5.toNat : Int), .int .u8 (r6.toNat : Int), .int .u8 (r7.toNat : Int)])) := bel_setCells SZ.out _ 24 _ B3.out.drew
  go_region
  generalize w3.drew.setCells B 24 [.int .u8 (r0.toNat : Int), .int .u8 (r1.toNat : Int), .int .u8 (r2.toNat : Int), .int .u8 (r3.toNat : Int), .int .u8 (r4.toNat : Int), .int .u8 (r5.toNat : Int), .int .u8 (r6.toNat : Int), .int .u8 (r7.toNat : Int)] = w4 at *
  clear cp H3d H3 B3
  have FL : Hid ((setL F 24 [r0, r1, r2, r3, r4, r5, r6, r7]).length = n) := (by rw [setL_length]; exact SL.out : _ = _)
  obtain ⟨l, hl⟩ : ∃ l : Nat, (n : Int) - 1 = (l : Int) := ⟨n - 1, by omega⟩
  have ln : l < n := by omega
  have HF2 : Hid ((setL F 24 [r0, r1, r2, r3, r4, r5, r6, r7]).set l (UInt8.ofNat q) = M) := (by rw [show l = n - 1 by omega]; exact HF.out : _ = _)
  obtain ⟨c5, f5⟩ := H4.out l (by rw [FL.out]; exact ln)
  generalize ((((setL F 24 [r0, r1, r2, r3, r4, r5, r6, r7]).getD l 0).toNat : Nat) : Int) = m5 at *
  have H5 : Hid (HoldB (w4.setCell ⟨B, l, none⟩ (.int .u8 (q : Int))) B M) := (by rw [← HF2.out]; exact H4.out.set l (by rw [FL.out]; exact ln) _ _ (by rw [UInt8.toNat_ofNat', Nat.mod_eq_of_lt q256]) : HoldB _ _ _)
  have B5 : Hid (Bel w (w4.setCell ⟨B, l, none⟩ (.int .u8 (q : Int)))) := B4.out.setCell SZ.out _
  clear HF
  go_upto_region 10 with fail
  generalize w4.setCell ⟨B, l, none⟩ (.int .u8 (q : Int)) = w5 at *
  clear c5 f5 H4 B4
  have hst := H5.out.str cap n MLn.out.symm
  go_wp2_with fail
  refine (Q1.out _).mono ?_
  rintro e w6 ⟨rfl, b6⟩
  have B6 : Hid (Bel w w6) := B5.out.trans b6
  have X6 : Hid (BoxV (w6.alloc (.cells #[.int .i64 1, .int .i64 8, .string (tx MH), .string (tx D), .string (tx MT)] 25)) w6.heap.size (1, 8, MH, D, MT)) := boxV_new w6 (1, 8, MH, D, MT)
  clear b6 hst
  go_wp2_with fail
  refine (Q2.out _).mono ?_
  rintro e w7 ⟨rfl, b7⟩
  have B7 : Hid (Bel w w7) := (B6.out.alloc _).trans b7
  obtain ⟨⟨d0, d1, d2, d3, d4⟩, _⟩ := X6.out.bel b7
  obtain ⟨g6, hg6⟩ : ∃ g, w6.heap.size = g := ⟨_, rfl⟩
  rw [hg6] at d0 d1 d2 d3 d4
  rw [hg6]
  simp only at d0 d1 d2 d3 d4
  clear b7 X6 hg6
  have l1 : (D == D) = true := beq_self_eq_true D
  have l2 : (MH == MH) = true := beq_self_eq_true MH
  have l3 : (MT == MT) = true := beq_self_eq_true MT
  have l4 : (M == M) = true := beq_self_eq_true M
  have p44 : 44 ≤ n := by omega
  have y1 : decide ((n : Int) < 44) = false := decide_eq_false (by omega)
  have y2 : decide (n < 44) = false := decide_eq_false (by omega)
  have y3 : decide ((n : Int) < 44 + (D.length : Int)) = false := decide_eq_false (by omega)
  have y4 : decide (n < 44 + D.length) = false := decide_eq_false (by omega)
  have N0 : Hid (∀ n w, Calls Try.prog 12 #[.int .i64 n] w fun e w' => e = .returned (.int .i64 n) ∧ w' = w) := num_ok
  go_upto_region 13 with fail
  go_quiet ((go_at_call 12; with_reducible exact Calls.quiet_of ((N0.out _ _).mono (by rintro e w' ⟨rfl, rfl⟩; exact ⟨rfl, 0, rfl⟩))))
  go_wp2
  go_ret
  exact ⟨rfl, B7.out.drewN nq⟩

theorem any_walk (P : ProgW) (D : List UInt8) (hD : D.length ≤ 140737488351232) (r : ByteArray) (hr : r.size ≤ 140737488351232) (p : Int) (w : World) :
    Calls Try.prog 5 #[.string (tx D), .string r, .int .i64 p] w fun e w' => e = .returned (.bool true) ∧ Bel w w' := by
  by_cases h : 4096 < D.length + D.length % 2 + 56 ∨ r.size < 8
  · exact any_no P D hD r hr h p w
  · exact any_yes P D (by omega) r hr (by omega) p w

end Go.Proofs.Ythbjjjpleongbaa.Wav
