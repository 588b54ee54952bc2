/-
  RiffCut, walked: it answers true for every text and int. Condition: the text's length is an int.
-/
import Derived.Test.YtabmhoiaeeneiaaRcCut
namespace Go.Proofs.Ytabmhoiaeeneiaa.Chk
open Go.RowKit Go.Sort Go.Proofs.Ytabmhoiaeeneiaa.Mod Go.Proofs.Ytabmhoiaeeneiaa.Num
set_option linter.unusedVariables false
set_option linter.unusedSimpArgs false

set_option maxHeartbeats 2000000 in
theorem cut_none (s : ByteArray) (hx : s.size ≤ maxLen) (a : Int) (R : Option (List Ch)) (hR : chunks s.data.toList = R) (h0 : (ansR R).length = 0) (x : Int) (he : errR R = x) (w : World) :
    Calls Try.prog 7 #[.string s, .int .i64 a] w fun e w' => e = .returned (.bool true) ∧ Bel w w' := by
  have C1 : Hid (∀ w, Calls Try.prog 8 #[.string s] w fun e w' => (∃ ao cap, e = .returned (.tuple #[.slice ao 0 cap, .int .i64 x]) ∧ (ansR R).length ≤ cap ∧ Slk w' ao (ansR R)) ∧ Bel w w') := fun w => by
    have := chunks_k s _ rfl hx R hR w
    rw [he] at this
    rw [h0] at this ⊢
    exact this
  obtain ⟨z, hz⟩ : ∃ z : Bool, (x != 0) = z := ⟨_, rfl⟩
  clear hR h0 he hx
  go_enter Try.func7, Try.ntmps7
  go_wp2_with fail
  refine (awake_ok _).mono ?_
  rintro e w0 ⟨rfl, b0⟩
  have B0 : Hid (Bel w w0) := b0
  clear b0
  go_wp2_with fail
  refine (C1.out _).mono ?_
  rintro e w1 ⟨⟨ao, cap, rfl, _, _⟩, b1⟩
  have B1 : Hid (Bel w w1) := B0.out.trans b1
  clear b1 C1
  cases z
  · go_wp2
    go_ret
    exact ⟨rfl, B1.out⟩
  · go_wp2
    go_ret
    exact ⟨rfl, B1.out⟩

set_option maxRecDepth 20000 in
set_option maxHeartbeats 4000000 in
theorem cut_some (s : ByteArray) (hx : s.size ≤ maxLen) (a : Int) (A : List Ch) (h : chunks s.data.toList = some A) (n : Nat) (hn : A.length = n) (h1 : 1 ≤ n) (w : World) :
    Calls Try.prog 7 #[.string s, .int .i64 a] w fun e w' => e = .returned (.bool true) ∧ Bel w w' := by
  have C1 : Hid (∀ w, Calls Try.prog 8 #[.string s] w fun e w' => (∃ ao cap, e = .returned (.tuple #[.slice ao n cap, .int .i64 0]) ∧ n ≤ cap ∧ Slk w' ao A) ∧ Bel w w') := fun w => by
    have := chunks_k s _ rfl hx _ h w
    rw [← hn]
    exact this
  obtain ⟨hw, hc, h64⟩ := chunks_chain h
  obtain ⟨_, z2, z3⟩ := wav_size hw
  have hl := size_len s _ rfl
  obtain ⟨K, hK, hk⟩ := place_of a (n : Int) (by omega) (by omega)
  have hK2 : K < n := by omega
  obtain ⟨ea, _⟩ := chain_at _ K A 12 hc (by omega)
  obtain ⟨_, hP2⟩ := chain_get _ K A 12 hc (by omega)
  have hP := stop_ge s.data.toList K 12
  have CC := cut_chunks s.data.toList A h K (by omega)
  obtain ⟨P, hPP⟩ : ∃ P, stop s.data.toList K 12 = P := ⟨_, rfl⟩
  rw [hPP] at ea hP2 hP CC
  rw [← hl] at hP2 z2 z3
  obtain ⟨X, hX⟩ : ∃ X : Nat, ((P : Int) - 8) % 256 = (X : Int) := ⟨(P - 8) % 256, by omega⟩
  obtain ⟨Y, hY⟩ : ∃ Y : Nat, ((P : Int) - 8) / 256 = (Y : Int) := ⟨(P - 8) / 256, by omega⟩
  have CD := CC (UInt8.ofNat X) (UInt8.ofNat Y) (by rw [UInt8.toNat_ofNat']; omega) (by rw [UInt8.toNat_ofNat']; omega)
  have e0 : (s.extract 0 P).data.toList = s.data.toList.take P := by rw [ext_mid, List.drop_zero, Nat.sub_zero]
  obtain ⟨T, hT⟩ : ∃ T, s.extract 0 P = T := ⟨_, rfl⟩
  rw [hT] at e0
  have zT : T.size = P := by rw [size_len _ _ e0, List.length_take]; omega
  have HT : Hid (T.data.toList = s.data.toList.take P) := e0
  have TL : Hid ((s.data.toList.take P).length = P) := (by rw [List.length_take]; omega : _ = _)
  have DD : Hid (∀ w, Calls Try.prog 8 #[.string ⟨(((s.data.toList.take P).set 4 (UInt8.ofNat X)).set 5 (UInt8.ofNat Y)).toArray⟩] w fun e w' => (∃ ao cap, e = .returned (.tuple #[.slice ao K cap, .int .i64 0]) ∧ Slk w' ao (A.take K)) ∧ Bel w w') := fun w => by
    have hlen : (A.take K).length = K := by rw [List.length_take]; omega
    refine (chunks_k _ _ rfl (by show (((s.data.toList.take P).set 4 (UInt8.ofNat X)).set 5 (UInt8.ofNat Y)).length ≤ _; rw [List.length_set, List.length_set, TL.out]; unfold maxLen; omega) _ CD w).mono ?_
    rintro e w' ⟨⟨ao, cap, h1, _, h2⟩, b⟩
    refine ⟨⟨ao, cap, ?_, h2⟩, b⟩
    rw [h1]
    show Ending.returned (.tuple #[.slice ao (A.take K).length cap, _]) = _
    rw [hlen]
    rfl
  have EA : Hid (A.getD K ch0 = at8 s.data.toList P) := ea
  have AL : Hid (A.length = n) := hn
  have X256 : X < 256 := by omega
  have Y256 : Y < 256 := by omega
  have hcv := fun w => run_bytes_of_string (P := Try.prog) w 9 38 5 T Try.underlying9 Try.underlying38 Try.underlying5
  rw [zT] at hcv
  have W : Hid (∀ w, Calls Try.prog 14 #[.agg #[.int .i64 1, .int .i64 8], .string ⟨#[]⟩] w fun e w' => e = .returned (.string ⟨emptyB.toArray⟩) ∧ Bel w w') := empty_ok
  have RF : Hid (∀ w, Calls Try.prog 9 #[.string ⟨emptyB.toArray⟩] w fun e w' => (∃ ao cap, e = .returned (.tuple #[.slice ao 3 cap, .int .i64 0])) ∧ Bel w w') := fun w => by
    refine (ref_c ⟨emptyB.toArray⟩ emptyB rfl (by unfold maxLen; decide) w).mono ?_
    rw [chunks_empty]
    rintro e w' ⟨⟨ao, cap, h, _⟩, b⟩
    exact ⟨⟨ao, cap, h⟩, b⟩
  have N64 : Hid (n ≤ 64) := (by omega : _ ≤ _)
  clear h hw hc h64 hl ea CC CD e0 hn hx hPP hK
  generalize emptyB.toArray = EB at *
  generalize hLL : s.data.toList = L at *
  clear hLL
  generalize L.take P = M at *
  go_enter Try.func7, Try.ntmps7
  go_wp2_with fail
  refine (awake_ok _).mono ?_
  rintro e w0 ⟨rfl, b0⟩
  have B0 : Hid (Bel w w0) := b0
  clear b0
  go_wp2_with fail
  refine (C1.out _).mono ?_
  rintro e w1 ⟨⟨ao, cap, rfl, hcap, s1⟩, b1⟩
  have B1 : Hid (Bel w w1) := B0.out.trans b1
  have S1 : Hid (Slk w1 ao A) := s1
  obtain ⟨g, rfl, _, q1, _⟩ := s1 K (by rw [AL.out]; exact hK2)
  rw [EA.out] at q1
  have q2 : w1.cell? ⟨g, K * 3 + 1, none⟩ = some (.int .i64 ((P : Int) + 8)) := q1
  clear b1 C1 s1 q1 B0
  have n0 : ((n : Int) == 0) = false := by simp; omega
  have n0b : (n == 0) = false := by simp; omega
  have n64 : n ≤ 64 := N64.out
  have p1 : decide ((P : Int) < 12) = false := decide_eq_false (by omega)
  have p1b : decide (P < 12) = false := decide_eq_false (by omega)
  have p2 : decide ((s.size : Int) < (P : Int)) = false := decide_eq_false (by omega)
  have p2b : decide (s.size < P) = false := decide_eq_false (by omega)
  go_wp2_with fail
  refine (num_ok 0 _).mono ?_
  rintro e w2 ⟨rfl, rfl⟩
  go_upto_region 11 with fail
  simp only [hk]
  obtain ⟨cp, hcp⟩ : ∃ cp, grownCap w2 P 0 5 = cp := ⟨_, rfl⟩
  simp only [hcp]
  have GB : Hid (g < w2.heap.size) := block_lt_of_cell q2
  obtain ⟨B, hB⟩ : ∃ B, w2.heap.size = B := ⟨_, rfl⟩
  have SZ : Hid (w.heap.size ≤ B) := hB ▸ B1.out.size
  have h3 : HoldB (w2.alloc (.cells (bytesRow T cp) 5 ((bytesRow T cp).size, (bytesRow T cp).size + 1))).drew B M := (by rw [← hB, ← HT.out]; exact (holdB_bytes T w2 cp _).drew : HoldB _ _ _)
  have H3 : Hid (HoldB (w2.alloc (.cells (bytesRow T cp) 5 ((bytesRow T cp).size, (bytesRow T cp).size + 1))).drew B M) := h3
  have B3 : Hid (Bel w (w2.alloc (.cells (bytesRow T cp) 5 ((bytesRow T cp).size, (bytesRow T cp).size + 1))).drew) := (B1.out.alloc _).drew
  have S3 : Hid (Slk (w2.alloc (.cells (bytesRow T cp) 5 ((bytesRow T cp).size, (bytesRow T cp).size + 1))).drew (some ⟨g, 0, none⟩) A) := S1.out.bel (((Bel.refl _).alloc _).drew)
  rw [hB] at GB
  rw [hB]
  generalize (w2.alloc (.cells (bytesRow T cp) 5 ((bytesRow T cp).size, (bytesRow T cp).size + 1))).drew = w3 at *
  clear h3 hB hcp hk B1 S1 q2
  obtain ⟨c4, f4⟩ := H3.out 4 (by rw [TL.out]; omega)
  obtain ⟨c5, f5⟩ := H3.out 5 (by rw [TL.out]; omega)
  generalize (((M.getD 4 0).toNat : Nat) : Int) = m4 at *
  generalize (((M.getD 5 0).toNat : Nat) : Int) = m5 at *
  have P4 : 4 < P ∧ 5 < P := by omega
  go_upto_region 13 with fail
  have H5 : Hid (HoldB ((w3.setCell ⟨B, 4, none⟩ (.int .u8 (X : Int))).setCell ⟨B, 5, none⟩ (.int .u8 (Y : Int))) B ((M.set 4 (UInt8.ofNat X)).set 5 (UInt8.ofNat Y))) :=
    (H3.out.set 4 (by rw [TL.out]; omega) (UInt8.ofNat X) _ (by rw [UInt8.toNat_ofNat', Nat.mod_eq_of_lt X256])).set 5 (by rw [List.length_set, TL.out]; omega) _ _ (by rw [UInt8.toNat_ofNat', Nat.mod_eq_of_lt Y256])
  have ML : Hid (((M.set 4 (UInt8.ofNat X)).set 5 (UInt8.ofNat Y)).length = P) := (by rw [List.length_set, List.length_set, TL.out] : _ = _)
  have B5 : Hid (Bel w ((w3.setCell ⟨B, 4, none⟩ (.int .u8 (X : Int))).setCell ⟨B, 5, none⟩ (.int .u8 (Y : Int)))) := (B3.out.setCell SZ.out _).setCell SZ.out _
  have X5 : Exc (fun k => k = B) w3 ((w3.setCell ⟨B, 4, none⟩ (.int .u8 (X : Int))).setCell ⟨B, 5, none⟩ (.int .u8 (Y : Int))) := ((Exc.refl (fun k => k = B) w3).setCell (a := ⟨B, 4, none⟩) (fun _ => (rfl : B = B)) _).setCell (a := ⟨B, 5, none⟩) (fun _ => (rfl : B = B)) _
  have S5 : Hid (Slk ((w3.setCell ⟨B, 4, none⟩ (.int .u8 (X : Int))).setCell ⟨B, 5, none⟩ (.int .u8 (Y : Int))) (some ⟨g, 0, none⟩) A) := S3.out.exc X5 (fun i hi => by injection hi with hi; injection hi with hi _ _; have := GB.out; omega)
  generalize (w3.setCell ⟨B, 4, none⟩ (.int .u8 (X : Int))).setCell ⟨B, 5, none⟩ (.int .u8 (Y : Int)) = w5 at *
  clear X5 c4 f4 c5 f5 H3 B3 S3 P4
  have hst := H5.out.str cp P ML.out.symm
  generalize (((M.set 4 (UInt8.ofNat X)).set 5 (UInt8.ofNat Y)).toArray) = MA at *
  go_wp2_with fail
  refine (DD.out _).mono ?_
  rintro e w6 ⟨⟨bo, capb, rfl, sd⟩, b6⟩
  have B6 : Hid (Bel w w6) := B5.out.trans b6
  have S6 : Hid (Slk w6 (some ⟨g, 0, none⟩) A) := S5.out.bel b6
  have D6 : Hid (Slk w6 bo (A.take K)) := sd
  clear b6 sd hst S5
  go_wp2_with fail
  refine (W.out _).mono ?_
  rintro e w7 ⟨rfl, b7⟩
  have B7 : Hid (Bel w w7) := B6.out.trans b7
  have S7 : Hid (Slk w7 (some ⟨g, 0, none⟩) A) := S6.out.bel b7
  have D7 : Hid (Slk w7 bo (A.take K)) := D6.out.bel b7
  clear b7 S6 D6
  go_wp2_with fail
  refine (RF.out _).mono ?_
  rintro e w8 ⟨⟨aof, capf, rfl⟩, b8⟩
  have B8 : Hid (Bel w w8) := B7.out.trans b8
  have S8 : Hid (Slk w8 (some ⟨g, 0, none⟩) (A.take K)) := (S7.out.bel b8).take K
  have D8 : Hid (Slk w8 bo (A.take K)) := D7.out.bel b8
  clear b8 S7 D7
  have KL : Hid (K = (A.take K).length) := (by rw [List.length_take, AL.out]; omega : _ = _)
  have hKc : K ≤ cap := by omega
  have hKc2 : decide (cap < K) = false := decide_eq_false (by omega)
  go_wp2_with fail
  refine (num_ok 0 _).mono ?_
  rintro e w9 ⟨rfl, rfl⟩
  go_wp2_with fail
  refine (same_ok bo (some ⟨g, 0, none⟩) (A.take K) (A.take K) K K capb cap KL.out KL.out (by unfold maxLen; omega) (by unfold maxLen; omega) _ D8.out S8.out).mono ?_
  rw [decide_eq_true (show A.take K = A.take K from rfl)]
  rintro e wA ⟨rfl, nq, rfl⟩
  go_wp2
  go_ret
  exact ⟨rfl, B8.out.drewN nq⟩

theorem cut_walk (s : ByteArray) (hx : s.size ≤ maxLen) (a : Int) (w : World) :
    Calls Try.prog 7 #[.string s, .int .i64 a] w fun e w' => e = .returned (.bool true) ∧ Bel w w' := by
  cases h : chunks s.data.toList with
  | none => exact cut_none s hx a none h rfl _ rfl w
  | some A =>
    by_cases h0 : A.length = 0
    · exact cut_none s hx a (some A) h h0 _ rfl w
    · exact cut_some s hx a A h _ rfl (by omega) w

end Go.Proofs.Ytabmhoiaeeneiaa.Chk
