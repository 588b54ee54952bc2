/-
  PcmJoin, walked: it answers true of every two texts and every format. Conditions: the texts' lengths are within the reach.
-/
import Derived.Test.YtpakcajdbibbbaaPcmsWalk
import Derived.Test.YtpakcajdbibbbaaPcmsRow
import Derived.Test.YtpakcajdbibbbaaGCat
namespace Go.Proofs.Ytpakcajdbibbbaa.Pcm
open Go.RowKit Go.Sort Go.Proofs.Ytpakcajdbibbbaa.Mod Go.Proofs.Ytpakcajdbibbbaa.Ints
set_option linter.unusedVariables false
set_option linter.unusedSimpArgs false

theorem smpAt_front (q : Nat) (A B : List UInt8) (i : Nat) (h : i * q + q ≤ A.length) : smpAt q (A ++ B) i = smpAt q A i := by
  unfold smpAt
  rw [List.drop_append_of_le_length (by omega), List.take_append_of_le_length (by rw [List.length_drop]; omega)]
theorem smpAt_back (q : Nat) (A B : List UInt8) (i k : Nat) (h : i * q = A.length + k * q) : smpAt q (A ++ B) i = smpAt q B k := by
  unfold smpAt
  rw [h, List.drop_append, List.drop_eq_nil_of_le (by omega), List.nil_append, show A.length + k * q - A.length = k * q by omega]

/-- Frames one behind the other are both's samples. -/
theorem rows_cat {C q : Nat} (A B : List UInt8) (hf : 0 < C * q) (hA : A.length % (C * q) = 0) (hB : B.length % (C * q) = 0) (j : Nat) (hj : j < C) :
    (rows C q (A ++ B)).getD j [] = (rows C q A).getD j [] ++ (rows C q B).getD j [] := by
  rw [rows_get _ _ _ _ hj, rows_get _ _ _ _ hj, rows_get _ _ _ _ hj]
  have a1 := div_facts hf hA
  have b1 := div_facts hf hB
  obtain ⟨m, hm⟩ : ∃ m, A.length / (C * q) = m := ⟨_, rfl⟩
  obtain ⟨n, hn⟩ : ∃ n, B.length / (C * q) = n := ⟨_, rfl⟩
  rw [hm] at a1
  rw [hn] at b1
  have e : (A ++ B).length / (C * q) = m + n := by
    rw [List.length_append, ← a1, ← b1, ← Nat.add_mul]
    exact Nat.mul_div_cancel _ hf
  rw [e, hm, hn, List.range_add, List.map_append, List.map_map]
  congr 1
  · refine List.map_congr_left fun k hk => ?_
    have hk' : k < m := by simpa using hk
    have := at_lt (q := q) hk' hj
    exact smpAt_front q A B _ (by omega)
  · refine List.map_congr_left fun k hk => ?_
    refine smpAt_back q A B _ _ ?_
    rw [← a1, Nat.add_mul, Nat.add_mul, Nat.add_mul, Nat.add_mul, Nat.mul_assoc]
    omega

theorem ok_cat {c b : Int} {A B : List UInt8} (h1 : okGet c b A = true) (h2 : okGet c b B = true) : okGet c b (A ++ B) = decide (A.length + B.length ≤ 4096) := by
  unfold okGet at h1 h2 ⊢
  rw [Bool.and_eq_true, Bool.and_eq_true, decide_eq_true_eq, decide_eq_true_eq] at h1 h2
  rw [h1.1, List.length_append, Bool.true_and, show decide ((A.length + B.length) % (fC c * fQ b) = 0) = true from decide_eq_true (by rw [Nat.add_mod, h1.2.2, h2.2.2, Nat.add_zero, Nat.zero_mod]), Bool.and_true]

theorem err_yes {c b : Int} {A : List UInt8} (h : okGet c b A = true) : errGet c b A = 0 ∧ ansGet c b A = rows (fC c) (fQ b) A := by
  unfold errGet ansGet; rw [h]; exact ⟨rfl, rfl⟩
theorem err_no {c b : Int} {A : List UInt8} (h : okGet c b A = false) : errGet c b A = 1900 := by
  unfold errGet; rw [h]; rfl

theorem row_len (c b : Int) (A : List UInt8) (j : Nat) : ((ansGet c b A).getD j []).length ≤ 4096 := by
  cases h : okGet c b A
  · unfold ansGet; rw [h]; exact Nat.zero_le _
  · rw [(err_yes h).2]
    unfold okGet at h
    rw [Bool.and_eq_true, Bool.and_eq_true, decide_eq_true_eq] at h
    by_cases hj : j < fC c
    · rw [rows_get _ _ _ _ hj]
      simp only [List.length_map, List.length_range]
      exact Nat.le_trans (Nat.div_le_self _ _) h.2.1
    · rw [List.getD_eq_getElem?_getD, List.getElem?_eq_none (by rw [rows_length]; omega)]
      exact Nat.zero_le _

set_option maxRecDepth 20000 in
set_option maxHeartbeats 1000000 in
theorem join_walk (s t : ByteArray) (hs : s.size ≤ 140737488351232) (ht : t.size ≤ 140737488351232) (c b : Int) (w : World) :
    Calls Try.prog 6 #[.string s, .string t, fmt c b] w fun e w' => e = .returned (.bool true) ∧ Bel w w' := by
  obtain ⟨LA, hLA⟩ : ∃ L, s.data.toList = L := ⟨_, rfl⟩
  obtain ⟨LB, hLB⟩ : ∃ L, t.data.toList = L := ⟨_, rfl⟩
  have hLR : (s ++ t).data.toList = LA ++ LB := by rw [← hLA, ← hLB]; simp
  have hsz : (s ++ t).size ≤ maxLen := by
    rw [ByteArray.size_append]
    unfold maxLen; omega
  have hsl : s.size = LA.length ∧ t.size = LB.length := ⟨by rw [← hLA, Array.length_toList]; rfl, by rw [← hLB, Array.length_toList]; rfl⟩
  obtain ⟨ea, hea⟩ : ∃ e, errGet c b LA = e := ⟨_, rfl⟩
  obtain ⟨A, hA⟩ : ∃ A, ansGet c b LA = A := ⟨_, rfl⟩
  obtain ⟨eb, heb⟩ : ∃ e, errGet c b LB = e := ⟨_, rfl⟩
  obtain ⟨B, hB⟩ : ∃ A, ansGet c b LB = A := ⟨_, rfl⟩
  obtain ⟨er, her⟩ : ∃ e, errGet c b (LA ++ LB) = e := ⟨_, rfl⟩
  obtain ⟨R, hR⟩ : ∃ A, ansGet c b (LA ++ LB) = A := ⟨_, rfl⟩
  have GA : Hid (∀ w, Calls Try.prog 8 #[.string s, fmt c b] w fun e w' => ∃ bo k cp, e = .returned (.tuple #[.slice bo k cp, .int .i64 ea]) ∧ k = A.length ∧ k ≤ 2 ∧ OwnL w' w.heap.size w'.heap.size bo A ∧ Bel w w') := fun w => hea ▸ hA ▸ get_ok c b s LA hLA (by unfold maxLen; omega) w
  have GB : Hid (∀ w, Calls Try.prog 8 #[.string t, fmt c b] w fun e w' => ∃ bo k cp, e = .returned (.tuple #[.slice bo k cp, .int .i64 eb]) ∧ k = B.length ∧ k ≤ 2 ∧ OwnL w' w.heap.size w'.heap.size bo B ∧ Bel w w') := fun w => heb ▸ hB ▸ get_ok c b t LB hLB (by unfold maxLen; omega) w
  have GR : Hid (∀ w, Calls Try.prog 8 #[.string (s ++ t), fmt c b] w fun e w' => ∃ bo k cp, e = .returned (.tuple #[.slice bo k cp, .int .i64 er]) ∧ k = R.length ∧ k ≤ 2 ∧ OwnL w' w.heap.size w'.heap.size bo R ∧ Bel w w') := fun w => her ▸ hR ▸ get_ok c b (s ++ t) (LA ++ LB) hLR hsz w
  have LEN : Hid (∀ j, (A.getD j []).length ≤ 4096 ∧ (B.getD j []).length ≤ 4096 ∧ (R.getD j []).length ≤ 4096) := fun j => ⟨hA ▸ row_len c b LA j, hB ▸ row_len c b LB j, hR ▸ row_len c b (LA ++ LB) j⟩
  have M : Hid (∀ w, Calls Try.prog 15 #[fmt c b] w fun e w' => e = .returned (.bool (okF c b)) ∧ Bel w w') := fun w => rmay_ok c b w
  have AW : Hid (∀ w, Calls Try.prog 17 #[] w fun e w' => e = .returned (.bool true) ∧ Bel w w') := awake_true
  have CASE : Hid (ea = 1900 ∨ (ea = 0 ∧ eb = 1900) ∨ (ea = 0 ∧ eb = 0 ∧ er = 1900 ∧ 4096 < s.size + t.size) ∨ (ea = 0 ∧ eb = 0 ∧ er = 0 ∧ okF c b = true ∧ A.length = R.length ∧ B.length = R.length ∧ ∀ j, j < R.length → A.getD j [] ++ B.getD j [] = R.getD j [])) := by
    show _ ∨ _
    cases h1 : okGet c b LA
    · exact .inl (hea ▸ err_no h1)
    refine .inr ?_
    cases h2 : okGet c b LB
    · exact .inl ⟨hea ▸ (err_yes h1).1, heb ▸ err_no h2⟩
    refine .inr ?_
    have h3 := ok_cat h1 h2
    by_cases h4 : LA.length + LB.length ≤ 4096
    · rw [decide_eq_true h4] at h3
      refine .inr ⟨hea ▸ (err_yes h1).1, heb ▸ (err_yes h2).1, her ▸ (err_yes h3).1, ?_⟩
      rw [← hA, ← hB, ← hR, (err_yes h1).2, (err_yes h2).2, (err_yes h3).2, rows_length, rows_length, rows_length]
      unfold okGet at h1 h2
      rw [Bool.and_eq_true, Bool.and_eq_true, decide_eq_true_eq, decide_eq_true_eq] at h1 h2
      obtain ⟨q1, q2, _, _⟩ := okF_nat h1.1
      exact ⟨h1.1, rfl, rfl, fun j hj => (rows_cat LA LB (Nat.mul_pos (by omega) (by omega)) h1.2.2 h2.2.2 j hj).symm⟩
    · rw [decide_eq_false h4] at h3
      exact .inl ⟨hea ▸ (err_yes h1).1, heb ▸ (err_yes h2).1, her ▸ err_no h3, by omega⟩
  have XX : Hid (Box (w.alloc (.cells #[.int .i64 c, .int .i64 b] 24)) w.heap.size c b ∧ Bel w (w.alloc (.cells #[.int .i64 c, .int .i64 b] 24))) := ⟨box_new w c b, (Bel.refl _).alloc _⟩
  clear hLA hLB hLR hsz hsl hea hA heb hB her hR
  obtain ⟨wb, hwb⟩ : ∃ wb, w.alloc (.cells #[.int .i64 c, .int .i64 b] 24) = wb := ⟨_, rfl⟩
  have HW : Hid (w.alloc (.cells #[.int .i64 c, .int .i64 b] 24) = wb) := hwb
  obtain ⟨gb, hgb⟩ : ∃ gb, w.heap.size = gb := ⟨_, rfl⟩
  have HG : Hid (w.heap.size = gb) := hgb
  rw [hwb, hgb] at XX
  clear hwb hgb
  go_enter Try.func6, Try.ntmps6
  go_wp2_with fail
  rw [HW.out, HG.out]
  refine (AW.out _).mono ?_
  rintro e w1 ⟨rfl, b1⟩
  have B1 : Hid (Box w1 gb c b ∧ Bel w w1) := ⟨XX.out.1.bel b1, XX.out.2.trans b1⟩
  obtain ⟨x1, y1⟩ := B1.out.1
  clear b1
  go_wp2_with fail
  refine (GA.out _).mono ?_
  rintro e w2 ⟨pa, ka, ca, rfl, k2, m2, o2, b2⟩
  have O2 : Hid (Lls w2 pa A ∧ ka = A.length ∧ ka ≤ 2) := ⟨o2.lls, k2, m2⟩
  have B2 : Hid (Box w2 gb c b ∧ Bel w w2) := ⟨B1.out.1.bel b2, B1.out.2.trans b2⟩
  obtain ⟨x2, y2⟩ := B2.out.1
  clear o2 b2 k2 m2 x1 y1
  go_wp2_with fail
  refine (GB.out _).mono ?_
  rintro e w3 ⟨pb, kb, cb, rfl, k3, m3, o3, b3⟩
  have O3 : Hid (Lls w3 pb B ∧ kb = B.length ∧ kb ≤ 2) := ⟨o3.lls, k3, m3⟩
  have A3 : Hid (Lls w3 pa A) := O2.out.1.bel b3
  have B3 : Hid (Box w3 gb c b ∧ Bel w w3) := ⟨B2.out.1.bel b3, B2.out.2.trans b3⟩
  obtain ⟨x3, y3⟩ := B3.out.1
  clear o3 b3 k3 m3 x2 y2
  go_wp2_with fail
  refine (GR.out _).mono ?_
  rintro e w4 ⟨pr, kr, cr, rfl, k4, m4, o4, b4⟩
  have O4 : Hid ((Lls w4 pa A ∧ ka = A.length) ∧ (Lls w4 pb B ∧ kb = B.length) ∧ (Lls w4 pr R ∧ kr = R.length) ∧ kr ≤ 2) := ⟨⟨A3.out.bel b4, O2.out.2.1⟩, ⟨O3.out.1.bel b4, O3.out.2.1⟩, ⟨o4.lls, k4⟩, m4⟩
  have B4 : Hid (Box w4 gb c b ∧ Bel w w4) := ⟨B3.out.1.bel b4, B3.out.2.trans b4⟩
  obtain ⟨x4, y4⟩ := B4.out.1
  clear o4 b4 k4 m4 x3 y3 A3 O2 O3
  rcases CASE.out with rfl | ⟨rfl, rfl⟩ | ⟨rfl, rfl, rfl, hbig⟩ | ⟨rfl, rfl, rfl, hok, ha, hb, hcat⟩
  · go_wp2_with (go_at_call 13; refine (num_ok _ _).mono ?_; rintro e w99 ⟨rfl, hw⟩; replace hw := hw.symm; subst hw)
    go_ret
    exact ⟨rfl, B4.out.2⟩
  · go_wp2_with (go_at_call 13; refine (num_ok _ _).mono ?_; rintro e w99 ⟨rfl, hw⟩; replace hw := hw.symm; subst hw)
    go_ret
    exact ⟨rfl, B4.out.2⟩
  · have hgt : decide ((4096 : Int) < (s.size : Int) + (t.size : Int)) = true := decide_eq_true (by omega)
    go_wp2_with (go_at_call 13; refine (num_ok _ _).mono ?_; rintro e w99 ⟨rfl, hw⟩; replace hw := hw.symm; subst hw)
    go_ret
    exact ⟨rfl, B4.out.2⟩
  · rw [hok] at M
    have HC : Hid (∀ j, j < R.length → A.getD j [] ++ B.getD j [] = R.getD j []) := hcat
    obtain ⟨n, hn⟩ : ∃ n, kr = n := ⟨_, rfl⟩
    have O5 : Hid ((Lls w4 pa A ∧ n = A.length) ∧ (Lls w4 pb B ∧ n = B.length) ∧ (Lls w4 pr R ∧ n = R.length) ∧ n ≤ 2) := by
      have := O4.out
      exact ⟨⟨this.1.1, by omega⟩, ⟨this.2.1.1, by omega⟩, ⟨this.2.2.1.1, by omega⟩, by omega⟩
    obtain rfl : n = ka := by have := O4.out; omega
    obtain rfl : n = kb := by have := O4.out; omega
    subst hn
    have n2 : kr ≤ 2 := O5.out.2.2.2
    have hnn : ((kr : Int) != (kr : Int)) = false := by simp
    clear hcat ha hb O4 hok
    go_wp2_with (go_at_call 13; refine (num_ok _ _).mono ?_; rintro e w99 ⟨rfl, hw⟩; replace hw := hw.symm; subst hw)
    refine (M.out _).mono ?_
    rintro e w5 ⟨rfl, b5⟩
    have B5 : Hid (Bel w w5) := B4.out.2.trans b5
    have O6 : Hid ((Lls w5 pa A ∧ kr = A.length) ∧ (Lls w5 pb B ∧ kr = B.length) ∧ (Lls w5 pr R ∧ kr = R.length)) := ⟨⟨O5.out.1.1.bel b5, O5.out.1.2⟩, ⟨O5.out.2.1.1.bel b5, O5.out.2.1.2⟩, ⟨O5.out.2.2.1.1.bel b5, O5.out.2.2.1.2⟩⟩
    clear b5 x4 y4 O5
    go_wp2
    go_loopw [13] (fun i wr => ∃ j : Nat, j ≤ kr ∧ i = .int .i64 (j : Int) ∧ Hid (Bel w5 wr)) (fun i _ => kr - (intOf i).toNat)
    case atStart => exact ⟨0, Nat.zero_le _, rfl, Bel.refl _⟩
    case round =>
      obtain ⟨j, hj, rfl, hb⟩ := hrel
      by_cases hlt : j < kr
      · have hdj : decide ((j : Int) < (kr : Int)) = true := decide_eq_true (by omega)
        obtain ⟨xa, rfl, a1, c1, p1, s1, z1, t1⟩ := O6.out.1.1 j (by have := O6.out.1.2; omega)
        obtain ⟨xb, rfl, a2, c2, p2, s2, z2, t2⟩ := O6.out.2.1.1 j (by have := O6.out.2.1.2; omega)
        obtain ⟨xr, rfl, a3, c3, p3, s3, z3, t3⟩ := O6.out.2.2.1 j (by have := O6.out.2.2.2; omega)
        have LJ := LEN.out j
        have CAT := HC.out j (by have := O6.out.2.2.2; omega)
        generalize A.getD j [] = RA at *
        generalize B.getD j [] = RB at *
        generalize R.getD j [] = RR at *
        have T : Hid ((Slc w5 a1 RA ∧ (a1 = none → c1 = 0)) ∧ (Slc w5 a2 RB ∧ (a2 = none → c2 = 0)) ∧ Slc w5 a3 RR ∧ RA ++ RB = RR) := ⟨⟨t1, z1⟩, ⟨t2, z2⟩, t3, CAT⟩
        have g1 : ∀ o, (wr.alloc o).cell? (xa.add j) = some (.slice a1 RA.length c1) := fun o => (hb.out.alloc o).keep p1
        have P2 : Hid (w5.cell? (xb.add j) = some (.slice a2 RB.length c2)) := p2
        have P3 : Hid (w5.cell? (xr.add j) = some (.slice a3 RR.length c3)) := p3
        obtain ⟨la, hla⟩ : ∃ l, RA.length = l := ⟨_, rfl⟩
        obtain ⟨lb, hlb⟩ : ∃ l, RB.length = l := ⟨_, rfl⟩
        obtain ⟨lr, hlr⟩ : ∃ l, RR.length = l := ⟨_, rfl⟩
        rw [hla] at g1 LJ
        rw [hlb] at P2 LJ
        rw [hlr] at P3 LJ
        have LL : Hid (la = RA.length ∧ lb = RB.length ∧ lr = RR.length ∧ la ≤ 4096 ∧ lb ≤ 4096 ∧ lr ≤ 4096) := ⟨hla.symm, hlb.symm, hlr.symm, LJ⟩
        clear p1 p2 p3 s1 s2 s3 z1 z2 z3 t1 t2 t3 CAT hla hlb hlr LJ
        go_wp2_with (at_builtin; refine wpl_copy wr rfl (.tmp 89) (.tmp 93) rfl a1 RA la c1 rfl rfl LL.out.1 (by have := LL.out; omega) T.out.1.2 (T.out.1.1.bel hb.out) ?_)
        intro y w6 hy b6
        have Y6 : Hid (w6.ownsRow wr.heap.size 3 1 y la (vals RA)) := hy
        have B6 : Hid (Bel w5 w6 ∧ Bel wr w6) := ⟨hb.out.trans b6, b6⟩
        have S6 : Hid (wr.heap.size ≤ w6.heap.size) := b6.size
        have q2 := B6.out.1.keep P2.out
        clear hy b6 g1
        go_wp2_with (at_builtin; refine wpl_cat w6 rfl (.tmp 95) (.tmp 99) rfl wr.heap.size la S6.out y RA a2 RB lb c2 rfl Y6.out rfl LL.out.2.1 (by have := LL.out; omega) T.out.2.1.2 (T.out.2.1.1.bel B6.out.1) ?_)
        intro y2 w7 hy b7
        obtain ⟨yo, yc, rfl, -, -, -, hsl⟩ := owns_slc hy
        have B7 : Hid (Bel w5 w7) := Below.trans B6.out.1 (b7.mono hb.out.size)
        have Y7 : Hid (Slc w7 yo (RA ++ RB) ∧ la + lb = (RA ++ RB).length) := ⟨hsl, by rw [List.length_append]; have := LL.out; omega⟩
        have q3 := B7.out.keep P3.out
        clear hy hsl b7 q2 Y6 B6 S6
        have SI : Hid (Calls Try.prog 18 #[.slice yo (la + lb) yc, .slice a3 lr c3] w7 fun e w' => e = .returned (.bool true) ∧ ∃ q, w' = w7.drewN q) := by
          have := same_ok yo a3 (RA ++ RB) RR (la + lb) lr yc c3 Y7.out.2 LL.out.2.2.1 (by have := LL.out; unfold maxLen; omega) (by have := LL.out; unfold maxLen; omega) w7 Y7.out.1 (T.out.2.2.1.bel B7.out)
          rwa [decide_eq_true T.out.2.2.2] at this
        go_wp2_with fail
        refine SI.out.mono ?_
        rintro e w8 ⟨rfl, q8, hw⟩
        have B8 : Hid (Bel w5 w8) := B7.out.trans (hw ▸ (Bel.refl _).drewN q8)
        clear hw q3
        go_wp2
        go_roundw
        case rel => exact ⟨j + 1, by omega, by go_num, B8⟩
        case measure => simp [intOf]; omega
      · obtain rfl : kr = j := by omega
        have hdj : decide ((kr : Int) < (kr : Int)) = false := decide_eq_false (by omega)
        have FIN : Hid (Bel w wr) := B5.out.trans hb.out
        go_wp2
        go_ret
        exact ⟨rfl, FIN.out⟩

theorem join_row (s : ByteArray) (hs : s.size ≤ 140737488351232) (t : ByteArray) (ht : t.size ≤ 140737488351232) (F : List Int) (hF : F.length = 2) (w : World) :
    Calls Try.prog 6 #[.string s, .string t, mdl F] w fun e w' => e = .returned (.bool true) ∧ Bel w w' := by
  rw [fmt_of F hF]
  exact join_walk s t hs ht _ _ w

end Go.Proofs.Ytpakcajdbibbbaa.Pcm
