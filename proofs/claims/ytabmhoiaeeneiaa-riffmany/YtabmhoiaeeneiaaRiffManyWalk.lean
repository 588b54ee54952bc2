/-
  RiffMany, walked: it answers true for every int and every row of ints. No condition.
-/
import Derived.Test.YtabmhoiaeeneiaaRcMany
import Derived.Test.YtabmhoiaeeneiaaRcCut
namespace Go.Proofs.Ytabmhoiaeeneiaa.Chk
open Go.RowKit Go.Sort Go.Proofs.Ytabmhoiaeeneiaa.Mod Go.Proofs.Ytabmhoiaeeneiaa.Num
set_option linter.unusedVariables false
set_option linter.unusedSimpArgs false

theorem of_row {w : World} {a : Option Addr} {len cap : Nat} {zs : List Int}
    (h : (a = none ∧ len = 0 ∧ cap = 0 ∧ zs = []) ∨ ∃ x, a = some x ∧ len ≤ cap ∧ cap ≤ maxLen ∧ zs.length = cap ∧ (∀ i, i < zs.length → w.cell? (x.add i) = some (.int .i64 (zs.getD i 0))) ∧ ∀ n ∈ zs, (Lit.int .i64 n).wf = true) :
    len = (zs.take len).length ∧ len ≤ cap ∧ cap ≤ maxLen ∧ (a = none → cap = 0) ∧ Slc w a (zs.take len) := by
  rcases h with ⟨rfl, rfl, rfl, rfl⟩ | ⟨x, rfl, h1, h2, h3, h4, h5⟩
  · exact ⟨rfl, Nat.le_refl _, Nat.zero_le _, fun _ => rfl, slc_nil _ _⟩
  · refine ⟨by simp; omega, h1, h2, fun q => absurd q (by simp), ?_⟩
    have : Slc w (some x) zs := fun k hk => ⟨x, rfl, h4 k hk⟩
    exact this.take len

/-- The sizes that the row asks for. -/
def szs (L : List Int) (i : Nat) : Nat := if i < L.length then (L.getD i 0 % 8).toNat else 0
theorem szs_le (L : List Int) (i : Nat) : szs L i ≤ 7 := by unfold szs; split <;> omega
theorem and7 (n : Int) : bits .and .i64 n 7 = n % 8 := and_mask 3 7 (by decide) (by decide) n
theorem and127 (n : Int) : bits .and .i64 n 127 = n % 128 := and_mask 7 127 (by decide) (by decide) n

theorem conv4 (w w' : World) (z : Nat) (hz : z < 256) (x : Nat) (hx : x < 256) (xi : Int) (hxi : xi = (x : Int)) (e : ∀ a, w'.cell? a = (w.alloc (.cells #[.int .u8 (z : Int), .int .u8 xi, .int .u8 0, .int .u8 0] 5)).cell? a) :
    (convert 38 9 (.slice (some ⟨w.heap.size, 0, none⟩) 4 4)).run Try.prog w' = .ok (.string ⟨#[UInt8.ofNat z, UInt8.ofNat x, 0, 0]⟩) w' := by
  subst hxi
  have h := run_convert_bytes_back (P := Try.prog) w' 38 9 5 ⟨w.heap.size, 0, none⟩ 4 [UInt8.ofNat z, UInt8.ofNat x, 0, 0] Try.underlying38 Try.underlying5 Try.underlying9 (fun j hj => by
    rw [Addr.add_lit, Nat.zero_add, e, cell_of_row (w.alloc (.cells #[.int .u8 (z : Int), .int .u8 (x : Int), .int .u8 0, .int .u8 0] 5)) w.heap.size j _ 5 (0, 0) (heap_alloc_new w _)]
    have e1 : (UInt8.ofNat z).toNat = z := by rw [UInt8.toNat_ofNat', Nat.mod_eq_of_lt hz]
    have e2 : (UInt8.ofNat x).toNat = x := by rw [UInt8.toNat_ofNat', Nat.mod_eq_of_lt hx]
    match j, hj with
    | 0, _ => exact congrArg (fun n : Nat => some (Value.int .u8 (n : Int))) e1.symm
    | 1, _ => exact congrArg (fun n : Nat => some (Value.int .u8 (n : Int))) e2.symm
    | 2, _ => rfl
    | 3, _ => rfl)
  exact h

set_option maxRecDepth 20000 in
set_option maxHeartbeats 8000000 in
theorem many_at (m : Int) (k : Nat) (hm : m % 128 = (k : Int)) (ao : Option Addr) (L : List Int) (len cap : Nat) (hn : len = L.length) (hc : cap * 8 ≤ 140737488351232) (hlc : len ≤ cap) (w : World) (hA : Slc w ao L) :
    Calls Try.prog 6 #[.int .i64 m, .slice ao len cap] w fun e w' => e = .returned (.bool true) ∧ Bel w w' := by
  have hk : bits .and .i64 m 127 = (k : Int) := (and127 m).trans hm
  have k127 : k ≤ 127 := by omega
  have HA : Hid (Slc w ao L) := hA
  have HN : Hid (len = L.length) := hn
  have F7 : Hid (∀ i, szs L i ≤ 7) := szs_le L
  have TLn : Hid (∀ i, 4 + 8 * i ≤ (txtM (szs L) i).length ∧ (txtM (szs L) i).length ≤ 4 + 16 * i) := txtM_length _ (szs_le L)
  have FS : Hid (∀ i, i < len → ∀ v : Int, L.getD i 0 = v → v % 8 = ((szs L i : Nat) : Int)) := fun i hi v hv => by
    unfold szs
    rw [if_pos (hn ▸ hi), hv]
    omega
  have FZ : Hid (∀ i, len ≤ i → szs L i = 0) := fun i hi => by
    unfold szs
    rw [if_neg (by omega)]
  have CF : Hid (k ≤ 64 → chunks (filM (txtM (szs L) k).length (txtM (szs L) k)) = some (wanM (szs L) k)) := chunks_few _ (szs_le L) k
  have CL : Hid (64 < k → chunks (filM (txtM (szs L) k).length (txtM (szs L) k)) = none) := fun h => chunks_lots _ (szs_le L) k h k127
  have TS : Hid (∀ i, txtM (szs L) (i + 1) = txtM (szs L) i ++ bod (szs L i)) := fun _ => rfl
  have WS : Hid (∀ i, wanM (szs L) (i + 1) = wanM (szs L) i ++ [(nm, (txtM (szs L) i).length + 16, szs L i)]) := fun _ => rfl
  have WN : Hid (∀ i, (wanM (szs L) i).length = i) := wanM_length _
  have T0 : Hid (txtM (szs L) 0 = [87, 65, 86, 69]) := rfl
  have W0 : Hid (wanM (szs L) 0 = []) := rfl
  generalize szs L = f at *
  clear hm hA hn
  obtain ⟨B, hB⟩ : ∃ B, w.heap.size = B := ⟨_, rfl⟩
  have HB : Hid (w.heap.size = B) := hB
  clear hB
  go_enter Try.func6, Try.ntmps6
  go_wp2_with fail
  refine (awake_ok _).mono ?_
  rintro e w1 ⟨rfl, b1⟩
  have B1 : Hid (Bel w w1) := b1
  clear b1
  go_wp2
  go_loopw [6, 7, 8] (fun s v i wr => ∃ (j : Nat) (t : ByteArray) (bo : Option Addr) (cp : Nat), j ≤ k ∧ i = .int .i64 j ∧ s = .string t ∧ v = .slice bo j cp ∧ t.size ≤ 4 + 16 * j ∧ Hid (t.data.toList = txtM f j) ∧ Hid (OwnR wr B (.slice bo j cp) j (wanM f j)) ∧ Hid (Bel w wr)) (fun _ _ i _ => k - (intOf i).toNat)
  case atStart => exact ⟨0, ⟨#[87, 65, 86, 69]⟩, none, 0, Nat.zero_le _, rfl, rfl, rfl, by decide, T0.out.symm, (by rw [W0.out]; exact own_none _ _), B1.out⟩
  case round =>
    obtain ⟨j, t, bo, cp, hj, rfl, rfl, rfl, hts, ht, ho, hb⟩ := hrel
    have HT := size_len t _ ht.out
    by_cases hlt : j < k
    · have hd : decide ((j : Int) < (k : Int)) = true := decide_eq_true (by omega)
      obtain ⟨z, hz⟩ : ∃ z, f j = z := ⟨_, rfl⟩
      have z7 : z ≤ 7 := hz ▸ F7.out j
      have HZ : Hid (f j = z) := hz
      clear hz
      obtain ⟨q, hq⟩ : ∃ q : Nat, 4 + (t.size : Int) + 12 = (q : Int) := ⟨4 + t.size + 12, by omega⟩
      have HQ : Hid (q = (txtM f j).length + 16) := (by rw [← HT]; omega : _ = _)
      clear HT
      by_cases hjl : j < len
      · have hd2 : decide ((j : Int) < (len : Int)) = true := decide_eq_true (by omega)
        have hd2b : decide (j < len) = true := decide_eq_true hjl
        obtain ⟨x, rfl, hcell⟩ := HA.out j (by rw [← HN.out]; exact hjl)
        have hcw : wr.cell? (x.add j) = some (.int .i64 (L.getD j 0)) := hb.out.keep hcell
        have h8 : bits .and .i64 (L.getD j 0) 7 = (z : Int) := (and7 _).trans ((FS.out j hjl _ rfl).trans (by rw [HZ.out]))
        clear hcell
        generalize L.getD j 0 = v at *
        have SW : Hid (B ≤ wr.heap.size ∧ j ≤ 4096) := ⟨by rw [← HB.out]; exact hb.out.size, by omega⟩
        go_wp2_with (at_builtin; refine wpl_moreC wr rfl (.tmp 31) (.tmp 38) rfl B j SW.out.1 (.slice bo j cp) (wanM f j) nm q z _ rfl rfl rfl ho.out SW.out.2 ?_)
        intro v' w4 ho4 x4
        obtain ⟨bo4, cp4, rfl⟩ := own_form ho4
        have O4 : Hid (OwnR w4 B (.slice bo4 (j + 1) cp4) (j + 1) (wanM f (j + 1))) := (by rw [WS.out j, ← HQ.out, HZ.out]; exact ho4 : OwnR _ _ _ _ _)
        have B4 : Hid (Bel w w4) := x4.from hb.out (fun i hi => by rw [HB.out]; exact (ho.out.lt i hi).1)
        clear x4 ho4 ho hb hq
        go_upto_region 13 with fail
        have cv0 := conv4 w4 (w4.alloc (.cells #[.int .u8 (z : Int), .int .u8 0, .int .u8 0, .int .u8 0] 5)) z (by omega) 0 (by omega) 0 rfl (fun _ => rfl)
        have cv1 := conv4 w4 (w4.alloc (.cells #[.int .u8 (z : Int), .int .u8 0, .int .u8 0, .int .u8 0] 5)).drew z (by omega) 0 (by omega) 0 rfl (fun _ => rfl)
        have zs : (⟨#[UInt8.ofNat z, UInt8.ofNat 0, 0, 0]⟩ : ByteArray).size = 4 := rfl
        have ze : ((⟨#[48, 49, 50, 51, 52, 53, 54]⟩ : ByteArray).extract 0 z).size ≤ 7 := by rw [ByteArray.size_extract]; exact Nat.le_trans (Nat.sub_le _ _) (Nat.min_le_right _ _)
        have t16 : t.size ≤ 2036 := by omega
        go_cut [6] from 40 to 49 (fun v6 wx => ∃ t2 : ByteArray, v6 = .string t2 ∧ t2.data.toList = txtM f j ++ (nm ++ [UInt8.ofNat z, 0, 0, 0] ++ dg.take z) ∧ Bel w4 wx)
        case first =>
          go_region
          all_goals go_wp2_with fail
          all_goals go_meet
          refine ⟨_, rfl, ?_, ((Bel.refl _).alloc _).drew⟩
          rw [cat_list, cat_list, cat_list, ext_mid, ht.out, List.append_assoc, List.append_assoc]; rfl
        case rest =>
          obtain ⟨t2, rfl, e2, bw⟩ := hcut
          have E2 : Hid (t2.data.toList = txtM f j ++ (nm ++ [UInt8.ofNat z, 0, 0, 0] ++ dg.take z)) := e2
          have B5 : Hid (Bel w wc) := B4.out.trans bw
          have O5 : Hid (OwnR wc B (.slice bo4 (j + 1) cp4) (j + 1) (wanM f (j + 1))) := own_bel O4.out bw
          have TN : Hid ((txtM f (j + 1)).length ≤ 4 + 16 * (j + 1)) := (TLn.out (j + 1)).2
          have K1 : bits .and .i64 (z : Int) 1 = (z : Int) % 2 := and1 _
          have st2 : t2.size ≤ 2036 := by
            rw [size_len _ _ e2]
            have h1 := (TLn.out j).2
            have h2 : (dg.take z).length ≤ z := by rw [List.length_take]; omega
            have h3 : (txtM f j ++ (nm ++ [UInt8.ofNat z, 0, 0, 0] ++ dg.take z)).length = (txtM f j).length + (8 + (dg.take z).length) := by
              rw [List.length_append, List.length_append]; rfl
            omega
          clear e2 bw O4 B4 cv0 cv1 zs ze
          by_cases hodd : z % 2 = 1
          · have o1 : ((z : Int) % 2 == 1) = true := by simp; omega
            have e3 : (t2 ++ (⟨#[63]⟩ : ByteArray)).data.toList = txtM f (j + 1) := by
              rw [cat_list, E2.out, TS.out, HZ.out]
              unfold bod
              rw [if_pos hodd]
              simp only [List.append_assoc]
            have HE : Hid ((t2 ++ (⟨#[63]⟩ : ByteArray)).data.toList = txtM f (j + 1)) := e3
            have s3 : (t2 ++ (⟨#[63]⟩ : ByteArray)).size ≤ 4 + 16 * (j + 1) := by rw [size_len _ _ e3]; exact TN.out
            clear hodd e3 E2
            go_wp2
            go_roundw
            case rel => exact ⟨j + 1, _, bo4, cp4, by omega, by go_num, rfl, by go_num, s3, HE.out, O5.out, B5.out⟩
            case measure => simp [intOf]; omega
          · have o1 : ((z : Int) % 2 == 1) = false := by simp; omega
            have e3 : t2.data.toList = txtM f (j + 1) := by
              rw [E2.out, TS.out, HZ.out]
              unfold bod
              rw [if_neg hodd, List.append_nil]
            have HE : Hid (t2.data.toList = txtM f (j + 1)) := e3
            have s3 : t2.size ≤ 4 + 16 * (j + 1) := by rw [size_len _ _ e3]; exact TN.out
            clear hodd e3 E2
            go_wp2
            go_roundw
            case rel => exact ⟨j + 1, t2, bo4, cp4, by omega, by go_num, rfl, by go_num, s3, HE.out, O5.out, B5.out⟩
            case measure => simp [intOf]; omega
      · have hd2 : decide ((j : Int) < (len : Int)) = false := decide_eq_false (by omega)
        have hd2b : decide (j < len) = false := decide_eq_false hjl
        obtain rfl : z = 0 := HZ.out.symm.trans (FZ.out j (by omega))
        have SW : Hid (B ≤ wr.heap.size ∧ j ≤ 4096) := ⟨by rw [← HB.out]; exact hb.out.size, by omega⟩
        go_wp2_with (at_builtin; refine wpl_moreC wr rfl (.tmp 31) (.tmp 38) rfl B j SW.out.1 (.slice bo j cp) (wanM f j) nm q 0 _ rfl rfl rfl ho.out SW.out.2 ?_)
        intro v' w4 ho4 x4
        obtain ⟨bo4, cp4, rfl⟩ := own_form ho4
        have O4 : Hid (OwnR w4 B (.slice bo4 (j + 1) cp4) (j + 1) (wanM f (j + 1))) := (by rw [WS.out j, ← HQ.out, HZ.out]; exact ho4 : OwnR _ _ _ _ _)
        have B4 : Hid (Bel w w4) := x4.from hb.out (fun i hi => by rw [HB.out]; exact (ho.out.lt i hi).1)
        clear x4 ho4 ho hb hq
        go_upto_region 13 with fail
        have cv0 := conv4 w4 (w4.alloc (.cells #[.int .u8 (0 : Int), .int .u8 0, .int .u8 0, .int .u8 0] 5)) 0 (by omega) 0 (by omega) 0 rfl (fun _ => rfl)
        have cv1 := conv4 w4 (w4.alloc (.cells #[.int .u8 (0 : Int), .int .u8 0, .int .u8 0, .int .u8 0] 5)).drew 0 (by omega) 0 (by omega) 0 rfl (fun _ => rfl)
        have zs : (⟨#[UInt8.ofNat 0, UInt8.ofNat 0, 0, 0]⟩ : ByteArray).size = 4 := rfl
        have ze : ((⟨#[48, 49, 50, 51, 52, 53, 54]⟩ : ByteArray).extract 0 0).size ≤ 7 := by rw [ByteArray.size_extract]; exact Nat.le_trans (Nat.sub_le _ _) (Nat.min_le_right _ _)
        have t16 : t.size ≤ 2036 := by omega
        go_cut [6] from 40 to 49 (fun v6 wx => ∃ t2 : ByteArray, v6 = .string t2 ∧ t2.data.toList = txtM f j ++ (nm ++ [UInt8.ofNat 0, 0, 0, 0] ++ dg.take 0) ∧ Bel w4 wx)
        case first =>
          go_region
          all_goals go_wp2_with fail
          all_goals go_meet
          refine ⟨_, rfl, ?_, ((Bel.refl _).alloc _).drew⟩
          rw [cat_list, cat_list, ht.out, List.append_assoc]; rfl
        case rest =>
          obtain ⟨t2, rfl, e2, bw⟩ := hcut
          have E2 : Hid (t2.data.toList = txtM f j ++ (nm ++ [UInt8.ofNat 0, 0, 0, 0] ++ dg.take 0)) := e2
          have B5 : Hid (Bel w wc) := B4.out.trans bw
          have O5 : Hid (OwnR wc B (.slice bo4 (j + 1) cp4) (j + 1) (wanM f (j + 1))) := own_bel O4.out bw
          have TN : Hid ((txtM f (j + 1)).length ≤ 4 + 16 * (j + 1)) := (TLn.out (j + 1)).2
          clear e2 bw O4 B4 cv0 cv1 zs ze
          have e3 : t2.data.toList = txtM f (j + 1) := by
            rw [E2.out, TS.out, HZ.out]
            unfold bod
            rw [if_neg (by decide), List.append_nil]
          have HE : Hid (t2.data.toList = txtM f (j + 1)) := e3
          have s3 : t2.size ≤ 4 + 16 * (j + 1) := by rw [size_len _ _ e3]; exact TN.out
          clear e3 E2
          go_wp2
          go_roundw
          case rel => exact ⟨j + 1, t2, bo4, cp4, by omega, by go_num, rfl, by go_num, s3, HE.out, O5.out, B5.out⟩
          case measure => simp [intOf]; omega
    · obtain rfl : j = k := by omega
      have hd : decide ((j : Int) < (j : Int)) = false := decide_eq_false (by omega)
      obtain ⟨X, hX⟩ : ∃ X : Nat, (t.size : Int) % 256 = (X : Int) := ⟨t.size % 256, by omega⟩
      obtain ⟨Y, hY⟩ : ∃ Y : Nat, (t.size : Int) / 256 = (Y : Int) := ⟨t.size / 256, by omega⟩
      have X256 : X < 256 := by omega
      have Y256 : Y < 256 := by omega
      have SO : Hid (Slk wr bo (wanM f j)) := (by obtain ⟨_, _, e, hs, _⟩ := own_c ho.out; injection e with e1 _ _; rw [e1]; exact hs : Slk _ _ _)
      obtain ⟨FT, hFT⟩ : ∃ FT, ((⟨#[82, 73, 70, 70]⟩ : ByteArray) ++ (⟨#[UInt8.ofNat X, UInt8.ofNat Y, 0, 0]⟩ : ByteArray) ++ t) = FT := ⟨_, rfl⟩
      have eF : FT.data.toList = filM (txtM f j).length (txtM f j) := by
        rw [← hFT, cat_list, cat_list, ht.out, ← HT]
        unfold filM
        rw [show t.size % 256 = X by omega, show t.size / 256 = Y by omega]
      have sF : FT.size ≤ maxLen := by
        rw [size_len _ _ eF]
        unfold filM maxLen
        have := (TLn.out j).2
        simp
        omega
      have CK : Hid (∀ R w, chunks (filM (txtM f j).length (txtM f j)) = R → Calls Try.prog 8 #[.string FT] w fun e w' => (∃ ao cap, e = .returned (.tuple #[.slice ao (ansR R).length cap, .int .i64 (errR R)]) ∧ (ansR R).length ≤ cap ∧ Slk w' ao (ansR R)) ∧ Bel w w') := fun R w hR => chunks_k FT _ eF sF R hR w
      have zs : (⟨#[UInt8.ofNat X, UInt8.ofNat Y, 0, 0]⟩ : ByteArray).size = 4 := rfl
      have t16 : t.size ≤ 2036 := by omega
      clear eF sF ho HT
      go_upto_region 17 with fail
      have cv := conv4 wr (wr.alloc (.cells #[.int .u8 (X : Int), .int .u8 (Y : Int), .int .u8 0, .int .u8 0] 5)) X X256 Y Y256 (Y : Int) rfl (fun _ => rfl)
      have B6 : Hid (Bel w (wr.alloc (.cells #[.int .u8 (X : Int), .int .u8 (Y : Int), .int .u8 0, .int .u8 0] 5))) := hb.out.alloc _
      have S6 : Hid (Slk (wr.alloc (.cells #[.int .u8 (X : Int), .int .u8 (Y : Int), .int .u8 0, .int .u8 0] 5)) bo (wanM f j)) := SO.out.bel ((Bel.refl _).alloc _)
      by_cases h64 : j ≤ 64
      · have g1 : decide (64 < (j : Int)) = false := decide_eq_false (by omega)
        have C2 : Hid (∀ w, Calls Try.prog 8 #[.string FT] w fun e w' => (∃ ao cap, e = .returned (.tuple #[.slice ao j cap, .int .i64 0]) ∧ j ≤ cap ∧ Slk w' ao (wanM f j)) ∧ Bel w w') := fun w => by
          have := CK.out _ w (CF.out h64)
          have e : (ansR (some (wanM f j))).length = j := WN.out j
          rw [e] at this
          exact this
        clear CK CF CL h64
        go_wp2_with fail
        refine (C2.out _).mono ?_
        rintro e w7 ⟨⟨co, cpp, rfl, _, s7⟩, b7⟩
        have B7 : Hid (Bel w w7) := B6.out.trans b7
        have S7 : Hid (Slk w7 bo (wanM f j)) := S6.out.bel b7
        have D7 : Hid (Slk w7 co (wanM f j)) := s7
        clear b7 s7 S6 SO
        go_wp2_with fail
        refine (num_ok 0 _).mono ?_
        rintro e w8 ⟨rfl, rfl⟩
        go_wp2_with fail
        refine (same_ok co bo (wanM f j) (wanM f j) j j cpp cp (WN.out j).symm (WN.out j).symm (by unfold maxLen; omega) (by unfold maxLen; omega) _ D7.out S7.out).mono ?_
        rw [decide_eq_true (show wanM f j = wanM f j from rfl)]
        rintro e w9 ⟨rfl, nq, rfl⟩
        go_wp2
        go_ret
        exact ⟨rfl, B7.out.drewN nq⟩
      · have g1 : decide (64 < (j : Int)) = true := decide_eq_true (by omega)
        have C2 : Hid (∀ w, Calls Try.prog 8 #[.string FT] w fun e w' => (∃ ao cap, e = .returned (.tuple #[.slice ao 0 cap, .int .i64 2000]) ∧ 0 ≤ cap ∧ Slk w' ao []) ∧ Bel w w') := fun w => CK.out _ w (CL.out (by omega))
        clear CK CF CL h64
        go_wp2_with fail
        refine (C2.out _).mono ?_
        rintro e w7 ⟨⟨co, cpp, rfl, _, s7⟩, b7⟩
        have B7 : Hid (Bel w w7) := B6.out.trans b7
        clear b7 s7 S6 SO
        go_wp2
        go_ret
        exact ⟨rfl, B7.out⟩

/-- RiffMany, as the frame hands its row. -/
theorem many_walk (m : Int) (a : Option Addr) (len cap : Nat) (zs : List Int) (w : World)
    (h : (a = none ∧ len = 0 ∧ cap = 0 ∧ zs = []) ∨ ∃ x, a = some x ∧ len ≤ cap ∧ cap ≤ maxLen ∧ zs.length = cap ∧ (∀ i, i < zs.length → w.cell? (x.add i) = some (.int .i64 (zs.getD i 0))) ∧ ∀ n ∈ zs, (Lit.int .i64 n).wf = true)
    (h8 : cap * 8 ≤ 140737488351232) : Calls Try.prog 6 #[.int .i64 m, .slice a len cap] w fun e w' => e = .returned (.bool true) ∧ Bel w w' := by
  obtain ⟨q1, q2, q3, q4, q5⟩ := of_row h
  exact many_at m (m % 128).toNat (by omega) a _ len cap q1 h8 q2 w q5

end Go.Proofs.Ytabmhoiaeeneiaa.Chk
