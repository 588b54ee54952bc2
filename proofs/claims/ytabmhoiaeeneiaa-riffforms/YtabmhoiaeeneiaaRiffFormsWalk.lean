/-
  RiffForms, walked: it answers true for every two ints. No condition.
-/
import Derived.Test.YtabmhoiaeeneiaaRcForms
namespace Go.Proofs.Ytabmhoiaeeneiaa.Chk
open Go.RowKit Go.Sort Go.Proofs.Ytabmhoiaeeneiaa.Mod Go.Proofs.Ytabmhoiaeeneiaa.Num
set_option linter.unusedVariables false
set_option linter.unusedSimpArgs false

/-- Where a byte is turned: in the head, or behind. -/
def Place (k : Nat) : Prop := k < 60 ∧ ((k = 0 ∨ k = 3 ∨ k = 4 ∨ k = 5 ∨ k = 7 ∨ k = 8 ∨ k = 11) ∨ 16 ≤ k ∧ (k < 20 ∨ 40 ≤ k))

set_option maxRecDepth 20000 in
set_option maxHeartbeats 8000000 in
theorem forms_walk (a x : Int) (w : World) :
    Calls Try.prog 5 #[.int .i64 a, .int .i64 x] w fun e w' => e = .returned (.bool true) ∧ Bel w w' := by
  obtain ⟨K, hK, hk⟩ := place_of a 14 (by omega) (by omega)
  obtain ⟨Q, hQ, hq⟩ := place_of x 60 (by omega) (by omega)
  obtain ⟨r, hr⟩ : ∃ r : Nat, x % 1024 = (r : Int) := ⟨(x % 1024).toNat, by omega⟩
  have hx : bits .and .i64 x 1023 = (r : Int) := (and1023 x).trans hr
  obtain ⟨D, hD⟩ : ∃ D : Nat, 1 + (r : Int) = (D : Int) := ⟨1 + r, by omega⟩
  obtain ⟨N, hN⟩ : ∃ N : Nat, 4096 + (D : Int) = (N : Int) := ⟨4096 + D, by omega⟩
  obtain ⟨u, hu⟩ : ∃ u : Nat, x % 64 = (u : Int) := ⟨(x % 64).toNat, by omega⟩
  have hx2 : bits .and .i64 x 63 = (u : Int) := (and_mask 6 63 (by decide) (by decide) x).trans hu
  have r1 : r ≤ 1023 := by omega
  have u1 : u ≤ 63 := by omega
  have d1 : 1 ≤ D ∧ D ≤ 1024 := by omega
  have n1 : 4096 < N ∧ N ≤ 8192 := by omega
  obtain ⟨V, hV⟩ : ∃ V : Nat, 1 + (u : Int) = (V : Int) := ⟨1 + u, by omega⟩
  have v1 : 1 ≤ V ∧ V ≤ 64 := by omega
  have mkD : ∀ w, (Instr.makeSlice 38 (.int .i64 (D : Int)) (.int .i64 (D : Int))).run Try.prog w = .ok (.slice (some ⟨w.heap.size, 0, none⟩) D D) (w.alloc (.cells (madeCells #[.int .u8 0] D) 5)) := fun w =>
    run_make_row' (P := Try.prog) 38 5 (.int .u8 0) 1 Try.underlying38 Byt.info_byte rfl .i64 .i64 D (by omega) (by omega) w
  have mkN : ∀ w, (Instr.makeSlice 38 (.int .i64 (N : Int)) (.int .i64 (N : Int))).run Try.prog w = .ok (.slice (some ⟨w.heap.size, 0, none⟩) N N) (w.alloc (.cells (madeCells #[.int .u8 0] N) 5)) := fun w =>
    run_make_row' (P := Try.prog) 38 5 (.int .u8 0) 1 Try.underlying38 Byt.info_byte rfl .i64 .i64 N (by omega) (by omega) w
  have cvD : ∀ w : World, (convert 38 9 (.slice (some ⟨w.heap.size, 0, none⟩) D D)).run Try.prog (w.alloc (.cells (madeCells #[.int .u8 0] D) 5)) = .ok (.string (zeros D)) (w.alloc (.cells (madeCells #[.int .u8 0] D) 5)) := fun w => zeros_conv w _ D (fun _ => rfl)
  have cvN : ∀ w : World, (convert 38 9 (.slice (some ⟨w.heap.size, 0, none⟩) N N)).run Try.prog (w.alloc (.cells (madeCells #[.int .u8 0] N) 5)) = .ok (.string (zeros N)) (w.alloc (.cells (madeCells #[.int .u8 0] N) 5)) := fun w => zeros_conv w _ N (fun _ => rfl)
  have zD := zeros_size D
  have zN := zeros_size N
  have W : Hid (∀ w, Calls Try.prog 14 #[.agg #[.int .i64 1, .int .i64 8], .string ⟨#[97, 98, 99]⟩] w fun e w' => e = .returned (.string ⟨abcB.toArray⟩) ∧ Bel w w') := abc_ok
  obtain ⟨S, hS⟩ : ∃ S : ByteArray, (⟨abcB.toArray⟩ : ByteArray) = S := ⟨_, rfl⟩
  rw [hS] at W
  have z : S.size = 60 := by rw [← hS]; rfl
  have HS : Hid (S.data.toList = abcB) := (by rw [← hS] : _ = _)
  have R2 : Hid (∀ w, Calls Try.prog 8 #[.string (S ++ zeros D)] w fun e w' => e = .returned (.tuple #[.slice none 0 0, .int .i64 2000]) ∧ Bel w w') := fun w => chunks_no _ _ (by rw [cat_list, HS.out, zeros_list]) (by rw [size_len _ _ (cat_list S (zeros D)), List.length_append, ← size_len S _ rfl, z, zeros_list, List.length_replicate]; unfold maxLen; omega) (wav_more _ (by rw [List.length_replicate]; exact d1.1)) w
  have R3 : Hid (∀ w, Calls Try.prog 8 #[.string (S.extract 0 Q)] w fun e w' => e = .returned (.tuple #[.slice none 0 0, .int .i64 2000]) ∧ Bel w w') := fun w => by
    have e : (S.extract 0 Q).data.toList = abcB.take Q := by rw [ext_mid, HS.out, List.drop_zero, Nat.sub_zero]
    exact chunks_no _ _ e (by rw [size_len _ _ e, List.length_take, abc_len]; unfold maxLen; omega) (wav_less Q (by omega)) w
  have R4 : Hid (∀ w, Calls Try.prog 8 #[.string (zeros N)] w fun e w' => e = .returned (.tuple #[.slice none 0 0, .int .i64 2000]) ∧ Bel w w') := fun w => chunks_no _ _ (zeros_list N) (by rw [zN]; unfold maxLen; omega) (wav_long (by rw [List.length_replicate]; exact n1.1)) w
  have RF : Hid (∀ w, Calls Try.prog 9 #[.string S] w fun e w' => (∃ ao cap, e = .returned (.tuple #[.slice ao 3 cap, .int .i64 0])) ∧ Bel w w') := fun w => by
    refine (ref_c S abcB HS.out (by rw [z]; unfold maxLen; decide) w).mono ?_
    rw [chunks_abc]
    rintro e w' ⟨⟨ao, cap, h, _⟩, b⟩
    exact ⟨⟨ao, cap, h⟩, b⟩
  have hidx := fun (k : Nat) (h : k < 60) (w : World) => Byt.idx S abcB HS.out k (by rw [abc_len]; exact h) w
  clear hr hu hS
  have hcv := fun w => run_bytes_of_string (P := Try.prog) w 9 38 5 S Try.underlying9 Try.underlying38 Try.underlying5
  rw [z] at hcv
  go_enter Try.func5, Try.ntmps5
  go_wp2_with fail
  refine (awake_ok _).mono ?_
  rintro e w1 ⟨rfl, b1⟩
  have B1 : Hid (Bel w w1) := b1
  clear b1
  go_wp2_with fail
  refine (W.out _).mono ?_
  rintro e w2 ⟨rfl, b2⟩
  have B2 : Hid (Bel w w2) := B1.out.trans b2
  have SZ : Hid (w.heap.size ≤ w2.heap.size) := B2.out.size
  clear b2 B1
  go_upto_region 6 with fail
  obtain ⟨cap, hcap⟩ : ∃ cap, grownCap w2 60 0 5 = cap := ⟨_, rfl⟩
  have HC : Hid (grownCap w2 60 0 5 = cap) := hcap
  clear hcap
  go_cut [8] from 28 to 34 (fun v8 wx => ∃ k : Nat, v8 = .int .i64 k ∧ Place k ∧ HoldB wx w2.heap.size abcB ∧ Bel w2 wx)
  case first =>
    match K, hK with
    | 0, _ => go_wp2_with fail; go_meet; exact ⟨0, by go_num, by unfold Place; omega, HS.out ▸ ((holdB_bytes S w2 _ _).drew).bel ((Bel.refl _).alloc _), (((Bel.refl _).alloc _).drew).alloc _⟩
    | 1, _ => go_wp2_with fail; go_meet; exact ⟨3, by go_num, by unfold Place; omega, HS.out ▸ ((holdB_bytes S w2 _ _).drew).bel ((Bel.refl _).alloc _), (((Bel.refl _).alloc _).drew).alloc _⟩
    | 2, _ => go_wp2_with fail; go_meet; exact ⟨4, by go_num, by unfold Place; omega, HS.out ▸ ((holdB_bytes S w2 _ _).drew).bel ((Bel.refl _).alloc _), (((Bel.refl _).alloc _).drew).alloc _⟩
    | 3, _ => go_wp2_with fail; go_meet; exact ⟨5, by go_num, by unfold Place; omega, HS.out ▸ ((holdB_bytes S w2 _ _).drew).bel ((Bel.refl _).alloc _), (((Bel.refl _).alloc _).drew).alloc _⟩
    | 4, _ => go_wp2_with fail; go_meet; exact ⟨7, by go_num, by unfold Place; omega, HS.out ▸ ((holdB_bytes S w2 _ _).drew).bel ((Bel.refl _).alloc _), (((Bel.refl _).alloc _).drew).alloc _⟩
    | 5, _ => go_wp2_with fail; go_meet; exact ⟨8, by go_num, by unfold Place; omega, HS.out ▸ ((holdB_bytes S w2 _ _).drew).bel ((Bel.refl _).alloc _), (((Bel.refl _).alloc _).drew).alloc _⟩
    | 6, _ => go_wp2_with fail; go_meet; exact ⟨11, by go_num, by unfold Place; omega, HS.out ▸ ((holdB_bytes S w2 _ _).drew).bel ((Bel.refl _).alloc _), (((Bel.refl _).alloc _).drew).alloc _⟩
    | 7, _ => go_wp2_with fail; go_meet; exact ⟨16, by go_num, by unfold Place; omega, HS.out ▸ ((holdB_bytes S w2 _ _).drew).bel ((Bel.refl _).alloc _), (((Bel.refl _).alloc _).drew).alloc _⟩
    | 8, _ => go_wp2_with fail; go_meet; exact ⟨17, by go_num, by unfold Place; omega, HS.out ▸ ((holdB_bytes S w2 _ _).drew).bel ((Bel.refl _).alloc _), (((Bel.refl _).alloc _).drew).alloc _⟩
    | 9, _ => go_wp2_with fail; go_meet; exact ⟨19, by go_num, by unfold Place; omega, HS.out ▸ ((holdB_bytes S w2 _ _).drew).bel ((Bel.refl _).alloc _), (((Bel.refl _).alloc _).drew).alloc _⟩
    | 10, _ => go_wp2_with fail; go_meet; exact ⟨40, by go_num, by unfold Place; omega, HS.out ▸ ((holdB_bytes S w2 _ _).drew).bel ((Bel.refl _).alloc _), (((Bel.refl _).alloc _).drew).alloc _⟩
    | 11, _ => go_wp2_with fail; go_meet; exact ⟨43, by go_num, by unfold Place; omega, HS.out ▸ ((holdB_bytes S w2 _ _).drew).bel ((Bel.refl _).alloc _), (((Bel.refl _).alloc _).drew).alloc _⟩
    | 12, _ => go_wp2_with fail; go_meet; exact ⟨52, by go_num, by unfold Place; omega, HS.out ▸ ((holdB_bytes S w2 _ _).drew).bel ((Bel.refl _).alloc _), (((Bel.refl _).alloc _).drew).alloc _⟩
    | 13, _ => go_wp2_with fail; go_meet; exact ⟨55, by go_num, by unfold Place; omega, HS.out ▸ ((holdB_bytes S w2 _ _).drew).bel ((Bel.refl _).alloc _), (((Bel.refl _).alloc _).drew).alloc _⟩
    | k + 14, h => omega
  case rest =>
    obtain ⟨k, rfl, hp, hb, bw⟩ := hcut
    have HB : Hid (HoldB wc w2.heap.size abcB) := hb
    have B3 : Hid (Bel w wc) := B2.out.trans bw
    obtain ⟨B, hB⟩ : ∃ B, w2.heap.size = B := ⟨_, rfl⟩
    rw [hB] at HB SZ
    rw [hB, HC.out]
    have k60 : k < 60 := hp.1
    obtain ⟨c0, f0⟩ := HB.out k (by rw [abc_len]; exact k60)
    obtain ⟨c, hc⟩ : ∃ c : UInt8, abcB.getD k 0 = c := ⟨_, rfl⟩
    rw [hc] at c0
    have c256 := c.toNat_lt
    obtain ⟨v, hv⟩ : ∃ v : Nat, c.toNat = v := ⟨_, rfl⟩
    rw [hv] at c0 c256
    clear hb bw HC hK hk hB B2
    have HI : Hid (∀ w, (Instr.index 9 (.string S) (.int .i64 (k : Int))).run Try.prog w = .ok (.int .u8 (v : Int)) w) := fun w => by
      have := hidx k k60 w
      rw [hc, hv] at this
      exact this
    have tb := turned_byte v c hv.symm (V : Int) V rfl (by omega)
    have yc : Hid (c ^^^ UInt8.ofNat V ≠ c) := xor_other c V v1.1 (by omega)
    obtain ⟨y, hy⟩ : ∃ y, c ^^^ UInt8.ofNat V = y := ⟨_, rfl⟩
    rw [hy] at tb yc
    clear hidx hy
    obtain ⟨yv, hyv⟩ : ∃ yv : Nat, y.toNat = yv := ⟨_, rfl⟩
    rw [hyv] at tb
    have HY : Hid (y.toNat = yv) := hyv
    have HV2 : Hid (abcB.getD k 0 = c) := hc
    have HV3 : Hid (c.toNat = v) := hv
    clear hyv hc hv
    go_upto_region 8 with fail
    have B4 : Hid (Bel w (wc.setCell ⟨B, k, none⟩ (.int .u8 (yv : Int)))) := B3.out.setCell SZ.out _
    have H4 : Hid (HoldB (wc.setCell ⟨B, k, none⟩ (.int .u8 (yv : Int))) B (abcB.set k y)) := HB.out.set k (by rw [abc_len]; exact k60) y _ (by rw [HY.out])
    generalize wc.setCell ⟨B, k, none⟩ (.int .u8 (yv : Int)) = w4 at *
    clear c0 f0 HB B3
    by_cases hbig : 16 ≤ k
    · have t1 : decide (16 ≤ (k : Int)) = true := decide_eq_true (by omega)
      have t1b : decide (16 ≤ k) = true := decide_eq_true hbig
      obtain ⟨q0, qf⟩ := H4.out k (by rw [List.length_set, abc_len]; exact k60)
      have hi := HI.out
      have T2 : Hid (((k : Int) < 20) ∨ 40 ≤ (k : Int)) := (by rcases hp.2 with h | ⟨_, h⟩ <;> omega : _ ∨ _)
      generalize (((abcB.set k y).getD k 0).toNat : Int) = g at *
      by_cases h20 : (k : Int) < 20
      · have t2 : decide ((k : Int) < 20) = true := decide_eq_true h20
        clear h20 T2
        obtain ⟨G, hG⟩ : ∃ G : Nat, ((v : Int) + (V : Int)) % 256 = (G : Int) := ⟨(v + V) % 256, by omega⟩
        have hG2 : G < 256 := by omega
        have B5 : Hid (Bel w (w4.setCell ⟨B, k, none⟩ (.int .u8 (G : Int)))) := B4.out.setCell SZ.out _
        have H5 : Hid (HoldB (w4.setCell ⟨B, k, none⟩ (.int .u8 (G : Int))) B ((abcB.set k y).set k (UInt8.ofNat G))) := H4.out.set k (by rw [List.length_set, abc_len]; exact k60) _ _ (by rw [UInt8.toNat_ofNat', Nat.mod_eq_of_lt hG2])
        have ML : Hid (((abcB.set k y).set k (UInt8.ofNat G)).length = 60) := (by rw [List.length_set, List.length_set, abc_len] : _ = _)
        generalize (abcB.set k y).set k (UInt8.ofNat G) = M at *
        have EE : Hid (errR (chunks M) = 2000 ∨ 16 ≤ k) := .inr hbig
        go_upto_region 10 with fail
        generalize w4.setCell ⟨B, k, none⟩ (.int .u8 (G : Int)) = w5 at *
        clear hG hG2 hbig H4 B4 t2 q0 qf hi
        have hst := H5.out.str cap 60 ML.out.symm
        have CM : Hid (∀ w, Calls Try.prog 8 #[.string ⟨M.toArray⟩] w fun e w' => (∃ ao n cap, e = .returned (.tuple #[.slice ao n cap, .int .i64 (errR (chunks M))])) ∧ Bel w w') := fun w => by
          refine (chunks_c ⟨M.toArray⟩ M rfl (by have := ML.out; unfold maxLen; show M.length ≤ _; omega) w).mono ?_
          rintro e w' ⟨⟨ao, cap, h, _⟩, b⟩
          exact ⟨⟨ao, _, cap, h⟩, b⟩
        generalize errR (chunks M) = ee at *
        generalize M.toArray = MA at *
        clear tb
        go_wp2_with fail
        refine (CM.out _).mono ?_
        rintro e w6 ⟨⟨ao6, n6, cap6, rfl⟩, b6⟩
        have B6 : Hid (Bel w w6) := B5.out.trans b6
        clear b6 hst
        go_wp2_with fail
        refine (R2.out _).mono ?_
        rintro e w7 ⟨rfl, b7⟩
        have B7 : Hid (Bel w w7) := (B6.out.alloc _).trans b7
        clear b7
        go_wp2_with fail
        refine (R3.out _).mono ?_
        rintro e w8 ⟨rfl, b8⟩
        have B8 : Hid (Bel w w8) := B7.out.trans b8
        clear b8
        go_wp2_with fail
        refine (R4.out _).mono ?_
        rintro e w9 ⟨rfl, b9⟩
        have B9 : Hid (Bel w w9) := (B8.out.alloc _).trans b9
        clear b9
        go_wp2_with fail
        refine (RF.out _).mono ?_
        rintro e wf ⟨⟨aof, capf, rfl⟩, bf⟩
        have BF : Hid (Bel w wf) := B9.out.trans bf
        clear bf
        rcases EE.out with he | he
        · subst he
          go_wp2
          go_ret
          exact ⟨rfl, BF.out⟩
        · have ne : ∃ z : Bool, (ee == 2000) = z := ⟨_, rfl⟩
          obtain ⟨z, hz⟩ := ne
          have t9 : decide (16 ≤ (k : Int)) = true := decide_eq_true (by omega)
          cases z
          · go_wp2
            go_ret
            exact ⟨rfl, BF.out⟩
          · go_wp2
            go_ret
            exact ⟨rfl, BF.out⟩
      · have t2 : decide ((k : Int) < 20) = false := decide_eq_false h20
        have t3 : decide (40 ≤ (k : Int)) = true := decide_eq_true (by rcases T2.out with h | h <;> omega)
        clear h20 T2
        obtain ⟨G, hG⟩ : ∃ G : Nat, ((v : Int) + (V : Int)) % 256 = (G : Int) := ⟨(v + V) % 256, by omega⟩
        have hG2 : G < 256 := by omega
        have B5 : Hid (Bel w (w4.setCell ⟨B, k, none⟩ (.int .u8 (G : Int)))) := B4.out.setCell SZ.out _
        have H5 : Hid (HoldB (w4.setCell ⟨B, k, none⟩ (.int .u8 (G : Int))) B ((abcB.set k y).set k (UInt8.ofNat G))) := H4.out.set k (by rw [List.length_set, abc_len]; exact k60) _ _ (by rw [UInt8.toNat_ofNat', Nat.mod_eq_of_lt hG2])
        have ML : Hid (((abcB.set k y).set k (UInt8.ofNat G)).length = 60) := (by rw [List.length_set, List.length_set, abc_len] : _ = _)
        generalize (abcB.set k y).set k (UInt8.ofNat G) = M at *
        have EE : Hid (errR (chunks M) = 2000 ∨ 16 ≤ k) := .inr hbig
        go_upto_region 10 with fail
        generalize w4.setCell ⟨B, k, none⟩ (.int .u8 (G : Int)) = w5 at *
        clear hG hG2 hbig H4 B4 t2 q0 qf hi
        have hst := H5.out.str cap 60 ML.out.symm
        have CM : Hid (∀ w, Calls Try.prog 8 #[.string ⟨M.toArray⟩] w fun e w' => (∃ ao n cap, e = .returned (.tuple #[.slice ao n cap, .int .i64 (errR (chunks M))])) ∧ Bel w w') := fun w => by
          refine (chunks_c ⟨M.toArray⟩ M rfl (by have := ML.out; unfold maxLen; show M.length ≤ _; omega) w).mono ?_
          rintro e w' ⟨⟨ao, cap, h, _⟩, b⟩
          exact ⟨⟨ao, _, cap, h⟩, b⟩
        generalize errR (chunks M) = ee at *
        generalize M.toArray = MA at *
        clear tb
        go_wp2_with fail
        refine (CM.out _).mono ?_
        rintro e w6 ⟨⟨ao6, n6, cap6, rfl⟩, b6⟩
        have B6 : Hid (Bel w w6) := B5.out.trans b6
        clear b6 hst
        go_wp2_with fail
        refine (R2.out _).mono ?_
        rintro e w7 ⟨rfl, b7⟩
        have B7 : Hid (Bel w w7) := (B6.out.alloc _).trans b7
        clear b7
        go_wp2_with fail
        refine (R3.out _).mono ?_
        rintro e w8 ⟨rfl, b8⟩
        have B8 : Hid (Bel w w8) := B7.out.trans b8
        clear b8
        go_wp2_with fail
        refine (R4.out _).mono ?_
        rintro e w9 ⟨rfl, b9⟩
        have B9 : Hid (Bel w w9) := (B8.out.alloc _).trans b9
        clear b9
        go_wp2_with fail
        refine (RF.out _).mono ?_
        rintro e wf ⟨⟨aof, capf, rfl⟩, bf⟩
        have BF : Hid (Bel w wf) := B9.out.trans bf
        clear bf
        rcases EE.out with he | he
        · subst he
          go_wp2
          go_ret
          exact ⟨rfl, BF.out⟩
        · have ne : ∃ z : Bool, (ee == 2000) = z := ⟨_, rfl⟩
          obtain ⟨z, hz⟩ := ne
          have t9 : decide (16 ≤ (k : Int)) = true := decide_eq_true (by omega)
          cases z
          · go_wp2
            go_ret
            exact ⟨rfl, BF.out⟩
          · go_wp2
            go_ret
            exact ⟨rfl, BF.out⟩
    · have t1 : decide (16 ≤ (k : Int)) = false := decide_eq_false (by omega)
      have t1b : decide (16 ≤ k) = false := decide_eq_false hbig
      have t3 : decide (40 ≤ (k : Int)) = false := decide_eq_false (by omega)
      obtain ⟨w5, hw5⟩ : ∃ W, W = w4 := ⟨_, rfl⟩
      have B5 : Hid (Bel w w5) := hw5 ▸ B4.out
      obtain ⟨M, hM⟩ : ∃ M, abcB.set k y = M := ⟨_, rfl⟩
      have H5 : Hid (HoldB w5 B M) := (by rw [hw5, ← hM]; exact H4.out : HoldB w5 B M)
      have ML : Hid (M.length = 60) := (by rw [← hM, List.length_set, abc_len] : _ = _)
      have EE : Hid (errR (chunks M) = 2000 ∨ 16 ≤ k) := .inl (by
        rw [← hM, no_chunks (wav_set k y (by rcases hp.2 with h | ⟨h, _⟩; exact h; omega) (by rw [HV2.out]; exact yc.out))]
        rfl)
      subst hw5
      have hb2 := hbig
      clear hM B4 H4 hbig HI
      have hbig : Hid (¬ 16 ≤ k) := hb2
      clear hb2
      go_upto_region 10 with fail
      have hst := H5.out.str cap 60 ML.out.symm
      have CM : Hid (∀ w, Calls Try.prog 8 #[.string ⟨M.toArray⟩] w fun e w' => (∃ ao n cap, e = .returned (.tuple #[.slice ao n cap, .int .i64 (errR (chunks M))])) ∧ Bel w w') := fun w => by
        refine (chunks_c ⟨M.toArray⟩ M rfl (by have := ML.out; unfold maxLen; show M.length ≤ _; omega) w).mono ?_
        rintro e w' ⟨⟨ao, cap, h, _⟩, b⟩
        exact ⟨⟨ao, _, cap, h⟩, b⟩
      generalize errR (chunks M) = ee at *
      generalize M.toArray = MA at *
      clear tb
      go_wp2_with fail
      refine (CM.out _).mono ?_
      rintro e w6 ⟨⟨ao6, n6, cap6, rfl⟩, b6⟩
      have B6 : Hid (Bel w w6) := B5.out.trans b6
      clear b6 hst
      go_wp2_with fail
      refine (R2.out _).mono ?_
      rintro e w7 ⟨rfl, b7⟩
      have B7 : Hid (Bel w w7) := (B6.out.alloc _).trans b7
      clear b7
      go_wp2_with fail
      refine (R3.out _).mono ?_
      rintro e w8 ⟨rfl, b8⟩
      have B8 : Hid (Bel w w8) := B7.out.trans b8
      clear b8
      go_wp2_with fail
      refine (R4.out _).mono ?_
      rintro e w9 ⟨rfl, b9⟩
      have B9 : Hid (Bel w w9) := (B8.out.alloc _).trans b9
      clear b9
      go_wp2_with fail
      refine (RF.out _).mono ?_
      rintro e wf ⟨⟨aof, capf, rfl⟩, bf⟩
      have BF : Hid (Bel w wf) := B9.out.trans bf
      clear bf
      rcases EE.out with he | he
      · subst he
        go_wp2
        go_ret
        exact ⟨rfl, BF.out⟩
      · exact absurd he hbig.out

end Go.Proofs.Ytabmhoiaeeneiaa.Chk
