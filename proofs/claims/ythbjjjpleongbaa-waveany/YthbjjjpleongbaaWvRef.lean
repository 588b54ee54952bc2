/-
  The contract of the reference's Parse. Condition: the text's length is an int.
-/
import Derived.Test.YthbjjjpleongbaaWvVal
import Derived.Test.YthbjjjpleongbaaRcByt
import Derived.BigQuiet
import Derived.Lib.QuietBelow
import Derived.Deep.CutRange
namespace Go.Proofs.Ythbjjjpleongbaa.Wav
open Go.RowKit Go.Sort Go.Proofs.Ythbjjjpleongbaa.Mod Go.Proofs.Ythbjjjpleongbaa.Num Go.Proofs.Ythbjjjpleongbaa.Chk
open Go.Proofs.Ythbjjjpleongbaa.Pcm (okF fC fQ okF_yes okF_nat fmt may_ok rmay_ok rframe_ok)
set_option linter.unusedVariables false
set_option linter.unusedSimpArgs false

/-- A place, or none, as an int. -/
def enc : Option Nat → Int
  | none => -1
  | some k => k
theorem enc_none : enc none = -1 := rfl
theorem enc_some (k : Nat) : enc (some k) = (k : Int) := rfl
theorem ans_some {w : Wv} : ansW (some w) = w := rfl

theorem low2_ok (x : Int) (h0 : 0 ≤ x) (h1 : x < 65536) (w : World) :
    Calls Try.prog 16 #[.int .i64 x, .int .i64 2] w fun e w' => e = .returned (.string (tx (lw 2 x))) ∧ Bel w w' := by
  have h := Ref.low2 x h0 h1 w
  rw [Field.low_at2 x h0 h1] at h
  exact h
theorem num2 (a b : UInt8) : num [a, b] = (a.toNat : Int) + 256 * (b.toNat : Int) := by simp only [num]; omega
theorem two_at {L M : List UInt8} {P : Nat} (h : (L.drop P).take 16 = M) (i : Nat) (hi : i + 2 ≤ 16) : two L (P + i) = num ((M.drop i).take 2) := by
  unfold two
  rw [← h, List.drop_take, List.drop_drop, List.take_take, Nat.min_eq_left (by omega)]
theorem sixteen (M : List UInt8) (h : M.length = 16) : ∃ a0 a1 a2 a3 a4 a5 a6 a7 a8 a9 b0 b1 b2 b3 b4 b5, M = [a0, a1, a2, a3, a4, a5, a6, a7, a8, a9, b0, b1, b2, b3, b4, b5] := by
  match M, h with
  | [a0, a1, a2, a3, a4, a5, a6, a7, a8, a9, b0, b1, b2, b3, b4, b5], _ => exact ⟨a0, a1, a2, a3, a4, a5, a6, a7, a8, a9, b0, b1, b2, b3, b4, b5, rfl⟩
theorem eq_one (a b : UInt8) : ([a, b] == [1, 0]) = decide (num [a, b] = 1) := by
  rw [Bool.eq_iff_iff, beq_iff_eq, decide_eq_true_eq, num2]
  have ha := a.toNat_lt
  have hb := b.toNat_lt
  constructor
  · intro h
    injection h with h1 h2
    injection h2 with h2 _
    subst h1 h2
    rfl
  · intro h
    have e1 : a = 1 := UInt8.toNat_inj.1 (show a.toNat = 1 by omega)
    have e2 : b = 0 := UInt8.toNat_inj.1 (show b.toNat = 0 by omega)
    rw [e1, e2]
theorem eq_lw2 (l : List UInt8) (hl : l.length = 2) (x : Int) (h0 : 0 ≤ x) (h1 : x < 65536) : (l == lw 2 x) = decide (num l = x) := by
  rw [Bool.eq_iff_iff, beq_iff_eq, decide_eq_true_eq]
  constructor
  · rintro rfl; exact num_lw 2 x h0 (by omega)
  · rintro rfl; exact (lw_num 2 l hl).symm
theorem frame_eq {c b : Int} (h : okF c b = true) : c * b / 8 = ((fC c * fQ b : Nat) : Int) ∧ 1 ≤ fC c * fQ b ∧ fC c * fQ b ≤ 4 := by
  obtain ⟨h1, h2⟩ := okF_yes h
  rcases h1 with rfl | rfl <;> rcases h2 with rfl | rfl <;> decide

set_option maxHeartbeats 1000000 in
theorem rparse_none (s : ByteArray) (hx : s.size ≤ maxLen) (h : chunks s.data.toList = none) (w : World) :
    Calls Try.prog 9 #[.string s] w fun e w' => e = .returned (.tuple #[wvl wv0, .int .i64 2100]) ∧ Bel w w' := by
  have C : Hid (∀ w, Calls Try.prog 15 #[.string s] w fun e w' => (∃ ao cap, e = .returned (.tuple #[.slice ao 0 cap, .int .i64 2000]) ∧ 0 ≤ cap ∧ Slk w' ao []) ∧ Bel w w') := fun w => ref_k s _ rfl hx _ h w
  have BX : Hid (∀ w1, Bel (w.alloc (.cells #[.int .i64 0, .int .i64 0, .string ⟨#[]⟩, .string ⟨#[]⟩, .string ⟨#[]⟩] 25)) w1 → BoxV w1 w.heap.size wv0) := fun w1 k => (boxV_new w wv0).bel k
  unfold maxLen at hx
  clear h
  go_enter Try.func9, Try.ntmps9
  go_wp2_with fail
  refine (C.out _).mono ?_
  rintro e w1 ⟨⟨ao, cap, rfl, _, _⟩, b1⟩
  have B1 : Hid (Bel w w1) := ((Bel.refl _).alloc _).trans b1
  have X1 : Hid (BoxV w1 w.heap.size wv0) := BX.out _ b1
  obtain ⟨⟨c0, c1, c2, c3, c4⟩, f0, f1, f2, f3, f4⟩ := BX.out _ b1
  clear b1 BX C
  go_wp2
  obtain ⟨⟨d0, d1, d2, d3, d4⟩, _⟩ := X1.out.set wv0
  refine bodyPost_ret (v := .tuple #[wvl wv0, .int .i64 2100]) (results_wv Try.results9 rfl rfl d0 d1 d2 d3 d4) rfl ⟨rfl, ?_⟩
  exact set5_bel (Nat.le_refl _) B1.out _ _ _ _ _

set_option maxRecDepth 8000 in
set_option maxHeartbeats 8000000 in
theorem rparse_some (s : ByteArray) (L : List UInt8) (hs : s.data.toList = L) (hx : s.size ≤ maxLen) (A : List Ch) (h : chunks L = some A) (w : World) :
    Calls Try.prog 9 #[.string s] w fun e w' => e = .returned (.tuple #[wvl (ansW (fitS L A (picks A 0 none none))), .int .i64 (errW (fitS L A (picks A 0 none none)))]) ∧ Bel w w' := by
  have C : Hid (∀ w, Calls Try.prog 15 #[.string s] w fun e w' => (∃ ao cap, e = .returned (.tuple #[.slice ao A.length cap, .int .i64 0]) ∧ A.length ≤ cap ∧ Slk w' ao A) ∧ Bel w w') := fun w => ref_k s _ hs hx _ h w
  have BX : Hid (∀ w1, Bel (w.alloc (.cells #[.int .i64 0, .int .i64 0, .string ⟨#[]⟩, .string ⟨#[]⟩, .string ⟨#[]⟩] 25)) w1 → BoxV w1 w.heap.size wv0) := fun w1 k => (boxV_new w wv0).bel k
  obtain ⟨hw, hc, h64⟩ := chunks_chain h
  have HC : Hid (chain L 12 A) := hc
  have HL : Hid (s.size = L.length) := size_len s _ hs
  have hle : s.size ≤ 4096 := by
    rw [isWav_eq, Bool.and_eq_true, decide_eq_true_eq] at hw
    rw [HL.out]; exact hw.1
  have HS : Hid (s.data.toList = L) := hs
  obtain ⟨R, hR⟩ : ∃ R, picks A 0 none none = R := ⟨_, rfl⟩
  rw [hR]
  have HR : Hid (picks A 0 none none = R) := hR
  obtain ⟨n, hn⟩ : ∃ n, A.length = n := ⟨_, rfl⟩
  rw [hn] at C h64
  have AN : Hid (A.length = n) := hn
  obtain ⟨r0, hr0⟩ : ∃ r0, w.heap.size = r0 := ⟨_, rfl⟩
  have R0 : Hid (w.heap.size = r0) := hr0
  clear h hw hc hx hs hR hn
  go_enter Try.func9, Try.ntmps9
  go_wp2_with fail
  refine (C.out _).mono ?_
  rintro e w1 ⟨⟨ao, cap, rfl, _, s1⟩, b1⟩
  have B1 : Hid (Bel w w1) := ((Bel.refl _).alloc _).trans b1
  have X1 : Hid (BoxV w1 r0 wv0) := hr0 ▸ BX.out _ b1
  have S1 : Hid (Slk w1 ao A) := s1
  clear b1 BX C s1 hr0
  go_wp2
  go_loopw [6, 7, 8] (fun a b i wr => ∃ (j : Nat) (f s : Option Nat), j ≤ n ∧ i = .int .i64 j ∧ a = .int .i64 (enc f) ∧ b = .int .i64 (enc s) ∧ (∀ k, f = some k → k < j) ∧ (∀ k, s = some k → k < j ∧ f.isSome = true) ∧ Hid (picks (A.drop j) j f s = R) ∧ wr = w1) (fun _ _ i _ => n - (intOf i).toNat)
  case atStart => exact ⟨0, none, none, Nat.zero_le _, rfl, rfl, rfl, (fun k h => by cases h), (fun k h => by cases h), HR.out, rfl⟩
  case round =>
    obtain ⟨j, fo, so, hj, rfl, rfl, rfl, hf, hs, hr, rfl⟩ := hrel
    by_cases hlt : j < n
    · have hd : decide ((j : Int) < (n : Int)) = true := decide_eq_true (by omega)
      obtain ⟨g, rfl, q0, _, _⟩ := S1.out j (by rw [AN.out]; exact hlt)
      have hdr := drop_cons (cs := A) (j := j) (by rw [AN.out]; exact hlt)
      have hr2 : Hid (picks (A.getD j ch0 :: A.drop (j + 1)) j fo so = R) := (by rw [← hdr]; exact hr.out : _ = _)
      obtain ⟨cn, hcn⟩ : ∃ cn, (A.getD j ch0).1 = cn := ⟨_, rfl⟩
      have HCN : Hid ((A.getD j ch0).1 = cn) := hcn
      rw [hcn] at q0
      clear hdr hr hcn
      obtain ⟨⟨c0, c1, c2, c3, c4⟩, f0, f1, f2, f3, f4⟩ := X1.out
      by_cases h1 : cn = fm
      · have e1 : (cn == [102, 109, 116, 32]) = true := by rw [h1]; rfl
        have e2 : (cn == [100, 97, 116, 97]) = false := by rw [h1]; rfl
        have hp := picks_fm (r := A.drop (j + 1)) (i := j) (f := fo) (s := so) (HCN.out.trans h1)
        rw [hr2.out] at hp
        have HP : Hid (R = if fo.isSome || so.isSome then none else picks (A.drop (j + 1)) (j + 1) (some j) so) := hp
        clear hp hr2 h1
        rcases fo with _ | k1
        · rcases so with _ | k2
          · try simp only [enc_none, enc_some]
            have RN : Hid (picks (A.drop (j + 1)) (j + 1) (some j) none = R) := HP.out.symm
            clear HP c0 c1 c2 c3 c4 f0 f1 f2 f3 f4
            go_wp2
            go_roundw
            case rel => exact ⟨j + 1, (some j), none, by omega, by go_num, rfl, rfl, (fun k h => by injection h with h; omega), (fun k h => by cases h), RN.out, by trivial⟩
            case measure => simp [intOf]; omega
          · exact absurd (hs k2 rfl).2 (by simp)
        · have g1 : decide (0 ≤ (k1 : Int)) = true := decide_eq_true (by omega)
          simp only [enc_none, enc_some]
          have RN : Hid (R = none) := HP.out
          clear HP
          go_wp2
          obtain ⟨⟨d0, d1, d2, d3, d4⟩, _⟩ := X1.out.set wv0
          refine bodyPost_ret (v := .tuple #[wvl wv0, .int .i64 2100]) (results_wv Try.results9 rfl rfl d0 d1 d2 d3 d4) rfl ⟨by rw [RN.out]; rfl, ?_⟩
          exact set5_bel (by rw [R0.out]; exact Nat.le_refl _) B1.out _ _ _ _ _
      · by_cases h2 : cn = dt
        · have e1 : (cn == [102, 109, 116, 32]) = false := by rw [h2]; rfl
          have e2 : (cn == [100, 97, 116, 97]) = true := by rw [h2]; rfl
          have hp := picks_dt (r := A.drop (j + 1)) (i := j) (f := fo) (s := so) (HCN.out.trans h2)
          rw [hr2.out] at hp
          have HP : Hid (R = if fo.isNone || so.isSome then none else picks (A.drop (j + 1)) (j + 1) fo (some j)) := hp
          clear hp hr2 h1 h2
          rcases fo with _ | k1
          · simp only [enc_none, enc_some]
            have RN : Hid (R = none) := HP.out
            clear HP
            go_wp2
            obtain ⟨⟨d0, d1, d2, d3, d4⟩, _⟩ := X1.out.set wv0
            refine bodyPost_ret (v := .tuple #[wvl wv0, .int .i64 2100]) (results_wv Try.results9 rfl rfl d0 d1 d2 d3 d4) rfl ⟨by rw [RN.out]; rfl, ?_⟩
            exact set5_bel (by rw [R0.out]; exact Nat.le_refl _) B1.out _ _ _ _ _
          · have g1 : decide ((k1 : Int) < 0) = false := decide_eq_false (by omega)
            have g1b : decide (0 ≤ (k1 : Int)) = true := decide_eq_true (by omega)
            rcases so with _ | k2
            · try simp only [enc_none, enc_some]
              have RN : Hid (picks (A.drop (j + 1)) (j + 1) (some k1) (some j) = R) := HP.out.symm
              clear HP c0 c1 c2 c3 c4 f0 f1 f2 f3 f4
              go_wp2
              go_roundw
              case rel => exact ⟨j + 1, (some k1), (some j), by omega, by go_num, rfl, rfl, (fun k h => by have := hf k h; omega), (fun k h => ⟨by injection h with h; omega, rfl⟩), RN.out, by trivial⟩
              case measure => simp [intOf]; omega
            · have g2 : decide (0 ≤ (k2 : Int)) = true := decide_eq_true (by omega)
              simp only [enc_none, enc_some]
              have RN : Hid (R = none) := HP.out
              clear HP
              go_wp2
              obtain ⟨⟨d0, d1, d2, d3, d4⟩, _⟩ := X1.out.set wv0
              refine bodyPost_ret (v := .tuple #[wvl wv0, .int .i64 2100]) (results_wv Try.results9 rfl rfl d0 d1 d2 d3 d4) rfl ⟨by rw [RN.out]; rfl, ?_⟩
              exact set5_bel (by rw [R0.out]; exact Nat.le_refl _) B1.out _ _ _ _ _
        · have e1 : (cn == [102, 109, 116, 32]) = false := beq_eq_false_iff_ne.2 h1
          have e2 : (cn == [100, 97, 116, 97]) = false := beq_eq_false_iff_ne.2 h2
          have hp := picks_no (r := A.drop (j + 1)) (i := j) (f := fo) (s := so) (by rw [HCN.out]; exact h1) (by rw [HCN.out]; exact h2)
          rw [hr2.out] at hp
          have HP : Hid (R = picks (A.drop (j + 1)) (j + 1) fo so) := hp
          clear hp hr2 h1 h2
          try simp only [enc_none, enc_some]
          have RN : Hid (picks (A.drop (j + 1)) (j + 1) fo so = R) := HP.out.symm
          clear HP c0 c1 c2 c3 c4 f0 f1 f2 f3 f4
          go_wp2
          go_roundw
          case rel => exact ⟨j + 1, fo, so, by omega, by go_num, rfl, rfl, (fun k h => by have := hf k h; omega), (fun k h => ⟨by have := (hs k h).1; omega, (hs k h).2⟩), RN.out, by trivial⟩
          case measure => simp [intOf]; omega
    · obtain rfl : j = n := by omega
      have hd : decide ((j : Int) < (j : Int)) = false := decide_eq_false (by omega)
      have RS : Hid (R = some (fo, so)) := (by
        have := hr.out
        rw [List.drop_of_length_le (by rw [AN.out]; exact Nat.le_refl _)] at this
        exact this.symm : R = _)
      clear hr
      obtain ⟨⟨c0, c1, c2, c3, c4⟩, f0, f1, f2, f3, f4⟩ := X1.out
      have BB : Hid (Bel w wr) := B1.out
      have XX : Hid (BoxV wr r0 wv0) := X1.out
      rcases so with _ | j2
      · have RN : Hid (fitS L A R = none) := (by rw [RS.out]; cases fo <;> rfl : fitS L A R = none)
        simp only [enc_none, enc_some]
        go_wp2
        obtain ⟨⟨d0, d1, d2, d3, d4⟩, _⟩ := XX.out.set wv0
        refine bodyPost_ret (v := .tuple #[wvl wv0, .int .i64 2100]) (results_wv Try.results9 rfl rfl d0 d1 d2 d3 d4) rfl ⟨by rw [RN.out]; rfl, ?_⟩
        exact set5_bel (by rw [R0.out]; exact Nat.le_refl _) BB.out _ _ _ _ _
      · obtain ⟨hj2, hfo⟩ := hs j2 rfl
        rcases fo with _ | i2
        · cases hfo
        · have hi2 := hf i2 rfl
          simp only [enc_none, enc_some]
          have FS : Hid (fitS L A R = fitP L (A.getD i2 ch0) (A.getD j2 ch0)) := (by rw [RS.out]; rfl : _ = _)
          clear hfo hf hs RS HR
          obtain ⟨ef, lf⟩ := chain_at L i2 A 12 HC.out (by rw [AN.out]; exact hi2)
          obtain ⟨ed, ld⟩ := chain_at L j2 A 12 HC.out (by rw [AN.out]; exact hj2)
          obtain ⟨g, rfl, _, qf1, qf2⟩ := S1.out i2 (by rw [AN.out]; exact hi2)
          obtain ⟨g', eg, _, qd1, qd2⟩ := S1.out j2 (by rw [AN.out]; exact hj2)
          obtain rfl : g = g' := by injection eg with eg; injection eg
          clear eg
          have FS2 : Hid (fitS L A R = fitP L (at8 L (stop L i2 12)) (at8 L (stop L j2 12))) := (by rw [← ef, ← ed]; exact FS.out : _ = _)
          rw [ef] at qf1 qf2
          rw [ed] at qd1 qd2
          have nf := nxt_gt L (stop L i2 12)
          obtain ⟨P, hP⟩ : ∃ P, stop L i2 12 + 8 = P := ⟨_, rfl⟩
          obtain ⟨Q, hQ⟩ : ∃ Q, stop L j2 12 + 8 = Q := ⟨_, rfl⟩
          obtain ⟨z, hz⟩ : ∃ z, csz L (stop L i2 12) = z := ⟨_, rfl⟩
          obtain ⟨k, hk⟩ : ∃ k, csz L (stop L j2 12) = k := ⟨_, rfl⟩
          have uf : P + z ≤ s.size := by
            rw [HL.out]
            unfold nxt whole at lf
            omega
          have ud : Q + k ≤ s.size := by
            rw [HL.out]
            unfold nxt whole at ld
            omega
          have FS3 : Hid (fitS L A R = fitP L (cid L (stop L i2 12), P, z) (cid L (stop L j2 12), Q, k)) := (by rw [FS2.out]; unfold at8; rw [hP, hQ, hz, hk] : _ = _)
          have rf1 : wr.cell? ⟨g, i2 * 3 + 1, none⟩ = some (.int .i64 (P : Int)) := by rw [qf1]; show some (Value.int .i64 ((stop L i2 12 + 8 : Nat) : Int)) = _; rw [hP]
          have rf2 : wr.cell? ⟨g, i2 * 3 + 2, none⟩ = some (.int .i64 (z : Int)) := by rw [qf2]; show some (Value.int .i64 ((csz L (stop L i2 12) : Nat) : Int)) = _; rw [hz]
          have rd1 : wr.cell? ⟨g, j2 * 3 + 1, none⟩ = some (.int .i64 (Q : Int)) := by rw [qd1]; show some (Value.int .i64 ((stop L j2 12 + 8 : Nat) : Int)) = _; rw [hQ]
          have rd2 : wr.cell? ⟨g, j2 * 3 + 2, none⟩ = some (.int .i64 (k : Int)) := by rw [qd2]; show some (Value.int .i64 ((csz L (stop L j2 12) : Nat) : Int)) = _; rw [hk]
          clear qf1 qf2 qd1 qd2 ef ed FS FS2 nf lf ld hP hQ hz hk S1
          generalize cid L (stop L i2 12) = nmf at *
          generalize cid L (stop L j2 12) = nmd at *
          by_cases h16 : z = 16
          · subst h16
            have T16 : (s.extract P (P + 16)).data.toList = (L.drop P).take 16 := by rw [ext_mid, HS.out, Nat.add_sub_cancel_left]
            obtain ⟨T, hT⟩ : ∃ T, s.extract P (P + 16) = T := ⟨_, rfl⟩
            rw [hT] at T16
            have tz : T.size = 16 := by rw [size_len _ _ T16, List.length_take, List.length_drop]; have := HL.out; omega
            obtain ⟨a0, a1, a2, a3, a4, a5, a6, a7, a8, a9, b0, b1, b2, b3, b4, b5, hM⟩ := sixteen ((L.drop P).take 16) (by rw [← T16, ← size_len T _ rfl]; exact tz)
            have hTL : T.data.toList = [a0, a1, a2, a3, a4, a5, a6, a7, a8, a9, b0, b1, b2, b3, b4, b5] := T16.trans hM
            have t0 : two L P = num [a0, a1] := two_at hM 0 (by omega)
            have t2 : two L (P + 2) = num [a2, a3] := two_at hM 2 (by omega)
            have t12 : two L (P + 12) = num [b2, b3] := two_at hM 12 (by omega)
            have t14 : two L (P + 14) = num [b4, b5] := two_at hM 14 (by omega)
            have i2x : ∀ w, (Instr.index 9 (.string T) (.int .i64 2)).run Try.prog w = .ok (.int .u8 (a2.toNat : Int)) w := fun w => Byt.idx T _ hTL 2 (by simp) w
            have i3x : ∀ w, (Instr.index 9 (.string T) (.int .i64 3)).run Try.prog w = .ok (.int .u8 (a3.toNat : Int)) w := fun w => Byt.idx T _ hTL 3 (by simp) w
            have i14x : ∀ w, (Instr.index 9 (.string T) (.int .i64 14)).run Try.prog w = .ok (.int .u8 (b4.toNat : Int)) w := fun w => Byt.idx T _ hTL 14 (by simp) w
            have i15x : ∀ w, (Instr.index 9 (.string T) (.int .i64 15)).run Try.prog w = .ok (.int .u8 (b5.toNat : Int)) w := fun w => Byt.idx T _ hTL 15 (by simp) w
            have x01 : T.extract 0 2 = tx [a0, a1] := ba_eq (by rw [ext_mid, hTL]; rfl)
            have x12 : T.extract 12 14 = tx [b2, b3] := ba_eq (by rw [ext_mid, hTL]; rfl)
            have u2 := a2.toNat_lt
            have u3 := a3.toNat_lt
            have u14 := b4.toNat_lt
            have u15 := b5.toNat_lt
            rw [num2] at t2 t14
            obtain ⟨c, hc⟩ : ∃ c : Int, (a2.toNat : Int) + 256 * (a3.toNat : Int) = c := ⟨_, rfl⟩
            obtain ⟨b, hb⟩ : ∃ b : Int, (b4.toNat : Int) + 256 * (b5.toNat : Int) = b := ⟨_, rfl⟩
            rw [hc] at t2
            rw [hb] at t14
            have hcr : 0 ≤ c ∧ c ≤ 65535 := by omega
            have hbr : 0 ≤ b ∧ b ≤ 65535 := by omega
            have FC : Hid (two L (P + 2) = c ∧ two L (P + 14) = b ∧ two L P = num [a0, a1] ∧ two L (P + 12) = num [b2, b3]) := ⟨t2, t14, t0, t12⟩
            have q1 : ([a0, a1] == [1, 0]) = decide (num [a0, a1] = 1) := eq_one a0 a1
            have MY : Hid (∀ w, Calls Try.prog 22 #[.agg #[.int .i64 c, .int .i64 b]] w fun e w' => e = .returned (.bool (okF c b)) ∧ Bel w w') := fun w => rmay_ok c b w
            have eH : s.extract 0 Q = tx (L.take Q) := ba_eq (by rw [ext_mid, HS.out, List.drop_zero, Nat.sub_zero])
            have eD : s.extract Q (Q + k) = tx ((L.drop Q).take k) := ba_eq (by rw [ext_mid, HS.out, Nat.add_sub_cancel_left])
            have eT : s.extract (Q + k) s.size = tx (L.drop (Q + k)) := ba_eq (by
              rw [ext_mid, HS.out, List.take_of_length_le]
              rw [List.length_drop, HL.out]
              exact Nat.le_refl _)
            have EE : Hid (s.extract 0 Q = tx (L.take Q) ∧ s.extract Q (Q + k) = tx ((L.drop Q).take k) ∧ s.extract (Q + k) s.size = tx (L.drop (Q + k))) := ⟨eH, eD, eT⟩
            have p16 : P + 16 ≤ s.size := uf
            have z2 : decide (s.size < P + 16) = false := decide_eq_false (by omega)
            have z3 : decide ((s.size : Int) < (P : Int) + 16) = false := decide_eq_false (by omega)
            clear t0 t2 t12 t14 hM hTL T16 eH eD eT c0 c1 c2 c3 c4 f0 f1 f2 f3 f4
            generalize a2.toNat = v2 at *
            generalize a3.toNat = v3 at *
            generalize b4.toNat = v14 at *
            generalize b5.toNat = v15 at *
            go_upto_region 18 with fail
            go_quiet (fail)
            try rw [hT]
            obtain ⟨w2, hw2⟩ : ∃ W, W = wr.drewN nq := ⟨_, rfl⟩
            rw [← hw2]
            have B2 : Hid (Bel w w2) := hw2 ▸ BB.out.drewN nq
            have X2 : Hid (BoxV w2 r0 wv0) := hw2 ▸ XX.out.bel ((Bel.refl _).drewN nq)
            have sd1 : w2.cell? ⟨g, j2 * 3 + 1, none⟩ = some (.int .i64 (Q : Int)) := hw2 ▸ rd1
            have sd2 : w2.cell? ⟨g, j2 * 3 + 2, none⟩ = some (.int .i64 (k : Int)) := hw2 ▸ rd2
            clear hw2 rf1 rf2 rd1 rd2 BB XX
            go_upto_region 19 with fail
            go_cut [10] from 79 to 95 (fun v wx => ∃ r1, v = .pointer (some ⟨r1, 0, none⟩) ∧ wx.cell? ⟨r1, 0, none⟩ = some (.int .i64 c) ∧ wx.cell? ⟨r1, 1, none⟩ = some (.int .i64 b) ∧ Bel w2 wx)
            case first =>
              go_region
              all_goals go_wp2_with fail
              all_goals go_meet
              exact ⟨_, rfl, by go_simp, by go_simp, ((Bel.refl _).alloc _).drew⟩
            case rest =>
              obtain ⟨r1, rfl, g0, g1, bw⟩ := hcut
              have B3 : Hid (Bel w wc) := B2.out.trans bw
              have X3 : Hid (BoxV wc r0 wv0) := X2.out.bel bw
              have td1 := bw.keep sd1
              have td2 := bw.keep sd2
              clear bw sd1 sd2 B2 X2
              go_upto_region 20 with fail
              go_quiet (fail)
              obtain ⟨w3, hw3⟩ : ∃ W, W = wc.drewN nq := ⟨_, rfl⟩
              rw [← hw3]
              have B4 : Hid (Bel w w3) := hw3 ▸ B3.out.drewN nq
              have X4 : Hid (BoxV w3 r0 wv0) := hw3 ▸ X3.out.bel ((Bel.refl _).drewN nq)
              have g2 : w3.cell? ⟨r1, 0, none⟩ = some (.int .i64 c) := hw3 ▸ g0
              have g3 : w3.cell? ⟨r1, 1, none⟩ = some (.int .i64 b) := hw3 ▸ g1
              have l0 := cell_regrown g2
              have l1 := cell_regrown g3
              have G2 : Hid (w3.cell? ⟨r1, 0, none⟩ = some (.int .i64 c)) := g2
              have G3 : Hid (w3.cell? ⟨r1, 1, none⟩ = some (.int .i64 b)) := g3
              clear hw3 g0 g1 td1 td2 B3 X3 hT
              go_upto_region 21 with fail
              have FX : Hid (fitS L A R = if (16 : Nat) = 16 ∧ num [a0, a1] = 1 ∧ okF c b = true ∧ num [b2, b3] = c * b / 8 ∧ (k : Int) % (c * b / 8) = 0 then some (c, b, L.take Q, (L.drop Q).take k, L.drop (Q + k)) else none) := (by
                rw [FS3.out]
                unfold fitP
                simp only []
                rw [FC.out.1, FC.out.2.1, FC.out.2.2.1, FC.out.2.2.2] : _ = _)
              clear FS3 FC
              by_cases h1 : num [a0, a1] = 1
              · have q2 : ([a0, a1] == [1, 0]) = true := by rw [q1]; exact decide_eq_true h1
                clear q1
                by_cases hok : okF c b = true
                · obtain ⟨fe, f1, f4⟩ := frame_eq hok
                  have MY2 : Hid (∀ w, Calls Try.prog 22 #[.agg #[.int .i64 c, .int .i64 b]] w fun e w' => e = .returned (.bool true) ∧ Bel w w') := fun w => by have := MY.out w; rw [hok] at this; exact this
                  have FR : Hid (∀ w, Calls Try.prog 23 #[.agg #[.int .i64 c, .int .i64 b]] w fun e w' => e = .returned (.int .i64 ((fC c * fQ b : Nat) : Int)) ∧ Bel w w') := fun w => rframe_ok c b hok w
                  rw [fe] at FX
                  obtain ⟨f, hf⟩ : ∃ f, fC c * fQ b = f := ⟨_, rfl⟩
                  rw [hf] at FX FR f1 f4
                  have LW : Hid (∀ w, Calls Try.prog 16 #[.int .i64 (f : Int), .int .i64 2] w fun e w' => e = .returned (.string (tx (lw 2 (f : Int)))) ∧ Bel w w') := fun w => low2_ok _ (by omega) (by omega) w
                  have q3 := eq_lw2 [b2, b3] rfl (f : Int) (by omega) (by omega)
                  have fz : ((f : Int) == 0) = false := by simp; omega
                  generalize lw 2 (f : Int) = m2 at *
                  clear fe hf MY
                  by_cases h3 : num [b2, b3] = (f : Int)
                  · have q4 : ([b2, b3] == m2) = true := by rw [q3]; exact decide_eq_true h3
                    clear q3
                    by_cases h4 : (k : Int) % (f : Int) = 0
                    · have q5 : ((k : Int) % (f : Int) != 0) = false := by rw [h4]; rfl
                      have RY : Hid (fitS L A R = some (c, b, L.take Q, (L.drop Q).take k, L.drop (Q + k))) := (by rw [FX.out, if_pos ⟨rfl, h1, hok, h3, h4⟩] : _ = _)
                      clear FX h1 hok h3 h4
                      refine wp_region_quiet_below (by kernel_rfl) (by kernel_rfl) ?_
                      repeat (go_big_quiet_step (first
                        | (go_at_call 22; with_reducible exact Calls.regrown_of (MY2.out _))
                        | (go_at_call 23; with_reducible exact Calls.regrown_of (FR.out _))
                        | (go_at_call 16; with_reducible exact Calls.regrown_of (LW.out _))))
                      refine wpQuiet_nil ?_
                      intro _ hw'
                      obtain ⟨⟨dq, osq⟩, hw''⟩ := hw'
                      subst hw''
                      have BB : Hid (Bel w (grow (redrawn w3 dq) osq)) := B4.out.trans (below_regrown w3 dq osq)
                      have XX : Hid (BoxV (grow (redrawn w3 dq) osq) r0 wv0) := X4.out.bel (below_regrown w3 dq osq)
                      have k0 := Bel.keep (below_regrown w3 dq osq) G2.out
                      have k1 := Bel.keep (below_regrown w3 dq osq) G3.out
                      show Exit.then _ _ _ _ (grow (redrawn w3 dq) osq)
                      generalize grow (redrawn w3 dq) osq = w4 at *
                      obtain ⟨⟨c0, c1, c2, c3, c4⟩, f0, f1, f2, f3, f4'⟩ := XX.out
                      have y1 : decide (s.size < Q) = false := decide_eq_false (by omega)
                      have y2 : decide (s.size < Q + k) = false := decide_eq_false (by omega)
                      have y3 : decide ((s.size : Int) < (Q : Int)) = false := decide_eq_false (by omega)
                      have y4 : decide ((s.size : Int) < (Q : Int) + (k : Int)) = false := decide_eq_false (by omega)
                      go_upto_region 23 with fail
                      go_region
                      all_goals go_wp2_with fail
                      rw [EE.out.1, EE.out.2.1, EE.out.2.2]
                      obtain ⟨⟨d0, d1, d2, d3, d4⟩, _⟩ := (XX.out.set (c, b, L.take Q, (L.drop Q).take k, L.drop (Q + k))).bel ((Bel.refl _).drew)
                      refine bodyPost_ret (v := .tuple #[wvl (c, b, L.take Q, (L.drop Q).take k, L.drop (Q + k)), .int .i64 0]) (results_wv Try.results9 rfl rfl d0 d1 d2 d3 d4) rfl ⟨by rw [RY.out]; rfl, ?_⟩
                      exact (set5_bel (by rw [R0.out]; exact Nat.le_refl _) BB.out _ _ _ _ _).drew
                    · have q5 : ((k : Int) % (f : Int) != 0) = true := by simp [h4]
                      have RN : Hid (fitS L A R = none) := (by rw [FX.out, if_neg (fun q => h4 q.2.2.2.2)] : _ = _)
                      clear FX h1 hok h3 h4
                      refine wp_region_quiet_below (by kernel_rfl) (by kernel_rfl) ?_
                      repeat (go_big_quiet_step (first
                        | (go_at_call 22; with_reducible exact Calls.regrown_of (MY2.out _))
                        | (go_at_call 23; with_reducible exact Calls.regrown_of (FR.out _))
                        | (go_at_call 16; with_reducible exact Calls.regrown_of (LW.out _))))
                      refine wpQuiet_nil ?_
                      intro _ hw'
                      obtain ⟨⟨dq, osq⟩, hw''⟩ := hw'
                      subst hw''
                      have BB : Hid (Bel w (grow (redrawn w3 dq) osq)) := B4.out.trans (below_regrown w3 dq osq)
                      have XX : Hid (BoxV (grow (redrawn w3 dq) osq) r0 wv0) := X4.out.bel (below_regrown w3 dq osq)
                      have k0 := Bel.keep (below_regrown w3 dq osq) G2.out
                      have k1 := Bel.keep (below_regrown w3 dq osq) G3.out
                      show Exit.then _ _ _ _ (grow (redrawn w3 dq) osq)
                      generalize grow (redrawn w3 dq) osq = w4 at *
                      obtain ⟨⟨c0, c1, c2, c3, c4⟩, f0, f1, f2, f3, f4'⟩ := XX.out
                      go_wp2

                      obtain ⟨⟨d0, d1, d2, d3, d4⟩, _⟩ := XX.out.set wv0
                      refine bodyPost_ret (v := .tuple #[wvl wv0, .int .i64 2100]) (results_wv Try.results9 rfl rfl d0 d1 d2 d3 d4) rfl ⟨by rw [RN.out]; rfl, ?_⟩
                      exact set5_bel (by rw [R0.out]; exact Nat.le_refl _) BB.out _ _ _ _ _
                  · have q4 : ([b2, b3] == m2) = false := by rw [q3]; exact decide_eq_false h3
                    have RN : Hid (fitS L A R = none) := (by rw [FX.out, if_neg (fun q => h3 q.2.2.2.1)] : _ = _)
                    clear FX h1 hok h3 q3
                    refine wp_region_quiet_below (by kernel_rfl) (by kernel_rfl) ?_
                    repeat (go_big_quiet_step (first
                      | (go_at_call 22; with_reducible exact Calls.regrown_of (MY2.out _))
                      | (go_at_call 23; with_reducible exact Calls.regrown_of (FR.out _))
                      | (go_at_call 16; with_reducible exact Calls.regrown_of (LW.out _))))
                    refine wpQuiet_nil ?_
                    intro _ hw'
                    obtain ⟨⟨dq, osq⟩, hw''⟩ := hw'
                    subst hw''
                    have BB : Hid (Bel w (grow (redrawn w3 dq) osq)) := B4.out.trans (below_regrown w3 dq osq)
                    have XX : Hid (BoxV (grow (redrawn w3 dq) osq) r0 wv0) := X4.out.bel (below_regrown w3 dq osq)
                    have k0 := Bel.keep (below_regrown w3 dq osq) G2.out
                    have k1 := Bel.keep (below_regrown w3 dq osq) G3.out
                    show Exit.then _ _ _ _ (grow (redrawn w3 dq) osq)
                    generalize grow (redrawn w3 dq) osq = w4 at *
                    obtain ⟨⟨c0, c1, c2, c3, c4⟩, f0, f1, f2, f3, f4'⟩ := XX.out
                    go_wp2

                    obtain ⟨⟨d0, d1, d2, d3, d4⟩, _⟩ := XX.out.set wv0
                    refine bodyPost_ret (v := .tuple #[wvl wv0, .int .i64 2100]) (results_wv Try.results9 rfl rfl d0 d1 d2 d3 d4) rfl ⟨by rw [RN.out]; rfl, ?_⟩
                    exact set5_bel (by rw [R0.out]; exact Nat.le_refl _) BB.out _ _ _ _ _
                · have MY2 : Hid (∀ w, Calls Try.prog 22 #[.agg #[.int .i64 c, .int .i64 b]] w fun e w' => e = .returned (.bool false) ∧ Bel w w') := fun w => by have := MY.out w; rw [show okF c b = false from by cases h : okF c b; rfl; exact absurd h hok] at this; exact this
                  have FR : Hid True := trivial
                  have LW : Hid True := trivial
                  have RN : Hid (fitS L A R = none) := (by rw [FX.out, if_neg (fun q => hok q.2.2.1)] : _ = _)
                  clear FX h1 hok MY
                  refine wp_region_quiet_below (by kernel_rfl) (by kernel_rfl) ?_
                  repeat (go_big_quiet_step ((go_at_call 22; with_reducible exact Calls.regrown_of (MY2.out _))))
                  refine wpQuiet_nil ?_
                  intro _ hw'
                  obtain ⟨⟨dq, osq⟩, hw''⟩ := hw'
                  subst hw''
                  have BB : Hid (Bel w (grow (redrawn w3 dq) osq)) := B4.out.trans (below_regrown w3 dq osq)
                  have XX : Hid (BoxV (grow (redrawn w3 dq) osq) r0 wv0) := X4.out.bel (below_regrown w3 dq osq)
                  have k0 := Bel.keep (below_regrown w3 dq osq) G2.out
                  have k1 := Bel.keep (below_regrown w3 dq osq) G3.out
                  show Exit.then _ _ _ _ (grow (redrawn w3 dq) osq)
                  generalize grow (redrawn w3 dq) osq = w4 at *
                  obtain ⟨⟨c0, c1, c2, c3, c4⟩, f0, f1, f2, f3, f4'⟩ := XX.out
                  go_wp2

                  obtain ⟨⟨d0, d1, d2, d3, d4⟩, _⟩ := XX.out.set wv0
                  refine bodyPost_ret (v := .tuple #[wvl wv0, .int .i64 2100]) (results_wv Try.results9 rfl rfl d0 d1 d2 d3 d4) rfl ⟨by rw [RN.out]; rfl, ?_⟩
                  exact set5_bel (by rw [R0.out]; exact Nat.le_refl _) BB.out _ _ _ _ _
              · have q2 : ([a0, a1] == [1, 0]) = false := by rw [q1]; exact decide_eq_false h1
                have RN : Hid (fitS L A R = none) := (by rw [FX.out, if_neg (fun q => h1 q.2.1)] : _ = _)
                clear FX h1 q1
                refine wp_region_quiet_below (by kernel_rfl) (by kernel_rfl) ?_
                repeat (go_big_quiet_step (fail))
                refine wpQuiet_nil ?_
                intro _ hw'
                obtain ⟨⟨dq, osq⟩, hw''⟩ := hw'
                subst hw''
                have BB : Hid (Bel w (grow (redrawn w3 dq) osq)) := B4.out.trans (below_regrown w3 dq osq)
                have XX : Hid (BoxV (grow (redrawn w3 dq) osq) r0 wv0) := X4.out.bel (below_regrown w3 dq osq)
                have k0 := Bel.keep (below_regrown w3 dq osq) G2.out
                have k1 := Bel.keep (below_regrown w3 dq osq) G3.out
                show Exit.then _ _ _ _ (grow (redrawn w3 dq) osq)
                generalize grow (redrawn w3 dq) osq = w4 at *
                obtain ⟨⟨c0, c1, c2, c3, c4⟩, f0, f1, f2, f3, f4'⟩ := XX.out
                go_wp2

                obtain ⟨⟨d0, d1, d2, d3, d4⟩, _⟩ := XX.out.set wv0
                refine bodyPost_ret (v := .tuple #[wvl wv0, .int .i64 2100]) (results_wv Try.results9 rfl rfl d0 d1 d2 d3 d4) rfl ⟨by rw [RN.out]; rfl, ?_⟩
                exact set5_bel (by rw [R0.out]; exact Nat.le_refl _) BB.out _ _ _ _ _
          · have z16 : ((z : Int) != 16) = true := by simp; omega
            have RN : Hid (fitS L A R = none) := (by rw [FS3.out]; unfold fitP; rw [if_neg (fun q => h16 q.1)] : fitS L A R = none)
            go_wp2
            obtain ⟨⟨d0, d1, d2, d3, d4⟩, _⟩ := XX.out.set wv0
            refine bodyPost_ret (v := .tuple #[wvl wv0, .int .i64 2100]) (results_wv Try.results9 rfl rfl d0 d1 d2 d3 d4) rfl ⟨by rw [RN.out]; rfl, ?_⟩
            exact set5_bel (by rw [R0.out]; exact Nat.le_refl _) BB.out _ _ _ _ _

/-- The reference's Parse, of whatever text. -/
theorem rparse_ok (s : ByteArray) (L : List UInt8) (hs : s.data.toList = L) (hx : s.size ≤ maxLen) (w : World) :
    Calls Try.prog 9 #[.string s] w fun e w' => e = .returned (.tuple #[wvl (ansW (parse L)), .int .i64 (errW (parse L))]) ∧ Bel w w' := by
  unfold parse
  cases h : chunks L with
  | none => exact rparse_none s hx (hs ▸ h) w
  | some A => exact rparse_some s L hs hx A h w

end Go.Proofs.Ythbjjjpleongbaa.Wav
