/-
  The contract of riff.Chunks: the chunks, or the error. Condition: the text's length is an int.
-/
import Derived.Test.YthbjjjpleongbaaRcFile
import Derived.Test.YthbjjjpleongbaaRcApp
namespace Go.Proofs.Ythbjjjpleongbaa.Chk
open Go.RowKit Go.Proofs.Ythbjjjpleongbaa.Mod Go.Proofs.Ythbjjjpleongbaa.Num
set_option linter.unusedVariables false
set_option linter.unusedSimpArgs false

theorem fin_at (L : List UInt8) (p : Nat) : fin (at8 L p) = nxt L p := by unfold fin at8 nxt whole; simp; omega

/-- What a run told of, as the two answers. -/
def ansR (R : Option (List Ch)) : List Ch := R.getD []
def errR (R : Option (List Ch)) : Int := match R with | some _ => 0 | none => 2000
/-- The two answers of a call. -/
def Told (B : Nat) (R : Option (List Ch)) (e : Ending) (w : World) : Prop := ∃ v, e = .returned (.tuple #[v, .int .i64 (errR R)]) ∧ OwnR w B v (ansR R).length (ansR R)

theorem told_none {w : World} {B : Nat} : Told B none (.returned (.tuple #[.slice none 0 0, .int .i64 2000])) w := ⟨_, rfl, own_none w B⟩
theorem told_some {w : World} {B n : Nat} {v : Value} {Cs : List Ch} (h : OwnR w B v n Cs) : Told B (some Cs) (.returned (.tuple #[v, .int .i64 0])) w := ⟨v, rfl, by have := own_len h; subst this; exact h⟩

set_option maxHeartbeats 2000000 in
theorem chunks_yes (s : ByteArray) (L : List UInt8) (hs : s.data.toList = L) (hx : s.size ≤ maxLen) (h4 : L.length ≤ 4096) (hw : isW L = true) (w : World) :
    Calls Try.prog 17 #[.string s] w fun e w' => Told w.heap.size (run L 12 []) e w' ∧ Bel w w' := by
  have hn := size_len s L hs
  have F : Hid (∀ w, Calls Try.prog 26 #[.string s] w fun e w' => e = .returned (.bool true) ∧ Bel w w') := fun w => by rw [← hw]; exact file_ok s L hs hx w
  have H : Hid (∀ (p : Nat) w, p ≤ 4096 → Calls Try.prog 27 #[.string s, .int .i64 (p : Int)] w fun e w' => e = .returned (.tuple #[cval (if p + 8 ≤ L.length then at8 L p else ch0), .bool (decide (p + 8 ≤ L.length))]) ∧ Bel w w') := fun p w hp => head_ok s L hs hx p (by omega) w
  have E : Hid (∀ (c : Ch) w, c.2.1 ≤ 140737488355328 → c.2.2 ≤ 140737488355328 → Calls Try.prog 28 #[.agg #[.string (tx c.1), .int .i64 (c.2.1 : Int), .int .i64 (c.2.2 : Int)]] w fun e w' => e = .returned (.int .i64 ((fin c : Nat) : Int)) ∧ Bel w w') := fun c w h1 h2 => end_ok c h1 h2 w
  have N : Hid (s.size = L.length) := hn
  have hz : s.size ≤ 4096 := by omega
  have hd : decide (4096 < (s.size : Int)) = false := decide_eq_false (by omega)
  obtain ⟨B, hB⟩ : ∃ B, B = w.heap.size := ⟨_, rfl⟩
  have HB : Hid (B = w.heap.size) := hB
  rw [← hB]
  clear hs hx hn hB h4 hw
  obtain ⟨R, hR⟩ : ∃ R, run L 12 [] = R := ⟨_, rfl⟩
  rw [hR]
  have HR : Hid (run L 12 [] = R) := hR
  clear hR
  go_enter Try.func17, Try.ntmps17
  go_wp2_with fail
  refine (F.out _).mono ?_
  rintro e w1 ⟨rfl, b1⟩
  have B1 : Hid (Bel w w1) := b1
  clear b1
  go_wp2
  go_loopw [4, 5] (fun v i wr => ∃ (p n : Nat) (ao : Option Addr) (cap : Nat) (acc : List Ch), p ≤ 4096 ∧ n ≤ 64 ∧ i = .int .i64 p ∧ v = .slice ao n cap ∧ Hid (run L p acc = R) ∧ Hid (OwnR wr B (.slice ao n cap) n acc) ∧ Hid (Bel w wr)) (fun _ i _ => 4096 - (intOf i).toNat)
  case atStart => exact ⟨12, 0, none, 0, [], by omega, by omega, rfl, rfl, HR.out, own_none _ _, B1.out⟩
  case round =>
    obtain ⟨p, n, ao, cap, acc, hp, hn, rfl, rfl, hr, ho, hb⟩ := hrel
    by_cases hlt : p < s.size
    · have hd1 : decide ((p : Int) < (s.size : Int)) = true := decide_eq_true (by omega)
      have hd1b : decide (p < s.size) = true := decide_eq_true (by omega)
      have hl := own_len ho.out
      by_cases h8 : p + 8 ≤ L.length
      · have C := H.out p wr hp
        rw [if_pos h8, decide_eq_true h8] at C
        have k8 : csz L p ≤ 4294967295 := csz_le L p
        have e2 : at8 L p = (cid L p, p + 8, csz L p) := rfl
        have hnx := nxt_gt L p
        have E2 : Hid (∀ w, Calls Try.prog 28 #[.agg #[.string (tx (cid L p)), .int .i64 ((p + 8 : Nat) : Int), .int .i64 ((csz L p : Nat) : Int)]] w fun e w' => e = .returned (.int .i64 ((nxt L p : Nat) : Int)) ∧ Bel w w') := fun w => by
          rw [← fin_at]
          exact E.out (at8 L p) w (by show p + 8 ≤ _; omega) (by show csz L p ≤ _; omega)
        have C2 : Hid (Calls Try.prog 27 #[.string s, .int .i64 (p : Int)] wr fun e w' => e = .returned (.tuple #[.agg #[.string (tx (cid L p)), .int .i64 ((p + 8 : Nat) : Int), .int .i64 ((csz L p : Nat) : Int)], .bool true]) ∧ Bel wr w') := C
        clear C
        by_cases hf : nxt L p ≤ L.length
        · by_cases h64 : n = 64
          · subst h64
            have RN : Hid (R = none) := hr.out.symm.trans (run_bad L p acc (by omega) (by unfold bad; rw [← hl]; simp))
            have g1 : decide (s.size < nxt L p) = false := decide_eq_false (by rw [N.out]; omega)
            have g2 : decide ((s.size : Int) < (nxt L p : Int)) = false := decide_eq_false (by rw [N.out]; omega)
            clear hl hr hnx e2 hf h8 E
            generalize nxt L p = y at *
            generalize p + 8 = q at *
            generalize csz L p = k at *
            generalize cid L p = l at *
            go_wp2_with fail
            refine C2.out.mono ?_
            rintro e w2 ⟨rfl, b2⟩
            have B2 : Hid (Bel w w2) := hb.out.trans b2
            clear b2 hb ho
            go_wp2_with fail
            refine (E2.out _).mono ?_
            rintro e w3 ⟨rfl, b3⟩
            have B3 : Hid (Bel w w3) := (B2.out.alloc _).trans b3
            clear b3
            go_wp2
            go_ret2
            exact ⟨by rw [RN.out]; exact told_none, B3.out⟩
          · have RN : Hid (run L (nxt L p) (acc ++ [at8 L p]) = R) := (run_on L p acc (by omega) (no_bad (by omega) hf)).symm.trans hr.out
            rw [e2] at RN
            have g1 : decide (s.size < nxt L p) = false := decide_eq_false (by rw [N.out]; omega)
            have g2 : decide ((s.size : Int) < (nxt L p : Int)) = false := decide_eq_false (by rw [N.out]; omega)
            have g3 : ((n : Int) == 64) = false := by simp; omega
            have g4 : (n == 64) = false := by simp; omega
            have y1 : p < nxt L p := by omega
            have y2 : nxt L p ≤ 4096 := by rw [← N.out] at hf; omega
            clear hl hr hnx e2 hf h8 E
            have hq : p + 8 ≤ 8192 := by omega
            have HQ : Hid (∃ q, q = p + 8) := ⟨_, rfl⟩
            generalize nxt L p = y at *
            generalize p + 8 = q at *
            generalize csz L p = k at *
            generalize cid L p = l at *
            clear HQ
            go_wp2_with fail
            refine C2.out.mono ?_
            rintro e w2 ⟨rfl, b2⟩
            have B2 : Hid (Bel w w2) := hb.out.trans b2
            have O2 : Hid (OwnR (w2.alloc (.cells #[.string (tx l), .int .i64 (q : Int), .int .i64 (k : Int)] 52)) B (.slice ao n cap) n acc) := own_bel ho.out (b2.alloc _)
            have BX : Hid (∀ w1, Bel (w2.alloc (.cells #[.string (tx l), .int .i64 (q : Int), .int .i64 (k : Int)] 52)) w1 → BoxC w1 w2.heap.size (tx l) q k) := fun w1 b => (boxC_new w2 _ _ _).bel b
            have OR : Hid (OwnR wr B (.slice ao n cap) n acc) := ho.out
            have S2 : Hid (wr.heap.size ≤ w2.heap.size) := b2.size
            clear b2 hb ho
            go_wp2_with fail
            refine (E2.out _).mono ?_
            rintro e w3 ⟨rfl, b3⟩
            have B3 : Hid (Bel w w3) := (B2.out.alloc _).trans b3
            have O3 : Hid (OwnR w3 B (.slice ao n cap) n acc) := own_bel O2.out b3
            obtain ⟨⟨x0, x1, x2⟩, _⟩ := BX.out w3 b3
            have BX3 : Hid (BoxC w3 w2.heap.size (tx l) q k) := BX.out w3 b3
            clear b3 BX O2
            have SZ : Hid (B ≤ w3.heap.size ∧ n ≤ 4096) := ⟨by rw [HB.out]; exact B3.out.size, by omega⟩
            go_wp2_with (at_builtin; refine wpl_moreC w3 rfl (.tmp 40) (.tmp 42) rfl B n SZ.out.1 (.slice ao n cap) acc l q k _ rfl rfl rfl O3.out SZ.out.2 ?_)
            intro v' w4 ho4 x4
            obtain ⟨ao4, cap4, rfl⟩ := own_form ho4
            have O4 : Hid (OwnR w4 B (.slice ao4 (n + 1) cap4) (n + 1) (acc ++ [(l, q, k)])) := ho4
            have B4 : Hid (Bel w w4) := x4.from B3.out (fun i hi => by rw [← HB.out]; exact (O3.out.lt i hi).1)
            obtain ⟨⟨x0, x1, x2⟩, _⟩ := BX3.out.exc x4 (fun hi => by have := (OR.out.lt _ hi).2; have := S2.out; omega)
            clear x4 ho4 BX3 OR O3
            go_wp2_with fail
            refine (E2.out _).mono ?_
            rintro e w5 ⟨rfl, b5⟩
            have B5 : Hid (Bel w w5) := B4.out.trans b5
            have O5 : Hid (OwnR w5 B (.slice ao4 (n + 1) cap4) (n + 1) (acc ++ [(l, q, k)])) := own_bel O4.out b5
            clear b5 O4
            go_wp2
            go_roundw
            case rel => exact ⟨y, n + 1, ao4, cap4, acc ++ [(l, q, k)], y2, by omega, by go_num, by go_num, RN.out, O5.out, B5.out⟩
            case measure => simp [intOf]; omega
        · have RN : Hid (R = none) := hr.out.symm.trans (run_bad L p acc (by omega) (by unfold bad; rw [decide_eq_true (show L.length < nxt L p by omega)]; simp))
          have g1 : decide (s.size < nxt L p) = true := decide_eq_true (by rw [N.out]; omega)
          have g2 : decide ((s.size : Int) < (nxt L p : Int)) = true := decide_eq_true (by rw [N.out]; omega)
          have y3 : nxt L p ≤ 140737488355328 := by unfold nxt whole; omega
          clear hl hr hnx e2 hf h8 E
          generalize nxt L p = y at *
          generalize p + 8 = q at *
          generalize csz L p = k at *
          generalize cid L p = l at *
          go_wp2_with fail
          refine C2.out.mono ?_
          rintro e w2 ⟨rfl, b2⟩
          have B2 : Hid (Bel w w2) := hb.out.trans b2
          clear b2 hb ho
          go_wp2_with fail
          refine (E2.out _).mono ?_
          rintro e w3 ⟨rfl, b3⟩
          have B3 : Hid (Bel w w3) := (B2.out.alloc _).trans b3
          clear b3
          go_wp2
          go_ret2
          exact ⟨by rw [RN.out]; exact told_none, B3.out⟩
      · have C := H.out p wr hp
        rw [if_neg h8, decide_eq_false h8] at C
        have C2 : Hid (Calls Try.prog 27 #[.string s, .int .i64 (p : Int)] wr fun e w' => e = .returned (.tuple #[.agg #[.string ⟨#[]⟩, .int .i64 0, .int .i64 0], .bool false]) ∧ Bel wr w') := C
        have RN : Hid (R = none) := hr.out.symm.trans (run_bad L p acc (by have := N.out; omega) (by unfold bad; rw [decide_eq_true (show L.length < p + 8 by omega)]; rfl))
        clear hl hr h8 E C
        go_wp2_with fail
        refine C2.out.mono ?_
        rintro e w2 ⟨rfl, b2⟩
        have B2 : Hid (Bel w w2) := hb.out.trans b2
        clear b2 hb ho
        go_wp2
        go_ret2
        exact ⟨by rw [RN.out]; exact told_none, B2.out.alloc _⟩
    · have hd1 : decide ((p : Int) < (s.size : Int)) = false := decide_eq_false (by omega)
      have hd1b : decide (p < s.size) = false := decide_eq_false (by omega)
      have RN : Hid (R = some acc) := hr.out.symm.trans (run_end L p acc (by rw [← N.out]; omega))
      go_wp2
      go_ret2
      exact ⟨by rw [RN.out]; exact told_some ho.out, hb.out⟩

set_option maxHeartbeats 1000000 in
theorem chunks_no (s : ByteArray) (L : List UInt8) (hs : s.data.toList = L) (hx : s.size ≤ maxLen) (h : isWav L = false) (w : World) :
    Calls Try.prog 17 #[.string s] w fun e w' => e = .returned (.tuple #[.slice none 0 0, .int .i64 2000]) ∧ Bel w w' := by
  have hn := size_len s L hs
  rw [isWav_eq] at h
  have F : Hid (∀ w, Calls Try.prog 26 #[.string s] w fun e w' => e = .returned (.bool (isW L)) ∧ Bel w w') := fun w => file_ok s L hs hx w
  unfold maxLen at hx
  by_cases h4 : L.length ≤ 4096
  · rw [decide_eq_true h4, Bool.true_and] at h
    rw [h] at F
    have hd : decide (4096 < (s.size : Int)) = false := decide_eq_false (by omega)
    have hd2 : decide (4096 < s.size) = false := decide_eq_false (by omega)
    clear hs hn h h4
    go_enter Try.func17, Try.ntmps17
    go_wp2_with fail
    refine (F.out _).mono ?_
    rintro e w1 ⟨rfl, b1⟩
    have B1 : Hid (Bel w w1) := b1
    clear b1
    go_wp2
    go_ret2
    exact ⟨rfl, B1.out⟩
  · have hd : decide (4096 < (s.size : Int)) = true := decide_eq_true (by omega)
    have hd2 : decide (4096 < s.size) = true := decide_eq_true (by omega)
    clear hs hn h h4 F
    go_enter Try.func17, Try.ntmps17
    go_wp2
    go_ret2
    exact ⟨rfl, Bel.refl _⟩

/-- riff.Chunks, of whatever text. -/
theorem chunks_ok (s : ByteArray) (L : List UInt8) (hs : s.data.toList = L) (hx : s.size ≤ maxLen) (w : World) :
    Calls Try.prog 17 #[.string s] w fun e w' => Told w.heap.size (chunks L) e w' ∧ Bel w w' := by
  unfold chunks
  cases h : isWav L
  · refine (chunks_no s L hs hx h w).mono ?_
    rintro e w' ⟨rfl, b⟩
    exact ⟨told_none, b⟩
  · rw [isWav_eq, Bool.and_eq_true, decide_eq_true_eq] at h
    exact chunks_yes s L hs hx h.1 h.2 w

end Go.Proofs.Ythbjjjpleongbaa.Chk
