/-
  ChainBounds answers true for every row of ints: a guess is off by no more than a number may be. Condition: the row is there.
-/
import Derived.Test.YteihdihplgjclaaHAwake
import Derived.Test.YteihdihplgjclaaHRef
namespace Go.Proofs.Yteihdihplgjclaa.Chn
open Go.RowKit Go.Sort Go.Proofs.Yteihdihplgjclaa.Mod Go.Proofs.Yteihdihplgjclaa.Lin Go.Proofs.Yteihdihplgjclaa.Num
set_option linter.unusedVariables false
set_option linter.unusedSimpArgs false

theorem and_le (a y : Int) (h0 : 0 ≤ a) (h1 : a < 2 ^ 62) : 0 ≤ bits .and .i64 a y ∧ bits .and .i64 a y ≤ a := by
  have key : (BitVec.ofInt 64 a &&& BitVec.ofInt 64 y).toNat ≤ a.toNat := by
    rw [BitVec.toNat_and]
    refine Nat.le_trans Nat.and_le_left ?_
    rw [BitVec.toNat_ofInt]
    omega
  have e : bits .and .i64 a y = IntKind.i64.wrap (((BitVec.ofInt 64 a &&& BitVec.ofInt 64 y).toNat : Nat) : Int) := rfl
  rw [e, wraps_i64 _ (by omega) (by omega)]
  omega

theorem min2_is (p : Int) (h : p ≤ 131072) (ts : Array TypeId) (t : TypeId) (w : World) : (Builtin.min_ ts t #[.int .i64 131072, .int .i64 p]).run Try.prog w = .ok (.int .i64 p) w := by
  rw [run_min_int2]
  have e : (if p < 131072 then p else 131072) = p := by split <;> omega
  rw [e]
theorem max2_is (p : Int) (h : -131072 ≤ p) (ts : Array TypeId) (t : TypeId) (w : World) : (Builtin.max_ ts t #[.int .i64 (-131072), .int .i64 p]).run Try.prog w = .ok (.int .i64 p) w := by
  rw [run_max_int2]
  have e : (if p > -131072 then p else -131072) = p := by split <;> omega
  rw [e]

set_option maxRecDepth 20000 in
set_option maxHeartbeats 2000000 in
theorem bounds_walk (ao : Option Addr) (xs : List Int) (n cap : Nat) (hn : n = xs.length) (hx : n ≤ maxLen) (w : World) (hS : Slc w ao xs) :
    Calls Try.prog 5 #[.slice ao n cap] w fun e w' => e = .returned (.bool true) ∧ Bel w w' := by
  unfold maxLen at hx
  have HS : Hid (Slc w ao xs) := hS
  have HN : Hid (n = xs.length) := hn
  have LE : Hid (∀ (L : List Int) (p : Int), mayC L = true ∧ L.length = 33 → -131072 ≤ p ∧ p ≤ 131072 → ∃ A g, (mayC A = true ∧ A.length = 33) ∧ A.getD 0 0 = p ∧ (-16777216 ≤ p - g ∧ p - g ≤ 16777216) ∧
      (∀ w, Calls Try.prog 10 #[mdl L, .int .i64 p] w fun e w' => e = .returned (.tuple #[mdl A, .int .i64 0]) ∧ Bel w w') ∧
      (∀ w, Calls Try.prog 8 #[mdl L] w fun e w' => e = .returned (.tuple #[.int .i64 g, .int .i64 0]) ∧ Bel w w') ∧
      (∀ w, Calls Try.prog 13 #[mdl A] w fun e w' => e = .returned (.bool true) ∧ Bel w w')) := fun L p h hp => by
    have q : passed 131072 p = false := passed_no.2 hp
    have mA := may_learnC h.2 h.1 q
    have nA := learnC_len h.2 p
    exact ⟨learnC L p, guessC L, ⟨mA, nA⟩, learnC_last L p, guessC_off h.1 q, learn_yes L h.2 p h.1 q, guess_yes L h.2 h.1, fun w => mA ▸ may_ok _ nA w⟩
  have ME : Hid (∀ L, mayC L = true ∧ L.length = 33 → ∀ w, Calls Try.prog 14 #[mdl L] w fun e w' => e = .returned (.bool true) ∧ Bel w w') := fun L h w => h.1 ▸ rcmay_ok L h.2 w
  have AM : Hid (∀ y, bits .and .i64 y 262143 = y % 262144) := fun y => and_mask 18 262143 (by decide) (by decide) y
  have A1 : Hid (∀ y, bits .and .i64 y 1 = y % 2) := fun y => and_mask 1 1 (by decide) (by decide) y
  have NZ : Hid (zeros33.length = 33) := zeros33_len
  have F0 : Hid (mayC zeros33 = true ∧ zeros33.length = 33) := ⟨zeros33_may, zeros33_len⟩
  have z := zero26
  clear hS hn
  go_enter Try.func5, Try.ntmps5
  go_wp2_with fail
  refine (awake_true _).mono ?_
  rintro e w1 ⟨rfl, b1⟩
  have h1 : Holds (w1.alloc (.cells (vals zeros33).toArray 26)) w1.heap.size zeros33 := holds_new w1 zeros33 _
  have c1 : Bel w (w1.alloc (.cells (vals zeros33).toArray 26)) := Bel.alloc b1 _
  have CC : Hid (w.heap.size ≤ w1.heap.size) := b1.size
  clear b1
  go_wp2_with fail
  generalize w1.alloc (.cells (vals zeros33).toArray 26) = W1 at *
  generalize w1.heap.size = C at *
  have H1 : Hid (Holds W1 C zeros33) := h1
  have C1 : Hid (Bel w W1) := c1
  clear h1 c1
  go_loopw [4] (fun i wr => ∃ (j : Nat) (L : List Int), j ≤ n ∧ j ≤ 60 ∧ i = .int .i64 (j : Int) ∧ Hid (mayC L = true ∧ L.length = 33) ∧ Holds wr C L ∧ Bel w wr) (fun i _ => 60 - (intOf i).toNat)
  case atStart => exact ⟨0, zeros33, Nat.zero_le _, by omega, rfl, F0, H1.out, C1.out⟩
  case round =>
    obtain ⟨j, L, hj, hj2, rfl, F, h, b⟩ := hrel
    have H3 : Hid (Holds wr C L) := h
    have B3 : Hid (Bel w wr) := b
    have TL : Hid ((L.drop 0).take 33 = L) := take_all F.out.2
    have OL : Hid (0 + 33 ≤ L.length) := show _ ≤ _ by rw [F.out.2]; decide
    clear h b H1 C1
    rcases (by omega : (j < n ∧ j < 60) ∨ (¬ j < n) ∨ (j < n ∧ ¬ j < 60)) with hlt | hlt | hlt
    · have hd : decide ((j : Int) < (n : Int)) = true := decide_eq_true (by omega)
      have hd2 : decide ((j : Int) < 60) = true := decide_eq_true (by omega)
      have hi : (j : Int) < (n : Int) := by omega
      have hi2 : (j : Int) < 60 := by omega
      obtain ⟨ad, rfl, hc⟩ := (HS.out.bel B3.out) j (HN.out ▸ hlt.1)
      have am := AM.out (xs.getD j 0)
      have a1 := A1.out (j : Int)
      have HJ : Hid (j + 1 ≤ n ∧ j + 1 ≤ 60) := ⟨hlt.1, hlt.2⟩
      generalize xs.getD j 0 = y at *
      obtain ⟨m, hm⟩ : ∃ m, y % 262144 = m := ⟨_, rfl⟩
      rw [hm] at am
      have m0 : 0 ≤ m := by omega
      have m1 : m ≤ 262143 := by omega
      obtain ⟨o, ho⟩ : ∃ o, (j : Int) % 2 = o := ⟨_, rfl⟩
      rw [ho] at a1
      have ol := and_le (2 * o) y (by omega) (by omega)
      have o0 : 0 ≤ o := by omega
      have o1 : o ≤ 1 := by omega
      obtain ⟨q, hq⟩ : ∃ q, bits .and .i64 (2 * o) y = q := ⟨_, rfl⟩
      rw [hq] at ol
      obtain ⟨r0, r1⟩ := ol
      have pr := prod_le (m - 131072) (1 - q) 131072 1 (by omega) (by omega)
      obtain ⟨p0, p1⟩ := pr
      clear hm ho hlt
      go_wp2_with fail
      go_quiet (fail)
      generalize (m - 131072) * (1 - q) = p at *
      have hmin := min2_is p (by omega)
      have hmax := max2_is p (by omega)
      obtain ⟨A, g, fA, lA, gA, YA, GA, MA⟩ := LE.out L p F.out ⟨p0, p1⟩
      obtain ⟨g0, g1⟩ := gA
      have FA : Hid (mayC A = true ∧ A.length = 33) := fA
      have NA : Hid (A.length = 33) := fA.2
      have TA : Hid ((A.drop 0).take 33 = A) := take_all fA.2
      have OA : Hid (0 + 33 ≤ A.length) := show _ ≤ _ by rw [fA.2]; decide
      have PA : Hid (put L 0 A = A) := put_all _ _ (F.out.2.trans fA.2.symm)
      have CA : Hid (∀ w b, Holds w b A → w.cell? ⟨b, 0, none⟩ = some (.int .i64 p)) := fun w b h => lA ▸ h.cell 0 (by rw [fA.2]; decide)
      have YH : Hid (∀ w, Calls Try.prog 10 #[mdl L, .int .i64 p] w fun e w' => e = .returned (.tuple #[mdl A, .int .i64 0]) ∧ Bel w w') := YA
      have GH : Hid (∀ w, Calls Try.prog 8 #[mdl L] w fun e w' => e = .returned (.tuple #[.int .i64 g, .int .i64 0]) ∧ Bel w w') := GA
      have MH : Hid (∀ w, Calls Try.prog 13 #[mdl A] w fun e w' => e = .returned (.bool true) ∧ Bel w w') := MA
      have t1 : p - g ≤ 16777216 := g1
      have t2 : g - p ≤ 16777216 := by omega
      have t3 : decide (p - g > 16777216) = false := decide_eq_false (by omega)
      have t4 : decide (g - p > 16777216) = false := decide_eq_false (by omega)
      clear fA lA YA GA MA LE ME am a1 hq F
      go_wp2_with (first | (with_reducible refine wpl_load_wide (o := 0) wide26 TL.out (H3.out.drewN _) OL.out rfl ?_))
      refine (GH.out _).mono ?_
      rintro e w2 ⟨rfl, b⟩
      have H4 : Hid (Holds w2 C L) := (H3.out.drewN _).bel b
      have B4 : Hid (Bel w w2) := (B3.out.drewN _).trans b
      clear b H3 B3 hc
      go_wp2_with (first | (with_reducible refine wpl_load_wide (o := 0) wide26 TL.out H4.out OL.out rfl ?_))
      refine (YH.out _).mono ?_
      rintro e w3 ⟨rfl, b⟩
      have h5 : Holds (w3.alloc (.cells (vals A).toArray 26)) C L := (H4.out.bel b).bel ((Bel.refl _).alloc _)
      have a5 : Holds (w3.alloc (.cells (vals A).toArray 26)) w3.heap.size A := holds_new w3 A _
      have b5 : Bel w (w3.alloc (.cells (vals A).toArray 26)) := (B4.out.trans b).alloc _
      clear b H4 B4
      go_wp2_with (first | (with_reducible refine wpl_store_widen wide26 NZ.out NA.out rfl rfl ?_))
      refine (num_ok _ _).mono ?_
      rintro e W ⟨rfl, rfl⟩
      generalize w3.alloc (.cells (vals A).toArray 26) = W at *
      have H5 : Hid (Holds W C L) := h5
      have A5 : Hid (Holds W w3.heap.size A) := a5
      have B5 : Hid (Bel w W) := b5
      clear h5 a5 b5
      go_wp2_with fail
      refine (num_ok _ _).mono ?_
      rintro e W2 ⟨rfl, rfl⟩
      go_wp2_with (first | (with_reducible refine wpl_load_wideg (o := 0) rfl wide26 TA.out A5.out OA.out rfl ?_))
      refine (MH.out _).mono ?_
      rintro e w6 ⟨rfl, b⟩
      have H6 : Hid (Holds w6 C L) := H5.out.bel b
      have A6 : Hid (Holds w6 w3.heap.size A) := A5.out.bel b
      have B6 : Hid (Bel w w6) := B5.out.trans b
      have c6 := CA.out _ _ A6.out
      clear b H5 A5 B5
      go_wp2_with (first
        | (with_reducible refine wpl_load_wide (o := 0) wide26 TA.out A6.out OA.out rfl ?_)
        | ((with_reducible refine wpl_store_widew (o := 0) wide26 B6.out H6.out CC.out OL.out NA.out PA.out rfl rfl ?_); intro V VH VB VO))
      go_roundw
      case rel => exact ⟨j + 1, A, HJ.out.1, HJ.out.2, by go_num, FA, VH.out, VB.out⟩
      case measure => simp [intOf]; have := HJ.out; omega
    · have hd : decide ((j : Int) < (n : Int)) = false := decide_eq_false (by omega)
      have hi : ¬ (j : Int) < (n : Int) := by omega
      have MX : Hid (∀ w, Calls Try.prog 14 #[mdl L] w fun e w' => e = .returned (.bool true) ∧ Bel w w') := ME.out L F.out
      clear LE ME F
      go_wp2_with (first | (with_reducible refine wpl_load_wide (o := 0) wide26 TL.out H3.out OL.out rfl ?_))
      refine (MX.out _).mono ?_
      rintro e w2 ⟨rfl, b⟩
      have B4 : Hid (Bel w w2) := B3.out.trans b
      clear b
      go_wp2
      go_ret
      exact ⟨rfl, B4.out⟩
    · have hd : decide ((j : Int) < (n : Int)) = true := decide_eq_true (by omega)
      have hd2 : decide ((j : Int) < 60) = false := decide_eq_false (by omega)
      have hi : (j : Int) < (n : Int) := by omega
      have hi2 : ¬ (j : Int) < 60 := by omega
      have MX : Hid (∀ w, Calls Try.prog 14 #[mdl L] w fun e w' => e = .returned (.bool true) ∧ Bel w w') := ME.out L F.out
      clear LE ME F
      go_wp2_with (first | (with_reducible refine wpl_load_wide (o := 0) wide26 TL.out H3.out OL.out rfl ?_))
      refine (MX.out _).mono ?_
      rintro e w2 ⟨rfl, b⟩
      have B4 : Hid (Bel w w2) := B3.out.trans b
      clear b
      go_wp2
      go_ret
      exact ⟨rfl, B4.out⟩

end Go.Proofs.Yteihdihplgjclaa.Chn
