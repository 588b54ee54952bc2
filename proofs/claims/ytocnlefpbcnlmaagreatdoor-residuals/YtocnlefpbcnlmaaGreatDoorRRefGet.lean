/-
  The reference's GetResiduals. Condition: none.
-/
import Derived.Test.YtocnlefpbcnlmaaGreatDoorRRefNum
namespace Go.Proofs.YtocnlefpbcnlmaaGreatDoor.Res
open Go.RowKit Go.Sort Go.Proofs.YtocnlefpbcnlmaaGreatDoor.Mod Go.Proofs.YtocnlefpbcnlmaaGreatDoor.Ints
set_option linter.unusedVariables false
set_option linter.unusedSimpArgs false

theorem up13_ok (x lo hi : Int) (r : Bool) (h : decide (lo ≤ x ∧ x ≤ hi) = r) (w : World) :
    Calls Tryz.prog 37 #[.int .i64 x, .int .i64 lo, .int .i64 hi] w fun e w' => e = .returned (.bool r) ∧ w' = w := by
  subst h
  by_cases a : lo ≤ x
  · have hb : decide (lo ≤ x) = true := decide_eq_true a
    have hr : decide (lo ≤ x ∧ x ≤ hi) = decide (x ≤ hi) := by simp [a]
    rw [hr]
    clear hr
    go_enter Tryz.func37, Tryz.ntmps37
    go_wp2
    go_ret
    exact ⟨rfl, rfl⟩
  · have hb : decide (lo ≤ x) = false := decide_eq_false a
    have hr : decide (lo ≤ x ∧ x ≤ hi) = false := by simp [a]
    rw [hr]
    clear hr
    go_enter Tryz.func37, Tryz.ntmps37
    go_wp2
    go_ret
    exact ⟨rfl, rfl⟩

/-- What the reference's Get answers. -/
def RGot (w' : World) (e : Ending) : Option (List Int) → Prop
  | none => e = .returned (.tuple #[.slice none 0 0, .int .i64 1300])
  | some rs => ∃ ao cap, e = .returned (.tuple #[.slice ao rs.length cap, .int .i64 0]) ∧ Slc w' ao rs

theorem rget_bad (t : ByteArray) (hs : t.size ≤ maxLen) (many : Int) (h : ¬ (0 ≤ many ∧ many ≤ 256 ∧ t.size ≤ 65536)) (w : World) :
    Calls Tryz.prog 9 #[.string t, .int .i64 many] w fun e w' => e = .returned (.tuple #[.slice none 0 0, .int .i64 1300]) ∧ Bel w w' := by
  have ND := Deco.newDecoder_ok t hs w
  unfold maxLen at hs
  by_cases h1 : 0 ≤ many ∧ many ≤ 256
  · have hz : ¬ t.size ≤ 65536 := fun q => h ⟨h1.1, h1.2, q⟩
    rw [Deco.newAns, if_neg hz] at ND
    have UP := up13_ok many 0 256 true (decide_eq_true h1)
    clear h h1 hz
    go_enter Tryz.func9, Tryz.ntmps9
    go_wp2_with fail
    refine ND.mono ?_
    rintro e w1 ⟨rfl, b1⟩
    have B1 : Hid (Bel w w1) := b1
    clear b1 ND
    go_wp2_with (first | (go_at_call 37; (with_reducible refine (UP _).mono ?_); rintro e w2 ⟨rfl, hw2⟩; replace hw2 := hw2.symm; subst hw2))
    go_ret2
    exact ⟨rfl, B1.out.alloc _⟩
  · have UP := up13_ok many 0 256 false (decide_eq_false h1)
    clear h h1
    by_cases hz : t.size ≤ 65536
    · rw [Deco.newAns, if_pos hz] at ND
      generalize Coder.win t 0 = n0 at *
      go_enter Tryz.func9, Tryz.ntmps9
      go_wp2_with fail
      refine ND.mono ?_
      rintro e w1 ⟨rfl, b1⟩
      have B1 : Hid (Bel w w1) := b1
      clear b1 ND
      go_wp2_with (first | (go_at_call 37; (with_reducible refine (UP _).mono ?_); rintro e w2 ⟨rfl, hw2⟩; replace hw2 := hw2.symm; subst hw2))
      go_ret2
      exact ⟨rfl, B1.out.alloc _⟩
    · rw [Deco.newAns, if_neg hz] at ND
      go_enter Tryz.func9, Tryz.ntmps9
      go_wp2_with fail
      refine ND.mono ?_
      rintro e w1 ⟨rfl, b1⟩
      have B1 : Hid (Bel w w1) := b1
      clear b1 ND
      go_wp2_with (first | (go_at_call 37; (with_reducible refine (UP _).mono ?_); rintro e w2 ⟨rfl, hw2⟩; replace hw2 := hw2.symm; subst hw2))
      go_ret2
      exact ⟨rfl, B1.out.alloc _⟩

/-- What holds in the reference when k numbers are found. -/
structure GInv (Lm Db No : Nat) (t : ByteArray) (m : Nat) (R : Option (List Int)) (k : Nat) (w wr : World) (s : Sta) (done : List Int) (v : Value) : Prop where
  len : done.length = k
  ans : (takes t (m - k) s).map (done ++ ·) = R
  ok : Ok s k
  inn : In t s.2.1
  mem : Holds wr Lm s.1
  st : DecAt t wr Db s.2.1
  row : wr.ownsRow No 3 1 v k (vals done)
  bel : Bel w wr
  size : No ≤ wr.heap.size

/-- What holds when some bits of the next are found. -/
structure IWay (Lm Db N k : Nat) (t : ByteArray) (R : Option (List Int × Cod × List Int)) (b : Int) (w wr : World) (M : List Int) (c : Cod) (bs : List Int) (v : Value) : Prop where
  run : run (nxtT t) (65 - bs.length) M b c bs = R
  len : M.length = 195
  may : mayM M = true
  b01 : Ctx.Bits01 bs
  nw : NW bs
  bet : Coder.Between c.l c.h
  inn : In t c
  out : c.o.length ≤ 204 * k + 4 * bs.length
  mem : Holds wr Lm M
  st : DecAt t wr Db c
  row : wr.ownsRow N 3 1 v bs.length (vals bs)
  exc : Exc (fun i => i = Lm ∨ i = Db) w wr

set_option maxRecDepth 20000 in
set_option maxHeartbeats 16000000 in
theorem rget_fine (t : ByteArray) (m : Nat) (hm : m ≤ 256) (ht : t.size ≤ 65536) (w : World) :
    Calls Tryz.prog 9 #[.string t, .int .i64 (m : Int)] w fun e w' => RGot w' e (getP t (m : Int)) ∧ Bel w w' := by
  have ND : Hid (Calls Tryz.prog 36 #[.string t] w fun e w' => e = .returned (.tuple #[.agg #[.int .i64 0, .int .i64 4294967295, .int .i64 (Coder.win t 0), .string t, .int .i64 4], .int .i64 0]) ∧ Bel w w') := by
    have := Deco.newDecoder_ok t (by unfold maxLen; omega) w
    rwa [Deco.newAns, if_pos ht] at this
  have UP : Hid (∀ w, Calls Tryz.prog 37 #[.int .i64 (m : Int), .int .i64 0, .int .i64 256] w fun e w' => e = .returned (.bool true) ∧ w' = w) := up13_ok (m : Int) 0 256 true (decide_eq_true (by omega))
  have MN : Hid (∀ w, Calls Tryz.prog 25 #[] w fun e w' => e = .returned (mdl newM) ∧ Bel w w') := ref_new_ok
  have z := zero26
  have ZL : Hid (zeros.length = 195) := zeros_len
  have NL : Hid (newM.length = 195) := newM_len
  have IN : Hid (In t c0) := ⟨by have := (Coder.win_in t 0).1; exact this, by have := (Coder.win_in t 0).2; exact this, fun i hi => absurd hi (by simp [c0])⟩
  have HT : Hid (t.size ≤ 65536) := ht
  have HR : Hid (∃ R, takes t m s0 = R) := ⟨_, rfl⟩
  obtain ⟨M0, hM0⟩ : ∃ M0, newM = M0 := ⟨_, rfl⟩
  rw [hM0] at NL MN
  have M1 : Hid (newM = M0) := hM0
  obtain ⟨n0, hn0⟩ : ∃ n, Coder.win t 0 = n := ⟨_, rfl⟩
  rw [hn0] at ND
  have NW0 : Hid (Coder.win t 0 = n0) := hn0
  clear hM0 hn0 ht HR
  generalize zeros = Z at *
  go_enter Tryz.func9, Tryz.ntmps9
  go_wp2_with fail
  refine ND.out.mono ?_
  rintro e w1 ⟨rfl, b1⟩
  have D1 : Hid (DecAt t (w1.alloc (.cells #[.int .i64 0, .int .i64 4294967295, .int .i64 n0, .string t, .int .i64 4] 76)) w1.heap.size c0) := by
    have f := fresh5 w1 (.int .i64 0) (.int .i64 4294967295) (.int .i64 n0) (.string t) (.int .i64 4) 76 _ rfl
    exact ⟨⟨f.1, f.2.1, by rw [f.2.2.1, ← NW0.out]; rfl, f.2.2.2.1, f.2.2.2.2⟩, there_new rfl _ _ _ _ _ _⟩
  have B1 : Hid (Bel w (w1.alloc (.cells #[.int .i64 0, .int .i64 4294967295, .int .i64 n0, .string t, .int .i64 4] 76))) := b1.alloc _
  have S1 : Hid (w.heap.size ≤ w1.heap.size) := b1.size
  clear b1 ND
  go_wp2_with (first | (go_at_call 37; (with_reducible refine (UP.out _).mono ?_); rintro e w2 ⟨rfl, hw2⟩; replace hw2 := hw2.symm; subst hw2))
  generalize w1.alloc (.cells #[.int .i64 0, .int .i64 4294967295, .int .i64 n0, .string t, .int .i64 4] 76) = W1 at *
  refine (MN.out _).mono ?_
  rintro e w2 ⟨rfl, b2⟩
  have D2 : Hid (DecAt t (w2.alloc (.cells (vals M0).toArray 46)) w1.heap.size c0) := (D1.out.bel b2).bel ((Bel.refl _).alloc _)
  have B2 : Hid (Bel w (w2.alloc (.cells (vals M0).toArray 46))) := (B1.out.trans b2).alloc _
  have S2 : Hid (w.heap.size ≤ w1.heap.size ∧ w1.heap.size < w2.heap.size) := ⟨S1.out, by have := block_lt_of_cell (b2.keep D1.out.1.1); exact this⟩
  have H2 : Hid (Holds (w2.alloc (.cells (vals M0).toArray 46)) w2.heap.size M0) := holds_new w2 M0 46
  clear b2 D1 B1 S1 MN UP
  go_wp2_with (first | (with_reducible refine wpl_store26n ZL.out NL.out rfl rfl ?_))
  have SE : Hid ((w2.alloc (.cells (vals M0).toArray 46)).heap.size = w2.heap.size + 1) := World.size_alloc _ _
  have K0 : Hid (GInv w2.heap.size w1.heap.size (w2.heap.size + 1) t m (takes t m s0) 0 w (w2.alloc (.cells (vals M0).toArray 46)) s0 [] (.slice none 0 0)) :=
    ⟨rfl, by rw [Nat.sub_zero]; cases takes t m s0 <;> simp, s0_ok, IN.out, by have h := H2.out; rw [← M1.out] at h ⊢; exact h, D2.out, ⟨rfl, .inl ⟨rfl, rfl⟩⟩, B2.out, by rw [SE.out]; exact Nat.le_refl _⟩
  clear D2 B2 H2 IN M1 NW0 SE
  generalize w2.alloc (.cells (vals M0).toArray 46) = W2 at *
  generalize w2.heap.size = Lm at *
  generalize w1.heap.size = Db at *
  obtain ⟨R, hR⟩ : ∃ R, takes t m s0 = R := ⟨_, rfl⟩
  rw [hR] at K0
  have HR : Hid (takes t m s0 = R) := hR
  clear hR
  go_loopw [9, 10, 11] (fun b9 v10 i11 wr => ∃ (k : Nat) (s : Sta) (done : List Int) (v : Value), k ≤ m ∧ i11 = .int .i64 (k : Int) ∧ b9 = .int .i64 s.2.2 ∧ v = v10 ∧ Hid (GInv Lm Db (Lm + 1) t m R k w wr s done v)) (fun _ _ i _ => m - (intOf i).toNat)
  case atStart => exact ⟨0, s0, [], _, by omega, rfl, rfl, rfl, K0⟩
  case round =>
    obtain ⟨k, s, done, v10, hk, rfl, rfl, rfl, K⟩ := hrel
    clear K0
    by_cases hlt : k < m
    · have hd2 : decide ((k : Int) < (m : Int)) = true := decide_eq_true (by omega)
      obtain ⟨R1, hR1⟩ : ∃ R1, run (nxtT t) 65 s.1 s.2.2 s.2.1 [] = R1 := ⟨_, rfl⟩
      have HR1 : Hid (run (nxtT t) 65 s.1 s.2.2 s.2.1 [] = R1) := hR1
      have I0 : Hid (IWay Lm Db wr.heap.size k t R1 s.2.2 wr wr s.1 s.2.1 [] (.slice none 0 0)) := ⟨hR1, K.out.ok.len, K.out.ok.may, Ctx.bits_nil, nw_nil, K.out.ok.bet, K.out.inn, by have := K.out.ok.out; simpa using this, K.out.mem, K.out.st, ⟨rfl, .inl ⟨rfl, rfl⟩⟩, Exc.refl _ _⟩
      have BB : Hid (0 ≤ s.2.2 ∧ s.2.2 ≤ 63) := ⟨K.out.ok.b0, K.out.ok.b1⟩
      have GL : Hid (Db < Lm ∧ w.heap.size ≤ Db ∧ Lm + 1 ≤ wr.heap.size) := ⟨S2.out.2, S2.out.1, K.out.size⟩
      obtain ⟨b, hb⟩ : ∃ b, s.2.2 = b := ⟨_, rfl⟩
      rw [hb] at I0 BB HR1
      have HB : Hid (s.2.2 = b) := hb
      simp only [hb]
      clear hR1 hb
      rename World => wo
      go_wp2_with fail
      go_loopw [12] (fun v12 wi => ∃ (n : Nat) (bs M : List Int) (c : Cod) (ao : Option Addr) (cap : Nat), v12 = .slice ao n cap ∧ n ≤ 52 ∧ Hid (n = bs.length ∧ n ≤ cap ∧ cap ≤ maxLen ∧ Slc wi ao bs ∧ IWay Lm Db wo.heap.size k t R1 b wo wi M c bs (.slice ao n cap))) (fun v _ => 52 - lenOf v)
      case atStart => exact ⟨0, [], s.1, s.2.1, none, 0, rfl, by omega, ⟨rfl, Nat.le_refl _, Nat.zero_le _, slc_nil _ _, I0.out⟩⟩
      case round =>
        obtain ⟨n, bs, M, c, ao, cap, rfl, hn, J⟩ := hrel
        clear I0
        have ol := Gam.ones_le bs
        rw [← J.out.1] at ol
        have OQ : Hid (Calls Tryz.prog 33 #[.slice ao n cap] wr fun e w' => e = .returned (.int .i64 ((Gam.ones bs : Nat) : Int)) ∧ w' = wr) := Ctx.ones_ok ao bs n cap J.out.1 (by unfold maxLen; omega) wr J.out.2.2.2.1
        cases hw : whole bs
        · by_cases h51 : n ≤ 51
          · have hd51 : decide ((51 : Int) < (n : Int)) = false := decide_eq_false (by omega)
            have IP := J.out.2.2.2.2
            have CX : Hid (Calls Tryz.prog 29 #[.int .i64 b, .slice ao n cap] wr fun e w' => e = .returned (.tuple #[.agg #[.int .i64 (x0 bs : Nat), .int .i64 (x1 b bs : Nat), .int .i64 (x2 bs : Nat)], .int .i64 0]) ∧ Bel wr w') := by
              have := Ctx.rctx_yes b ao bs n cap J.out.1 ⟨BB.out.1, BB.out.2, by rw [← J.out.1]; omega, IP.b01⟩ wr J.out.2.2.2.1
              have e : Ctx.ctxV b bs = .agg #[.int .i64 (x0 bs : Nat), .int .i64 (x1 b bs : Nat), .int .i64 (x2 bs : Nat)] := by rw [(x0_is bs).1, (x1_is BB.out.1 bs).1, (x2_is bs).1]
              rwa [e] at this
            have PQ : Hid (∀ w, Calls Tryz.prog 30 #[mdl M, .agg #[.int .i64 (x0 bs : Nat), .int .i64 (x1 b bs : Nat), .int .i64 (x2 bs : Nat)]] w fun e w' => e = .returned (.tuple #[.int .i64 (pOf M b bs), .int .i64 0]) ∧ Bel w w') := fun w => ref_p_yes M IP.len _ _ _ (x0_is bs).2 (x1_is BB.out.1 bs).2 (x2_is bs).2 IP.may w
            have pin := pOf_in M b bs
            have LQ : Hid (∀ w, Calls Tryz.prog 32 #[mdl M, .agg #[.int .i64 (x0 bs : Nat), .int .i64 (x1 b bs : Nat), .int .i64 (x2 bs : Nat)], .int .i64 (bitT t c (pOf M b bs))] w fun e w' => e = .returned (.tuple #[mdl (lrn M b bs (bitT t c (pOf M b bs))), .int .i64 0]) ∧ Bel w w') := fun w => ref_learn_yes M IP.len _ _ _ (x0_is bs).2 (x1_is BB.out.1 bs).2 (x2_is bs).2 _ (decide_eq_true (bitT_01 t c _)) IP.may w
            have DQ : Hid (∀ w, Calls Tryz.prog 38 #[.agg #[.int .i64 c.l, .int .i64 c.h, .int .i64 (Coder.win t c.o.length), .string t, .int .i64 ((c.o.length + 4 : Nat) : Int)], .int .i64 (pOf M b bs)] w fun e w' => e = .returned (.tuple #[.agg #[.int .i64 (codS c (bitT t c (pOf M b bs)) (pOf M b bs)).l, .int .i64 (codS c (bitT t c (pOf M b bs)) (pOf M b bs)).h, .int .i64 (Coder.win t (codS c (bitT t c (pOf M b bs)) (pOf M b bs)).o.length), .string t, .int .i64 (((codS c (bitT t c (pOf M b bs)) (pOf M b bs)).o.length + 4 : Nat) : Int)], .int .i64 (bitT t c (pOf M b bs)), .int .i64 0]) ∧ Bel w w') := fun w => by
              have := Deco.decodeBit_ok c.l c.h (Coder.win t c.o.length) (pOf M b bs) t ((c.o.length + 4 : Nat) : Int) (by have := HT.out; unfold maxLen; omega) w
              rwa [dec_is IP.bet HT.out (by have := IP.out; rw [← J.out.1] at this; omega) pin IP.inn] at this
            have RN := IP.run
            rw [← J.out.1, fuel (nxtT t) n (by omega), hw, if_neg (by simp), if_neg (by rw [← J.out.1]; omega)] at RN
            have q4 := codS_ok IP.bet (bitT t c (pOf M b bs)) pin
            have NX : Hid (∀ W v, W.ownsRow wo.heap.size 3 1 v (n + 1) (vals (bs ++ [bitT t c (pOf M b bs)])) → Holds W Lm (lrn M b bs (bitT t c (pOf M b bs))) → DecAt t W Db (codS c (bitT t c (pOf M b bs)) (pOf M b bs)) → Exc (fun i => i = Lm ∨ i = Db) wo W → IWay Lm Db wo.heap.size k t R1 b wo W (lrn M b bs (bitT t c (pOf M b bs))) (codS c (bitT t c (pOf M b bs)) (pOf M b bs)) (bs ++ [bitT t c (pOf M b bs)]) v) := fun W v h1 h2 h3 h4 => by
              have ll : (bs ++ [bitT t c (pOf M b bs)]).length = n + 1 := by rw [List.length_append, ← J.out.1]; rfl
              refine ⟨?_, by rw [lrn_len]; exact IP.len, lrn_may IP.len BB.out.1 bs _ IP.may, Ctx.bits_snoc IP.b01 (bitT_01 t c _), nw_snoc IP.nw hw _, q4.1, in_next IP.bet pin IP.inn, ?_, h2, h3, by rw [ll]; exact h1, h4⟩
              · rw [ll, show 65 - (n + 1) = 64 - n by omega]; exact RN
              · rw [ll]; have := IP.out; rw [← J.out.1] at this; have := q4.2; omega
            have LL : Hid (∀ x : Int, n + 1 = (bs ++ [x]).length) := fun x => by rw [List.length_append, ← J.out.1]; rfl
            have ML : Hid (M.length = 195) := IP.len
            have ML' : Hid ((lrn M b bs (bitT t c (pOf M b bs))).length = 195) := (by rw [lrn_len]; exact IP.len : (lrn M b bs (bitT t c (pOf M b bs))).length = 195)
            have J1 : Hid (Holds wr Lm M ∧ DecAt t wr Db c ∧ wr.ownsRow wo.heap.size 3 1 (.slice ao n cap) n (vals bs) ∧ Exc (fun i => i = Lm ∨ i = Db) wo wr ∧ wo.heap.size ≤ wr.heap.size) := ⟨IP.mem, IP.st, by have := IP.row; rwa [← J.out.1] at this, IP.exc, IP.exc.size⟩
            have C3 := nw_cases IP.nw hw
            rw [← J.out.1] at C3
            clear IP RN q4 pin hw J
            obtain ⟨c', hc'⟩ : ∃ c', codS c (bitT t c (pOf M b bs)) (pOf M b bs) = c' := ⟨_, rfl⟩
            obtain ⟨M', hM'⟩ : ∃ M', lrn M b bs (bitT t c (pOf M b bs)) = M' := ⟨_, rfl⟩
            rw [hc'] at DQ NX
            rw [hM'] at LQ NX ML'
            clear hc' hM'
            generalize bitT t c (pOf M b bs) = x at *
            generalize pOf M b bs = p at *
            generalize x0 bs = A at *
            generalize x1 b bs = B at *
            generalize x2 bs = C at *
            generalize Gam.ones bs = oo at *
            obtain ⟨⟨d0, d1, d2, d3, d4⟩, -⟩ := J1.out.2.1
            obtain ⟨l', el'⟩ : ∃ l', c'.l = l' := ⟨_, rfl⟩
            obtain ⟨h', eh'⟩ : ∃ h', c'.h = h' := ⟨_, rfl⟩
            obtain ⟨n', en'⟩ : ∃ n', Coder.win t c'.o.length = n' := ⟨_, rfl⟩
            obtain ⟨q', eq'⟩ : ∃ q', ((c'.o.length + 4 : Nat) : Int) = q' := ⟨_, rfl⟩
            rw [el', eh', en', eq'] at DQ
            have CE : Hid (l' = c'.l ∧ h' = c'.h ∧ n' = Coder.win t c'.o.length ∧ q' = ((c'.o.length + 4 : Nat) : Int)) := ⟨el'.symm, eh'.symm, en'.symm, eq'.symm⟩
            clear el' eh' en' eq'
            have DD : Hid ((wr.cell? ⟨Db, 0, none⟩ = some (.int .i64 c.l) ∧ wr.cell? ⟨Db, 1, none⟩ = some (.int .i64 c.h)) ∧ wr.cell? ⟨Db, 2, none⟩ = some (.int .i64 (Coder.win t c.o.length)) ∧ wr.cell? ⟨Db, 3, none⟩ = some (.string t) ∧ wr.cell? ⟨Db, 4, none⟩ = some (.int .i64 ((c.o.length + 4 : Nat) : Int))) := ⟨⟨d0, d1⟩, d2, d3, d4⟩
            clear d0 d1 d2 d3 d4
            generalize c.l = l at *
            generalize c.h = h at *
            generalize Coder.win t c.o.length = nn at *
            generalize ((c.o.length + 4 : Nat) : Int) = qq at *
            rcases C3 with g0 | ⟨g0, g1⟩ | ⟨g0, g1, g2⟩
            · have hd1 : ((n : Int) == 0) = true := by rw [g0]; rfl
              clear g0
              go_wp2_with (first
                | (go_at_call 33; (with_reducible refine OQ.out.mono ?_); rintro e wq ⟨rfl, hwq⟩; replace hwq := hwq.symm; subst hwq))
              refine CX.out.mono ?_
              rintro e w3 ⟨rfl, b3⟩
              clear CX
              have S3 : Hid (wr.heap.size ≤ w3.heap.size ∧ Bel wr (w3.alloc (.cells #[.int .i64 (A : Int), .int .i64 (B : Int), .int .i64 (C : Int)] 44))) := ⟨b3.size, b3.alloc _⟩
              have H4 : Hid (Holds (w3.alloc (.cells #[.int .i64 (A : Int), .int .i64 (B : Int), .int .i64 (C : Int)] 44)) w3.heap.size [(A : Int), (B : Int), (C : Int)]) := holds_new w3 [(A : Int), (B : Int), (C : Int)] 44
              have HM4 : Hid (Holds (w3.alloc (.cells #[.int .i64 (A : Int), .int .i64 (B : Int), .int .i64 (C : Int)] 44)) Lm M) := J1.out.1.bel S3.out.2
              clear b3
              go_wp2_with (first | (with_reducible refine wpl_load26' HM4.out ML.out rfl ?_))
              refine (PQ.out _).mono ?_
              rintro e W5 ⟨rfl, b5⟩
              clear PQ HM4
              have S5 : Hid (Bel wr W5 ∧ wr.heap.size ≤ w3.heap.size ∧ Holds W5 w3.heap.size [(A : Int), (B : Int), (C : Int)]) := ⟨S3.out.2.trans b5, S3.out.1, H4.out.bel b5⟩
              clear b5 S3 H4
              generalize w3.heap.size = Kb at *
              have d0 := S5.out.1.keep DD.out.1.1
              have d1 := S5.out.1.keep DD.out.1.2
              have d2 := S5.out.1.keep DD.out.2.1
              have d3 := S5.out.1.keep DD.out.2.2.1
              have d4 := S5.out.1.keep DD.out.2.2.2
              go_wp2_with fail
              refine (DQ.out _).mono ?_
              rintro e w6 ⟨rfl, b6⟩
              clear DQ d0 d1 d2 d3 d4
              have S6 : Hid (Bel wr (w6.alloc (.cells #[.int .i64 l', .int .i64 h', .int .i64 n', .string t, .int .i64 q'] 76))) := (S5.out.1.trans b6).alloc _
              have K6 : Hid (Holds (w6.alloc (.cells #[.int .i64 l', .int .i64 h', .int .i64 n', .string t, .int .i64 q'] 76)) Kb [(A : Int), (B : Int), (C : Int)]) := (S5.out.2.2.bel b6).bel ((Bel.refl _).alloc _)
              have T6 : Hid ((w6.alloc (.cells #[.int .i64 l', .int .i64 h', .int .i64 n', .string t, .int .i64 q'] 76)).there Db 0 5) := there_bel J1.out.2.1.2 S6.out
              have LB : Hid (Lm < wr.heap.size ∧ Db < wr.heap.size ∧ wr.heap.size ≤ Kb) := ⟨by have := GL.out; have := J1.out.2.2.2.2; omega, by have := GL.out; have := J1.out.2.2.2.2; omega, S5.out.2.1⟩
              clear b6 S5
              go_wp2_with (first
                | ((with_reducible refine wpl_storeD (B := Db) c' T6.out CE.out.1 CE.out.2.1 CE.out.2.2.1 CE.out.2.2.2 rfl rfl ?_); intro W7 hW7 hX7; have K7 : Hid (DecAt t W7 Db c' ∧ Exc (fun i => i = Db) (w6.alloc (.cells #[.int .i64 l', .int .i64 h', .int .i64 n', .string t, .int .i64 q'] 76)) W7) := ⟨hW7, hX7⟩; have H7 : Hid (Holds W7 Lm M) := hX7.holds (J1.out.1.bel S6.out) (by have := GL.out; omega); have a0 : W7.cell? ⟨Kb, 0, none⟩ = some (.int .i64 (A : Int)) := (hX7.holds K6.out (by have := LB.out; omega)).cell 0 (by simp); have a1 : W7.cell? ⟨Kb, 1, none⟩ = some (.int .i64 (B : Int)) := (hX7.holds K6.out (by have := LB.out; omega)).cell 1 (by simp); have a2 : W7.cell? ⟨Kb, 2, none⟩ = some (.int .i64 (C : Int)) := (hX7.holds K6.out (by have := LB.out; omega)).cell 2 (by simp); clear hW7 hX7)
                | (with_reducible refine wpl_load26' H7.out ML.out rfl ?_))
              refine (LQ.out _).mono ?_
              rintro e w8 ⟨rfl, b8⟩
              clear LQ a0 a1 a2 K6 T6
              have b78 : Bel W7 (w8.alloc (.cells (vals M').toArray 46)) := b8.alloc _
              have R8 : Hid (Holds (w8.alloc (.cells (vals M').toArray 46)) w8.heap.size M') := holds_new w8 M' 46
              have L8 : Hid (Holds (w8.alloc (.cells (vals M').toArray 46)) Lm M) := H7.out.bel b78
              have X8 : Hid (Exc (fun i => i = Db) wr (w8.alloc (.cells (vals M').toArray 46)) ∧ DecAt t (w8.alloc (.cells (vals M').toArray 46)) Db c') := ⟨((Exc.of_bel (S := fun i => i = Db) S6.out).trans K7.out.2 (fun _ _ h => h)).bel b78, K7.out.1.bel b78⟩
              clear b8 b78 K7 H7 S6
              go_wp2_with (first
                | (with_reducible refine wpl_store26n ZL.out ML'.out rfl rfl ?_)
                | (with_reducible refine wpl_load26' R8.out ML'.out rfl ?_)
                | ((with_reducible refine wpl_store26x (B := Lm) (L := M) L8.out ML.out ML'.out rfl rfl ?_); intro W9 hW9 hX9; have K9 : Hid (Holds W9 Lm M' ∧ DecAt t W9 Db c' ∧ W9.ownsRow wo.heap.size 3 1 (.slice ao n cap) n (vals bs) ∧ Exc (fun i => i = Lm ∨ i = Db) wr W9 ∧ wo.heap.size ≤ W9.heap.size) := (by have gl := GL.out; have x89 : Exc (fun i => i = Lm ∨ i = Db) wr W9 := (X8.out.1.mono (fun _ _ h => .inr h)).trans hX9 (fun _ _ h => .inl h); exact ⟨hW9, X8.out.2.exc hX9 (by omega), x89.owns J1.out.2.2.1 (fun i hi => by omega), x89, Nat.le_trans J1.out.2.2.2.2 x89.size⟩); clear hW9 hX9)
                | (at_builtin; refine wpl_grow W9 rfl (.tmp 97) (.tmp 99) rfl wo.heap.size n K9.out.2.2.2.2 (.slice ao n cap) bs x rfl rfl K9.out.2.2.1 (by omega) ?_))
              intro v' w10 ho10 x10
              obtain ⟨ao2, cap2, rfl, q1, q2, -, q4⟩ := owns_slc ho10
              have ob : ∀ i, (Value.slice ao n cap).ownBlock = some i → wo.heap.size ≤ i := fun i hi => (K9.out.2.2.1.lt i hi).1
              have J2 : Hid (n + 1 = (bs ++ [x]).length ∧ n + 1 ≤ cap2 ∧ cap2 ≤ maxLen ∧ Slc w10 ao2 (bs ++ [x]) ∧ IWay Lm Db wo.heap.size k t R1 b wo w10 M' c' (bs ++ [x]) (.slice ao2 (n + 1) cap2)) :=
                ⟨LL.out x, q1, q2, q4, NX.out w10 _ ho10 (x10.holds K9.out.1 (fun h => by have := ob _ h; have := GL.out; omega)) (K9.out.2.1.exc x10 (fun h => by have := ob _ h; have := GL.out; omega)) ((J1.out.2.2.2.1.trans K9.out.2.2.2.1 (fun _ _ h => h)).trans x10 (fun i hi h => by have := ob _ h; omega))⟩
              clear ho10 x10 q1 q2 q4 ob K9 J1 NX LL X8 R8 L8
              go_wp2
              go_roundw
              case rel => exact ⟨n + 1, bs ++ [x], M', c', ao2, cap2, rfl, by omega, J2⟩
              case measure => simp [lenOf]; omega
            · have hd1 : ((n : Int) == 0) = false := by rw [beq_eq_false_iff_ne]; omega
              have hdo : ((oo : Int) == (n : Int)) = true := by rw [g1]; exact beq_self_eq_true _
              clear g0 g1
              go_wp2_with (first
                | (go_at_call 33; (with_reducible refine OQ.out.mono ?_); rintro e wq ⟨rfl, hwq⟩; replace hwq := hwq.symm; subst hwq))
              refine CX.out.mono ?_
              rintro e w3 ⟨rfl, b3⟩
              clear CX
              have S3 : Hid (wr.heap.size ≤ w3.heap.size ∧ Bel wr (w3.alloc (.cells #[.int .i64 (A : Int), .int .i64 (B : Int), .int .i64 (C : Int)] 44))) := ⟨b3.size, b3.alloc _⟩
              have H4 : Hid (Holds (w3.alloc (.cells #[.int .i64 (A : Int), .int .i64 (B : Int), .int .i64 (C : Int)] 44)) w3.heap.size [(A : Int), (B : Int), (C : Int)]) := holds_new w3 [(A : Int), (B : Int), (C : Int)] 44
              have HM4 : Hid (Holds (w3.alloc (.cells #[.int .i64 (A : Int), .int .i64 (B : Int), .int .i64 (C : Int)] 44)) Lm M) := J1.out.1.bel S3.out.2
              clear b3
              go_wp2_with (first | (with_reducible refine wpl_load26' HM4.out ML.out rfl ?_))
              refine (PQ.out _).mono ?_
              rintro e W5 ⟨rfl, b5⟩
              clear PQ HM4
              have S5 : Hid (Bel wr W5 ∧ wr.heap.size ≤ w3.heap.size ∧ Holds W5 w3.heap.size [(A : Int), (B : Int), (C : Int)]) := ⟨S3.out.2.trans b5, S3.out.1, H4.out.bel b5⟩
              clear b5 S3 H4
              generalize w3.heap.size = Kb at *
              have d0 := S5.out.1.keep DD.out.1.1
              have d1 := S5.out.1.keep DD.out.1.2
              have d2 := S5.out.1.keep DD.out.2.1
              have d3 := S5.out.1.keep DD.out.2.2.1
              have d4 := S5.out.1.keep DD.out.2.2.2
              go_wp2_with fail
              refine (DQ.out _).mono ?_
              rintro e w6 ⟨rfl, b6⟩
              clear DQ d0 d1 d2 d3 d4
              have S6 : Hid (Bel wr (w6.alloc (.cells #[.int .i64 l', .int .i64 h', .int .i64 n', .string t, .int .i64 q'] 76))) := (S5.out.1.trans b6).alloc _
              have K6 : Hid (Holds (w6.alloc (.cells #[.int .i64 l', .int .i64 h', .int .i64 n', .string t, .int .i64 q'] 76)) Kb [(A : Int), (B : Int), (C : Int)]) := (S5.out.2.2.bel b6).bel ((Bel.refl _).alloc _)
              have T6 : Hid ((w6.alloc (.cells #[.int .i64 l', .int .i64 h', .int .i64 n', .string t, .int .i64 q'] 76)).there Db 0 5) := there_bel J1.out.2.1.2 S6.out
              have LB : Hid (Lm < wr.heap.size ∧ Db < wr.heap.size ∧ wr.heap.size ≤ Kb) := ⟨by have := GL.out; have := J1.out.2.2.2.2; omega, by have := GL.out; have := J1.out.2.2.2.2; omega, S5.out.2.1⟩
              clear b6 S5
              go_wp2_with (first
                | ((with_reducible refine wpl_storeD (B := Db) c' T6.out CE.out.1 CE.out.2.1 CE.out.2.2.1 CE.out.2.2.2 rfl rfl ?_); intro W7 hW7 hX7; have K7 : Hid (DecAt t W7 Db c' ∧ Exc (fun i => i = Db) (w6.alloc (.cells #[.int .i64 l', .int .i64 h', .int .i64 n', .string t, .int .i64 q'] 76)) W7) := ⟨hW7, hX7⟩; have H7 : Hid (Holds W7 Lm M) := hX7.holds (J1.out.1.bel S6.out) (by have := GL.out; omega); have a0 : W7.cell? ⟨Kb, 0, none⟩ = some (.int .i64 (A : Int)) := (hX7.holds K6.out (by have := LB.out; omega)).cell 0 (by simp); have a1 : W7.cell? ⟨Kb, 1, none⟩ = some (.int .i64 (B : Int)) := (hX7.holds K6.out (by have := LB.out; omega)).cell 1 (by simp); have a2 : W7.cell? ⟨Kb, 2, none⟩ = some (.int .i64 (C : Int)) := (hX7.holds K6.out (by have := LB.out; omega)).cell 2 (by simp); clear hW7 hX7)
                | (with_reducible refine wpl_load26' H7.out ML.out rfl ?_))
              refine (LQ.out _).mono ?_
              rintro e w8 ⟨rfl, b8⟩
              clear LQ a0 a1 a2 K6 T6
              have b78 : Bel W7 (w8.alloc (.cells (vals M').toArray 46)) := b8.alloc _
              have R8 : Hid (Holds (w8.alloc (.cells (vals M').toArray 46)) w8.heap.size M') := holds_new w8 M' 46
              have L8 : Hid (Holds (w8.alloc (.cells (vals M').toArray 46)) Lm M) := H7.out.bel b78
              have X8 : Hid (Exc (fun i => i = Db) wr (w8.alloc (.cells (vals M').toArray 46)) ∧ DecAt t (w8.alloc (.cells (vals M').toArray 46)) Db c') := ⟨((Exc.of_bel (S := fun i => i = Db) S6.out).trans K7.out.2 (fun _ _ h => h)).bel b78, K7.out.1.bel b78⟩
              clear b8 b78 K7 H7 S6
              go_wp2_with (first
                | (with_reducible refine wpl_store26n ZL.out ML'.out rfl rfl ?_)
                | (with_reducible refine wpl_load26' R8.out ML'.out rfl ?_)
                | ((with_reducible refine wpl_store26x (B := Lm) (L := M) L8.out ML.out ML'.out rfl rfl ?_); intro W9 hW9 hX9; have K9 : Hid (Holds W9 Lm M' ∧ DecAt t W9 Db c' ∧ W9.ownsRow wo.heap.size 3 1 (.slice ao n cap) n (vals bs) ∧ Exc (fun i => i = Lm ∨ i = Db) wr W9 ∧ wo.heap.size ≤ W9.heap.size) := (by have gl := GL.out; have x89 : Exc (fun i => i = Lm ∨ i = Db) wr W9 := (X8.out.1.mono (fun _ _ h => .inr h)).trans hX9 (fun _ _ h => .inl h); exact ⟨hW9, X8.out.2.exc hX9 (by omega), x89.owns J1.out.2.2.1 (fun i hi => by omega), x89, Nat.le_trans J1.out.2.2.2.2 x89.size⟩); clear hW9 hX9)
                | (at_builtin; refine wpl_grow W9 rfl (.tmp 97) (.tmp 99) rfl wo.heap.size n K9.out.2.2.2.2 (.slice ao n cap) bs x rfl rfl K9.out.2.2.1 (by omega) ?_))
              intro v' w10 ho10 x10
              obtain ⟨ao2, cap2, rfl, q1, q2, -, q4⟩ := owns_slc ho10
              have ob : ∀ i, (Value.slice ao n cap).ownBlock = some i → wo.heap.size ≤ i := fun i hi => (K9.out.2.2.1.lt i hi).1
              have J2 : Hid (n + 1 = (bs ++ [x]).length ∧ n + 1 ≤ cap2 ∧ cap2 ≤ maxLen ∧ Slc w10 ao2 (bs ++ [x]) ∧ IWay Lm Db wo.heap.size k t R1 b wo w10 M' c' (bs ++ [x]) (.slice ao2 (n + 1) cap2)) :=
                ⟨LL.out x, q1, q2, q4, NX.out w10 _ ho10 (x10.holds K9.out.1 (fun h => by have := ob _ h; have := GL.out; omega)) (K9.out.2.1.exc x10 (fun h => by have := ob _ h; have := GL.out; omega)) ((J1.out.2.2.2.1.trans K9.out.2.2.2.1 (fun _ _ h => h)).trans x10 (fun i hi h => by have := ob _ h; omega))⟩
              clear ho10 x10 q1 q2 q4 ob K9 J1 NX LL X8 R8 L8
              go_wp2
              go_roundw
              case rel => exact ⟨n + 1, bs ++ [x], M', c', ao2, cap2, rfl, by omega, J2⟩
              case measure => simp [lenOf]; omega
            · have hd1 : ((n : Int) == 0) = false := by rw [beq_eq_false_iff_ne]; omega
              have hdo : ((oo : Int) == (n : Int)) = false := by rw [beq_eq_false_iff_ne]; omega
              have hdl : decide ((n : Int) < 2 * (oo : Int) + 1) = true := decide_eq_true (by omega)
              clear g0 g1 g2
              go_wp2_with (first
                | (go_at_call 33; (with_reducible refine OQ.out.mono ?_); rintro e wq ⟨rfl, hwq⟩; replace hwq := hwq.symm; subst hwq))
              refine CX.out.mono ?_
              rintro e w3 ⟨rfl, b3⟩
              clear CX
              have S3 : Hid (wr.heap.size ≤ w3.heap.size ∧ Bel wr (w3.alloc (.cells #[.int .i64 (A : Int), .int .i64 (B : Int), .int .i64 (C : Int)] 44))) := ⟨b3.size, b3.alloc _⟩
              have H4 : Hid (Holds (w3.alloc (.cells #[.int .i64 (A : Int), .int .i64 (B : Int), .int .i64 (C : Int)] 44)) w3.heap.size [(A : Int), (B : Int), (C : Int)]) := holds_new w3 [(A : Int), (B : Int), (C : Int)] 44
              have HM4 : Hid (Holds (w3.alloc (.cells #[.int .i64 (A : Int), .int .i64 (B : Int), .int .i64 (C : Int)] 44)) Lm M) := J1.out.1.bel S3.out.2
              clear b3
              go_wp2_with (first | (with_reducible refine wpl_load26' HM4.out ML.out rfl ?_))
              refine (PQ.out _).mono ?_
              rintro e W5 ⟨rfl, b5⟩
              clear PQ HM4
              have S5 : Hid (Bel wr W5 ∧ wr.heap.size ≤ w3.heap.size ∧ Holds W5 w3.heap.size [(A : Int), (B : Int), (C : Int)]) := ⟨S3.out.2.trans b5, S3.out.1, H4.out.bel b5⟩
              clear b5 S3 H4
              generalize w3.heap.size = Kb at *
              have d0 := S5.out.1.keep DD.out.1.1
              have d1 := S5.out.1.keep DD.out.1.2
              have d2 := S5.out.1.keep DD.out.2.1
              have d3 := S5.out.1.keep DD.out.2.2.1
              have d4 := S5.out.1.keep DD.out.2.2.2
              go_wp2_with fail
              refine (DQ.out _).mono ?_
              rintro e w6 ⟨rfl, b6⟩
              clear DQ d0 d1 d2 d3 d4
              have S6 : Hid (Bel wr (w6.alloc (.cells #[.int .i64 l', .int .i64 h', .int .i64 n', .string t, .int .i64 q'] 76))) := (S5.out.1.trans b6).alloc _
              have K6 : Hid (Holds (w6.alloc (.cells #[.int .i64 l', .int .i64 h', .int .i64 n', .string t, .int .i64 q'] 76)) Kb [(A : Int), (B : Int), (C : Int)]) := (S5.out.2.2.bel b6).bel ((Bel.refl _).alloc _)
              have T6 : Hid ((w6.alloc (.cells #[.int .i64 l', .int .i64 h', .int .i64 n', .string t, .int .i64 q'] 76)).there Db 0 5) := there_bel J1.out.2.1.2 S6.out
              have LB : Hid (Lm < wr.heap.size ∧ Db < wr.heap.size ∧ wr.heap.size ≤ Kb) := ⟨by have := GL.out; have := J1.out.2.2.2.2; omega, by have := GL.out; have := J1.out.2.2.2.2; omega, S5.out.2.1⟩
              clear b6 S5
              go_wp2_with (first
                | ((with_reducible refine wpl_storeD (B := Db) c' T6.out CE.out.1 CE.out.2.1 CE.out.2.2.1 CE.out.2.2.2 rfl rfl ?_); intro W7 hW7 hX7; have K7 : Hid (DecAt t W7 Db c' ∧ Exc (fun i => i = Db) (w6.alloc (.cells #[.int .i64 l', .int .i64 h', .int .i64 n', .string t, .int .i64 q'] 76)) W7) := ⟨hW7, hX7⟩; have H7 : Hid (Holds W7 Lm M) := hX7.holds (J1.out.1.bel S6.out) (by have := GL.out; omega); have a0 : W7.cell? ⟨Kb, 0, none⟩ = some (.int .i64 (A : Int)) := (hX7.holds K6.out (by have := LB.out; omega)).cell 0 (by simp); have a1 : W7.cell? ⟨Kb, 1, none⟩ = some (.int .i64 (B : Int)) := (hX7.holds K6.out (by have := LB.out; omega)).cell 1 (by simp); have a2 : W7.cell? ⟨Kb, 2, none⟩ = some (.int .i64 (C : Int)) := (hX7.holds K6.out (by have := LB.out; omega)).cell 2 (by simp); clear hW7 hX7)
                | (with_reducible refine wpl_load26' H7.out ML.out rfl ?_))
              refine (LQ.out _).mono ?_
              rintro e w8 ⟨rfl, b8⟩
              clear LQ a0 a1 a2 K6 T6
              have b78 : Bel W7 (w8.alloc (.cells (vals M').toArray 46)) := b8.alloc _
              have R8 : Hid (Holds (w8.alloc (.cells (vals M').toArray 46)) w8.heap.size M') := holds_new w8 M' 46
              have L8 : Hid (Holds (w8.alloc (.cells (vals M').toArray 46)) Lm M) := H7.out.bel b78
              have X8 : Hid (Exc (fun i => i = Db) wr (w8.alloc (.cells (vals M').toArray 46)) ∧ DecAt t (w8.alloc (.cells (vals M').toArray 46)) Db c') := ⟨((Exc.of_bel (S := fun i => i = Db) S6.out).trans K7.out.2 (fun _ _ h => h)).bel b78, K7.out.1.bel b78⟩
              clear b8 b78 K7 H7 S6
              go_wp2_with (first
                | (with_reducible refine wpl_store26n ZL.out ML'.out rfl rfl ?_)
                | (with_reducible refine wpl_load26' R8.out ML'.out rfl ?_)
                | ((with_reducible refine wpl_store26x (B := Lm) (L := M) L8.out ML.out ML'.out rfl rfl ?_); intro W9 hW9 hX9; have K9 : Hid (Holds W9 Lm M' ∧ DecAt t W9 Db c' ∧ W9.ownsRow wo.heap.size 3 1 (.slice ao n cap) n (vals bs) ∧ Exc (fun i => i = Lm ∨ i = Db) wr W9 ∧ wo.heap.size ≤ W9.heap.size) := (by have gl := GL.out; have x89 : Exc (fun i => i = Lm ∨ i = Db) wr W9 := (X8.out.1.mono (fun _ _ h => .inr h)).trans hX9 (fun _ _ h => .inl h); exact ⟨hW9, X8.out.2.exc hX9 (by omega), x89.owns J1.out.2.2.1 (fun i hi => by omega), x89, Nat.le_trans J1.out.2.2.2.2 x89.size⟩); clear hW9 hX9)
                | (at_builtin; refine wpl_grow W9 rfl (.tmp 97) (.tmp 99) rfl wo.heap.size n K9.out.2.2.2.2 (.slice ao n cap) bs x rfl rfl K9.out.2.2.1 (by omega) ?_))
              intro v' w10 ho10 x10
              obtain ⟨ao2, cap2, rfl, q1, q2, -, q4⟩ := owns_slc ho10
              have ob : ∀ i, (Value.slice ao n cap).ownBlock = some i → wo.heap.size ≤ i := fun i hi => (K9.out.2.2.1.lt i hi).1
              have J2 : Hid (n + 1 = (bs ++ [x]).length ∧ n + 1 ≤ cap2 ∧ cap2 ≤ maxLen ∧ Slc w10 ao2 (bs ++ [x]) ∧ IWay Lm Db wo.heap.size k t R1 b wo w10 M' c' (bs ++ [x]) (.slice ao2 (n + 1) cap2)) :=
                ⟨LL.out x, q1, q2, q4, NX.out w10 _ ho10 (x10.holds K9.out.1 (fun h => by have := ob _ h; have := GL.out; omega)) (K9.out.2.1.exc x10 (fun h => by have := ob _ h; have := GL.out; omega)) ((J1.out.2.2.2.1.trans K9.out.2.2.2.1 (fun _ _ h => h)).trans x10 (fun i hi h => by have := ob _ h; omega))⟩
              clear ho10 x10 q1 q2 q4 ob K9 J1 NX LL X8 R8 L8
              go_wp2
              go_roundw
              case rel => exact ⟨n + 1, bs ++ [x], M', c', ao2, cap2, rfl, by omega, J2⟩
              case measure => simp [lenOf]; omega
          · have hd51 : decide ((51 : Int) < (n : Int)) = true := decide_eq_true (by omega)
            have NO : Hid (getP t (m : Int) = none ∧ Bel w wr) := by
              have IP := J.out.2.2.2.2
              have h1 := HR1.out
              rw [← HB.out] at h1
              have tl := takes_long (k := m - k - 1) h1 IP.run (by rw [← J.out.1]; omega)
              have an := K.out.ans
              rw [show m - k = (m - k - 1) + 1 by omega, tl] at an
              exact ⟨getP_none (HR.out.trans an.symm), Exc.from IP.exc K.out.bel (fun i hi => by have := GL.out; omega)⟩
            have C3 := nw_cases J.out.2.2.2.2.nw hw
            rw [← J.out.1] at C3
            generalize Gam.ones bs = oo at *
            clear J K hw
            rcases C3 with g0 | ⟨g0, g1⟩ | ⟨g0, g1, g2⟩
            · have hd1 : ((n : Int) == 0) = true := by rw [g0]; rfl
              clear g0
              go_wp2_with (first
                | (go_at_call 33; (with_reducible refine OQ.out.mono ?_); rintro e wq ⟨rfl, hwq⟩; replace hwq := hwq.symm; subst hwq))
              go_ret2
              refine ⟨?_, NO.out.2⟩
              rw [NO.out.1]
              rfl
            · have hd1 : ((n : Int) == 0) = false := by rw [beq_eq_false_iff_ne]; omega
              have hdo : ((oo : Int) == (n : Int)) = true := by rw [g1]; exact beq_self_eq_true _
              clear g0 g1
              go_wp2_with (first
                | (go_at_call 33; (with_reducible refine OQ.out.mono ?_); rintro e wq ⟨rfl, hwq⟩; replace hwq := hwq.symm; subst hwq))
              go_ret2
              refine ⟨?_, NO.out.2⟩
              rw [NO.out.1]
              rfl
            · have hd1 : ((n : Int) == 0) = false := by rw [beq_eq_false_iff_ne]; omega
              have hdo : ((oo : Int) == (n : Int)) = false := by rw [beq_eq_false_iff_ne]; omega
              have hdl : decide ((n : Int) < 2 * (oo : Int) + 1) = true := decide_eq_true (by omega)
              clear g0 g1 g2
              go_wp2_with (first
                | (go_at_call 33; (with_reducible refine OQ.out.mono ?_); rintro e wq ⟨rfl, hwq⟩; replace hwq := hwq.symm; subst hwq))
              go_ret2
              refine ⟨?_, NO.out.2⟩
              rw [NO.out.1]
              rfl
        · obtain ⟨w1', w2'⟩ := whole_is hw
          rw [← J.out.1] at w1' w2'
          have IP := J.out.2.2.2.2
          have RN := IP.run
          rw [← J.out.1, fuel (nxtT t) n (by omega), hw, if_pos rfl] at RN
          have AN := K.out.ans
          have h1 := HR1.out
          rw [← RN, ← HB.out] at h1
          rw [show m - k = (m - k - 1) + 1 by omega, takes, h1] at AN
          simp only at AN
          have BI : Hid (Bel w wr) := Exc.from IP.exc K.out.bel (fun i hi => by have := GL.out; omega)
          have NB : Hid (Calls Tryz.prog 39 #[.slice ao n cap] wr fun e w' => e = .returned (.tuple #[.int .i64 (Gam.numP bs).1, .int .i64 (Gam.numP bs).2]) ∧ w' = wr) := Gam.rnumber_ok ao bs n cap J.out.1 (by omega) wr J.out.2.2.2.1
          have hd1 : ((n : Int) == 0) = false := by rw [beq_eq_false_iff_ne]; omega
          have hdo : ((Gam.ones bs : Int) == (n : Int)) = false := by rw [beq_eq_false_iff_ne]; omega
          have hdl : decide ((n : Int) < 2 * (Gam.ones bs : Int) + 1) = false := decide_eq_false (by omega)
          by_cases he : (Gam.numP bs).2 = 0
          · rw [if_pos he] at AN
            obtain ⟨v0, v1, v51⟩ := numP_fine he
            have FG : Hid (∀ w, Calls Tryz.prog 40 #[.int .i64 (Gam.numP bs).1] w fun e w' => e = .returned (.tuple #[.int .i64 (unfolded (Gam.numP bs).1), .int .i64 0]) ∧ w' = w) := rget13_ok _ v0 v1
            rw [he] at NB
            have RO : Hid (wr.ownsRow (Lm + 1) 3 1 v10 k (vals done) ∧ Lm + 1 ≤ wr.heap.size ∧ k ≤ 1000) := ⟨IP.exc.owns K.out.row (fun i hi => by have := GL.out; omega), by have := IP.exc.size; have := GL.out; omega, by omega⟩
            have OB : Hid (∀ i, v10.ownBlock = some i → Lm + 1 ≤ i ∧ i < wo.heap.size) := fun i hi => K.out.row.lt i hi
            have O2 : Hid (∀ w5, Exc (fun i => v10.ownBlock = some i) wr w5 → Calls Tryz.prog 33 #[.slice ao n cap] w5 fun e w' => e = .returned (.int .i64 ((Gam.ones bs : Nat) : Int)) ∧ w' = w5) := fun w5 x5 => by
              have rb := row_block IP.row
              exact Ctx.ones_ok ao bs n cap J.out.1 (by unfold maxLen; omega) w5 (x5.slc J.out.2.2.2.1 (fun y hy h => by have := rb y hy; have := (OB.out _ h).2; omega))
            have K5 : Hid (∀ v' w5, w5.ownsRow (Lm + 1) 3 1 v' (k + 1) (vals (done ++ [unfolded (Gam.numP bs).1])) → Exc (fun i => v10.ownBlock = some i) wr w5 → GInv Lm Db (Lm + 1) t m R (k + 1) w w5 (M, c, ((Gam.ones bs : Nat) : Int)) (done ++ [unfolded (Gam.numP bs).1]) v') := fun v' w5 ho x5 => by
              have gl := GL.out
              have e2 : ((bs.length / 2 : Nat) : Int) = ((Gam.ones bs : Nat) : Int) := by rw [← J.out.1]; omega
              rw [e2] at AN
              refine ⟨by rw [List.length_append, K.out.len]; rfl, ?_, ⟨IP.len, IP.may, IP.bet, ?_, ?_, ?_⟩, IP.inn, x5.holds IP.mem (fun h => by have := (OB.out _ h).1; omega), IP.st.exc x5 (fun h => by have := (OB.out _ h).1; omega), ho, Exc.from x5 BI.out (fun i h => by have := (OB.out _ h).1; omega), Nat.le_trans RO.out.2.1 x5.size⟩
              · rw [← AN, show m - (k + 1) = m - k - 1 by omega, Option.map_map]
                congr 1
                funext l
                simp
              · show c.o.length ≤ _
                have := IP.out
                omega
              · show (0 : Int) ≤ ((Gam.ones bs : Nat) : Int)
                omega
              · show ((Gam.ones bs : Nat) : Int) ≤ 63
                omega
            clear IP RN AN h1 K J hw he v0 v1 v51 w1' w2' HR1
            generalize unfolded (Gam.numP bs).1 = y at *
            generalize (Gam.numP bs).1 = v at *
            generalize Gam.ones bs = oo at *
            go_wp2_with (first
              | (go_at_call 33; (with_reducible refine OQ.out.mono ?_); rintro e wq ⟨rfl, hwq⟩; replace hwq := hwq.symm; subst hwq)
              | (go_at_call 39; (with_reducible refine NB.out.mono ?_); rintro e wq ⟨rfl, hwq⟩; replace hwq := hwq.symm; subst hwq)
              | (go_at_call 40; (with_reducible refine (FG.out _).mono ?_); rintro e wq ⟨rfl, hwq⟩; replace hwq := hwq.symm; subst hwq)
              | (at_builtin; refine wpl_grow wr rfl (.tmp 117) (.tmp 119) rfl (Lm + 1) k RO.out.2.1 v10 done y rfl rfl RO.out.1 RO.out.2.2 ?_))
            intro v' w5 ho5 x5
            have K6 : Hid (GInv Lm Db (Lm + 1) t m R (k + 1) w w5 (M, c, (oo : Int)) (done ++ [y]) v') := K5.out v' w5 ho5 x5
            have O3 : Hid (Calls Tryz.prog 33 #[.slice ao n cap] w5 fun e w' => e = .returned (.int .i64 (oo : Int)) ∧ w' = w5) := O2.out w5 x5
            clear ho5 x5 K5 O2 OQ
            go_wp2_with fail
            refine O3.out.mono ?_
            rintro e w6 ⟨rfl, rfl⟩
            clear O3
            go_wp2
            go_roundw
            case rel => exact ⟨k + 1, _, _, _, by omega, by go_num, rfl, rfl, K6⟩
            case measure => simp [intOf]; omega
          · rw [if_neg he] at AN
            have NO : Hid (getP t (m : Int) = none) := getP_none (HR.out.trans AN.symm)
            have FG : Hid (∀ w, Calls Tryz.prog 40 #[.int .i64 0] w fun e w' => e = .returned (.tuple #[.int .i64 (unfolded 0), .int .i64 0]) ∧ w' = w) := rget13_ok 0 (by decide) (by decide)
            rw [numP_err he] at NB
            clear IP RN AN h1 K J hw he w1' w2' HR1
            generalize unfolded 0 = y at *
            generalize Gam.ones bs = oo at *
            go_wp2_with (first
              | (go_at_call 33; (with_reducible refine OQ.out.mono ?_); rintro e wq ⟨rfl, hwq⟩; replace hwq := hwq.symm; subst hwq)
              | (go_at_call 39; (with_reducible refine NB.out.mono ?_); rintro e wq ⟨rfl, hwq⟩; replace hwq := hwq.symm; subst hwq)
              | (go_at_call 40; (with_reducible refine (FG.out _).mono ?_); rintro e wq ⟨rfl, hwq⟩; replace hwq := hwq.symm; subst hwq))
            go_ret2
            refine ⟨?_, BI.out⟩
            rw [NO.out]
            rfl
    · obtain rfl : k = m := by omega
      have hd2 : decide ((k : Int) < (k : Int)) = false := decide_eq_false (by omega)
      have AN := K.out.ans
      rw [Nat.sub_self, takes] at AN
      have hR : takes t k s0 = some done := by rw [HR.out, ← AN]; simp
      obtain ⟨dl, df⟩ := takes_fits t k s0 done hR
      have eo : okB done = true := (okB_iff done).2 ⟨by omega, df⟩
      obtain ⟨ao, cap, rfl, q1, q2, -, q4⟩ := owns_slc K.out.row
      have RP : Hid (Calls Tryz.prog 7 #[.slice ao k cap] wr fun e w' => e = .returned (.tuple #[.string (told done), .int .i64 0]) ∧ Bel wr w') := by
        have := rput_is ao done k cap dl.symm (by unfold maxLen; omega) wr q4
        rwa [show putS done = told done by unfold putS; rw [eo]; rfl, show putE done = 0 by unfold putE; rw [eo]; rfl] at this
      have BW : Hid (Bel w wr ∧ Slc wr ao done ∧ done.length = k) := ⟨K.out.bel, q4, dl⟩
      by_cases he : told done = t
      · have GP : Hid (getP t (k : Int) = some done) := getP_yes hm HT.out hR he
        rw [he] at RP
        clear AN hR dl df eo K q1 q2 q4 he
        go_wp2_with fail
        refine RP.out.mono ?_
        rintro e w5 ⟨rfl, b5⟩
        have B5 : Hid (Bel wr w5) := b5
        clear RP b5
        go_wp2
        go_ret2
        refine ⟨?_, BW.out.1.trans B5.out⟩
        rw [GP.out]
        refine ⟨ao, cap, ?_, BW.out.2.1.bel B5.out⟩
        rw [BW.out.2.2]
        rfl
      · have GP : Hid (getP t (k : Int) = none) := getP_not hR he
        have hne : ((told done).toList == t.toList) = false := str_ne he
        generalize told done = s1 at *
        clear AN hR dl df eo K q1 q2 q4 he
        go_wp2_with fail
        refine RP.out.mono ?_
        rintro e w5 ⟨rfl, b5⟩
        have B5 : Hid (Bel wr w5) := b5
        clear RP b5
        go_wp2
        go_ret2
        refine ⟨?_, BW.out.1.trans B5.out⟩
        rw [GP.out]
        rfl

theorem rget_ok (t : ByteArray) (hs : t.size ≤ maxLen) (many : Int) (w : World) :
    Calls Tryz.prog 9 #[.string t, .int .i64 many] w fun e w' => RGot w' e (getP t many) ∧ Bel w w' := by
  by_cases h : 0 ≤ many ∧ many ≤ 256 ∧ t.size ≤ 65536
  · obtain ⟨m, rfl⟩ := Int.eq_ofNat_of_zero_le h.1
    exact rget_fine t m (by omega) h.2.2 w
  · rw [getP_bad h]
    exact rget_bad t hs many h w

end Go.Proofs.YtocnlefpbcnlmaaGreatDoor.Res
