/-
  The contract of number, over the step take. Conditions: the package's table is laid as its text lays it; what the step does.
  The contract of number, over the step put. Conditions: the package's table is laid as its text lays it; what the step does.
-/
import Derived.Test.YtocnlefpbcnlmaaDoorPk13

namespace Go.Proofs.YtocnlefpbcnlmaaDoor.Res
open Go.RowKit Go.Sort Go.Proofs.YtocnlefpbcnlmaaDoor.Mod Go.Proofs.YtocnlefpbcnlmaaDoor.Ints
set_option linter.unusedVariables false
set_option linter.unusedSimpArgs false

set_option maxRecDepth 20000 in
set_option maxHeartbeats 4000000 in
theorem number_take {σ : Type} (N Lb P : Nat) (St : World → σ → Prop) (Inv : σ → List Int → Prop) (nxt : σ → Int → Int × σ)
    (hSt : ∀ w w' s, St w s → (∀ k, k < N → k ≠ Lb → w'.heap[k]? = w.heap[k]?) → St w' s)
    (hcall : ∀ w s bs p, whole bs = false → bs.length ≤ 63 → 1 ≤ p ∧ p ≤ 4095 → Inv s bs → St w s → Calls Tryd.prog 37 #[.pointer (some ⟨P, 0, none⟩), .int .i64 p] w fun e w' => e = .returned (.tuple #[.int .i64 (nxt s p).1, .int .i64 0]) ∧ St w' (nxt s p).2 ∧ Exc (fun k => k = P) w w')
    (hinv : ∀ s bs p, whole bs = false → bs.length ≤ 63 → 1 ≤ p ∧ p ≤ 4095 → Inv s bs → Inv (nxt s p).2 (bs ++ [(nxt s p).1]) ∧ ((nxt s p).1 = 0 ∨ (nxt s p).1 = 1))
    (L : List Int) (hL : L.length = 195) (hm : mayM L = true) (b : Int) (b0 : 0 ≤ b) (b63 : b ≤ 63) (s : σ) (hi : Inv s []) (R : Option (List Int × σ × List Int)) (hR : run nxt 65 L b s [] = R)
    (w : World) (hN : N = w.heap.size) (hLb : Lb < N) (hP : P < N) (hLP : Lb ≠ P) (h0 : 0 < Lb) (h1 : 0 < P) (T : Str.Tab w) (H : Holds w Lb (L ++ [b])) (hS : St w s) :
    Calls Tryd.prog 20 #[.pointer (some ⟨Lb, 0, none⟩), .func (.func 37) #[.pointer (some ⟨P, 0, none⟩)] #[]] w fun e w' =>
      Ends N Lb P St Inv w' e R ∧ Exc (fun k => k = Lb ∨ k = P) w w' := by
  obtain ⟨i0, hz, hz0, hz1, hz2⟩ := info_parts Ints.info_int
  have TT : Hid (Str.Tab w) := T
  have W0 : Hid (Way N Lb P St Inv nxt R b w w L s [] (.slice none 0 0)) := ⟨hR, hL, hm, Ctx.bits_nil, hi, H, hS, ⟨rfl, .inl ⟨rfl, rfl⟩⟩, Exc.refl _ _⟩
  have AT : Hid (N = w.heap.size ∧ Lb < N ∧ P < N ∧ Lb ≠ P ∧ 0 < Lb ∧ 0 < P) := ⟨hN, hLb, hP, hLP, h0, h1⟩
  have BB : Hid (0 ≤ b ∧ b ≤ 63) := ⟨b0, b63⟩
  have HS : Hid (∀ w w' s, St w s → (∀ k, k < N → k ≠ Lb → w'.heap[k]? = w.heap[k]?) → St w' s) := hSt
  have HC : Hid (∀ w s bs p, whole bs = false → bs.length ≤ 63 → 1 ≤ p ∧ p ≤ 4095 → Inv s bs → St w s → Calls Tryd.prog 37 #[.pointer (some ⟨P, 0, none⟩), .int .i64 p] w fun e w' => e = .returned (.tuple #[.int .i64 (nxt s p).1, .int .i64 0]) ∧ St w' (nxt s p).2 ∧ Exc (fun k => k = P) w w') := hcall
  have HI : Hid (∀ s bs p, whole bs = false → bs.length ≤ 63 → 1 ≤ p ∧ p ≤ 4095 → Inv s bs → Inv (nxt s p).2 (bs ++ [(nxt s p).1]) ∧ ((nxt s p).1 = 0 ∨ (nxt s p).1 = 1)) := hinv
  clear hSt hcall hinv hL hm b0 b63 hi hR hN hLb hP hLP h0 h1 T H hS
  go_enter Tryd.func20, Tryd.ntmps20
  go_wp2_with fail
  go_loopw [6] (fun v wr => ∃ (bs M : List Int) (t : σ) (n cap : Nat) (ao : Option Addr), v = .slice ao n cap ∧ n ≤ 64 ∧ Hid (n = bs.length ∧ n ≤ cap ∧ cap ≤ maxLen ∧ Slc wr ao bs ∧ Way N Lb P St Inv nxt R b w wr M t bs (.slice ao n cap))) (fun v _ => 64 - lenOf v)
  case atStart => exact ⟨[], L, s, 0, 0, none, rfl, by omega, ⟨rfl, Nat.le_refl _, Nat.zero_le _, slc_nil _ _, W0.out⟩⟩
  case round =>
    obtain ⟨bs, M, t, n, cap, ao, rfl, hn, K⟩ := hrel
    clear W0
    have IW : Hid (Calls Tryd.prog 30 #[.slice ao n cap] wr fun e w' => e = .returned (.bool (whole bs)) ∧ w' = wr) := isWhole_ok ao bs n cap K.out.1 hn K.out.2.2.2.2.b01 wr K.out.2.2.2.1
    have c5 := K.out.2.2.2.2.mem.cell 195 (by rw [List.length_append, K.out.2.2.2.2.len]; simp)
    rw [get_last K.out.2.2.2.2.len] at c5
    cases hw : whole bs
    · rw [hw] at IW
      by_cases h63 : n ≤ 63
      · have OF : Hid (Calls Tryd.prog 31 #[.int .i64 b, .slice ao n cap] wr fun e w' => e = .returned (.tuple #[.agg #[.int .i64 (x0 bs : Nat), .int .i64 (x1 b bs : Nat), .int .i64 (x2 bs : Nat)], .int .i64 0]) ∧ Bel wr w') := by
          have := Ctx.of_yes b ao bs n cap K.out.1 ⟨BB.out.1, BB.out.2, by rw [← K.out.1]; exact h63, K.out.2.2.2.2.b01⟩ wr K.out.2.2.2.1
          have e : Ctx.ctxV b bs = .agg #[.int .i64 (x0 bs : Nat), .int .i64 (x1 b bs : Nat), .int .i64 (x2 bs : Nat)] := by rw [(x0_is bs).1, (x1_is BB.out.1 bs).1, (x2_is bs).1]
          rwa [e] at this
        have PQ : Hid (∀ w, Str.Tab w → Calls Tryd.prog 32 #[mdl M, .agg #[.int .i64 (x0 bs : Nat), .int .i64 (x1 b bs : Nat), .int .i64 (x2 bs : Nat)]] w fun e w' => e = .returned (.tuple #[.int .i64 (pOf M b bs), .int .i64 0]) ∧ Bel w w') := fun w T => p_yes M K.out.2.2.2.2.len _ _ _ (x0_is bs).2 (x1_is BB.out.1 bs).2 (x2_is bs).2 K.out.2.2.2.2.may w T
        have LQ : Hid (∀ x w, (x = 0 ∨ x = 1) → Str.Tab w → Calls Tryd.prog 33 #[mdl M, .agg #[.int .i64 (x0 bs : Nat), .int .i64 (x1 b bs : Nat), .int .i64 (x2 bs : Nat)], .int .i64 x] w fun e w' => e = .returned (.tuple #[mdl (lrn M b bs x), .int .i64 0]) ∧ Bel w w') := fun x w hx T => learn_yes M K.out.2.2.2.2.len _ _ _ (x0_is bs).2 (x1_is BB.out.1 bs).2 (x2_is bs).2 x (decide_eq_true hx) K.out.2.2.2.2.may w T
        have PR : Hid (1 ≤ pOf M b bs ∧ pOf M b bs ≤ 4095) := pOf_in M b bs
        have HW : Hid (whole bs = false) := hw
        have RN := K.out.2.2.2.2.run
        rw [← K.out.1, fuel nxt n hn, hw, if_neg (by simp), if_neg (by rw [← K.out.1]; omega)] at RN
        have RR : Hid (run nxt (64 - n) (lrn M b bs (nxt t (pOf M b bs)).1) b (nxt t (pOf M b bs)).2 (bs ++ [(nxt t (pOf M b bs)).1]) = R) := RN
        have MM : Hid (∀ x, (lrn M b bs x).length = 195 ∧ mayM (lrn M b bs x) = true) := fun x => ⟨by rw [lrn_len]; exact K.out.2.2.2.2.len, lrn_may K.out.2.2.2.2.len BB.out.1 bs x K.out.2.2.2.2.may⟩
        clear RN hw
        generalize pOf M b bs = p at *
        generalize x0 bs = A at *
        generalize x1 b bs = B at *
        generalize x2 bs = C at *
        go_wp2_with fail
        refine IW.out.mono ?_
        rintro e w1 ⟨rfl, rfl⟩
        clear IW
        go_wp2_with fail
        refine OF.out.mono ?_
        rintro e w2 ⟨rfl, b2⟩
        clear OF
        have B3 : Hid (Bel w1 (w2.alloc (.cells #[.int .i64 (A : Int), .int .i64 (B : Int), .int .i64 (C : Int)] 44))) := b2.alloc _
        have H3 : Hid (Holds (w2.alloc (.cells #[.int .i64 (A : Int), .int .i64 (B : Int), .int .i64 (C : Int)] 44)) w2.heap.size [(A : Int), (B : Int), (C : Int)]) := holds_new w2 [(A : Int), (B : Int), (C : Int)] 44
        have S3 : Hid (w1.heap.size ≤ w2.heap.size) := b2.size
        clear b2 c5
        go_wp2_with fail
        generalize w2.alloc (.cells #[.int .i64 (A : Int), .int .i64 (B : Int), .int .i64 (C : Int)] 44) = W at *
        generalize w2.heap.size = Cb at *
        obtain ⟨kn, kc, kx, ks, kw⟩ := K.out
        have ne : N ≤ w1.heap.size := by have := kw.exc.size; have := AT.out.1; omega
        have a0 : W.cell? ⟨Cb, 0, none⟩ = some (.int .i64 (A : Int)) := H3.out.cell 0 (by simp)
        have a1 : W.cell? ⟨Cb, 1, none⟩ = some (.int .i64 (B : Int)) := H3.out.cell 1 (by simp)
        have a2 : W.cell? ⟨Cb, 2, none⟩ = some (.int .i64 (C : Int)) := H3.out.cell 2 (by simp)
        have HM : Hid (Holds W Lb (M ++ [b])) := kw.mem.bel B3.out
        have ML : Hid (M.length = 195) := kw.len
        have TW : Hid (Str.Tab W) := tab_bel (kw.exc.tab TT.out (by have := AT.out; omega)) B3.out
        have SW : Hid (St W t) := HS.out _ _ _ kw.st (fun k hk _ => B3.out.block k (by omega))
        have RW : Hid (W.ownsRow N 3 1 (.slice ao n cap) bs.length (vals bs)) := owns_bel kw.row B3.out
        have XW : Hid (Exc (fun k => k = Lb ∨ k = P) w W) := kw.exc.bel B3.out
        have KI : Hid (Inv t bs ∧ Ctx.Bits01 bs ∧ n = bs.length ∧ N ≤ Cb ∧ N ≤ W.heap.size) := ⟨kw.inv, kw.b01, kn, by have := S3.out; omega, by have := B3.out.size; omega⟩
        clear kn kc kx ks kw ne K B3 S3
        have k0 := cell_regrown a0
        have k1 := cell_regrown a1
        have k2 := cell_regrown a2
        refine wp_region_quiet_below (by kernel_rfl) (by kernel_rfl) ?_
        repeat (first
          | (with_reducible refine quiet_load46 HM.out ML.out rfl ?_)
          | quiet_step ((go_at_call 32; with_reducible exact Calls.regrown_of (PQ.out _ (tab_bel TW.out (below_regrown _ _ _))))))
        refine wpQuiet_nil ?_
        intro w3 hw'
        have bq : Bel W w3 := by obtain ⟨⟨dq, osq⟩, rfl⟩ := hw'; exact below_regrown W dq osq
        clear hw' k0 k1 k2 PQ
        have CQ : Hid (Calls Tryd.prog 37 #[.pointer (some ⟨P, 0, none⟩), .int .i64 p] w3 fun e w' => e = .returned (.tuple #[.int .i64 (nxt t p).1, .int .i64 0]) ∧ St w' (nxt t p).2 ∧ Exc (fun k => k = P) w3 w') := HC.out w3 t bs p HW.out (by have := KI.out.2.2.1; omega) PR.out KI.out.1 (HS.out _ _ _ SW.out (fun k hk _ => bq.block k (by have := KI.out; omega)))
        obtain ⟨i1, i2⟩ := HI.out t bs p HW.out (by have := KI.out.2.2.1; omega) PR.out KI.out.1
        have I2 : Hid (Inv (nxt t p).2 (bs ++ [(nxt t p).1]) ∧ ((nxt t p).1 = 0 ∨ (nxt t p).1 = 1)) := ⟨i1, i2⟩
        clear i1 i2
        have e0 := bq.keep a0
        have e1 := bq.keep a1
        have e2 := bq.keep a2
        have HM3 : Hid (Holds w3 Lb (M ++ [b])) := HM.out.bel bq
        have TW3 : Hid (Str.Tab w3) := tab_bel TW.out bq
        have RW3 : Hid (w3.ownsRow N 3 1 (.slice ao n cap) bs.length (vals bs)) := owns_bel RW.out bq
        have XW3 : Hid (Exc (fun k => k = Lb ∨ k = P) w w3) := XW.out.bel bq
        have N3 : Hid (N ≤ w3.heap.size) := (by have := bq.size; have := KI.out; omega : N ≤ w3.heap.size)
        have HC3 : Hid (Holds w3 Cb [(A : Int), (B : Int), (C : Int)]) := H3.out.bel bq
        clear bq a0 a1 a2 HM TW SW RW XW
        go_wp2_with fail
        refine CQ.out.mono ?_
        rintro e w4 ⟨rfl, st4, x4⟩
        generalize (nxt t p).1 = x at *
        generalize (nxt t p).2 = t' at *
        have e0 := x4.keep e0 (by have := KI.out; have := AT.out; show ¬ Cb = P; omega)
        have e1 := x4.keep e1 (by have := KI.out; have := AT.out; show ¬ Cb = P; omega)
        have e2 := x4.keep e2 (by have := KI.out; have := AT.out; show ¬ Cb = P; omega)
        have HM4 : Hid (Holds w4 Lb (M ++ [b])) := x4.holds HM3.out (by have := AT.out; omega)
        have TW4 : Hid (Str.Tab w4) := x4.tab TW3.out (by have := AT.out; omega)
        have RW4 : Hid (w4.ownsRow N 3 1 (.slice ao n cap) bs.length (vals bs)) := x4.owns RW3.out (fun k hk => by have := AT.out; omega)
        have XW4 : Hid (Exc (fun k => k = Lb ∨ k = P) w w4) := XW3.out.trans x4 (fun _ _ h => .inr h)
        have N4 : Hid (N ≤ w4.heap.size) := (by have := x4.size; have := N3.out; omega : N ≤ w4.heap.size)
        have ST4 : Hid (St w4 t') := st4
        have HC4 : Hid (Holds w4 Cb [(A : Int), (B : Int), (C : Int)]) := x4.holds HC3.out (by have := KI.out; have := AT.out; omega)
        clear st4 x4 HM3 TW3 RW3 XW3 N3 CQ
        go_wp2_with fail
        refine wp_region_any (by kernel_rfl) ?_
        change wpAny _ _ _ _ _ _ _ (World.drew _)
        refine wpAny_take (i := 0) (oi := { dst := some 44, op := .move (.tmp 0), type := _, pos := _, after := _, guard := none }) (v := ?_) rfl (by kernel_rfl) (by kernel_rfl) (by kernel_rfl) (fun _ _ _ h => h) (Or.inl ⟨by rfl, ?_⟩) ?_
        rotate_left
        · intro w; go_simp; with_reducible rfl
        simp only [Act.put, List.setIfInBounds_toArray, List.set_cons_zero, List.set_cons_succ]
        refine wpAny_take (i := 1) (oi := { dst := some 45, op := .move (.tmp 0), type := _, pos := _, after := _, guard := none }) (v := ?_) rfl (by kernel_rfl) (by kernel_rfl) (by kernel_rfl) (fun _ _ _ h => h) (Or.inl ⟨by rfl, ?_⟩) ?_
        rotate_left
        · intro w; go_simp; with_reducible rfl
        simp only [Act.put, List.setIfInBounds_toArray, List.set_cons_zero, List.set_cons_succ]
        refine wpAny_take (i := 2) (oi := { dst := some 46, op := .nilCheck (.tmp 45), type := _, pos := _, after := _, guard := none }) (v := ?_) rfl (by kernel_rfl) (by kernel_rfl) (by kernel_rfl) (fun _ _ _ h => h) (Or.inl ⟨by rfl, ?_⟩) ?_
        rotate_left
        · intro w; go_simp; with_reducible rfl
        simp only [Act.put, List.setIfInBounds_toArray, List.set_cons_zero, List.set_cons_succ]
        refine wpAny_take (i := 3) (oi := { dst := some 47, op := .fieldAddr 48 (.tmp 46) 0, type := _, pos := _, after := _, guard := none }) (v := ?_) rfl (by kernel_rfl) (by kernel_rfl) (by kernel_rfl) (fun _ _ _ h => h) (Or.inl ⟨by rfl, ?_⟩) ?_
        rotate_left
        · intro w; go_simp; with_reducible rfl
        simp only [Act.put, List.setIfInBounds_toArray, List.set_cons_zero, List.set_cons_succ]
        refine wpAny_take (i := 6) (oi := { dst := some 50, op := .move (.tmp 11), type := _, pos := _, after := _, guard := none }) (v := ?_) rfl (by kernel_rfl) (by kernel_rfl) (by kernel_rfl) (fun _ _ _ h => h) (Or.inl ⟨by rfl, ?_⟩) ?_
        rotate_left
        · intro w; go_simp; with_reducible rfl
        simp only [Act.put, List.setIfInBounds_toArray, List.set_cons_zero, List.set_cons_succ]
        refine wpAny_ready (rs := [4, 5]) (by kernel_rfl) (by simp) ?_
        refine AllReady.cons (o := { dst := some 48, op := .load 46 (.tmp 47), type := _, pos := _, after := _, guard := none }) rfl (fun K hK => ?_) (AllReady.cons (o := { dst := some 49, op := .load 44 (.tmp 7), type := _, pos := _, after := _, guard := none }) rfl (fun K hK => ?_) AllReady.nil)
        · rw [if_pos (by rfl)]
          refine wp_load_mid 46 _ rfl Lb 0 rfl (vals M) _ (holds_front HM4.out).drew.range Tryd.underlying46 rfl (by rw [size26, vals_length, ML.out]) ?_
          refine hK _ _ ?_
          clear hK K
          simp only [Act.put, List.setIfInBounds_toArray, List.set_cons_zero, List.set_cons_succ]
          refine wpAny_ready (rs := [5]) (by kernel_rfl) (by simp) ?_
          refine AllReady.cons (o := { dst := some 49, op := .load 44 (.tmp 7), type := _, pos := _, after := _, guard := none }) rfl (fun K hK => ?_) AllReady.nil
          rw [if_pos (by rfl)]
          refine wp_load_mid 44 _ rfl Cb 0 rfl (vals [(A : Int), (B : Int), (C : Int)]) _ HC4.out.drew.range Tryd.underlying44 rfl (by kernel_rfl) ?_
          refine hK _ _ ?_
          clear hK K
          simp only [Act.put, List.setIfInBounds_toArray, List.set_cons_zero, List.set_cons_succ]
          refine wpAny_ready (rs := [7]) (by kernel_rfl) (by simp) ?_
          refine AllReady.cons (o := { dst := some 51, op := .call { callee := .value (.func 33), args := #[.tmp 48, .tmp 49, .tmp 50], argTypes := _ }, type := _, pos := _, after := _, guard := none }) rfl (fun K hK => ?_) AllReady.nil
          go_simp
          refine (LQ.out x _ I2.out.2 (tab_bel TW4.out (Bel.refl _).drew)).mono ?_
          rintro e w5 ⟨rfl, b5⟩
          go_wp2_with fail
          refine wpAny_take (i := 8) (oi := { dst := some 43, op := .move (.tmp 51), type := _, pos := _, after := _, guard := none }) (v := ?_) rfl (by kernel_rfl) (by kernel_rfl) (by kernel_rfl) (fun _ _ _ h => h) (Or.inl ⟨by rfl, ?_⟩) ?_
          rotate_left
          · intro w; go_simp; with_reducible rfl
          simp only [Act.put, List.setIfInBounds_toArray, List.set_cons_zero, List.set_cons_succ]
          refine wpAny_take (i := 9) (oi := { dst := some 52, op := .extract (.tmp 43) 0, type := _, pos := _, after := _, guard := none }) (v := ?_) rfl (by kernel_rfl) (by kernel_rfl) (by kernel_rfl) (fun _ _ _ h => h) (Or.inl ⟨by rfl, ?_⟩) ?_
          rotate_left
          · intro w; go_simp; with_reducible rfl
          simp only [Act.put, List.setIfInBounds_toArray, List.set_cons_zero, List.set_cons_succ]
          refine wpAny_take (i := 10) (oi := { dst := some 53, op := .extract (.tmp 43) 1, type := _, pos := _, after := _, guard := none }) (v := ?_) rfl (by kernel_rfl) (by kernel_rfl) (by kernel_rfl) (fun _ _ _ h => h) (Or.inl ⟨by rfl, ?_⟩) ?_
          rotate_left
          · intro w; go_simp; with_reducible rfl
          simp only [Act.put, List.setIfInBounds_toArray, List.set_cons_zero, List.set_cons_succ]
          refine wpAny_take (i := 11) (oi := { dst := some 54, op := .nilCheck (.tmp 44), type := _, pos := _, after := _, guard := none }) (v := ?_) rfl (by kernel_rfl) (by kernel_rfl) (by kernel_rfl) (fun _ _ _ h => h) (Or.inl ⟨by rfl, ?_⟩) ?_
          rotate_left
          · intro w; go_simp; with_reducible rfl
          simp only [Act.put, List.setIfInBounds_toArray, List.set_cons_zero, List.set_cons_succ]
          refine wpAny_take (i := 12) (oi := { dst := some 55, op := .fieldAddr 48 (.tmp 54) 0, type := _, pos := _, after := _, guard := none }) (v := ?_) rfl (by kernel_rfl) (by kernel_rfl) (by kernel_rfl) (fun _ _ _ h => h) (Or.inl ⟨by rfl, ?_⟩) ?_
          rotate_left
          · intro w; go_simp; with_reducible rfl
          simp only [Act.put, List.setIfInBounds_toArray, List.set_cons_zero, List.set_cons_succ]
          refine wpAny_ready (rs := [13]) (by kernel_rfl) (by simp) ?_
          refine AllReady.cons (o := { dst := none, op := .store 46 (.tmp 55) (.tmp 52), type := _, pos := _, after := _, guard := none }) rfl (fun K hK => ?_) AllReady.nil
          rw [if_pos (by rfl)]
          refine wp_store_mid 46 _ _ rfl Lb 0 (vals (lrn M b bs x)).toArray rfl rfl (by rw [size_vals, (MM.out x).1]; exact (HM4.out.drew.bel b5).there 0 195 (by rw [List.length_append, ML.out]; simp)) (by rw [size26, size_vals, (MM.out x).1]) (vals_one _) ?_
          refine hK _ _ ?_
          clear hK K
          simp only [Act.put, List.setIfInBounds_toArray, List.set_cons_zero, List.set_cons_succ, List.toList_toArray]
          refine wpAny_done (by kernel_rfl) ?_ _
          have B5 : Bel w4 w5 := (Bel.refl w4).drew.trans b5
          have X5 : Exc (fun k => k = Lb) w4 (w5.setCells Lb 0 (vals (lrn M b bs x))) := Exc.setCells (S := fun k => k = Lb) (B := Lb) (fun _ => rfl) _ 0 (Exc.of_bel B5)
          have HM6 : Hid (Holds (w5.setCells Lb 0 (vals (lrn M b bs x))) Lb (lrn M b bs x ++ [b])) := holds_model (HM4.out.bel B5) ML.out _ (MM.out x).1
          have ST6 : Hid (St (w5.setCells Lb 0 (vals (lrn M b bs x))) t') := HS.out _ _ _ ST4.out (fun k hk hq => X5.block k (by have := N4.out; omega) hq)
          have RW6 : Hid ((w5.setCells Lb 0 (vals (lrn M b bs x))).ownsRow N 3 1 (.slice ao n cap) bs.length (vals bs)) := X5.owns RW4.out (fun k hk => by have := AT.out; omega)
          have XW6 : Hid (Exc (fun k => k = Lb ∨ k = P) w (w5.setCells Lb 0 (vals (lrn M b bs x)))) := XW4.out.trans X5 (fun _ _ h => .inl h)
          have N6 : Hid (N ≤ (w5.setCells Lb 0 (vals (lrn M b bs x))).heap.size) := (by have := X5.size; have := N4.out; omega : N ≤ (w5.setCells Lb 0 (vals (lrn M b bs x))).heap.size)
          clear b5 B5 X5 HM4 TW4 RW4 XW4 N4 ST4 HC4 e0 e1 e2 LQ PR
          generalize w5.setCells Lb 0 (vals (lrn M b bs x)) = w6 at *
          obtain ⟨e, ke⟩ : ∃ e, e = bs.length := ⟨_, rfl⟩
          have rw6 := RW6.out
          rw [← KI.out.2.2.1] at rw6
          have R6 : Hid (w6.ownsRow N 3 1 (.slice ao n cap) n (vals bs)) := rw6
          clear rw6 RW6 ke e
          have c3 : Hid (n + 1 ≤ maxLen) := (by unfold maxLen; omega : n + 1 ≤ maxLen)
          have c4 : Hid ((n + 1) * 8 ≤ 140737488355328) := (by omega : (n + 1) * 8 ≤ 140737488355328)
          have sz : Hid (N ≤ (w6.alloc (.cells #[.int .i64 x] 3)).heap.size) := (by have := N6.out; simp; omega : N ≤ (w6.alloc (.cells #[.int .i64 x] 3)).heap.size)
          go_wp2_with (at_builtin; refine wpList_append_own _ rfl (.tmp 56) (.tmp 58) 22 rfl N 3 i0 (.int .i64 0) 1 8 Tryd.underlying22 hz hz0 hz1 hz2 rfl (by decide) _ n _ rfl (R6.out.alloc _) ⟨w6.heap.size, 0, none⟩ 1 1 (vals [x]) rfl rfl (one_cell _ _) (ints_oneCell _ _) c3.out c4.out sz.out ?_)
          intro v' w7 ho hg _
          have ho2 : w7.ownsRow N 3 1 v' (n + 1) (vals (bs ++ [x])) := by rw [vals_append]; exact ho
          obtain ⟨ao2, cap2, rfl, q1, q2, q3, q4⟩ := owns_slc ho2
          have own : ∀ k, (Value.slice ao n cap).ownBlock = some k → N ≤ k := fun k hk => (R6.out.lt k hk).1
          have X7 : Exc (fun k => N ≤ k) w6 w7 := ((Exc.refl _ w6).alloc _).grown hg (fun k hk _ => own k hk)
          have WW : Hid (n + 1 = (bs ++ [x]).length ∧ n + 1 ≤ cap2 ∧ cap2 ≤ maxLen ∧ Slc w7 ao2 (bs ++ [x]) ∧ Way N Lb P St Inv nxt R b w w7 (lrn M b bs x) t' (bs ++ [x]) (.slice ao2 (n + 1) cap2)) :=
            ⟨q3, q1, q2, q4, ⟨by rw [← q3, show 65 - (n + 1) = 64 - n by omega]; exact RR.out, (MM.out x).1, (MM.out x).2, Ctx.bits_snoc KI.out.2.1 I2.out.2, I2.out.1, X7.holds HM6.out (by have := AT.out; omega), HS.out _ _ _ ST6.out (fun k hk _ => X7.block k (by have := N6.out; omega) (by omega)), by rw [← q3]; exact ho2, XW6.out.trans X7 (fun i hi h => by have := AT.out.1; omega)⟩⟩
          clear ho ho2 hg q1 q2 q3 q4 own X7 R6 XW6 HM6 ST6 RR KI I2 MM c3 c4 sz N6
          go_wp2
          go_roundw
          case rel => exact ⟨bs ++ [x], lrn M b bs x, t', n + 1, cap2, ao2, rfl, by omega, WW⟩
          case measure => simp [lenOf]; omega
        · rw [if_pos (by rfl)]
          refine wp_load_mid 44 _ rfl Cb 0 rfl (vals [(A : Int), (B : Int), (C : Int)]) _ HC4.out.drew.range Tryd.underlying44 rfl (by kernel_rfl) ?_
          refine hK _ _ ?_
          clear hK K
          simp only [Act.put, List.setIfInBounds_toArray, List.set_cons_zero, List.set_cons_succ]
          refine wpAny_ready (rs := [4]) (by kernel_rfl) (by simp) ?_
          refine AllReady.cons (o := { dst := some 48, op := .load 46 (.tmp 47), type := _, pos := _, after := _, guard := none }) rfl (fun K hK => ?_) AllReady.nil
          rw [if_pos (by rfl)]
          refine wp_load_mid 46 _ rfl Lb 0 rfl (vals M) _ (holds_front HM4.out).drew.range Tryd.underlying46 rfl (by rw [size26, vals_length, ML.out]) ?_
          refine hK _ _ ?_
          clear hK K
          simp only [Act.put, List.setIfInBounds_toArray, List.set_cons_zero, List.set_cons_succ]
          refine wpAny_ready (rs := [7]) (by kernel_rfl) (by simp) ?_
          refine AllReady.cons (o := { dst := some 51, op := .call { callee := .value (.func 33), args := #[.tmp 48, .tmp 49, .tmp 50], argTypes := _ }, type := _, pos := _, after := _, guard := none }) rfl (fun K hK => ?_) AllReady.nil
          go_simp
          refine (LQ.out x _ I2.out.2 (tab_bel TW4.out (Bel.refl _).drew)).mono ?_
          rintro e w5 ⟨rfl, b5⟩
          go_wp2_with fail
          refine wpAny_take (i := 8) (oi := { dst := some 43, op := .move (.tmp 51), type := _, pos := _, after := _, guard := none }) (v := ?_) rfl (by kernel_rfl) (by kernel_rfl) (by kernel_rfl) (fun _ _ _ h => h) (Or.inl ⟨by rfl, ?_⟩) ?_
          rotate_left
          · intro w; go_simp; with_reducible rfl
          simp only [Act.put, List.setIfInBounds_toArray, List.set_cons_zero, List.set_cons_succ]
          refine wpAny_take (i := 9) (oi := { dst := some 52, op := .extract (.tmp 43) 0, type := _, pos := _, after := _, guard := none }) (v := ?_) rfl (by kernel_rfl) (by kernel_rfl) (by kernel_rfl) (fun _ _ _ h => h) (Or.inl ⟨by rfl, ?_⟩) ?_
          rotate_left
          · intro w; go_simp; with_reducible rfl
          simp only [Act.put, List.setIfInBounds_toArray, List.set_cons_zero, List.set_cons_succ]
          refine wpAny_take (i := 10) (oi := { dst := some 53, op := .extract (.tmp 43) 1, type := _, pos := _, after := _, guard := none }) (v := ?_) rfl (by kernel_rfl) (by kernel_rfl) (by kernel_rfl) (fun _ _ _ h => h) (Or.inl ⟨by rfl, ?_⟩) ?_
          rotate_left
          · intro w; go_simp; with_reducible rfl
          simp only [Act.put, List.setIfInBounds_toArray, List.set_cons_zero, List.set_cons_succ]
          refine wpAny_take (i := 11) (oi := { dst := some 54, op := .nilCheck (.tmp 44), type := _, pos := _, after := _, guard := none }) (v := ?_) rfl (by kernel_rfl) (by kernel_rfl) (by kernel_rfl) (fun _ _ _ h => h) (Or.inl ⟨by rfl, ?_⟩) ?_
          rotate_left
          · intro w; go_simp; with_reducible rfl
          simp only [Act.put, List.setIfInBounds_toArray, List.set_cons_zero, List.set_cons_succ]
          refine wpAny_take (i := 12) (oi := { dst := some 55, op := .fieldAddr 48 (.tmp 54) 0, type := _, pos := _, after := _, guard := none }) (v := ?_) rfl (by kernel_rfl) (by kernel_rfl) (by kernel_rfl) (fun _ _ _ h => h) (Or.inl ⟨by rfl, ?_⟩) ?_
          rotate_left
          · intro w; go_simp; with_reducible rfl
          simp only [Act.put, List.setIfInBounds_toArray, List.set_cons_zero, List.set_cons_succ]
          refine wpAny_ready (rs := [13]) (by kernel_rfl) (by simp) ?_
          refine AllReady.cons (o := { dst := none, op := .store 46 (.tmp 55) (.tmp 52), type := _, pos := _, after := _, guard := none }) rfl (fun K hK => ?_) AllReady.nil
          rw [if_pos (by rfl)]
          refine wp_store_mid 46 _ _ rfl Lb 0 (vals (lrn M b bs x)).toArray rfl rfl (by rw [size_vals, (MM.out x).1]; exact (HM4.out.drew.bel b5).there 0 195 (by rw [List.length_append, ML.out]; simp)) (by rw [size26, size_vals, (MM.out x).1]) (vals_one _) ?_
          refine hK _ _ ?_
          clear hK K
          simp only [Act.put, List.setIfInBounds_toArray, List.set_cons_zero, List.set_cons_succ, List.toList_toArray]
          refine wpAny_done (by kernel_rfl) ?_ _
          have B5 : Bel w4 w5 := (Bel.refl w4).drew.trans b5
          have X5 : Exc (fun k => k = Lb) w4 (w5.setCells Lb 0 (vals (lrn M b bs x))) := Exc.setCells (S := fun k => k = Lb) (B := Lb) (fun _ => rfl) _ 0 (Exc.of_bel B5)
          have HM6 : Hid (Holds (w5.setCells Lb 0 (vals (lrn M b bs x))) Lb (lrn M b bs x ++ [b])) := holds_model (HM4.out.bel B5) ML.out _ (MM.out x).1
          have ST6 : Hid (St (w5.setCells Lb 0 (vals (lrn M b bs x))) t') := HS.out _ _ _ ST4.out (fun k hk hq => X5.block k (by have := N4.out; omega) hq)
          have RW6 : Hid ((w5.setCells Lb 0 (vals (lrn M b bs x))).ownsRow N 3 1 (.slice ao n cap) bs.length (vals bs)) := X5.owns RW4.out (fun k hk => by have := AT.out; omega)
          have XW6 : Hid (Exc (fun k => k = Lb ∨ k = P) w (w5.setCells Lb 0 (vals (lrn M b bs x)))) := XW4.out.trans X5 (fun _ _ h => .inl h)
          have N6 : Hid (N ≤ (w5.setCells Lb 0 (vals (lrn M b bs x))).heap.size) := (by have := X5.size; have := N4.out; omega : N ≤ (w5.setCells Lb 0 (vals (lrn M b bs x))).heap.size)
          clear b5 B5 X5 HM4 TW4 RW4 XW4 N4 ST4 HC4 e0 e1 e2 LQ PR
          generalize w5.setCells Lb 0 (vals (lrn M b bs x)) = w6 at *
          obtain ⟨e, ke⟩ : ∃ e, e = bs.length := ⟨_, rfl⟩
          have rw6 := RW6.out
          rw [← KI.out.2.2.1] at rw6
          have R6 : Hid (w6.ownsRow N 3 1 (.slice ao n cap) n (vals bs)) := rw6
          clear rw6 RW6 ke e
          have c3 : Hid (n + 1 ≤ maxLen) := (by unfold maxLen; omega : n + 1 ≤ maxLen)
          have c4 : Hid ((n + 1) * 8 ≤ 140737488355328) := (by omega : (n + 1) * 8 ≤ 140737488355328)
          have sz : Hid (N ≤ (w6.alloc (.cells #[.int .i64 x] 3)).heap.size) := (by have := N6.out; simp; omega : N ≤ (w6.alloc (.cells #[.int .i64 x] 3)).heap.size)
          go_wp2_with (at_builtin; refine wpList_append_own _ rfl (.tmp 56) (.tmp 58) 22 rfl N 3 i0 (.int .i64 0) 1 8 Tryd.underlying22 hz hz0 hz1 hz2 rfl (by decide) _ n _ rfl (R6.out.alloc _) ⟨w6.heap.size, 0, none⟩ 1 1 (vals [x]) rfl rfl (one_cell _ _) (ints_oneCell _ _) c3.out c4.out sz.out ?_)
          intro v' w7 ho hg _
          have ho2 : w7.ownsRow N 3 1 v' (n + 1) (vals (bs ++ [x])) := by rw [vals_append]; exact ho
          obtain ⟨ao2, cap2, rfl, q1, q2, q3, q4⟩ := owns_slc ho2
          have own : ∀ k, (Value.slice ao n cap).ownBlock = some k → N ≤ k := fun k hk => (R6.out.lt k hk).1
          have X7 : Exc (fun k => N ≤ k) w6 w7 := ((Exc.refl _ w6).alloc _).grown hg (fun k hk _ => own k hk)
          have WW : Hid (n + 1 = (bs ++ [x]).length ∧ n + 1 ≤ cap2 ∧ cap2 ≤ maxLen ∧ Slc w7 ao2 (bs ++ [x]) ∧ Way N Lb P St Inv nxt R b w w7 (lrn M b bs x) t' (bs ++ [x]) (.slice ao2 (n + 1) cap2)) :=
            ⟨q3, q1, q2, q4, ⟨by rw [← q3, show 65 - (n + 1) = 64 - n by omega]; exact RR.out, (MM.out x).1, (MM.out x).2, Ctx.bits_snoc KI.out.2.1 I2.out.2, I2.out.1, X7.holds HM6.out (by have := AT.out; omega), HS.out _ _ _ ST6.out (fun k hk _ => X7.block k (by have := N6.out; omega) (by omega)), by rw [← q3]; exact ho2, XW6.out.trans X7 (fun i hi h => by have := AT.out.1; omega)⟩⟩
          clear ho ho2 hg q1 q2 q3 q4 own X7 R6 XW6 HM6 ST6 RR KI I2 MM c3 c4 sz N6
          go_wp2
          go_roundw
          case rel => exact ⟨bs ++ [x], lrn M b bs x, t', n + 1, cap2, ao2, rfl, by omega, WW⟩
          case measure => simp [lenOf]; omega
      · have ON : Hid (Calls Tryd.prog 31 #[.int .i64 b, .slice ao n cap] wr fun e w' => e = .returned (.tuple #[.agg #[.int .i64 0, .int .i64 0, .int .i64 0], .int .i64 1200]) ∧ Bel wr w') := Ctx.of_no b ao bs n cap K.out.1 (by unfold maxLen; omega) (fun h => by have := h.2.2.1; rw [← K.out.1] at this; omega) wr K.out.2.2.2.1
        have RN := K.out.2.2.2.2.run
        rw [← K.out.1, fuel nxt n hn, hw, if_neg (by simp), if_pos (by rw [← K.out.1]; omega)] at RN
        have RR : Hid (none = R) := RN
        have XW : Hid (Exc (fun k => k = Lb ∨ k = P) w wr) := K.out.2.2.2.2.exc
        clear RN hw K
        go_wp2_with fail
        refine IW.out.mono ?_
        rintro e w1 ⟨rfl, rfl⟩
        clear IW
        go_wp2_with fail
        refine ON.out.mono ?_
        rintro e w2 ⟨rfl, b2⟩
        have X2 : Hid (Exc (fun k => k = Lb ∨ k = P) w w2) := XW.out.bel b2
        clear ON b2 XW c5
        go_wp2
        go_ret2
        refine ⟨?_, X2.out.alloc _⟩
        rw [← RR.out]
        rfl
    · rw [hw] at IW
      have RN := K.out.2.2.2.2.run
      rw [← K.out.1, fuel nxt n hn, hw, if_pos rfl] at RN
      have f5 := K.out.2.2.2.2.mem.free 195 (by rw [List.length_append, K.out.2.2.2.2.len]; simp)
      have HE : Hid (∀ y : Int, y = ((bs.length / 2 : Nat) : Int) → Ends N Lb P St Inv (wr.setCell ⟨Lb, 195, none⟩ (.int .i64 y)) (.returned (.tuple #[.slice ao n cap, .bool true])) R ∧ Exc (fun k => k = Lb ∨ k = P) w (wr.setCell ⟨Lb, 195, none⟩ (.int .i64 y))) := fun y hy => by
        obtain ⟨hN, hLb, hP, hLP, h0, h1⟩ := AT.out
        obtain ⟨k1, k2, k3, k4, k5⟩ := K.out
        have rb := row_block k5.row
        subst k1 hy RN
        have hh := k5.mem.set 195 (by rw [List.length_append, k5.len]; simp) ((bs.length / 2 : Nat) : Int)
        rw [set_last k5.len] at hh
        refine ⟨⟨⟨ao, cap, rfl, k2, k3, slc_put1 k4 (fun x hx => by have := rb x hx; omega), rb⟩, hh, HS.out _ _ _ k5.st (fun k hk hq => Below.heap_setCell _ _ _ _ hq), k5.len, k5.may, k5.inv, hw, k5.b01, hn⟩, k5.exc.setCell (fun _ => .inl rfl) _⟩
      have HD : Hid ((n : Int) / 2 = ((bs.length / 2 : Nat) : Int)) := (by rw [← K.out.1]; omega : (n : Int) / 2 = ((bs.length / 2 : Nat) : Int))
      clear K RN
      go_wp2_with fail
      refine IW.out.mono ?_
      rintro e w1 ⟨rfl, rfl⟩
      go_wp2
      go_ret2
      exact HE.out _ HD.out

end Go.Proofs.YtocnlefpbcnlmaaDoor.Res

namespace Go.Proofs.YtocnlefpbcnlmaaDoor.Res
open Go.RowKit Go.Sort Go.Proofs.YtocnlefpbcnlmaaDoor.Mod Go.Proofs.YtocnlefpbcnlmaaDoor.Ints
set_option linter.unusedVariables false
set_option linter.unusedSimpArgs false

set_option maxRecDepth 20000 in
set_option maxHeartbeats 4000000 in
theorem number_put {σ : Type} (N Lb P : Nat) (St : World → σ → Prop) (Inv : σ → List Int → Prop) (nxt : σ → Int → Int × σ)
    (hSt : ∀ w w' s, St w s → (∀ k, k < N → k ≠ Lb → w'.heap[k]? = w.heap[k]?) → St w' s)
    (hcall : ∀ w s bs p, whole bs = false → bs.length ≤ 63 → 1 ≤ p ∧ p ≤ 4095 → Inv s bs → St w s → Calls Tryd.prog 21 #[.pointer (some ⟨P, 0, none⟩), .int .i64 p] w fun e w' => e = .returned (.tuple #[.int .i64 (nxt s p).1, .int .i64 0]) ∧ St w' (nxt s p).2 ∧ Exc (fun k => k = P) w w')
    (hinv : ∀ s bs p, whole bs = false → bs.length ≤ 63 → 1 ≤ p ∧ p ≤ 4095 → Inv s bs → Inv (nxt s p).2 (bs ++ [(nxt s p).1]) ∧ ((nxt s p).1 = 0 ∨ (nxt s p).1 = 1))
    (L : List Int) (hL : L.length = 195) (hm : mayM L = true) (b : Int) (b0 : 0 ≤ b) (b63 : b ≤ 63) (s : σ) (hi : Inv s []) (R : Option (List Int × σ × List Int)) (hR : run nxt 65 L b s [] = R)
    (w : World) (hN : N = w.heap.size) (hLb : Lb < N) (hP : P < N) (hLP : Lb ≠ P) (h0 : 0 < Lb) (h1 : 0 < P) (T : Str.Tab w) (H : Holds w Lb (L ++ [b])) (hS : St w s) :
    Calls Tryd.prog 20 #[.pointer (some ⟨Lb, 0, none⟩), .func (.func 21) #[.pointer (some ⟨P, 0, none⟩)] #[]] w fun e w' =>
      Ends N Lb P St Inv w' e R ∧ Exc (fun k => k = Lb ∨ k = P) w w' := by
  obtain ⟨i0, hz, hz0, hz1, hz2⟩ := info_parts Ints.info_int
  have TT : Hid (Str.Tab w) := T
  have W0 : Hid (Way N Lb P St Inv nxt R b w w L s [] (.slice none 0 0)) := ⟨hR, hL, hm, Ctx.bits_nil, hi, H, hS, ⟨rfl, .inl ⟨rfl, rfl⟩⟩, Exc.refl _ _⟩
  have AT : Hid (N = w.heap.size ∧ Lb < N ∧ P < N ∧ Lb ≠ P ∧ 0 < Lb ∧ 0 < P) := ⟨hN, hLb, hP, hLP, h0, h1⟩
  have BB : Hid (0 ≤ b ∧ b ≤ 63) := ⟨b0, b63⟩
  have HS : Hid (∀ w w' s, St w s → (∀ k, k < N → k ≠ Lb → w'.heap[k]? = w.heap[k]?) → St w' s) := hSt
  have HC : Hid (∀ w s bs p, whole bs = false → bs.length ≤ 63 → 1 ≤ p ∧ p ≤ 4095 → Inv s bs → St w s → Calls Tryd.prog 21 #[.pointer (some ⟨P, 0, none⟩), .int .i64 p] w fun e w' => e = .returned (.tuple #[.int .i64 (nxt s p).1, .int .i64 0]) ∧ St w' (nxt s p).2 ∧ Exc (fun k => k = P) w w') := hcall
  have HI : Hid (∀ s bs p, whole bs = false → bs.length ≤ 63 → 1 ≤ p ∧ p ≤ 4095 → Inv s bs → Inv (nxt s p).2 (bs ++ [(nxt s p).1]) ∧ ((nxt s p).1 = 0 ∨ (nxt s p).1 = 1)) := hinv
  clear hSt hcall hinv hL hm b0 b63 hi hR hN hLb hP hLP h0 h1 T H hS
  go_enter Tryd.func20, Tryd.ntmps20
  go_wp2_with fail
  go_loopw [6] (fun v wr => ∃ (bs M : List Int) (t : σ) (n cap : Nat) (ao : Option Addr), v = .slice ao n cap ∧ n ≤ 64 ∧ Hid (n = bs.length ∧ n ≤ cap ∧ cap ≤ maxLen ∧ Slc wr ao bs ∧ Way N Lb P St Inv nxt R b w wr M t bs (.slice ao n cap))) (fun v _ => 64 - lenOf v)
  case atStart => exact ⟨[], L, s, 0, 0, none, rfl, by omega, ⟨rfl, Nat.le_refl _, Nat.zero_le _, slc_nil _ _, W0.out⟩⟩
  case round =>
    obtain ⟨bs, M, t, n, cap, ao, rfl, hn, K⟩ := hrel
    clear W0
    have IW : Hid (Calls Tryd.prog 30 #[.slice ao n cap] wr fun e w' => e = .returned (.bool (whole bs)) ∧ w' = wr) := isWhole_ok ao bs n cap K.out.1 hn K.out.2.2.2.2.b01 wr K.out.2.2.2.1
    have c5 := K.out.2.2.2.2.mem.cell 195 (by rw [List.length_append, K.out.2.2.2.2.len]; simp)
    rw [get_last K.out.2.2.2.2.len] at c5
    cases hw : whole bs
    · rw [hw] at IW
      by_cases h63 : n ≤ 63
      · have OF : Hid (Calls Tryd.prog 31 #[.int .i64 b, .slice ao n cap] wr fun e w' => e = .returned (.tuple #[.agg #[.int .i64 (x0 bs : Nat), .int .i64 (x1 b bs : Nat), .int .i64 (x2 bs : Nat)], .int .i64 0]) ∧ Bel wr w') := by
          have := Ctx.of_yes b ao bs n cap K.out.1 ⟨BB.out.1, BB.out.2, by rw [← K.out.1]; exact h63, K.out.2.2.2.2.b01⟩ wr K.out.2.2.2.1
          have e : Ctx.ctxV b bs = .agg #[.int .i64 (x0 bs : Nat), .int .i64 (x1 b bs : Nat), .int .i64 (x2 bs : Nat)] := by rw [(x0_is bs).1, (x1_is BB.out.1 bs).1, (x2_is bs).1]
          rwa [e] at this
        have PQ : Hid (∀ w, Str.Tab w → Calls Tryd.prog 32 #[mdl M, .agg #[.int .i64 (x0 bs : Nat), .int .i64 (x1 b bs : Nat), .int .i64 (x2 bs : Nat)]] w fun e w' => e = .returned (.tuple #[.int .i64 (pOf M b bs), .int .i64 0]) ∧ Bel w w') := fun w T => p_yes M K.out.2.2.2.2.len _ _ _ (x0_is bs).2 (x1_is BB.out.1 bs).2 (x2_is bs).2 K.out.2.2.2.2.may w T
        have LQ : Hid (∀ x w, (x = 0 ∨ x = 1) → Str.Tab w → Calls Tryd.prog 33 #[mdl M, .agg #[.int .i64 (x0 bs : Nat), .int .i64 (x1 b bs : Nat), .int .i64 (x2 bs : Nat)], .int .i64 x] w fun e w' => e = .returned (.tuple #[mdl (lrn M b bs x), .int .i64 0]) ∧ Bel w w') := fun x w hx T => learn_yes M K.out.2.2.2.2.len _ _ _ (x0_is bs).2 (x1_is BB.out.1 bs).2 (x2_is bs).2 x (decide_eq_true hx) K.out.2.2.2.2.may w T
        have PR : Hid (1 ≤ pOf M b bs ∧ pOf M b bs ≤ 4095) := pOf_in M b bs
        have HW : Hid (whole bs = false) := hw
        have RN := K.out.2.2.2.2.run
        rw [← K.out.1, fuel nxt n hn, hw, if_neg (by simp), if_neg (by rw [← K.out.1]; omega)] at RN
        have RR : Hid (run nxt (64 - n) (lrn M b bs (nxt t (pOf M b bs)).1) b (nxt t (pOf M b bs)).2 (bs ++ [(nxt t (pOf M b bs)).1]) = R) := RN
        have MM : Hid (∀ x, (lrn M b bs x).length = 195 ∧ mayM (lrn M b bs x) = true) := fun x => ⟨by rw [lrn_len]; exact K.out.2.2.2.2.len, lrn_may K.out.2.2.2.2.len BB.out.1 bs x K.out.2.2.2.2.may⟩
        clear RN hw
        generalize pOf M b bs = p at *
        generalize x0 bs = A at *
        generalize x1 b bs = B at *
        generalize x2 bs = C at *
        go_wp2_with fail
        refine IW.out.mono ?_
        rintro e w1 ⟨rfl, rfl⟩
        clear IW
        go_wp2_with fail
        refine OF.out.mono ?_
        rintro e w2 ⟨rfl, b2⟩
        clear OF
        have B3 : Hid (Bel w1 (w2.alloc (.cells #[.int .i64 (A : Int), .int .i64 (B : Int), .int .i64 (C : Int)] 44))) := b2.alloc _
        have H3 : Hid (Holds (w2.alloc (.cells #[.int .i64 (A : Int), .int .i64 (B : Int), .int .i64 (C : Int)] 44)) w2.heap.size [(A : Int), (B : Int), (C : Int)]) := holds_new w2 [(A : Int), (B : Int), (C : Int)] 44
        have S3 : Hid (w1.heap.size ≤ w2.heap.size) := b2.size
        clear b2 c5
        go_wp2_with fail
        generalize w2.alloc (.cells #[.int .i64 (A : Int), .int .i64 (B : Int), .int .i64 (C : Int)] 44) = W at *
        generalize w2.heap.size = Cb at *
        obtain ⟨kn, kc, kx, ks, kw⟩ := K.out
        have ne : N ≤ w1.heap.size := by have := kw.exc.size; have := AT.out.1; omega
        have a0 : W.cell? ⟨Cb, 0, none⟩ = some (.int .i64 (A : Int)) := H3.out.cell 0 (by simp)
        have a1 : W.cell? ⟨Cb, 1, none⟩ = some (.int .i64 (B : Int)) := H3.out.cell 1 (by simp)
        have a2 : W.cell? ⟨Cb, 2, none⟩ = some (.int .i64 (C : Int)) := H3.out.cell 2 (by simp)
        have HM : Hid (Holds W Lb (M ++ [b])) := kw.mem.bel B3.out
        have ML : Hid (M.length = 195) := kw.len
        have TW : Hid (Str.Tab W) := tab_bel (kw.exc.tab TT.out (by have := AT.out; omega)) B3.out
        have SW : Hid (St W t) := HS.out _ _ _ kw.st (fun k hk _ => B3.out.block k (by omega))
        have RW : Hid (W.ownsRow N 3 1 (.slice ao n cap) bs.length (vals bs)) := owns_bel kw.row B3.out
        have XW : Hid (Exc (fun k => k = Lb ∨ k = P) w W) := kw.exc.bel B3.out
        have KI : Hid (Inv t bs ∧ Ctx.Bits01 bs ∧ n = bs.length ∧ N ≤ Cb ∧ N ≤ W.heap.size) := ⟨kw.inv, kw.b01, kn, by have := S3.out; omega, by have := B3.out.size; omega⟩
        clear kn kc kx ks kw ne K B3 S3
        have k0 := cell_regrown a0
        have k1 := cell_regrown a1
        have k2 := cell_regrown a2
        refine wp_region_quiet_below (by kernel_rfl) (by kernel_rfl) ?_
        repeat (first
          | (with_reducible refine quiet_load46 HM.out ML.out rfl ?_)
          | quiet_step ((go_at_call 32; with_reducible exact Calls.regrown_of (PQ.out _ (tab_bel TW.out (below_regrown _ _ _))))))
        refine wpQuiet_nil ?_
        intro w3 hw'
        have bq : Bel W w3 := by obtain ⟨⟨dq, osq⟩, rfl⟩ := hw'; exact below_regrown W dq osq
        clear hw' k0 k1 k2 PQ
        have CQ : Hid (Calls Tryd.prog 21 #[.pointer (some ⟨P, 0, none⟩), .int .i64 p] w3 fun e w' => e = .returned (.tuple #[.int .i64 (nxt t p).1, .int .i64 0]) ∧ St w' (nxt t p).2 ∧ Exc (fun k => k = P) w3 w') := HC.out w3 t bs p HW.out (by have := KI.out.2.2.1; omega) PR.out KI.out.1 (HS.out _ _ _ SW.out (fun k hk _ => bq.block k (by have := KI.out; omega)))
        obtain ⟨i1, i2⟩ := HI.out t bs p HW.out (by have := KI.out.2.2.1; omega) PR.out KI.out.1
        have I2 : Hid (Inv (nxt t p).2 (bs ++ [(nxt t p).1]) ∧ ((nxt t p).1 = 0 ∨ (nxt t p).1 = 1)) := ⟨i1, i2⟩
        clear i1 i2
        have e0 := bq.keep a0
        have e1 := bq.keep a1
        have e2 := bq.keep a2
        have HM3 : Hid (Holds w3 Lb (M ++ [b])) := HM.out.bel bq
        have TW3 : Hid (Str.Tab w3) := tab_bel TW.out bq
        have RW3 : Hid (w3.ownsRow N 3 1 (.slice ao n cap) bs.length (vals bs)) := owns_bel RW.out bq
        have XW3 : Hid (Exc (fun k => k = Lb ∨ k = P) w w3) := XW.out.bel bq
        have N3 : Hid (N ≤ w3.heap.size) := (by have := bq.size; have := KI.out; omega : N ≤ w3.heap.size)
        have HC3 : Hid (Holds w3 Cb [(A : Int), (B : Int), (C : Int)]) := H3.out.bel bq
        clear bq a0 a1 a2 HM TW SW RW XW
        go_wp2_with fail
        refine CQ.out.mono ?_
        rintro e w4 ⟨rfl, st4, x4⟩
        generalize (nxt t p).1 = x at *
        generalize (nxt t p).2 = t' at *
        have e0 := x4.keep e0 (by have := KI.out; have := AT.out; show ¬ Cb = P; omega)
        have e1 := x4.keep e1 (by have := KI.out; have := AT.out; show ¬ Cb = P; omega)
        have e2 := x4.keep e2 (by have := KI.out; have := AT.out; show ¬ Cb = P; omega)
        have HM4 : Hid (Holds w4 Lb (M ++ [b])) := x4.holds HM3.out (by have := AT.out; omega)
        have TW4 : Hid (Str.Tab w4) := x4.tab TW3.out (by have := AT.out; omega)
        have RW4 : Hid (w4.ownsRow N 3 1 (.slice ao n cap) bs.length (vals bs)) := x4.owns RW3.out (fun k hk => by have := AT.out; omega)
        have XW4 : Hid (Exc (fun k => k = Lb ∨ k = P) w w4) := XW3.out.trans x4 (fun _ _ h => .inr h)
        have N4 : Hid (N ≤ w4.heap.size) := (by have := x4.size; have := N3.out; omega : N ≤ w4.heap.size)
        have ST4 : Hid (St w4 t') := st4
        have HC4 : Hid (Holds w4 Cb [(A : Int), (B : Int), (C : Int)]) := x4.holds HC3.out (by have := KI.out; have := AT.out; omega)
        clear st4 x4 HM3 TW3 RW3 XW3 N3 CQ
        go_wp2_with fail
        refine wp_region_any (by kernel_rfl) ?_
        change wpAny _ _ _ _ _ _ _ (World.drew _)
        refine wpAny_take (i := 0) (oi := { dst := some 44, op := .move (.tmp 0), type := _, pos := _, after := _, guard := none }) (v := ?_) rfl (by kernel_rfl) (by kernel_rfl) (by kernel_rfl) (fun _ _ _ h => h) (Or.inl ⟨by rfl, ?_⟩) ?_
        rotate_left
        · intro w; go_simp; with_reducible rfl
        simp only [Act.put, List.setIfInBounds_toArray, List.set_cons_zero, List.set_cons_succ]
        refine wpAny_take (i := 1) (oi := { dst := some 45, op := .move (.tmp 0), type := _, pos := _, after := _, guard := none }) (v := ?_) rfl (by kernel_rfl) (by kernel_rfl) (by kernel_rfl) (fun _ _ _ h => h) (Or.inl ⟨by rfl, ?_⟩) ?_
        rotate_left
        · intro w; go_simp; with_reducible rfl
        simp only [Act.put, List.setIfInBounds_toArray, List.set_cons_zero, List.set_cons_succ]
        refine wpAny_take (i := 2) (oi := { dst := some 46, op := .nilCheck (.tmp 45), type := _, pos := _, after := _, guard := none }) (v := ?_) rfl (by kernel_rfl) (by kernel_rfl) (by kernel_rfl) (fun _ _ _ h => h) (Or.inl ⟨by rfl, ?_⟩) ?_
        rotate_left
        · intro w; go_simp; with_reducible rfl
        simp only [Act.put, List.setIfInBounds_toArray, List.set_cons_zero, List.set_cons_succ]
        refine wpAny_take (i := 3) (oi := { dst := some 47, op := .fieldAddr 48 (.tmp 46) 0, type := _, pos := _, after := _, guard := none }) (v := ?_) rfl (by kernel_rfl) (by kernel_rfl) (by kernel_rfl) (fun _ _ _ h => h) (Or.inl ⟨by rfl, ?_⟩) ?_
        rotate_left
        · intro w; go_simp; with_reducible rfl
        simp only [Act.put, List.setIfInBounds_toArray, List.set_cons_zero, List.set_cons_succ]
        refine wpAny_take (i := 6) (oi := { dst := some 50, op := .move (.tmp 11), type := _, pos := _, after := _, guard := none }) (v := ?_) rfl (by kernel_rfl) (by kernel_rfl) (by kernel_rfl) (fun _ _ _ h => h) (Or.inl ⟨by rfl, ?_⟩) ?_
        rotate_left
        · intro w; go_simp; with_reducible rfl
        simp only [Act.put, List.setIfInBounds_toArray, List.set_cons_zero, List.set_cons_succ]
        refine wpAny_ready (rs := [4, 5]) (by kernel_rfl) (by simp) ?_
        refine AllReady.cons (o := { dst := some 48, op := .load 46 (.tmp 47), type := _, pos := _, after := _, guard := none }) rfl (fun K hK => ?_) (AllReady.cons (o := { dst := some 49, op := .load 44 (.tmp 7), type := _, pos := _, after := _, guard := none }) rfl (fun K hK => ?_) AllReady.nil)
        · rw [if_pos (by rfl)]
          refine wp_load_mid 46 _ rfl Lb 0 rfl (vals M) _ (holds_front HM4.out).drew.range Tryd.underlying46 rfl (by rw [size26, vals_length, ML.out]) ?_
          refine hK _ _ ?_
          clear hK K
          simp only [Act.put, List.setIfInBounds_toArray, List.set_cons_zero, List.set_cons_succ]
          refine wpAny_ready (rs := [5]) (by kernel_rfl) (by simp) ?_
          refine AllReady.cons (o := { dst := some 49, op := .load 44 (.tmp 7), type := _, pos := _, after := _, guard := none }) rfl (fun K hK => ?_) AllReady.nil
          rw [if_pos (by rfl)]
          refine wp_load_mid 44 _ rfl Cb 0 rfl (vals [(A : Int), (B : Int), (C : Int)]) _ HC4.out.drew.range Tryd.underlying44 rfl (by kernel_rfl) ?_
          refine hK _ _ ?_
          clear hK K
          simp only [Act.put, List.setIfInBounds_toArray, List.set_cons_zero, List.set_cons_succ]
          refine wpAny_ready (rs := [7]) (by kernel_rfl) (by simp) ?_
          refine AllReady.cons (o := { dst := some 51, op := .call { callee := .value (.func 33), args := #[.tmp 48, .tmp 49, .tmp 50], argTypes := _ }, type := _, pos := _, after := _, guard := none }) rfl (fun K hK => ?_) AllReady.nil
          go_simp
          refine (LQ.out x _ I2.out.2 (tab_bel TW4.out (Bel.refl _).drew)).mono ?_
          rintro e w5 ⟨rfl, b5⟩
          go_wp2_with fail
          refine wpAny_take (i := 8) (oi := { dst := some 43, op := .move (.tmp 51), type := _, pos := _, after := _, guard := none }) (v := ?_) rfl (by kernel_rfl) (by kernel_rfl) (by kernel_rfl) (fun _ _ _ h => h) (Or.inl ⟨by rfl, ?_⟩) ?_
          rotate_left
          · intro w; go_simp; with_reducible rfl
          simp only [Act.put, List.setIfInBounds_toArray, List.set_cons_zero, List.set_cons_succ]
          refine wpAny_take (i := 9) (oi := { dst := some 52, op := .extract (.tmp 43) 0, type := _, pos := _, after := _, guard := none }) (v := ?_) rfl (by kernel_rfl) (by kernel_rfl) (by kernel_rfl) (fun _ _ _ h => h) (Or.inl ⟨by rfl, ?_⟩) ?_
          rotate_left
          · intro w; go_simp; with_reducible rfl
          simp only [Act.put, List.setIfInBounds_toArray, List.set_cons_zero, List.set_cons_succ]
          refine wpAny_take (i := 10) (oi := { dst := some 53, op := .extract (.tmp 43) 1, type := _, pos := _, after := _, guard := none }) (v := ?_) rfl (by kernel_rfl) (by kernel_rfl) (by kernel_rfl) (fun _ _ _ h => h) (Or.inl ⟨by rfl, ?_⟩) ?_
          rotate_left
          · intro w; go_simp; with_reducible rfl
          simp only [Act.put, List.setIfInBounds_toArray, List.set_cons_zero, List.set_cons_succ]
          refine wpAny_take (i := 11) (oi := { dst := some 54, op := .nilCheck (.tmp 44), type := _, pos := _, after := _, guard := none }) (v := ?_) rfl (by kernel_rfl) (by kernel_rfl) (by kernel_rfl) (fun _ _ _ h => h) (Or.inl ⟨by rfl, ?_⟩) ?_
          rotate_left
          · intro w; go_simp; with_reducible rfl
          simp only [Act.put, List.setIfInBounds_toArray, List.set_cons_zero, List.set_cons_succ]
          refine wpAny_take (i := 12) (oi := { dst := some 55, op := .fieldAddr 48 (.tmp 54) 0, type := _, pos := _, after := _, guard := none }) (v := ?_) rfl (by kernel_rfl) (by kernel_rfl) (by kernel_rfl) (fun _ _ _ h => h) (Or.inl ⟨by rfl, ?_⟩) ?_
          rotate_left
          · intro w; go_simp; with_reducible rfl
          simp only [Act.put, List.setIfInBounds_toArray, List.set_cons_zero, List.set_cons_succ]
          refine wpAny_ready (rs := [13]) (by kernel_rfl) (by simp) ?_
          refine AllReady.cons (o := { dst := none, op := .store 46 (.tmp 55) (.tmp 52), type := _, pos := _, after := _, guard := none }) rfl (fun K hK => ?_) AllReady.nil
          rw [if_pos (by rfl)]
          refine wp_store_mid 46 _ _ rfl Lb 0 (vals (lrn M b bs x)).toArray rfl rfl (by rw [size_vals, (MM.out x).1]; exact (HM4.out.drew.bel b5).there 0 195 (by rw [List.length_append, ML.out]; simp)) (by rw [size26, size_vals, (MM.out x).1]) (vals_one _) ?_
          refine hK _ _ ?_
          clear hK K
          simp only [Act.put, List.setIfInBounds_toArray, List.set_cons_zero, List.set_cons_succ, List.toList_toArray]
          refine wpAny_done (by kernel_rfl) ?_ _
          have B5 : Bel w4 w5 := (Bel.refl w4).drew.trans b5
          have X5 : Exc (fun k => k = Lb) w4 (w5.setCells Lb 0 (vals (lrn M b bs x))) := Exc.setCells (S := fun k => k = Lb) (B := Lb) (fun _ => rfl) _ 0 (Exc.of_bel B5)
          have HM6 : Hid (Holds (w5.setCells Lb 0 (vals (lrn M b bs x))) Lb (lrn M b bs x ++ [b])) := holds_model (HM4.out.bel B5) ML.out _ (MM.out x).1
          have ST6 : Hid (St (w5.setCells Lb 0 (vals (lrn M b bs x))) t') := HS.out _ _ _ ST4.out (fun k hk hq => X5.block k (by have := N4.out; omega) hq)
          have RW6 : Hid ((w5.setCells Lb 0 (vals (lrn M b bs x))).ownsRow N 3 1 (.slice ao n cap) bs.length (vals bs)) := X5.owns RW4.out (fun k hk => by have := AT.out; omega)
          have XW6 : Hid (Exc (fun k => k = Lb ∨ k = P) w (w5.setCells Lb 0 (vals (lrn M b bs x)))) := XW4.out.trans X5 (fun _ _ h => .inl h)
          have N6 : Hid (N ≤ (w5.setCells Lb 0 (vals (lrn M b bs x))).heap.size) := (by have := X5.size; have := N4.out; omega : N ≤ (w5.setCells Lb 0 (vals (lrn M b bs x))).heap.size)
          clear b5 B5 X5 HM4 TW4 RW4 XW4 N4 ST4 HC4 e0 e1 e2 LQ PR
          generalize w5.setCells Lb 0 (vals (lrn M b bs x)) = w6 at *
          obtain ⟨e, ke⟩ : ∃ e, e = bs.length := ⟨_, rfl⟩
          have rw6 := RW6.out
          rw [← KI.out.2.2.1] at rw6
          have R6 : Hid (w6.ownsRow N 3 1 (.slice ao n cap) n (vals bs)) := rw6
          clear rw6 RW6 ke e
          have c3 : Hid (n + 1 ≤ maxLen) := (by unfold maxLen; omega : n + 1 ≤ maxLen)
          have c4 : Hid ((n + 1) * 8 ≤ 140737488355328) := (by omega : (n + 1) * 8 ≤ 140737488355328)
          have sz : Hid (N ≤ (w6.alloc (.cells #[.int .i64 x] 3)).heap.size) := (by have := N6.out; simp; omega : N ≤ (w6.alloc (.cells #[.int .i64 x] 3)).heap.size)
          go_wp2_with (at_builtin; refine wpList_append_own _ rfl (.tmp 56) (.tmp 58) 22 rfl N 3 i0 (.int .i64 0) 1 8 Tryd.underlying22 hz hz0 hz1 hz2 rfl (by decide) _ n _ rfl (R6.out.alloc _) ⟨w6.heap.size, 0, none⟩ 1 1 (vals [x]) rfl rfl (one_cell _ _) (ints_oneCell _ _) c3.out c4.out sz.out ?_)
          intro v' w7 ho hg _
          have ho2 : w7.ownsRow N 3 1 v' (n + 1) (vals (bs ++ [x])) := by rw [vals_append]; exact ho
          obtain ⟨ao2, cap2, rfl, q1, q2, q3, q4⟩ := owns_slc ho2
          have own : ∀ k, (Value.slice ao n cap).ownBlock = some k → N ≤ k := fun k hk => (R6.out.lt k hk).1
          have X7 : Exc (fun k => N ≤ k) w6 w7 := ((Exc.refl _ w6).alloc _).grown hg (fun k hk _ => own k hk)
          have WW : Hid (n + 1 = (bs ++ [x]).length ∧ n + 1 ≤ cap2 ∧ cap2 ≤ maxLen ∧ Slc w7 ao2 (bs ++ [x]) ∧ Way N Lb P St Inv nxt R b w w7 (lrn M b bs x) t' (bs ++ [x]) (.slice ao2 (n + 1) cap2)) :=
            ⟨q3, q1, q2, q4, ⟨by rw [← q3, show 65 - (n + 1) = 64 - n by omega]; exact RR.out, (MM.out x).1, (MM.out x).2, Ctx.bits_snoc KI.out.2.1 I2.out.2, I2.out.1, X7.holds HM6.out (by have := AT.out; omega), HS.out _ _ _ ST6.out (fun k hk _ => X7.block k (by have := N6.out; omega) (by omega)), by rw [← q3]; exact ho2, XW6.out.trans X7 (fun i hi h => by have := AT.out.1; omega)⟩⟩
          clear ho ho2 hg q1 q2 q3 q4 own X7 R6 XW6 HM6 ST6 RR KI I2 MM c3 c4 sz N6
          go_wp2
          go_roundw
          case rel => exact ⟨bs ++ [x], lrn M b bs x, t', n + 1, cap2, ao2, rfl, by omega, WW⟩
          case measure => simp [lenOf]; omega
        · rw [if_pos (by rfl)]
          refine wp_load_mid 44 _ rfl Cb 0 rfl (vals [(A : Int), (B : Int), (C : Int)]) _ HC4.out.drew.range Tryd.underlying44 rfl (by kernel_rfl) ?_
          refine hK _ _ ?_
          clear hK K
          simp only [Act.put, List.setIfInBounds_toArray, List.set_cons_zero, List.set_cons_succ]
          refine wpAny_ready (rs := [4]) (by kernel_rfl) (by simp) ?_
          refine AllReady.cons (o := { dst := some 48, op := .load 46 (.tmp 47), type := _, pos := _, after := _, guard := none }) rfl (fun K hK => ?_) AllReady.nil
          rw [if_pos (by rfl)]
          refine wp_load_mid 46 _ rfl Lb 0 rfl (vals M) _ (holds_front HM4.out).drew.range Tryd.underlying46 rfl (by rw [size26, vals_length, ML.out]) ?_
          refine hK _ _ ?_
          clear hK K
          simp only [Act.put, List.setIfInBounds_toArray, List.set_cons_zero, List.set_cons_succ]
          refine wpAny_ready (rs := [7]) (by kernel_rfl) (by simp) ?_
          refine AllReady.cons (o := { dst := some 51, op := .call { callee := .value (.func 33), args := #[.tmp 48, .tmp 49, .tmp 50], argTypes := _ }, type := _, pos := _, after := _, guard := none }) rfl (fun K hK => ?_) AllReady.nil
          go_simp
          refine (LQ.out x _ I2.out.2 (tab_bel TW4.out (Bel.refl _).drew)).mono ?_
          rintro e w5 ⟨rfl, b5⟩
          go_wp2_with fail
          refine wpAny_take (i := 8) (oi := { dst := some 43, op := .move (.tmp 51), type := _, pos := _, after := _, guard := none }) (v := ?_) rfl (by kernel_rfl) (by kernel_rfl) (by kernel_rfl) (fun _ _ _ h => h) (Or.inl ⟨by rfl, ?_⟩) ?_
          rotate_left
          · intro w; go_simp; with_reducible rfl
          simp only [Act.put, List.setIfInBounds_toArray, List.set_cons_zero, List.set_cons_succ]
          refine wpAny_take (i := 9) (oi := { dst := some 52, op := .extract (.tmp 43) 0, type := _, pos := _, after := _, guard := none }) (v := ?_) rfl (by kernel_rfl) (by kernel_rfl) (by kernel_rfl) (fun _ _ _ h => h) (Or.inl ⟨by rfl, ?_⟩) ?_
          rotate_left
          · intro w; go_simp; with_reducible rfl
          simp only [Act.put, List.setIfInBounds_toArray, List.set_cons_zero, List.set_cons_succ]
          refine wpAny_take (i := 10) (oi := { dst := some 53, op := .extract (.tmp 43) 1, type := _, pos := _, after := _, guard := none }) (v := ?_) rfl (by kernel_rfl) (by kernel_rfl) (by kernel_rfl) (fun _ _ _ h => h) (Or.inl ⟨by rfl, ?_⟩) ?_
          rotate_left
          · intro w; go_simp; with_reducible rfl
          simp only [Act.put, List.setIfInBounds_toArray, List.set_cons_zero, List.set_cons_succ]
          refine wpAny_take (i := 11) (oi := { dst := some 54, op := .nilCheck (.tmp 44), type := _, pos := _, after := _, guard := none }) (v := ?_) rfl (by kernel_rfl) (by kernel_rfl) (by kernel_rfl) (fun _ _ _ h => h) (Or.inl ⟨by rfl, ?_⟩) ?_
          rotate_left
          · intro w; go_simp; with_reducible rfl
          simp only [Act.put, List.setIfInBounds_toArray, List.set_cons_zero, List.set_cons_succ]
          refine wpAny_take (i := 12) (oi := { dst := some 55, op := .fieldAddr 48 (.tmp 54) 0, type := _, pos := _, after := _, guard := none }) (v := ?_) rfl (by kernel_rfl) (by kernel_rfl) (by kernel_rfl) (fun _ _ _ h => h) (Or.inl ⟨by rfl, ?_⟩) ?_
          rotate_left
          · intro w; go_simp; with_reducible rfl
          simp only [Act.put, List.setIfInBounds_toArray, List.set_cons_zero, List.set_cons_succ]
          refine wpAny_ready (rs := [13]) (by kernel_rfl) (by simp) ?_
          refine AllReady.cons (o := { dst := none, op := .store 46 (.tmp 55) (.tmp 52), type := _, pos := _, after := _, guard := none }) rfl (fun K hK => ?_) AllReady.nil
          rw [if_pos (by rfl)]
          refine wp_store_mid 46 _ _ rfl Lb 0 (vals (lrn M b bs x)).toArray rfl rfl (by rw [size_vals, (MM.out x).1]; exact (HM4.out.drew.bel b5).there 0 195 (by rw [List.length_append, ML.out]; simp)) (by rw [size26, size_vals, (MM.out x).1]) (vals_one _) ?_
          refine hK _ _ ?_
          clear hK K
          simp only [Act.put, List.setIfInBounds_toArray, List.set_cons_zero, List.set_cons_succ, List.toList_toArray]
          refine wpAny_done (by kernel_rfl) ?_ _
          have B5 : Bel w4 w5 := (Bel.refl w4).drew.trans b5
          have X5 : Exc (fun k => k = Lb) w4 (w5.setCells Lb 0 (vals (lrn M b bs x))) := Exc.setCells (S := fun k => k = Lb) (B := Lb) (fun _ => rfl) _ 0 (Exc.of_bel B5)
          have HM6 : Hid (Holds (w5.setCells Lb 0 (vals (lrn M b bs x))) Lb (lrn M b bs x ++ [b])) := holds_model (HM4.out.bel B5) ML.out _ (MM.out x).1
          have ST6 : Hid (St (w5.setCells Lb 0 (vals (lrn M b bs x))) t') := HS.out _ _ _ ST4.out (fun k hk hq => X5.block k (by have := N4.out; omega) hq)
          have RW6 : Hid ((w5.setCells Lb 0 (vals (lrn M b bs x))).ownsRow N 3 1 (.slice ao n cap) bs.length (vals bs)) := X5.owns RW4.out (fun k hk => by have := AT.out; omega)
          have XW6 : Hid (Exc (fun k => k = Lb ∨ k = P) w (w5.setCells Lb 0 (vals (lrn M b bs x)))) := XW4.out.trans X5 (fun _ _ h => .inl h)
          have N6 : Hid (N ≤ (w5.setCells Lb 0 (vals (lrn M b bs x))).heap.size) := (by have := X5.size; have := N4.out; omega : N ≤ (w5.setCells Lb 0 (vals (lrn M b bs x))).heap.size)
          clear b5 B5 X5 HM4 TW4 RW4 XW4 N4 ST4 HC4 e0 e1 e2 LQ PR
          generalize w5.setCells Lb 0 (vals (lrn M b bs x)) = w6 at *
          obtain ⟨e, ke⟩ : ∃ e, e = bs.length := ⟨_, rfl⟩
          have rw6 := RW6.out
          rw [← KI.out.2.2.1] at rw6
          have R6 : Hid (w6.ownsRow N 3 1 (.slice ao n cap) n (vals bs)) := rw6
          clear rw6 RW6 ke e
          have c3 : Hid (n + 1 ≤ maxLen) := (by unfold maxLen; omega : n + 1 ≤ maxLen)
          have c4 : Hid ((n + 1) * 8 ≤ 140737488355328) := (by omega : (n + 1) * 8 ≤ 140737488355328)
          have sz : Hid (N ≤ (w6.alloc (.cells #[.int .i64 x] 3)).heap.size) := (by have := N6.out; simp; omega : N ≤ (w6.alloc (.cells #[.int .i64 x] 3)).heap.size)
          go_wp2_with (at_builtin; refine wpList_append_own _ rfl (.tmp 56) (.tmp 58) 22 rfl N 3 i0 (.int .i64 0) 1 8 Tryd.underlying22 hz hz0 hz1 hz2 rfl (by decide) _ n _ rfl (R6.out.alloc _) ⟨w6.heap.size, 0, none⟩ 1 1 (vals [x]) rfl rfl (one_cell _ _) (ints_oneCell _ _) c3.out c4.out sz.out ?_)
          intro v' w7 ho hg _
          have ho2 : w7.ownsRow N 3 1 v' (n + 1) (vals (bs ++ [x])) := by rw [vals_append]; exact ho
          obtain ⟨ao2, cap2, rfl, q1, q2, q3, q4⟩ := owns_slc ho2
          have own : ∀ k, (Value.slice ao n cap).ownBlock = some k → N ≤ k := fun k hk => (R6.out.lt k hk).1
          have X7 : Exc (fun k => N ≤ k) w6 w7 := ((Exc.refl _ w6).alloc _).grown hg (fun k hk _ => own k hk)
          have WW : Hid (n + 1 = (bs ++ [x]).length ∧ n + 1 ≤ cap2 ∧ cap2 ≤ maxLen ∧ Slc w7 ao2 (bs ++ [x]) ∧ Way N Lb P St Inv nxt R b w w7 (lrn M b bs x) t' (bs ++ [x]) (.slice ao2 (n + 1) cap2)) :=
            ⟨q3, q1, q2, q4, ⟨by rw [← q3, show 65 - (n + 1) = 64 - n by omega]; exact RR.out, (MM.out x).1, (MM.out x).2, Ctx.bits_snoc KI.out.2.1 I2.out.2, I2.out.1, X7.holds HM6.out (by have := AT.out; omega), HS.out _ _ _ ST6.out (fun k hk _ => X7.block k (by have := N6.out; omega) (by omega)), by rw [← q3]; exact ho2, XW6.out.trans X7 (fun i hi h => by have := AT.out.1; omega)⟩⟩
          clear ho ho2 hg q1 q2 q3 q4 own X7 R6 XW6 HM6 ST6 RR KI I2 MM c3 c4 sz N6
          go_wp2
          go_roundw
          case rel => exact ⟨bs ++ [x], lrn M b bs x, t', n + 1, cap2, ao2, rfl, by omega, WW⟩
          case measure => simp [lenOf]; omega
      · have ON : Hid (Calls Tryd.prog 31 #[.int .i64 b, .slice ao n cap] wr fun e w' => e = .returned (.tuple #[.agg #[.int .i64 0, .int .i64 0, .int .i64 0], .int .i64 1200]) ∧ Bel wr w') := Ctx.of_no b ao bs n cap K.out.1 (by unfold maxLen; omega) (fun h => by have := h.2.2.1; rw [← K.out.1] at this; omega) wr K.out.2.2.2.1
        have RN := K.out.2.2.2.2.run
        rw [← K.out.1, fuel nxt n hn, hw, if_neg (by simp), if_pos (by rw [← K.out.1]; omega)] at RN
        have RR : Hid (none = R) := RN
        have XW : Hid (Exc (fun k => k = Lb ∨ k = P) w wr) := K.out.2.2.2.2.exc
        clear RN hw K
        go_wp2_with fail
        refine IW.out.mono ?_
        rintro e w1 ⟨rfl, rfl⟩
        clear IW
        go_wp2_with fail
        refine ON.out.mono ?_
        rintro e w2 ⟨rfl, b2⟩
        have X2 : Hid (Exc (fun k => k = Lb ∨ k = P) w w2) := XW.out.bel b2
        clear ON b2 XW c5
        go_wp2
        go_ret2
        refine ⟨?_, X2.out.alloc _⟩
        rw [← RR.out]
        rfl
    · rw [hw] at IW
      have RN := K.out.2.2.2.2.run
      rw [← K.out.1, fuel nxt n hn, hw, if_pos rfl] at RN
      have f5 := K.out.2.2.2.2.mem.free 195 (by rw [List.length_append, K.out.2.2.2.2.len]; simp)
      have HE : Hid (∀ y : Int, y = ((bs.length / 2 : Nat) : Int) → Ends N Lb P St Inv (wr.setCell ⟨Lb, 195, none⟩ (.int .i64 y)) (.returned (.tuple #[.slice ao n cap, .bool true])) R ∧ Exc (fun k => k = Lb ∨ k = P) w (wr.setCell ⟨Lb, 195, none⟩ (.int .i64 y))) := fun y hy => by
        obtain ⟨hN, hLb, hP, hLP, h0, h1⟩ := AT.out
        obtain ⟨k1, k2, k3, k4, k5⟩ := K.out
        have rb := row_block k5.row
        subst k1 hy RN
        have hh := k5.mem.set 195 (by rw [List.length_append, k5.len]; simp) ((bs.length / 2 : Nat) : Int)
        rw [set_last k5.len] at hh
        refine ⟨⟨⟨ao, cap, rfl, k2, k3, slc_put1 k4 (fun x hx => by have := rb x hx; omega), rb⟩, hh, HS.out _ _ _ k5.st (fun k hk hq => Below.heap_setCell _ _ _ _ hq), k5.len, k5.may, k5.inv, hw, k5.b01, hn⟩, k5.exc.setCell (fun _ => .inl rfl) _⟩
      have HD : Hid ((n : Int) / 2 = ((bs.length / 2 : Nat) : Int)) := (by rw [← K.out.1]; omega : (n : Int) / 2 = ((bs.length / 2 : Nat) : Int))
      clear K RN
      go_wp2_with fail
      refine IW.out.mono ?_
      rintro e w1 ⟨rfl, rfl⟩
      go_wp2
      go_ret2
      exact HE.out _ HD.out

end Go.Proofs.YtocnlefpbcnlmaaDoor.Res
