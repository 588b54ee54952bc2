/-
  LmsHistory answers true for every row of ints. Condition: the row is there.
-/
import Derived.Test.YtjckeagbimfonaaLAwake
import Derived.Deep.RegionHeld3
namespace Go.Proofs.Ytjckeagbimfonaa.Lin
open Go.RowKit Go.Sort Go.Proofs.Ytjckeagbimfonaa.Mod Go.Proofs.Ytjckeagbimfonaa.Num
set_option linter.unusedVariables false
set_option linter.unusedSimpArgs false

/-- Behind n numbers: the last one first. -/
structure Hist (f : Nat → Int) (n : Nat) (L : List Int) : Prop where
  len : L.length = 16
  may : mayL L = true
  num : ∀ k, k < 8 → L.getD (8 + k) 0 = if k < n then f (n - 1 - k) else 0

theorem hist_zero (f : Nat → Int) : Hist f 0 zeros16 := ⟨zeros16_len, zeros16_may, fun k hk => by rw [zeros16_get, if_neg (by omega)]⟩

theorem Hist.step {f : Nat → Int} {n : Nat} {L : List Int} (h : Hist f n L) (hf : passed 4194304 (f n) = false) : Hist f (n + 1) (learn L (f n)) := by
  refine ⟨(learn_len _ _).trans h.len, may_learn h.len h.may _ hf, fun k hk => ?_⟩
  rw [learn_get L _ h.len (8 + k) (by omega), if_neg (show ¬ 8 + k < 8 by omega)]
  by_cases e : k = 0
  · subst e
    rw [if_pos rfl, if_pos (by omega)]
    rfl
  · rw [if_neg (by omega), show 8 + k - 1 = 8 + (k - 1) by omega, h.num (k - 1) (by omega)]
    by_cases g : k - 1 < n
    · rw [if_pos g, if_pos (by omega), show n - 1 - (k - 1) = n + 1 - 1 - k by omega]
    · rw [if_neg g, if_neg (by omega)]

/-- What is learned of a row. -/
def nth (xs : List Int) (j : Nat) : Int := xs.getD j 0 % 65536 - 30000

set_option maxRecDepth 20000 in
set_option maxHeartbeats 2000000 in
theorem history_few (ao : Option Addr) (xs : List Int) (n cap : Nat) (hn : n = xs.length) (hx : n ≤ maxLen) (hK : n ≤ 30) (w : World) (hS : Slc w ao xs) :
    Calls Try.prog 5 #[.slice ao n cap] w fun e w' => e = .returned (.bool true) ∧ Bel w w' := by
  unfold maxLen at hx
  have HS : Hid (Slc w ao xs) := hS
  have HN : Hid (n = xs.length ∧ n ≤ n) := ⟨hn, by omega⟩
  have LE : Hid (∀ (j : Nat) (L : List Int), Hist (nth xs) j L → ∃ A, Hist (nth xs) (j + 1) A ∧
      (∀ w, Calls Try.prog 11 #[mdl L, .int .i64 (nth xs j)] w fun e w' => e = .returned (.tuple #[mdl A, .int .i64 0]) ∧ Bel w w')) := fun j L h => by
    have hf : passed 4194304 (nth xs j) = false := passed_no.2 (by unfold nth; omega)
    exact ⟨learn L (nth xs j), h.step hf, learn_yes L h.len _ h.may hf⟩
  have NE : Hid (∀ j, xs.getD j 0 % 65536 - 30000 = nth xs j) := fun j => rfl
  have AM : Hid (∀ y, bits .and .i64 y 65535 = y % 65536) := and16
  have NZ : Hid (zeros16.length = 16) := zeros16_len
  have z := zero24
  clear hS hn
  go_enter Try.func5, Try.ntmps5
  go_wp2_with fail
  refine (awake_true _).mono ?_
  rintro e w1 ⟨rfl, b1⟩
  have h1 : Holds (w1.alloc (.cells (vals zeros16).toArray 24)) w1.heap.size zeros16 := holds_new w1 zeros16 _
  have c1 : Bel w (w1.alloc (.cells (vals zeros16).toArray 24)) := Bel.alloc b1 _
  have CC : Hid (w.heap.size ≤ w1.heap.size) := b1.size
  clear b1
  have mn : min (n : Int) 30 = (n : Int) := by omega
  have mn2 : (n : Int) ≤ 30 := by omega
  go_wp2_with fail
  generalize w1.alloc (.cells (vals zeros16).toArray 24) = W1 at *
  generalize w1.heap.size = C at *
  have H1 : Hid (Holds W1 C zeros16) := h1
  have C1 : Hid (Bel w W1) := c1
  clear h1 c1
  go_loopw [5] (fun i wr => ∃ (j : Nat) (L : List Int), j ≤ n ∧ i = .int .i64 (j : Int) ∧ Hid (Hist (nth xs) j L) ∧ Holds wr C L ∧ Bel w wr) (fun i _ => n - (intOf i).toNat)
  case atStart => exact ⟨0, zeros16, Nat.zero_le _, rfl, hist_zero _, H1.out, C1.out⟩
  case round =>
    obtain ⟨j, L, hj, rfl, F, h, b⟩ := hrel
    have H3 : Hid (Holds wr C L) := h
    have B3 : Hid (Bel w wr) := b
    have NL : Hid (L.length = 16) := F.out.len
    clear h b H1 C1
    by_cases hlt : j < n
    · have hd : decide ((j : Int) < (n : Int)) = true := decide_eq_true (by omega)
      have hi : (j : Int) < (n : Int) := by have := HN.out.2; omega
      have hi2 : (j : Int) < (n : Int) := by omega
      obtain ⟨a, rfl, kb⟩ := (HS.out.bel B3.out) j (by have := HN.out; omega)
      have am := AM.out (xs.getD j 0)
      have se := NE.out j
      obtain ⟨A, fA, lA⟩ := LE.out j L F.out
      generalize nth xs j = s at *
      generalize xs.getD j 0 = y at *
      obtain ⟨m, hm⟩ : ∃ m, y % 65536 = m := ⟨_, rfl⟩
      rw [hm] at am se
      have m0 : 0 ≤ m := by omega
      have m1 : m ≤ 65535 := by omega
      have SE : Hid (m - 30000 = s) := se
      have SW : Hid (IntKind.i64.wrap (m - 30000) = m - 30000) := show _ = _ by rw [IntKind.wrap_i64]; omega
      have FA : Hid (Hist (nth xs) (j + 1) A) := fA
      have NA : Hid (A.length = 16) := fA.len
      have MA : Hid (∀ w, Calls Try.prog 14 #[mdl A] w fun e w' => e = .returned (.bool true) ∧ Bel w w') := fun w => fA.may ▸ may_ok A fA.len w
      have LQ : Hid (∀ z, z = s → ∀ w, Calls Try.prog 11 #[mdl L, .int .i64 z] w fun e w' => e = .returned (.tuple #[mdl A, .int .i64 0]) ∧ Bel w w') := fun z hz => hz ▸ lA
      have HJ : Hid (j + 1 ≤ n) := hlt
      clear hm se fA lA hlt hj LE F
      go_wp2_with fail
      try simp only [Act.put, List.setIfInBounds_toArray, List.set_cons_zero, List.set_cons_succ]
      go_cut [6, 7] from 20 to 30 (fun v6 v7 wx => ∃ X, v6 = .pointer (some ⟨X, 0, none⟩) ∧ v7 = .int .i64 0 ∧ wr.heap.size ≤ X ∧ Holds wx X A ∧ Bel wr wx)
      case first =>
        refine wp_region_held_drew (S := fun wx => Bel wr wx) (by kernel_rfl) (Bel.refl wr).drew (fun hHeld => ?_)
        obtain ⟨V0, hV0⟩ : ∃ V, V = World.drew wr := ⟨_, rfl⟩
        rw [← hV0] at hHeld ⊢
        have esw : V0.heap.size = (wr).heap.size := by rw [hV0]; rfl
        have ESW : Hid (V0.heap.size = (wr).heap.size) := esw
        clear esw hV0
        refine wpAnyH_take (i := 1) (oi := { dst := some 22, op := .move (.tmp 0), type := _, pos := _, after := _, guard := none }) (v := ?_) rfl (by kernel_rfl) (by kernel_rfl) (by kernel_rfl) (fun _ _ _ h => h) (Or.inl ⟨by rfl, ?_⟩) hHeld ?_
        rotate_left
        · intro wx hSw; clear hSw; go_simp; with_reducible rfl
        try simp only [Act.put, List.setIfInBounds_toArray, List.set_cons_zero, List.set_cons_succ]
        refine wpAnyH_take (i := 2) (oi := { dst := some 23, op := .move (.tmp 5), type := _, pos := _, after := _, guard := none }) (v := ?_) rfl (by kernel_rfl) (by kernel_rfl) (by kernel_rfl) (fun _ _ _ h => h) (Or.inl ⟨by rfl, ?_⟩) hHeld ?_
        rotate_left
        · intro wx hSw; clear hSw; go_simp; with_reducible rfl
        try simp only [Act.put, List.setIfInBounds_toArray, List.set_cons_zero, List.set_cons_succ]
        refine wpAnyH_take (i := 0) (oi := { dst := some 21, op := .load 24 (.tmp 3), type := _, pos := _, after := _, guard := none }) (v := _) rfl (by kernel_rfl) (by kernel_rfl) (by kernel_rfl) (fun _ _ _ h => h) (yieldsIf_load_mid (by rfl) 24 _ rfl C 0 rfl (vals L) _ (fun wx hSw => (H3.out.bel hSw).range) Try.underlying24 rfl (by rw [size24, vals_length, NL.out])) hHeld ?_
        try simp only [Act.put, List.setIfInBounds_toArray, List.set_cons_zero, List.set_cons_succ]
        refine wpAnyH_take (i := 3) (oi := { dst := some 24, op := .indexAddr 38 (.tmp 22) (.tmp 23), type := _, pos := _, after := _, guard := none }) (v := ?_) rfl (by kernel_rfl) (by kernel_rfl) (by kernel_rfl) (fun _ _ _ h => h) (Or.inl ⟨by rfl, ?_⟩) hHeld ?_
        rotate_left
        · intro wx hSw; clear hSw; go_simp; with_reducible rfl
        try simp only [Act.put, List.setIfInBounds_toArray, List.set_cons_zero, List.set_cons_succ]
        refine wpAnyH_take (i := 4) (oi := { dst := some 25, op := .load 3 (.tmp 24), type := _, pos := _, after := _, guard := none }) (v := ?_) rfl (by kernel_rfl) (by kernel_rfl) (by kernel_rfl) (fun _ _ _ h => h) (Or.inl ⟨by rfl, ?_⟩) hHeld ?_
        rotate_left
        · intro wx hSw; have y0 := Bel.keep hSw kb; clear hSw; go_simp; with_reducible rfl
        try simp only [Act.put, List.setIfInBounds_toArray, List.set_cons_zero, List.set_cons_succ]
        refine wpAnyH_take (i := 5) (oi := { dst := some 26, op := .binOp .and 3 (.tmp 25) (.const (.int .i64 65535)) 3, type := _, pos := _, after := _, guard := none }) (v := ?_) rfl (by kernel_rfl) (by kernel_rfl) (by kernel_rfl) (fun _ _ _ h => h) (Or.inl ⟨by rfl, ?_⟩) hHeld ?_
        rotate_left
        · intro wx hSw; clear hSw; go_simp; with_reducible rfl
        try simp only [Act.put, List.setIfInBounds_toArray, List.set_cons_zero, List.set_cons_succ]
        refine wpAnyH_take (i := 6) (oi := { dst := some 27, op := .binOp .sub 3 (.tmp 26) (.const (.int .i64 30000)) 3, type := _, pos := _, after := _, guard := none }) (v := ?_) rfl (by kernel_rfl) (by kernel_rfl) (by kernel_rfl) (fun _ _ _ h => h) (Or.inl ⟨by rfl, ?_⟩) hHeld ?_
        rotate_left
        · intro wx hSw; clear hSw; go_simp; with_reducible rfl
        try simp only [Act.put, List.setIfInBounds_toArray, List.set_cons_zero, List.set_cons_succ]
        have BV0 : Bel wr V0 := hHeld
        clear hHeld
        refine wpAnyH_ready (rs := [7, 11]) (by kernel_rfl) (by simp) ?_
        refine (AllReadyH.cons (o := { dst := some 28, op := .call { callee := .value (.func 11), args := #[.tmp 21, .tmp 27], argTypes := _ }, type := _, pos := _, after := _, guard := none }) rfl (fun K hK => ?_) (AllReadyH.cons (o := { dst := some 6, op := .alloc 24, type := _, pos := _, after := _, guard := none }) rfl (fun K hK => ?_) AllReadyH.nil))
        · go_simp
          refine (LQ.out _ (by first | exact SE.out | (rw [SW.out]; exact SE.out)) _).mono ?_
          rintro e w3 ⟨rfl, b3⟩
          go_wp2_with fail
          have B3 : Bel wr w3 := BV0.trans b3
          have SZ : Hid (V0.heap.size ≤ w3.heap.size) := b3.size
          refine hK.out _ _ (B3) (fun _ => ?_)
          clear hK K
          try simp only [Act.put, List.setIfInBounds_toArray, List.set_cons_zero, List.set_cons_succ]
          refine wpAnyH_take (i := 8) (oi := { dst := some 20, op := .move (.tmp 28), type := _, pos := _, after := _, guard := none }) (v := ?_) rfl (by kernel_rfl) (by kernel_rfl) (by kernel_rfl) (fun _ _ _ h => h) (Or.inl ⟨by rfl, ?_⟩) B3 ?_
          rotate_left
          · intro wx hSw; clear hSw; go_simp; with_reducible rfl
          try simp only [Act.put, List.setIfInBounds_toArray, List.set_cons_zero, List.set_cons_succ]
          refine wpAnyH_take (i := 9) (oi := { dst := some 29, op := .extract (.tmp 20) 0, type := _, pos := _, after := _, guard := none }) (v := ?_) rfl (by kernel_rfl) (by kernel_rfl) (by kernel_rfl) (fun _ _ _ h => h) (Or.inl ⟨by rfl, ?_⟩) B3 ?_
          rotate_left
          · intro wx hSw; clear hSw; go_simp; with_reducible rfl
          try simp only [Act.put, List.setIfInBounds_toArray, List.set_cons_zero, List.set_cons_succ]
          refine wpAnyH_take (i := 10) (oi := { dst := some 30, op := .extract (.tmp 20) 1, type := _, pos := _, after := _, guard := none }) (v := ?_) rfl (by kernel_rfl) (by kernel_rfl) (by kernel_rfl) (fun _ _ _ h => h) (Or.inl ⟨by rfl, ?_⟩) B3 ?_
          rotate_left
          · intro wx hSw; clear hSw; go_simp; with_reducible rfl
          try simp only [Act.put, List.setIfInBounds_toArray, List.set_cons_zero, List.set_cons_succ]
          refine wpAnyH_ready (rs := [11]) (by kernel_rfl) (by simp) ?_
          refine (AllReadyH.cons (o := { dst := some 6, op := .alloc 24, type := _, pos := _, after := _, guard := none }) rfl (fun K hK => ?_) AllReadyH.nil)
          have Bw3 : Bel wr w3 := B3
          go_simp
          refine hK.out _ _ (Bw3.alloc _) (fun _ => ?_)
          clear hK K
          try simp only [Act.put, List.setIfInBounds_toArray, List.set_cons_zero, List.set_cons_succ]
          obtain ⟨V1, hV1⟩ : ∃ V, V = World.alloc w3 (.cells (vals zeros16).toArray 24) := ⟨_, rfl⟩
          have BV1 : Bel wr V1 := hV1 ▸ Bw3.alloc _
          have HT : Holds V1 (w3.heap.size) zeros16 := hV1 ▸ holds_new w3 zeros16 24
          rw [← hV1]
          clear hV1
          refine wpAnyH_ready (rs := [12]) (by kernel_rfl) (by simp) ?_
          refine (AllReadyH.cons (o := { dst := none, op := .store 24 (.tmp 6) (.tmp 29), type := _, pos := _, after := _, guard := none }) rfl (fun K hK => ?_) AllReadyH.nil)
          rw [if_pos (by rfl)]
          refine wp_store_mid 24 _ _ rfl (w3.heap.size) 0 (vals A).toArray rfl rfl (by rw [size_vals, NA.out]; exact HT.there 0 16 (by rw [NZ.out]; omega)) (by rw [size24, size_vals, NA.out]) (vals_one _) ?_
          have B6 : Bel wr (World.setCells V1 (w3.heap.size) 0 (vals A)) := Bel.setCells (by have := ESW.out; have := SZ.out; omega) _ _ BV1
          refine hK.out _ _ (B6) (fun _ => ?_)
          clear hK K
          try simp only [Act.put, List.setIfInBounds_toArray, List.set_cons_zero, List.set_cons_succ]
          try simp only [List.toList_toArray]
          refine wpAnyH_take (i := 13) (oi := { dst := some 7, op := .assign (.tmp 30), type := _, pos := _, after := _, guard := none }) (v := ?_) rfl (by kernel_rfl) (by kernel_rfl) (by kernel_rfl) (fun _ _ _ h => h) (Or.inl ⟨by rfl, ?_⟩) B6 ?_
          rotate_left
          · intro wx hSw; clear hSw; go_simp; with_reducible rfl
          try simp only [Act.put, List.setIfInBounds_toArray, List.set_cons_zero, List.set_cons_succ]
          refine wpAnyH_done (by kernel_rfl) ?_ _
          go_wp2_with fail
          go_meet
          exact ⟨w3.heap.size, rfl, rfl, by have := ESW.out; have := SZ.out; omega, holds_all HT A (NZ.out.trans NA.out.symm), B6⟩
        · go_simp
          refine hK.out _ _ (BV0.alloc _) (fun _ => ?_)
          clear hK K
          try simp only [Act.put, List.setIfInBounds_toArray, List.set_cons_zero, List.set_cons_succ]
          obtain ⟨V1, hV1⟩ : ∃ V, V = World.alloc V0 (.cells (vals zeros16).toArray 24) := ⟨_, rfl⟩
          have BV1 : Bel wr V1 := hV1 ▸ BV0.alloc _
          have HT : Holds V1 (V0.heap.size) zeros16 := hV1 ▸ holds_new V0 zeros16 24
          rw [← hV1]
          clear hV1
          refine wpAnyH_ready (rs := [7]) (by kernel_rfl) (by simp) ?_
          refine (AllReadyH.cons (o := { dst := some 28, op := .call { callee := .value (.func 11), args := #[.tmp 21, .tmp 27], argTypes := _ }, type := _, pos := _, after := _, guard := none }) rfl (fun K hK => ?_) AllReadyH.nil)
          go_simp
          refine (LQ.out _ (by first | exact SE.out | (rw [SW.out]; exact SE.out)) _).mono ?_
          rintro e w3 ⟨rfl, b3⟩
          go_wp2_with fail
          have B3 : Bel wr w3 := BV1.trans b3
          have HT := HT.bel b3
          refine hK.out _ _ (B3) (fun _ => ?_)
          clear hK K
          try simp only [Act.put, List.setIfInBounds_toArray, List.set_cons_zero, List.set_cons_succ]
          refine wpAnyH_take (i := 8) (oi := { dst := some 20, op := .move (.tmp 28), type := _, pos := _, after := _, guard := none }) (v := ?_) rfl (by kernel_rfl) (by kernel_rfl) (by kernel_rfl) (fun _ _ _ h => h) (Or.inl ⟨by rfl, ?_⟩) B3 ?_
          rotate_left
          · intro wx hSw; clear hSw; go_simp; with_reducible rfl
          try simp only [Act.put, List.setIfInBounds_toArray, List.set_cons_zero, List.set_cons_succ]
          refine wpAnyH_take (i := 9) (oi := { dst := some 29, op := .extract (.tmp 20) 0, type := _, pos := _, after := _, guard := none }) (v := ?_) rfl (by kernel_rfl) (by kernel_rfl) (by kernel_rfl) (fun _ _ _ h => h) (Or.inl ⟨by rfl, ?_⟩) B3 ?_
          rotate_left
          · intro wx hSw; clear hSw; go_simp; with_reducible rfl
          try simp only [Act.put, List.setIfInBounds_toArray, List.set_cons_zero, List.set_cons_succ]
          refine wpAnyH_take (i := 10) (oi := { dst := some 30, op := .extract (.tmp 20) 1, type := _, pos := _, after := _, guard := none }) (v := ?_) rfl (by kernel_rfl) (by kernel_rfl) (by kernel_rfl) (fun _ _ _ h => h) (Or.inl ⟨by rfl, ?_⟩) B3 ?_
          rotate_left
          · intro wx hSw; clear hSw; go_simp; with_reducible rfl
          try simp only [Act.put, List.setIfInBounds_toArray, List.set_cons_zero, List.set_cons_succ]
          refine wpAnyH_ready (rs := [12]) (by kernel_rfl) (by simp) ?_
          refine (AllReadyH.cons (o := { dst := none, op := .store 24 (.tmp 6) (.tmp 29), type := _, pos := _, after := _, guard := none }) rfl (fun K hK => ?_) AllReadyH.nil)
          rw [if_pos (by rfl)]
          refine wp_store_mid 24 _ _ rfl (V0.heap.size) 0 (vals A).toArray rfl rfl (by rw [size_vals, NA.out]; exact HT.there 0 16 (by rw [NZ.out]; omega)) (by rw [size24, size_vals, NA.out]) (vals_one _) ?_
          have B6 : Bel wr (World.setCells w3 (V0.heap.size) 0 (vals A)) := Bel.setCells (by have := ESW.out; omega) _ _ B3
          refine hK.out _ _ (B6) (fun _ => ?_)
          clear hK K
          try simp only [Act.put, List.setIfInBounds_toArray, List.set_cons_zero, List.set_cons_succ]
          try simp only [List.toList_toArray]
          refine wpAnyH_take (i := 13) (oi := { dst := some 7, op := .assign (.tmp 30), type := _, pos := _, after := _, guard := none }) (v := ?_) rfl (by kernel_rfl) (by kernel_rfl) (by kernel_rfl) (fun _ _ _ h => h) (Or.inl ⟨by rfl, ?_⟩) B6 ?_
          rotate_left
          · intro wx hSw; clear hSw; go_simp; with_reducible rfl
          try simp only [Act.put, List.setIfInBounds_toArray, List.set_cons_zero, List.set_cons_succ]
          refine wpAnyH_done (by kernel_rfl) ?_ _
          go_wp2_with fail
          go_meet
          exact ⟨V0.heap.size, rfl, rfl, by have := ESW.out; omega, holds_all HT A (NZ.out.trans NA.out.symm), B6⟩
      obtain ⟨X, rfl, rfl, x1, x2, x3⟩ := hcut
      have A4 : Hid (Holds wc X A) := x2
      have H4 : Hid (Holds wc C L) := H3.out.bel x3
      have B4 : Hid (Bel w wc) := B3.out.trans x3
      clear x1 x2 x3 H3 B3
      go_wp2_with fail
      refine (num_ok _ _).mono ?_
      rintro e w4 ⟨rfl, rfl⟩
      go_wp2_with (first | (with_reducible refine wpl_load24g rfl A4.out NA.out rfl ?_))
      refine (MA.out _).mono ?_
      rintro e w5 ⟨rfl, b⟩
      have A5 : Hid (Holds w5 X A) := A4.out.bel b
      have H5 : Hid (Holds w5 C L) := H4.out.bel b
      have B5 : Hid (Bel w w5) := B4.out.trans b
      clear b A4 H4 B4
      go_wp2_with (first
        | (with_reducible refine wpl_load24 A5.out NA.out rfl ?_)
        | ((with_reducible refine wpl_store24w B5.out H5.out CC.out NL.out NA.out rfl rfl ?_); intro V VH VB VO))
      go_roundw
      case rel => exact ⟨j + 1, A, HJ.out, by go_num, FA, VH.out, VB.out⟩
      case measure => simp [intOf]; have := HJ.out; omega
    · have hd : decide ((j : Int) < (n : Int)) = false := decide_eq_false (by omega)
      have hi2 : ¬ (j : Int) < (n : Int) := by omega
      have HF : Hid (∀ k, k < 8 → L.getD (8 + k) 0 = if k < n then nth xs (n - 1 - k) else 0) := by
        have e : j = n := by omega
        have := F.out.num
        rw [e] at this
        exact this
      clear F LE
      go_wp2_with fail
      go_loopw [8] (fun i wx => ∃ k : Nat, k ≤ 8 ∧ i = .int .i64 (k : Int) ∧ Holds wx C L ∧ Bel w wx) (fun i _ => 8 - (intOf i).toNat)
      case atStart => exact ⟨0, by omega, rfl, H3.out, B3.out⟩
      case round =>
        obtain ⟨k, hk, rfl, h, b⟩ := hrel
        have H6 : Hid (Holds wr C L) := h
        have B6 : Hid (Bel w wr) := b
        clear h b H3 B3
        by_cases hkt : k < 8
        · have hd9 : decide ((k : Int) < 8) = true := decide_eq_true (by omega)
          have c1 := H6.out.cell (8 + k) (by rw [NL.out]; omega)
          rw [HF.out k hkt] at c1
          by_cases hkk : k < n
          · rw [if_pos hkk] at c1
            obtain ⟨q, hq⟩ : ∃ q : Nat, q = n - 1 - k := ⟨_, rfl⟩
            rw [← hq] at c1
            have hq2 : (n : Int) - 1 - (k : Int) = (q : Int) := by omega
            have hq3 : (q : Int) < (n : Int) := by have := HN.out.2; omega
            have qn : q < xs.length := by have := HN.out; omega
            obtain ⟨a, rfl, kb⟩ := (HS.out.bel B6.out) q qn
            have am := AM.out (xs.getD q 0)
            rw [← NE.out q] at c1
            generalize xs.getD q 0 = y at *
            obtain ⟨m, hm⟩ : ∃ m, y % 65536 = m := ⟨_, rfl⟩
            rw [hm] at am c1
            have m0 : 0 ≤ m := by omega
            have m1 : m ≤ 65535 := by omega
            clear hm hq qn hkk
            go_wp2
            go_roundw
            case rel => exact ⟨k + 1, by omega, by go_num, H6.out, B6.out⟩
            case measure => simp [intOf]; omega
          · rw [if_neg hkk] at c1
            have hq2 : (n : Int) - 1 - (k : Int) < 0 := by omega
            go_wp2
            go_roundw
            case rel => exact ⟨k + 1, by omega, by go_num, H6.out, B6.out⟩
            case measure => simp [intOf]; omega
        · have hd9 : decide ((k : Int) < 8) = false := decide_eq_false (by omega)
          go_wp2
          go_ret
          exact ⟨rfl, B6.out⟩

set_option maxRecDepth 20000 in
set_option maxHeartbeats 2000000 in
theorem history_many (ao : Option Addr) (xs : List Int) (n cap : Nat) (hn : n = xs.length) (hx : n ≤ maxLen) (hK : 30 < n) (w : World) (hS : Slc w ao xs) :
    Calls Try.prog 5 #[.slice ao n cap] w fun e w' => e = .returned (.bool true) ∧ Bel w w' := by
  unfold maxLen at hx
  have HS : Hid (Slc w ao xs) := hS
  have HN : Hid (n = xs.length ∧ 30 ≤ n) := ⟨hn, by omega⟩
  have LE : Hid (∀ (j : Nat) (L : List Int), Hist (nth xs) j L → ∃ A, Hist (nth xs) (j + 1) A ∧
      (∀ w, Calls Try.prog 11 #[mdl L, .int .i64 (nth xs j)] w fun e w' => e = .returned (.tuple #[mdl A, .int .i64 0]) ∧ Bel w w')) := fun j L h => by
    have hf : passed 4194304 (nth xs j) = false := passed_no.2 (by unfold nth; omega)
    exact ⟨learn L (nth xs j), h.step hf, learn_yes L h.len _ h.may hf⟩
  have NE : Hid (∀ j, xs.getD j 0 % 65536 - 30000 = nth xs j) := fun j => rfl
  have AM : Hid (∀ y, bits .and .i64 y 65535 = y % 65536) := and16
  have NZ : Hid (zeros16.length = 16) := zeros16_len
  have z := zero24
  clear hS hn
  go_enter Try.func5, Try.ntmps5
  go_wp2_with fail
  refine (awake_true _).mono ?_
  rintro e w1 ⟨rfl, b1⟩
  have h1 : Holds (w1.alloc (.cells (vals zeros16).toArray 24)) w1.heap.size zeros16 := holds_new w1 zeros16 _
  have c1 : Bel w (w1.alloc (.cells (vals zeros16).toArray 24)) := Bel.alloc b1 _
  have CC : Hid (w.heap.size ≤ w1.heap.size) := b1.size
  clear b1
  have mn : min (n : Int) 30 = 30 := by omega
  have mn2 : (30 : Int) < (n : Int) := by omega
  go_wp2_with fail
  generalize w1.alloc (.cells (vals zeros16).toArray 24) = W1 at *
  generalize w1.heap.size = C at *
  have H1 : Hid (Holds W1 C zeros16) := h1
  have C1 : Hid (Bel w W1) := c1
  clear h1 c1
  go_loopw [5] (fun i wr => ∃ (j : Nat) (L : List Int), j ≤ 30 ∧ i = .int .i64 (j : Int) ∧ Hid (Hist (nth xs) j L) ∧ Holds wr C L ∧ Bel w wr) (fun i _ => 30 - (intOf i).toNat)
  case atStart => exact ⟨0, zeros16, Nat.zero_le _, rfl, hist_zero _, H1.out, C1.out⟩
  case round =>
    obtain ⟨j, L, hj, rfl, F, h, b⟩ := hrel
    have H3 : Hid (Holds wr C L) := h
    have B3 : Hid (Bel w wr) := b
    have NL : Hid (L.length = 16) := F.out.len
    clear h b H1 C1
    by_cases hlt : j < 30
    · have hd : decide ((j : Int) < (30 : Int)) = true := decide_eq_true (by omega)
      have hi : (j : Int) < (n : Int) := by have := HN.out.2; omega
      have hi2 : (j : Int) < (30 : Int) := by omega
      obtain ⟨a, rfl, kb⟩ := (HS.out.bel B3.out) j (by have := HN.out; omega)
      have am := AM.out (xs.getD j 0)
      have se := NE.out j
      obtain ⟨A, fA, lA⟩ := LE.out j L F.out
      generalize nth xs j = s at *
      generalize xs.getD j 0 = y at *
      obtain ⟨m, hm⟩ : ∃ m, y % 65536 = m := ⟨_, rfl⟩
      rw [hm] at am se
      have m0 : 0 ≤ m := by omega
      have m1 : m ≤ 65535 := by omega
      have SE : Hid (m - 30000 = s) := se
      have SW : Hid (IntKind.i64.wrap (m - 30000) = m - 30000) := show _ = _ by rw [IntKind.wrap_i64]; omega
      have FA : Hid (Hist (nth xs) (j + 1) A) := fA
      have NA : Hid (A.length = 16) := fA.len
      have MA : Hid (∀ w, Calls Try.prog 14 #[mdl A] w fun e w' => e = .returned (.bool true) ∧ Bel w w') := fun w => fA.may ▸ may_ok A fA.len w
      have LQ : Hid (∀ z, z = s → ∀ w, Calls Try.prog 11 #[mdl L, .int .i64 z] w fun e w' => e = .returned (.tuple #[mdl A, .int .i64 0]) ∧ Bel w w') := fun z hz => hz ▸ lA
      have HJ : Hid (j + 1 ≤ 30) := hlt
      clear hm se fA lA hlt hj LE F
      go_wp2_with fail
      try simp only [Act.put, List.setIfInBounds_toArray, List.set_cons_zero, List.set_cons_succ]
      go_cut [6, 7] from 20 to 30 (fun v6 v7 wx => ∃ X, v6 = .pointer (some ⟨X, 0, none⟩) ∧ v7 = .int .i64 0 ∧ wr.heap.size ≤ X ∧ Holds wx X A ∧ Bel wr wx)
      case first =>
        refine wp_region_held_drew (S := fun wx => Bel wr wx) (by kernel_rfl) (Bel.refl wr).drew (fun hHeld => ?_)
        obtain ⟨V0, hV0⟩ : ∃ V, V = World.drew wr := ⟨_, rfl⟩
        rw [← hV0] at hHeld ⊢
        have esw : V0.heap.size = (wr).heap.size := by rw [hV0]; rfl
        have ESW : Hid (V0.heap.size = (wr).heap.size) := esw
        clear esw hV0
        refine wpAnyH_take (i := 1) (oi := { dst := some 22, op := .move (.tmp 0), type := _, pos := _, after := _, guard := none }) (v := ?_) rfl (by kernel_rfl) (by kernel_rfl) (by kernel_rfl) (fun _ _ _ h => h) (Or.inl ⟨by rfl, ?_⟩) hHeld ?_
        rotate_left
        · intro wx hSw; clear hSw; go_simp; with_reducible rfl
        try simp only [Act.put, List.setIfInBounds_toArray, List.set_cons_zero, List.set_cons_succ]
        refine wpAnyH_take (i := 2) (oi := { dst := some 23, op := .move (.tmp 5), type := _, pos := _, after := _, guard := none }) (v := ?_) rfl (by kernel_rfl) (by kernel_rfl) (by kernel_rfl) (fun _ _ _ h => h) (Or.inl ⟨by rfl, ?_⟩) hHeld ?_
        rotate_left
        · intro wx hSw; clear hSw; go_simp; with_reducible rfl
        try simp only [Act.put, List.setIfInBounds_toArray, List.set_cons_zero, List.set_cons_succ]
        refine wpAnyH_take (i := 0) (oi := { dst := some 21, op := .load 24 (.tmp 3), type := _, pos := _, after := _, guard := none }) (v := _) rfl (by kernel_rfl) (by kernel_rfl) (by kernel_rfl) (fun _ _ _ h => h) (yieldsIf_load_mid (by rfl) 24 _ rfl C 0 rfl (vals L) _ (fun wx hSw => (H3.out.bel hSw).range) Try.underlying24 rfl (by rw [size24, vals_length, NL.out])) hHeld ?_
        try simp only [Act.put, List.setIfInBounds_toArray, List.set_cons_zero, List.set_cons_succ]
        refine wpAnyH_take (i := 3) (oi := { dst := some 24, op := .indexAddr 38 (.tmp 22) (.tmp 23), type := _, pos := _, after := _, guard := none }) (v := ?_) rfl (by kernel_rfl) (by kernel_rfl) (by kernel_rfl) (fun _ _ _ h => h) (Or.inl ⟨by rfl, ?_⟩) hHeld ?_
        rotate_left
        · intro wx hSw; clear hSw; go_simp; with_reducible rfl
        try simp only [Act.put, List.setIfInBounds_toArray, List.set_cons_zero, List.set_cons_succ]
        refine wpAnyH_take (i := 4) (oi := { dst := some 25, op := .load 3 (.tmp 24), type := _, pos := _, after := _, guard := none }) (v := ?_) rfl (by kernel_rfl) (by kernel_rfl) (by kernel_rfl) (fun _ _ _ h => h) (Or.inl ⟨by rfl, ?_⟩) hHeld ?_
        rotate_left
        · intro wx hSw; have y0 := Bel.keep hSw kb; clear hSw; go_simp; with_reducible rfl
        try simp only [Act.put, List.setIfInBounds_toArray, List.set_cons_zero, List.set_cons_succ]
        refine wpAnyH_take (i := 5) (oi := { dst := some 26, op := .binOp .and 3 (.tmp 25) (.const (.int .i64 65535)) 3, type := _, pos := _, after := _, guard := none }) (v := ?_) rfl (by kernel_rfl) (by kernel_rfl) (by kernel_rfl) (fun _ _ _ h => h) (Or.inl ⟨by rfl, ?_⟩) hHeld ?_
        rotate_left
        · intro wx hSw; clear hSw; go_simp; with_reducible rfl
        try simp only [Act.put, List.setIfInBounds_toArray, List.set_cons_zero, List.set_cons_succ]
        refine wpAnyH_take (i := 6) (oi := { dst := some 27, op := .binOp .sub 3 (.tmp 26) (.const (.int .i64 30000)) 3, type := _, pos := _, after := _, guard := none }) (v := ?_) rfl (by kernel_rfl) (by kernel_rfl) (by kernel_rfl) (fun _ _ _ h => h) (Or.inl ⟨by rfl, ?_⟩) hHeld ?_
        rotate_left
        · intro wx hSw; clear hSw; go_simp; with_reducible rfl
        try simp only [Act.put, List.setIfInBounds_toArray, List.set_cons_zero, List.set_cons_succ]
        have BV0 : Bel wr V0 := hHeld
        clear hHeld
        refine wpAnyH_ready (rs := [7, 11]) (by kernel_rfl) (by simp) ?_
        refine (AllReadyH.cons (o := { dst := some 28, op := .call { callee := .value (.func 11), args := #[.tmp 21, .tmp 27], argTypes := _ }, type := _, pos := _, after := _, guard := none }) rfl (fun K hK => ?_) (AllReadyH.cons (o := { dst := some 6, op := .alloc 24, type := _, pos := _, after := _, guard := none }) rfl (fun K hK => ?_) AllReadyH.nil))
        · go_simp
          refine (LQ.out _ (by first | exact SE.out | (rw [SW.out]; exact SE.out)) _).mono ?_
          rintro e w3 ⟨rfl, b3⟩
          go_wp2_with fail
          have B3 : Bel wr w3 := BV0.trans b3
          have SZ : Hid (V0.heap.size ≤ w3.heap.size) := b3.size
          refine hK.out _ _ (B3) (fun _ => ?_)
          clear hK K
          try simp only [Act.put, List.setIfInBounds_toArray, List.set_cons_zero, List.set_cons_succ]
          refine wpAnyH_take (i := 8) (oi := { dst := some 20, op := .move (.tmp 28), type := _, pos := _, after := _, guard := none }) (v := ?_) rfl (by kernel_rfl) (by kernel_rfl) (by kernel_rfl) (fun _ _ _ h => h) (Or.inl ⟨by rfl, ?_⟩) B3 ?_
          rotate_left
          · intro wx hSw; clear hSw; go_simp; with_reducible rfl
          try simp only [Act.put, List.setIfInBounds_toArray, List.set_cons_zero, List.set_cons_succ]
          refine wpAnyH_take (i := 9) (oi := { dst := some 29, op := .extract (.tmp 20) 0, type := _, pos := _, after := _, guard := none }) (v := ?_) rfl (by kernel_rfl) (by kernel_rfl) (by kernel_rfl) (fun _ _ _ h => h) (Or.inl ⟨by rfl, ?_⟩) B3 ?_
          rotate_left
          · intro wx hSw; clear hSw; go_simp; with_reducible rfl
          try simp only [Act.put, List.setIfInBounds_toArray, List.set_cons_zero, List.set_cons_succ]
          refine wpAnyH_take (i := 10) (oi := { dst := some 30, op := .extract (.tmp 20) 1, type := _, pos := _, after := _, guard := none }) (v := ?_) rfl (by kernel_rfl) (by kernel_rfl) (by kernel_rfl) (fun _ _ _ h => h) (Or.inl ⟨by rfl, ?_⟩) B3 ?_
          rotate_left
          · intro wx hSw; clear hSw; go_simp; with_reducible rfl
          try simp only [Act.put, List.setIfInBounds_toArray, List.set_cons_zero, List.set_cons_succ]
          refine wpAnyH_ready (rs := [11]) (by kernel_rfl) (by simp) ?_
          refine (AllReadyH.cons (o := { dst := some 6, op := .alloc 24, type := _, pos := _, after := _, guard := none }) rfl (fun K hK => ?_) AllReadyH.nil)
          have Bw3 : Bel wr w3 := B3
          go_simp
          refine hK.out _ _ (Bw3.alloc _) (fun _ => ?_)
          clear hK K
          try simp only [Act.put, List.setIfInBounds_toArray, List.set_cons_zero, List.set_cons_succ]
          obtain ⟨V1, hV1⟩ : ∃ V, V = World.alloc w3 (.cells (vals zeros16).toArray 24) := ⟨_, rfl⟩
          have BV1 : Bel wr V1 := hV1 ▸ Bw3.alloc _
          have HT : Holds V1 (w3.heap.size) zeros16 := hV1 ▸ holds_new w3 zeros16 24
          rw [← hV1]
          clear hV1
          refine wpAnyH_ready (rs := [12]) (by kernel_rfl) (by simp) ?_
          refine (AllReadyH.cons (o := { dst := none, op := .store 24 (.tmp 6) (.tmp 29), type := _, pos := _, after := _, guard := none }) rfl (fun K hK => ?_) AllReadyH.nil)
          rw [if_pos (by rfl)]
          refine wp_store_mid 24 _ _ rfl (w3.heap.size) 0 (vals A).toArray rfl rfl (by rw [size_vals, NA.out]; exact HT.there 0 16 (by rw [NZ.out]; omega)) (by rw [size24, size_vals, NA.out]) (vals_one _) ?_
          have B6 : Bel wr (World.setCells V1 (w3.heap.size) 0 (vals A)) := Bel.setCells (by have := ESW.out; have := SZ.out; omega) _ _ BV1
          refine hK.out _ _ (B6) (fun _ => ?_)
          clear hK K
          try simp only [Act.put, List.setIfInBounds_toArray, List.set_cons_zero, List.set_cons_succ]
          try simp only [List.toList_toArray]
          refine wpAnyH_take (i := 13) (oi := { dst := some 7, op := .assign (.tmp 30), type := _, pos := _, after := _, guard := none }) (v := ?_) rfl (by kernel_rfl) (by kernel_rfl) (by kernel_rfl) (fun _ _ _ h => h) (Or.inl ⟨by rfl, ?_⟩) B6 ?_
          rotate_left
          · intro wx hSw; clear hSw; go_simp; with_reducible rfl
          try simp only [Act.put, List.setIfInBounds_toArray, List.set_cons_zero, List.set_cons_succ]
          refine wpAnyH_done (by kernel_rfl) ?_ _
          go_wp2_with fail
          go_meet
          exact ⟨w3.heap.size, rfl, rfl, by have := ESW.out; have := SZ.out; omega, holds_all HT A (NZ.out.trans NA.out.symm), B6⟩
        · go_simp
          refine hK.out _ _ (BV0.alloc _) (fun _ => ?_)
          clear hK K
          try simp only [Act.put, List.setIfInBounds_toArray, List.set_cons_zero, List.set_cons_succ]
          obtain ⟨V1, hV1⟩ : ∃ V, V = World.alloc V0 (.cells (vals zeros16).toArray 24) := ⟨_, rfl⟩
          have BV1 : Bel wr V1 := hV1 ▸ BV0.alloc _
          have HT : Holds V1 (V0.heap.size) zeros16 := hV1 ▸ holds_new V0 zeros16 24
          rw [← hV1]
          clear hV1
          refine wpAnyH_ready (rs := [7]) (by kernel_rfl) (by simp) ?_
          refine (AllReadyH.cons (o := { dst := some 28, op := .call { callee := .value (.func 11), args := #[.tmp 21, .tmp 27], argTypes := _ }, type := _, pos := _, after := _, guard := none }) rfl (fun K hK => ?_) AllReadyH.nil)
          go_simp
          refine (LQ.out _ (by first | exact SE.out | (rw [SW.out]; exact SE.out)) _).mono ?_
          rintro e w3 ⟨rfl, b3⟩
          go_wp2_with fail
          have B3 : Bel wr w3 := BV1.trans b3
          have HT := HT.bel b3
          refine hK.out _ _ (B3) (fun _ => ?_)
          clear hK K
          try simp only [Act.put, List.setIfInBounds_toArray, List.set_cons_zero, List.set_cons_succ]
          refine wpAnyH_take (i := 8) (oi := { dst := some 20, op := .move (.tmp 28), type := _, pos := _, after := _, guard := none }) (v := ?_) rfl (by kernel_rfl) (by kernel_rfl) (by kernel_rfl) (fun _ _ _ h => h) (Or.inl ⟨by rfl, ?_⟩) B3 ?_
          rotate_left
          · intro wx hSw; clear hSw; go_simp; with_reducible rfl
          try simp only [Act.put, List.setIfInBounds_toArray, List.set_cons_zero, List.set_cons_succ]
          refine wpAnyH_take (i := 9) (oi := { dst := some 29, op := .extract (.tmp 20) 0, type := _, pos := _, after := _, guard := none }) (v := ?_) rfl (by kernel_rfl) (by kernel_rfl) (by kernel_rfl) (fun _ _ _ h => h) (Or.inl ⟨by rfl, ?_⟩) B3 ?_
          rotate_left
          · intro wx hSw; clear hSw; go_simp; with_reducible rfl
          try simp only [Act.put, List.setIfInBounds_toArray, List.set_cons_zero, List.set_cons_succ]
          refine wpAnyH_take (i := 10) (oi := { dst := some 30, op := .extract (.tmp 20) 1, type := _, pos := _, after := _, guard := none }) (v := ?_) rfl (by kernel_rfl) (by kernel_rfl) (by kernel_rfl) (fun _ _ _ h => h) (Or.inl ⟨by rfl, ?_⟩) B3 ?_
          rotate_left
          · intro wx hSw; clear hSw; go_simp; with_reducible rfl
          try simp only [Act.put, List.setIfInBounds_toArray, List.set_cons_zero, List.set_cons_succ]
          refine wpAnyH_ready (rs := [12]) (by kernel_rfl) (by simp) ?_
          refine (AllReadyH.cons (o := { dst := none, op := .store 24 (.tmp 6) (.tmp 29), type := _, pos := _, after := _, guard := none }) rfl (fun K hK => ?_) AllReadyH.nil)
          rw [if_pos (by rfl)]
          refine wp_store_mid 24 _ _ rfl (V0.heap.size) 0 (vals A).toArray rfl rfl (by rw [size_vals, NA.out]; exact HT.there 0 16 (by rw [NZ.out]; omega)) (by rw [size24, size_vals, NA.out]) (vals_one _) ?_
          have B6 : Bel wr (World.setCells w3 (V0.heap.size) 0 (vals A)) := Bel.setCells (by have := ESW.out; omega) _ _ B3
          refine hK.out _ _ (B6) (fun _ => ?_)
          clear hK K
          try simp only [Act.put, List.setIfInBounds_toArray, List.set_cons_zero, List.set_cons_succ]
          try simp only [List.toList_toArray]
          refine wpAnyH_take (i := 13) (oi := { dst := some 7, op := .assign (.tmp 30), type := _, pos := _, after := _, guard := none }) (v := ?_) rfl (by kernel_rfl) (by kernel_rfl) (by kernel_rfl) (fun _ _ _ h => h) (Or.inl ⟨by rfl, ?_⟩) B6 ?_
          rotate_left
          · intro wx hSw; clear hSw; go_simp; with_reducible rfl
          try simp only [Act.put, List.setIfInBounds_toArray, List.set_cons_zero, List.set_cons_succ]
          refine wpAnyH_done (by kernel_rfl) ?_ _
          go_wp2_with fail
          go_meet
          exact ⟨V0.heap.size, rfl, rfl, by have := ESW.out; omega, holds_all HT A (NZ.out.trans NA.out.symm), B6⟩
      obtain ⟨X, rfl, rfl, x1, x2, x3⟩ := hcut
      have A4 : Hid (Holds wc X A) := x2
      have H4 : Hid (Holds wc C L) := H3.out.bel x3
      have B4 : Hid (Bel w wc) := B3.out.trans x3
      clear x1 x2 x3 H3 B3
      go_wp2_with fail
      refine (num_ok _ _).mono ?_
      rintro e w4 ⟨rfl, rfl⟩
      go_wp2_with (first | (with_reducible refine wpl_load24g rfl A4.out NA.out rfl ?_))
      refine (MA.out _).mono ?_
      rintro e w5 ⟨rfl, b⟩
      have A5 : Hid (Holds w5 X A) := A4.out.bel b
      have H5 : Hid (Holds w5 C L) := H4.out.bel b
      have B5 : Hid (Bel w w5) := B4.out.trans b
      clear b A4 H4 B4
      go_wp2_with (first
        | (with_reducible refine wpl_load24 A5.out NA.out rfl ?_)
        | ((with_reducible refine wpl_store24w B5.out H5.out CC.out NL.out NA.out rfl rfl ?_); intro V VH VB VO))
      go_roundw
      case rel => exact ⟨j + 1, A, HJ.out, by go_num, FA, VH.out, VB.out⟩
      case measure => simp [intOf]; have := HJ.out; omega
    · have hd : decide ((j : Int) < (30 : Int)) = false := decide_eq_false (by omega)
      have hi2 : ¬ (j : Int) < (30 : Int) := by omega
      have HF : Hid (∀ k, k < 8 → L.getD (8 + k) 0 = if k < 30 then nth xs (30 - 1 - k) else 0) := by
        have e : j = 30 := by omega
        have := F.out.num
        rw [e] at this
        exact this
      clear F LE
      go_wp2_with fail
      go_loopw [8] (fun i wx => ∃ k : Nat, k ≤ 8 ∧ i = .int .i64 (k : Int) ∧ Holds wx C L ∧ Bel w wx) (fun i _ => 8 - (intOf i).toNat)
      case atStart => exact ⟨0, by omega, rfl, H3.out, B3.out⟩
      case round =>
        obtain ⟨k, hk, rfl, h, b⟩ := hrel
        have H6 : Hid (Holds wr C L) := h
        have B6 : Hid (Bel w wr) := b
        clear h b H3 B3
        by_cases hkt : k < 8
        · have hd9 : decide ((k : Int) < 8) = true := decide_eq_true (by omega)
          have c1 := H6.out.cell (8 + k) (by rw [NL.out]; omega)
          rw [HF.out k hkt] at c1
          by_cases hkk : k < 30
          · rw [if_pos hkk] at c1
            obtain ⟨q, hq⟩ : ∃ q : Nat, q = 30 - 1 - k := ⟨_, rfl⟩
            rw [← hq] at c1
            have hq2 : (29 : Int) - (k : Int) = (q : Int) := by omega
            have hq3 : (q : Int) < (n : Int) := by have := HN.out.2; omega
            have qn : q < xs.length := by have := HN.out; omega
            obtain ⟨a, rfl, kb⟩ := (HS.out.bel B6.out) q qn
            have am := AM.out (xs.getD q 0)
            rw [← NE.out q] at c1
            generalize xs.getD q 0 = y at *
            obtain ⟨m, hm⟩ : ∃ m, y % 65536 = m := ⟨_, rfl⟩
            rw [hm] at am c1
            have m0 : 0 ≤ m := by omega
            have m1 : m ≤ 65535 := by omega
            clear hm hq qn hkk
            go_wp2
            go_roundw
            case rel => exact ⟨k + 1, by omega, by go_num, H6.out, B6.out⟩
            case measure => simp [intOf]; omega
          · exact absurd hkk (by omega)
        · have hd9 : decide ((k : Int) < 8) = false := decide_eq_false (by omega)
          go_wp2
          go_ret
          exact ⟨rfl, B6.out⟩

theorem history_walk (ao : Option Addr) (xs : List Int) (n cap : Nat) (hn : n = xs.length) (hx : n ≤ maxLen) (w : World) (hS : Slc w ao xs) :
    Calls Try.prog 5 #[.slice ao n cap] w fun e w' => e = .returned (.bool true) ∧ Bel w w' := by
  by_cases h : n ≤ 30
  · exact history_few ao xs n cap hn hx h w hS
  · exact history_many ao xs n cap hn hx (by omega) w hS

end Go.Proofs.Ytjckeagbimfonaa.Lin
