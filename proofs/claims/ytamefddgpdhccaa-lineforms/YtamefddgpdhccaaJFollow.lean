/-
  follow, along a row of samples: the way of Put and the way of Get. Conditions: the rows are there.
-/
import Derived.Test.YtamefddgpdhccaaJClo
import Derived.Test.YtamefddgpdhccaaGExcW
import Derived.Deep.RegionHeld3
import Derived.Deep.CutRange
namespace Go.Proofs.Ytamefddgpdhccaa.Ser
open Go.RowKit Go.Sort Go.Proofs.Ytamefddgpdhccaa.Mod Go.Proofs.Ytamefddgpdhccaa.Lin Go.Proofs.Ytamefddgpdhccaa.Chn
set_option linter.unusedVariables false
set_option linter.unusedSimpArgs false

set_option maxRecDepth 20000 in
set_option maxHeartbeats 4000000 in
theorem follow_put (X R G n cap : Nat) (ao : Option Addr) (f : Nat → Int) (xs L0 : List Int) (hn : n = xs.length) (hxs : ∀ i, i < n → xs.getD i 0 = f i) (h256 : n ≤ 256) (w : World)
    (cX : w.cell? ⟨X, 0, none⟩ = some (.slice ao n cap)) (cR : w.cell? ⟨R, 0, none⟩ = some (.slice (some ⟨G, 0, none⟩) n n)) (hA : Slc w ao xs) (hb : ∀ x, ao = some x → 0 < n → x.block ≠ G) (hX : X ≠ G) (hR : R ≠ G) (hG : Holds w G L0) (hL0 : L0.length = n) (hGs : G < w.heap.size) :
    Calls Try.prog 19 #[.int .i64 (n : Int), .func (.func 20) #[] #[.pointer (some ⟨X, 0, none⟩), .pointer (some ⟨R, 0, none⟩)]] w fun e w' =>
      (anyOf (passed 131072) f n = true → e = .returned (.bool false)) ∧ (anyOf (passed 131072) f n = false → e = .returned (.bool true) ∧ Holds w' G ((List.range n).map (res f))) ∧ Exc (fun k => k = G) w w' := by
  have HS : Hid (∀ j, j < n → ∃ x, ao = some x ∧ w.cell? (x.add j) = some (.int .i64 (f j))) := fun j hj => by
    obtain ⟨x, h1, h2⟩ := hA j (by omega)
    rw [hxs j hj] at h2
    exact ⟨x, h1, h2⟩
  have CX : Hid (w.cell? ⟨X, 0, none⟩ = some (.slice ao n cap)) := cX
  have CR : Hid (w.cell? ⟨R, 0, none⟩ = some (.slice (some ⟨G, 0, none⟩) n n)) := cR
  have HB : Hid (∀ x, ao = some x → 0 < n → x.block ≠ G) := hb
  have NXG : Hid (X ≠ G ∧ R ≠ G) := ⟨hX, hR⟩
  have G0 : Hid (Holds w G L0 ∧ L0.length = n) := ⟨hG, hL0⟩
  have GS : Hid (G < w.heap.size) := hGs
  have LE : Hid (∀ (L : List Int) (v : Int), mayC L = true → L.length = 33 → ∃ A ec, A.length = 33 ∧ (∀ w, Calls Try.prog 28 #[mdl L, .int .i64 v] w fun e w' => e = .returned (.tuple #[mdl A, .int .i64 ec]) ∧ Bel w w') ∧
      ((passed 131072 v = false ∧ ec = 0 ∧ A = learnC L v) ∨ (passed 131072 v = true ∧ ec = 1500))) := fun L v hm hL => by
    cases hp : passed 131072 v
    · exact ⟨_, _, learnC_len hL v, learn_yes L hL v hm hp, .inl ⟨rfl, rfl, rfl⟩⟩
    · exact ⟨_, _, zeros33_len, learn_far L hL v hm hp, .inr ⟨rfl, rfl⟩⟩
  have NZ : Hid (zeros33.length = 33) := zeros33_len
  have z := zero26
  have hq : ∀ wx : World, Exc (fun k => k = G) w wx → ∀ (j : Nat) (x : Addr) (L : List Int), j < n → L.length = n → Holds wx G L → ao = some x → w.cell? (x.add j) = some (.int .i64 (f j)) → ∀ g : Int, 
      Calls Try.prog 20 #[.int .i64 (j : Int), .int .i64 g, .pointer (some ⟨X, 0, none⟩), .pointer (some ⟨R, 0, none⟩)] wx fun e w' => e = .returned (.int .i64 (f j)) ∧ Holds w' G (L.set j (wrap64 (f j - g))) ∧ Exc (fun k => k = G) wx w' := fun wx hE j x L hj hl hh hx hc g  => by
    subst hx
    refine (pclo_ok X R G x n cap j hj h256 (f j) g (L.getD j 0)  wx (hE.keep cX hX) (hE.keep cR hR) (hE.keep hc (by rw [add_block]; exact hb x rfl (by omega))) (hb x rfl (by omega)) hX hR (hh.cell j (by omega)) (hh.free j (by omega))).mono ?_
    rintro e w' ⟨rfl, rfl⟩
    exact ⟨rfl, (hh.set j (by omega) _).drew, (Exc.setCell (S := fun k => k = G) (a := ⟨G, j, none⟩) (Exc.refl _ wx) (fun _ => rfl) _).drew⟩
  have HQ : Hid (∀ wx : World, Exc (fun k => k = G) w wx → ∀ (j : Nat) (x : Addr) (L : List Int), j < n → L.length = n → Holds wx G L → ao = some x → w.cell? (x.add j) = some (.int .i64 (f j)) → ∀ g : Int, 
      Calls Try.prog 20 #[.int .i64 (j : Int), .int .i64 g, .pointer (some ⟨X, 0, none⟩), .pointer (some ⟨R, 0, none⟩)] wx fun e w' => e = .returned (.int .i64 (f j)) ∧ Holds w' G (L.set j (wrap64 (f j - g))) ∧ Exc (fun k => k = G) wx w') := hq
  have c0 : Holds (w.alloc (.cells (vals zeros33).toArray 43)) w.heap.size (chn f 0) := holds_new w zeros33 _
  have C0 : Hid (Holds (w.alloc (.cells (vals zeros33).toArray 43)) w.heap.size (chn f 0)) := c0
  have X0 : Hid (Exc (fun k => k = G) w (w.alloc (.cells (vals zeros33).toArray 43))) := (Exc.refl _ w).alloc _
  have R0 : Hid (Holds (w.alloc (.cells (vals zeros33).toArray 43)) G L0) := hG.bel ((Bel.refl w).alloc _)
  clear hA cX cR hb hX hR hG hL0 hGs c0 hxs hn hq 
  go_enter Try.func19, Try.ntmps19
  go_wp2_with fail
  obtain ⟨W1, hW1⟩ : ∃ W, W = w.alloc (.cells (vals zeros33).toArray 43) := ⟨_, rfl⟩
  obtain ⟨C, hC⟩ : ∃ C, C = w.heap.size := ⟨_, rfl⟩
  have HC : Hid (C = w.heap.size) := hC
  rw [← hC, ← hW1] at C0
  rw [← hW1] at X0 R0 ⊢
  rw [← hC]
  clear hW1 hC
  have NC : Hid (C ≠ G) := (by have := HC.out; have := GS.out; omega : C ≠ G)
  go_loopw [12] (fun i wr => ∃ (j : Nat) (L : List Int), j ≤ n ∧ i = .int .i64 (j : Int) ∧ Hid (∀ i, i < j → passed 131072 (f i) = false) ∧ Hid (L.length = n ∧ ∀ i, i < j → L.getD i 0 = res f i) ∧ Hid (Holds wr G L) ∧ Hid (Holds wr C (chn f j)) ∧ Hid (Exc (fun k => k = G) w wr)) (fun i _ => n - (intOf i).toNat)
  case atStart => exact ⟨0, L0, Nat.zero_le _, rfl, fun i hi => by omega, ⟨G0.out.2, fun i hi => by omega⟩, R0, C0, X0⟩
  case round =>
    obtain ⟨j, L, hj, rfl, HP, HL, GR, CR2, XR⟩ := hrel
    clear C0 X0 R0
    by_cases hlt : j < n
    · have hd : decide ((j : Int) < (n : Int)) = true := decide_eq_true (by omega)
      have mj := chn_may f j HP.out
      have nj := chn_len f j
      have RG0 : ∀ g, guessC (chn f j) = g → res f j = f j - g := fun g hg => by unfold res; rw [hg]
      obtain ⟨cj, hcj⟩ : ∃ cj, chn f j = cj := ⟨_, rfl⟩
      have HCJ : Hid (chn f j = cj) := hcj
      rw [hcj] at mj nj CR2 RG0
      have TL : Hid ((cj.drop 0).take 33 = cj) := take_all nj
      have OL : Hid (0 + 33 ≤ cj.length) := show _ ≤ _ by rw [nj]; decide
      have NL : Hid (cj.length = 33) := nj
      obtain ⟨x, hx, hc⟩ := HS.out j hlt
      have QC := fun wx (h : Exc (fun k => k = G) w wx) (L2 : List Int) (h2 : L2.length = n) (h3 : Holds wx G L2) => HQ.out wx h j x L2 hlt h2 h3 hx hc
      obtain ⟨g, hg⟩ : ∃ g, guessC cj = g := ⟨_, rfl⟩
      have gr := guessC_range mj
      rw [hg] at gr
      have GQ : Hid (∀ w, Calls Try.prog 27 #[mdl cj] w fun e w' => e = .returned (.tuple #[.int .i64 g, .int .i64 0]) ∧ Bel w w') := hg ▸ guess_yes cj nj mj
      have RG : Hid (res f j = f j - g) := RG0 g hg
      obtain ⟨v, hv⟩ : ∃ v, f j = v := ⟨_, rfl⟩
      obtain ⟨A, ec, nA, lA, oA⟩ := LE.out cj v mj nj
      have LQ : Hid (∀ w, Calls Try.prog 28 #[mdl cj, .int .i64 v] w fun e w' => e = .returned (.tuple #[mdl A, .int .i64 ec]) ∧ Bel w w') := lA
      have NA : Hid (A.length = 33) := nA
      have OA : Hid ((passed 131072 v = false ∧ ec = 0 ∧ A = learnC cj v) ∨ (passed 131072 v = true ∧ ec = 1500)) := oA
      have HV : Hid (f j = v) := hv
      obtain ⟨q, hq⟩ : ∃ q, wrap64 (v - g) = q := ⟨_, rfl⟩
      have QP : Hid (passed 131072 v = false → q = res f j) := fun h => by
        have := passed_no.1 h
        rw [RG.out, hv, ← hq, wrap64]
        omega
      have CQ : Hid (∀ wx : World, Exc (fun k => k = G) w wx → ∀ L2 : List Int, L2.length = n → Holds wx G L2 → Calls Try.prog 20 #[.int .i64 (j : Int), .int .i64 g, .pointer (some ⟨X, 0, none⟩), .pointer (some ⟨R, 0, none⟩)] wx fun e w' => e = .returned (.int .i64 v) ∧ Holds w' G (L2.set j q) ∧ Exc (fun k => k = G) wx w') := fun wx h L2 h2 h3 => hq ▸ hv ▸ QC wx h L2 h2 h3 g
      clear hq
      have HL2 : Hid (L.length = n) := HL.out.1
      have hjn : Hid (j < n) := hlt
      clear hg mj nj RG0 lA nA oA hv hx hc hcj QC
      go_wp2_with (first | (with_reducible refine wpl_load_wide (o := 0) wide26 TL.out CR2.out OL.out rfl ?_))
      refine (GQ.out _).mono ?_
      rintro e w2 ⟨rfl, b⟩
      have X2 : Hid (Exc (fun k => k = G) w w2) := XR.out.bel b
      have C2 : Hid (Holds w2 C cj) := CR2.out.bel b
      have G2 : Hid (Holds w2 G L) := GR.out.bel b
      clear b XR CR2 GR
      go_wp2_with fail
      try simp only [Act.put, List.setIfInBounds_toArray, List.set_cons_zero, List.set_cons_succ]
      go_cut [9, 10] from 20 to 28 (fun v9 v10 wx => ∃ D, v9 = .pointer (some ⟨D, 0, none⟩) ∧ v10 = .int .i64 ec ∧ w2.heap.size ≤ D ∧ Holds wx D A ∧ Holds wx G (L.set j q) ∧ Exc (fun k => k = G) w2 wx)
      case first =>
        refine wp_region_held_drew (S := fun wx => Exc (fun k => k = G) w2 wx) (by kernel_rfl) (Exc.refl _ w2).drew (fun hHeld => ?_)
        obtain ⟨V0, hV0⟩ : ∃ V, V = World.drew w2 := ⟨_, rfl⟩
        rw [← hV0] at hHeld ⊢
        have HR0 : Holds V0 G L := hV0 ▸ G2.out.drew
        clear hV0
        refine wpAnyH_take (i := 0) (oi := { dst := some 21, op := .load 43 (.tmp 5), type := _, pos := _, after := _, guard := none }) (v := _) rfl (by kernel_rfl) (by kernel_rfl) (by kernel_rfl) (fun _ _ _ h => h) (yieldsIf_load_mid (by rfl) 43 _ rfl C 0 rfl (vals cj) _ (fun wx hSw => (hSw.holds C2.out NC.out).range) Try.underlying43 rfl (by rw [wide26.size, vals_length, NL.out])) hHeld ?_
        try simp only [Act.put, List.setIfInBounds_toArray, List.set_cons_zero, List.set_cons_succ]
        refine wpAnyH_take (i := 1) (oi := { dst := some 22, op := .move (.tmp 1), type := _, pos := _, after := _, guard := none }) (v := ?_) rfl (by kernel_rfl) (by kernel_rfl) (by kernel_rfl) (fun _ _ _ h => h) (Or.inl ⟨by rfl, ?_⟩) hHeld ?_
        rotate_left
        · intro wx hSw; clear hSw; go_simp; with_reducible rfl
        try simp only [Act.put, List.setIfInBounds_toArray, List.set_cons_zero, List.set_cons_succ]
        refine wpAnyH_take (i := 2) (oi := { dst := some 23, op := .move (.tmp 6), type := _, pos := _, after := _, guard := none }) (v := ?_) rfl (by kernel_rfl) (by kernel_rfl) (by kernel_rfl) (fun _ _ _ h => h) (Or.inl ⟨by rfl, ?_⟩) hHeld ?_
        rotate_left
        · intro wx hSw; clear hSw; go_simp; with_reducible rfl
        try simp only [Act.put, List.setIfInBounds_toArray, List.set_cons_zero, List.set_cons_succ]
        refine wpAnyH_take (i := 3) (oi := { dst := some 24, op := .move (.tmp 7), type := _, pos := _, after := _, guard := none }) (v := ?_) rfl (by kernel_rfl) (by kernel_rfl) (by kernel_rfl) (fun _ _ _ h => h) (Or.inl ⟨by rfl, ?_⟩) hHeld ?_
        rotate_left
        · intro wx hSw; clear hSw; go_simp; with_reducible rfl
        try simp only [Act.put, List.setIfInBounds_toArray, List.set_cons_zero, List.set_cons_succ]
        have E0 : Exc (fun k => k = G) w2 V0 := hHeld
        clear hHeld
        refine wpAnyH_ready (rs := [4, 9]) (by kernel_rfl) (by simp) ?_
        refine (AllReadyH.cons (o := { dst := some 25, op := .call { callee := .value (.tmp 22), args := #[.tmp 23, .tmp 24], argTypes := _ }, type := _, pos := _, after := _, guard := none }) rfl (fun K hK => ?_) (AllReadyH.cons (o := { dst := some 9, op := .alloc 43, type := _, pos := _, after := _, guard := none }) rfl (fun K hK => ?_) AllReadyH.nil))
        · go_simp
          refine (CQ.out V0 (X2.out.trans E0 (fun _ _ h => h)) L HL2.out HR0).mono ?_
          rintro e V1 ⟨rfl, hr, b⟩
          go_wp2_with fail
          have E1 : Exc (fun k => k = G) w2 V1 := E0.trans b (fun _ _ h => h)
          have HR1 : Holds V1 G (L.set j q) := hr
          clear b
          refine hK.out _ _ (E1) (fun _ => ?_)
          clear hK K
          try simp only [Act.put, List.setIfInBounds_toArray, List.set_cons_zero, List.set_cons_succ]
          refine wpAnyH_ready (rs := [5, 9]) (by kernel_rfl) (by simp) ?_
          refine (AllReadyH.cons (o := { dst := some 26, op := .call { callee := .value (.func 28), args := #[.tmp 21, .tmp 25], argTypes := _ }, type := _, pos := _, after := _, guard := none }) rfl (fun K hK => ?_) (AllReadyH.cons (o := { dst := some 9, op := .alloc 43, type := _, pos := _, after := _, guard := none }) rfl (fun K hK => ?_) AllReadyH.nil))
          · go_simp
            refine (LQ.out V1).mono ?_
            rintro e V2 ⟨rfl, bel⟩
            go_wp2_with fail
            have b : Exc (fun k => k = G) V1 V2 := Exc.of_bel bel
            have E2 : Exc (fun k => k = G) w2 V2 := E1.trans b (fun _ _ h => h)
            have HR2 : Holds V2 G (L.set j q) := HR1.bel bel
            clear b
            refine hK.out _ _ (E2) (fun _ => ?_)
            clear hK K
            try simp only [Act.put, List.setIfInBounds_toArray, List.set_cons_zero, List.set_cons_succ]
            refine wpAnyH_take (i := 6) (oi := { dst := some 20, op := .move (.tmp 26), type := _, pos := _, after := _, guard := none }) (v := ?_) rfl (by kernel_rfl) (by kernel_rfl) (by kernel_rfl) (fun _ _ _ h => h) (Or.inl ⟨by rfl, ?_⟩) E2 ?_
            rotate_left
            · intro wx hSw; clear hSw; go_simp; with_reducible rfl
            try simp only [Act.put, List.setIfInBounds_toArray, List.set_cons_zero, List.set_cons_succ]
            refine wpAnyH_take (i := 7) (oi := { dst := some 27, op := .extract (.tmp 20) 0, type := _, pos := _, after := _, guard := none }) (v := ?_) rfl (by kernel_rfl) (by kernel_rfl) (by kernel_rfl) (fun _ _ _ h => h) (Or.inl ⟨by rfl, ?_⟩) E2 ?_
            rotate_left
            · intro wx hSw; clear hSw; go_simp; with_reducible rfl
            try simp only [Act.put, List.setIfInBounds_toArray, List.set_cons_zero, List.set_cons_succ]
            refine wpAnyH_take (i := 8) (oi := { dst := some 28, op := .extract (.tmp 20) 1, type := _, pos := _, after := _, guard := none }) (v := ?_) rfl (by kernel_rfl) (by kernel_rfl) (by kernel_rfl) (fun _ _ _ h => h) (Or.inl ⟨by rfl, ?_⟩) E2 ?_
            rotate_left
            · intro wx hSw; clear hSw; go_simp; with_reducible rfl
            try simp only [Act.put, List.setIfInBounds_toArray, List.set_cons_zero, List.set_cons_succ]
            refine wpAnyH_ready (rs := [9]) (by kernel_rfl) (by simp) ?_
            refine (AllReadyH.cons (o := { dst := some 9, op := .alloc 43, type := _, pos := _, after := _, guard := none }) rfl (fun K hK => ?_) AllReadyH.nil)
            go_simp
            refine hK.out _ _ (E2.alloc _) (fun _ => ?_)
            clear hK K
            try simp only [Act.put, List.setIfInBounds_toArray, List.set_cons_zero, List.set_cons_succ]
            obtain ⟨V3, hV3⟩ : ∃ V, V = World.alloc V2 (.cells (vals zeros33).toArray 43) := ⟨_, rfl⟩
            have E3 : Exc (fun k => k = G) w2 V3 := hV3 ▸ E2.alloc _
            have bb : Bel V2 V3 := hV3 ▸ (Bel.refl _).alloc _
            have HR3 : Holds V3 G (L.set j q) := HR2.bel bb
            have HT3 : Holds V3 (V2.heap.size) zeros33 := hV3 ▸ holds_new V2 zeros33 43
            obtain ⟨D, hD⟩ : ∃ D, V2.heap.size = D := ⟨_, rfl⟩
            have LD : Hid (w2.heap.size ≤ D) := (by rw [← hD]; exact E2.size : w2.heap.size ≤ D)
            rw [← hV3]
            rw [hD] at HT3 ⊢
            clear hV3 hD bb
            refine wpAnyH_ready (rs := [10]) (by kernel_rfl) (by simp) ?_
            refine (AllReadyH.cons (o := { dst := none, op := .store 43 (.tmp 9) (.tmp 27), type := _, pos := _, after := _, guard := none }) rfl (fun K hK => ?_) AllReadyH.nil)
            rw [if_pos (by rfl)]
            refine wp_store_mid 43 _ _ rfl (D) 0 (vals A).toArray rfl rfl (by rw [size_vals, NA.out]; exact HT3.there 0 33 (by rw [NZ.out]; omega)) (by rw [wide26.size, size_vals, NA.out]) (vals_one _) ?_
            have HV := holds_all HT3 A (NZ.out.trans NA.out.symm)
            have XV : Exc (fun k => k = D) V3 (World.setCells V3 D 0 (vals A)) := Exc.setCells (S := fun k => k = D) (fun _ => rfl) _ 0 (Exc.refl _ _)
            have E4 : Exc (fun k => k = G) w2 (World.setCells V3 D 0 (vals A)) := E3.trans XV (fun k h e => absurd h (by have := LD.out; omega))
            have HR4 := XV.holds HR3 (show ¬ G = D by have := LD.out; have := X2.out.size; have := GS.out; omega)
            refine hK.out _ _ (E4) (fun _ => ?_)
            clear hK K
            try simp only [Act.put, List.setIfInBounds_toArray, List.set_cons_zero, List.set_cons_succ]
            try simp only [List.toList_toArray]
            refine wpAnyH_take (i := 11) (oi := { dst := some 10, op := .assign (.tmp 28), type := _, pos := _, after := _, guard := none }) (v := ?_) rfl (by kernel_rfl) (by kernel_rfl) (by kernel_rfl) (fun _ _ _ h => h) (Or.inl ⟨by rfl, ?_⟩) E4 ?_
            rotate_left
            · intro wx hSw; clear hSw; go_simp; with_reducible rfl
            try simp only [Act.put, List.setIfInBounds_toArray, List.set_cons_zero, List.set_cons_succ]
            refine wpAnyH_done (by kernel_rfl) ?_ _
            go_wp2_with fail
            go_meet
            exact ⟨D, rfl, rfl, LD.out, HV, HR4, E4⟩
          · go_simp
            refine hK.out _ _ (E1.alloc _) (fun _ => ?_)
            clear hK K
            try simp only [Act.put, List.setIfInBounds_toArray, List.set_cons_zero, List.set_cons_succ]
            obtain ⟨V2, hV2⟩ : ∃ V, V = World.alloc V1 (.cells (vals zeros33).toArray 43) := ⟨_, rfl⟩
            have E2 : Exc (fun k => k = G) w2 V2 := hV2 ▸ E1.alloc _
            have bb : Bel V1 V2 := hV2 ▸ (Bel.refl _).alloc _
            have HR2 : Holds V2 G (L.set j q) := HR1.bel bb
            have HT2 : Holds V2 (V1.heap.size) zeros33 := hV2 ▸ holds_new V1 zeros33 43
            obtain ⟨D, hD⟩ : ∃ D, V1.heap.size = D := ⟨_, rfl⟩
            have LD : Hid (w2.heap.size ≤ D) := (by rw [← hD]; exact E1.size : w2.heap.size ≤ D)
            rw [← hV2]
            rw [hD] at HT2 ⊢
            clear hV2 hD bb
            refine wpAnyH_ready (rs := [5]) (by kernel_rfl) (by simp) ?_
            refine (AllReadyH.cons (o := { dst := some 26, op := .call { callee := .value (.func 28), args := #[.tmp 21, .tmp 25], argTypes := _ }, type := _, pos := _, after := _, guard := none }) rfl (fun K hK => ?_) AllReadyH.nil)
            go_simp
            refine (LQ.out V2).mono ?_
            rintro e V3 ⟨rfl, bel⟩
            go_wp2_with fail
            have b : Exc (fun k => k = G) V2 V3 := Exc.of_bel bel
            have E3 : Exc (fun k => k = G) w2 V3 := E2.trans b (fun _ _ h => h)
            have HR3 : Holds V3 G (L.set j q) := HR2.bel bel
            have HT3 : Holds V3 D zeros33 := b.holds HT2 (show ¬ D = G by have := LD.out; have := X2.out.size; have := GS.out; omega)
            clear b
            refine hK.out _ _ (E3) (fun _ => ?_)
            clear hK K
            try simp only [Act.put, List.setIfInBounds_toArray, List.set_cons_zero, List.set_cons_succ]
            refine wpAnyH_take (i := 6) (oi := { dst := some 20, op := .move (.tmp 26), type := _, pos := _, after := _, guard := none }) (v := ?_) rfl (by kernel_rfl) (by kernel_rfl) (by kernel_rfl) (fun _ _ _ h => h) (Or.inl ⟨by rfl, ?_⟩) E3 ?_
            rotate_left
            · intro wx hSw; clear hSw; go_simp; with_reducible rfl
            try simp only [Act.put, List.setIfInBounds_toArray, List.set_cons_zero, List.set_cons_succ]
            refine wpAnyH_take (i := 7) (oi := { dst := some 27, op := .extract (.tmp 20) 0, type := _, pos := _, after := _, guard := none }) (v := ?_) rfl (by kernel_rfl) (by kernel_rfl) (by kernel_rfl) (fun _ _ _ h => h) (Or.inl ⟨by rfl, ?_⟩) E3 ?_
            rotate_left
            · intro wx hSw; clear hSw; go_simp; with_reducible rfl
            try simp only [Act.put, List.setIfInBounds_toArray, List.set_cons_zero, List.set_cons_succ]
            refine wpAnyH_take (i := 8) (oi := { dst := some 28, op := .extract (.tmp 20) 1, type := _, pos := _, after := _, guard := none }) (v := ?_) rfl (by kernel_rfl) (by kernel_rfl) (by kernel_rfl) (fun _ _ _ h => h) (Or.inl ⟨by rfl, ?_⟩) E3 ?_
            rotate_left
            · intro wx hSw; clear hSw; go_simp; with_reducible rfl
            try simp only [Act.put, List.setIfInBounds_toArray, List.set_cons_zero, List.set_cons_succ]
            refine wpAnyH_ready (rs := [10]) (by kernel_rfl) (by simp) ?_
            refine (AllReadyH.cons (o := { dst := none, op := .store 43 (.tmp 9) (.tmp 27), type := _, pos := _, after := _, guard := none }) rfl (fun K hK => ?_) AllReadyH.nil)
            rw [if_pos (by rfl)]
            refine wp_store_mid 43 _ _ rfl (D) 0 (vals A).toArray rfl rfl (by rw [size_vals, NA.out]; exact HT3.there 0 33 (by rw [NZ.out]; omega)) (by rw [wide26.size, size_vals, NA.out]) (vals_one _) ?_
            have HV := holds_all HT3 A (NZ.out.trans NA.out.symm)
            have XV : Exc (fun k => k = D) V3 (World.setCells V3 D 0 (vals A)) := Exc.setCells (S := fun k => k = D) (fun _ => rfl) _ 0 (Exc.refl _ _)
            have E4 : Exc (fun k => k = G) w2 (World.setCells V3 D 0 (vals A)) := E3.trans XV (fun k h e => absurd h (by have := LD.out; omega))
            have HR4 := XV.holds HR3 (show ¬ G = D by have := LD.out; have := X2.out.size; have := GS.out; omega)
            refine hK.out _ _ (E4) (fun _ => ?_)
            clear hK K
            try simp only [Act.put, List.setIfInBounds_toArray, List.set_cons_zero, List.set_cons_succ]
            try simp only [List.toList_toArray]
            refine wpAnyH_take (i := 11) (oi := { dst := some 10, op := .assign (.tmp 28), type := _, pos := _, after := _, guard := none }) (v := ?_) rfl (by kernel_rfl) (by kernel_rfl) (by kernel_rfl) (fun _ _ _ h => h) (Or.inl ⟨by rfl, ?_⟩) E4 ?_
            rotate_left
            · intro wx hSw; clear hSw; go_simp; with_reducible rfl
            try simp only [Act.put, List.setIfInBounds_toArray, List.set_cons_zero, List.set_cons_succ]
            refine wpAnyH_done (by kernel_rfl) ?_ _
            go_wp2_with fail
            go_meet
            exact ⟨D, rfl, rfl, LD.out, HV, HR4, E4⟩
        · go_simp
          refine hK.out _ _ (E0.alloc _) (fun _ => ?_)
          clear hK K
          try simp only [Act.put, List.setIfInBounds_toArray, List.set_cons_zero, List.set_cons_succ]
          obtain ⟨V1, hV1⟩ : ∃ V, V = World.alloc V0 (.cells (vals zeros33).toArray 43) := ⟨_, rfl⟩
          have E1 : Exc (fun k => k = G) w2 V1 := hV1 ▸ E0.alloc _
          have bb : Bel V0 V1 := hV1 ▸ (Bel.refl _).alloc _
          have HR1 : Holds V1 G L := HR0.bel bb
          have HT1 : Holds V1 (V0.heap.size) zeros33 := hV1 ▸ holds_new V0 zeros33 43
          obtain ⟨D, hD⟩ : ∃ D, V0.heap.size = D := ⟨_, rfl⟩
          have LD : Hid (w2.heap.size ≤ D) := (by rw [← hD]; exact E0.size : w2.heap.size ≤ D)
          rw [← hV1]
          rw [hD] at HT1 ⊢
          clear hV1 hD bb
          refine wpAnyH_ready (rs := [4]) (by kernel_rfl) (by simp) ?_
          refine (AllReadyH.cons (o := { dst := some 25, op := .call { callee := .value (.tmp 22), args := #[.tmp 23, .tmp 24], argTypes := _ }, type := _, pos := _, after := _, guard := none }) rfl (fun K hK => ?_) AllReadyH.nil)
          go_simp
          refine (CQ.out V1 (X2.out.trans E1 (fun _ _ h => h)) L HL2.out HR1).mono ?_
          rintro e V2 ⟨rfl, hr, b⟩
          go_wp2_with fail
          have E2 : Exc (fun k => k = G) w2 V2 := E1.trans b (fun _ _ h => h)
          have HR2 : Holds V2 G (L.set j q) := hr
          have HT2 : Holds V2 D zeros33 := b.holds HT1 (show ¬ D = G by have := LD.out; have := X2.out.size; have := GS.out; omega)
          clear b
          refine hK.out _ _ (E2) (fun _ => ?_)
          clear hK K
          try simp only [Act.put, List.setIfInBounds_toArray, List.set_cons_zero, List.set_cons_succ]
          refine wpAnyH_ready (rs := [5]) (by kernel_rfl) (by simp) ?_
          refine (AllReadyH.cons (o := { dst := some 26, op := .call { callee := .value (.func 28), args := #[.tmp 21, .tmp 25], argTypes := _ }, type := _, pos := _, after := _, guard := none }) rfl (fun K hK => ?_) AllReadyH.nil)
          go_simp
          refine (LQ.out V2).mono ?_
          rintro e V3 ⟨rfl, bel⟩
          go_wp2_with fail
          have b : Exc (fun k => k = G) V2 V3 := Exc.of_bel bel
          have E3 : Exc (fun k => k = G) w2 V3 := E2.trans b (fun _ _ h => h)
          have HR3 : Holds V3 G (L.set j q) := HR2.bel bel
          have HT3 : Holds V3 D zeros33 := b.holds HT2 (show ¬ D = G by have := LD.out; have := X2.out.size; have := GS.out; omega)
          clear b
          refine hK.out _ _ (E3) (fun _ => ?_)
          clear hK K
          try simp only [Act.put, List.setIfInBounds_toArray, List.set_cons_zero, List.set_cons_succ]
          refine wpAnyH_take (i := 6) (oi := { dst := some 20, op := .move (.tmp 26), type := _, pos := _, after := _, guard := none }) (v := ?_) rfl (by kernel_rfl) (by kernel_rfl) (by kernel_rfl) (fun _ _ _ h => h) (Or.inl ⟨by rfl, ?_⟩) E3 ?_
          rotate_left
          · intro wx hSw; clear hSw; go_simp; with_reducible rfl
          try simp only [Act.put, List.setIfInBounds_toArray, List.set_cons_zero, List.set_cons_succ]
          refine wpAnyH_take (i := 7) (oi := { dst := some 27, op := .extract (.tmp 20) 0, type := _, pos := _, after := _, guard := none }) (v := ?_) rfl (by kernel_rfl) (by kernel_rfl) (by kernel_rfl) (fun _ _ _ h => h) (Or.inl ⟨by rfl, ?_⟩) E3 ?_
          rotate_left
          · intro wx hSw; clear hSw; go_simp; with_reducible rfl
          try simp only [Act.put, List.setIfInBounds_toArray, List.set_cons_zero, List.set_cons_succ]
          refine wpAnyH_take (i := 8) (oi := { dst := some 28, op := .extract (.tmp 20) 1, type := _, pos := _, after := _, guard := none }) (v := ?_) rfl (by kernel_rfl) (by kernel_rfl) (by kernel_rfl) (fun _ _ _ h => h) (Or.inl ⟨by rfl, ?_⟩) E3 ?_
          rotate_left
          · intro wx hSw; clear hSw; go_simp; with_reducible rfl
          try simp only [Act.put, List.setIfInBounds_toArray, List.set_cons_zero, List.set_cons_succ]
          refine wpAnyH_ready (rs := [10]) (by kernel_rfl) (by simp) ?_
          refine (AllReadyH.cons (o := { dst := none, op := .store 43 (.tmp 9) (.tmp 27), type := _, pos := _, after := _, guard := none }) rfl (fun K hK => ?_) AllReadyH.nil)
          rw [if_pos (by rfl)]
          refine wp_store_mid 43 _ _ rfl (D) 0 (vals A).toArray rfl rfl (by rw [size_vals, NA.out]; exact HT3.there 0 33 (by rw [NZ.out]; omega)) (by rw [wide26.size, size_vals, NA.out]) (vals_one _) ?_
          have HV := holds_all HT3 A (NZ.out.trans NA.out.symm)
          have XV : Exc (fun k => k = D) V3 (World.setCells V3 D 0 (vals A)) := Exc.setCells (S := fun k => k = D) (fun _ => rfl) _ 0 (Exc.refl _ _)
          have E4 : Exc (fun k => k = G) w2 (World.setCells V3 D 0 (vals A)) := E3.trans XV (fun k h e => absurd h (by have := LD.out; omega))
          have HR4 := XV.holds HR3 (show ¬ G = D by have := LD.out; have := X2.out.size; have := GS.out; omega)
          refine hK.out _ _ (E4) (fun _ => ?_)
          clear hK K
          try simp only [Act.put, List.setIfInBounds_toArray, List.set_cons_zero, List.set_cons_succ]
          try simp only [List.toList_toArray]
          refine wpAnyH_take (i := 11) (oi := { dst := some 10, op := .assign (.tmp 28), type := _, pos := _, after := _, guard := none }) (v := ?_) rfl (by kernel_rfl) (by kernel_rfl) (by kernel_rfl) (fun _ _ _ h => h) (Or.inl ⟨by rfl, ?_⟩) E4 ?_
          rotate_left
          · intro wx hSw; clear hSw; go_simp; with_reducible rfl
          try simp only [Act.put, List.setIfInBounds_toArray, List.set_cons_zero, List.set_cons_succ]
          refine wpAnyH_done (by kernel_rfl) ?_ _
          go_wp2_with fail
          go_meet
          exact ⟨D, rfl, rfl, LD.out, HV, HR4, E4⟩
      case rest =>
        obtain ⟨D, rfl, rfl, hD, hA, hG, hE⟩ := hcut
        have XC : Hid (Exc (fun k => k = G) w wc) := X2.out.trans hE (fun _ _ h => h)
        have CC : Hid (Holds wc C cj) := hE.holds C2.out NC.out
        have GC : Hid (Holds wc G (L.set j q)) := hG
        have DC : Hid (Holds wc D A) := hA
        have DD : Hid (w2.heap.size ≤ D) := hD
        have TA : Hid ((A.drop 0).take 33 = A) := take_all NA.out
        have OA2 : Hid (0 + 33 ≤ A.length) := show _ ≤ _ by rw [NA.out]; decide
        clear hD hA hG hE
        rcases OA.out with ⟨hp, rfl, hA⟩ | ⟨hp, rfl⟩
        · have HA : Hid (A = learnC cj v) := hA
          have HPV : Hid (passed 131072 v = false) := hp
          clear hA hp OA
          go_wp2_with (first
            | (with_reducible refine wpl_load_wide (o := 0) wide26 TA.out DC.out OA2.out rfl ?_)
            | ((with_reducible refine wpl_store_widex wide26 CC.out NL.out NA.out rfl rfl ?_); intro W3 H3 E3))
          go_roundw
          case rel =>
            refine ⟨j + 1, L.set j q, hlt, by go_num, fun i hi => ?_, ⟨by rw [List.length_set]; exact HL2.out, fun i hi => ?_⟩, E3.out.holds GC.out (fun e => NC.out e.symm), ?_, XC.out.trans E3.out (fun k hk e => absurd hk (by have := HC.out; omega))⟩
            · rcases Nat.lt_or_ge i j with h | h
              · exact HP.out i h
              · obtain rfl : i = j := by omega
                rw [HV.out]; exact HPV.out
            · rcases Nat.lt_or_ge i j with h | h
              · rw [Mod.getD_set_ne _ _ _ _ (by omega)]; exact HL.out.2 i h
              · obtain rfl : i = j := by omega
                rw [Mod.getD_set_eq _ _ _ (by have := HL2.out; omega)]; exact QP.out HPV.out
            · show Holds W3 C (learnC (chn f j) (f j))
              rw [HCJ.out, HV.out, ← HA.out]; exact H3.out
          case measure => simp [intOf]; omega
        · have HB2 : Hid (anyOf (passed 131072) f n = true) := anyOf_yes j hlt (by rw [HV.out]; exact hp)
          clear hp OA
          go_wp2_with fail
          go_ret
          exact ⟨fun _ => rfl, fun h => absurd (HB2.out.symm.trans h) (by decide), XC.out⟩
    · have hd : decide ((j : Int) < (n : Int)) = false := decide_eq_false (by omega)
      have HAN : Hid (anyOf (passed 131072) f n = false) := anyOf_no fun i hi => HP.out i (by omega)
      have HLL : Hid (L = (List.range n).map (res f)) := (by
        refine ext_getD _ _ (by rw [HL.out.1]; simp) fun k hk => ?_
        have hk2 : k < n := by rw [HL.out.1] at hk; exact hk
        rw [HL.out.2 k (by omega)]
        simp [List.getD_eq_getElem?_getD, hk2] : L = (List.range n).map (res f))
      go_wp2_with fail
      go_ret
      exact ⟨fun h => absurd (HAN.out.symm.trans h) (by decide), fun _ => ⟨rfl, HLL.out ▸ GR.out⟩, XR.out⟩

set_option maxRecDepth 20000 in
set_option maxHeartbeats 4000000 in
theorem follow_get (X R G n cap : Nat) (ao : Option Addr) (f : Nat → Int) (xs L0 : List Int) (hn : n = xs.length) (hxs : ∀ i, i < n → xs.getD i 0 = res f i) (h256 : n ≤ 256) (hfit : ∀ i, i < n → passed 16777216 (res f i) = false) (w : World)
    (cX : w.cell? ⟨X, 0, none⟩ = some (.slice ao n cap)) (cR : w.cell? ⟨R, 0, none⟩ = some (.slice (some ⟨G, 0, none⟩) n n)) (hA : Slc w ao xs) (hb : ∀ x, ao = some x → 0 < n → x.block ≠ G) (hX : X ≠ G) (hR : R ≠ G) (hG : Holds w G L0) (hL0 : L0.length = n) (hGs : G < w.heap.size) :
    Calls Try.prog 19 #[.int .i64 (n : Int), .func (.func 25) #[] #[.pointer (some ⟨X, 0, none⟩), .pointer (some ⟨R, 0, none⟩)]] w fun e w' =>
      (anyOf (passed 131072) f n = true → e = .returned (.bool false)) ∧ (anyOf (passed 131072) f n = false → e = .returned (.bool true) ∧ Holds w' G ((List.range n).map (f))) ∧ Exc (fun k => k = G) w w' := by
  have HS : Hid (∀ j, j < n → ∃ x, ao = some x ∧ w.cell? (x.add j) = some (.int .i64 (res f j))) := fun j hj => by
    obtain ⟨x, h1, h2⟩ := hA j (by omega)
    rw [hxs j hj] at h2
    exact ⟨x, h1, h2⟩
  have CX : Hid (w.cell? ⟨X, 0, none⟩ = some (.slice ao n cap)) := cX
  have CR : Hid (w.cell? ⟨R, 0, none⟩ = some (.slice (some ⟨G, 0, none⟩) n n)) := cR
  have HB : Hid (∀ x, ao = some x → 0 < n → x.block ≠ G) := hb
  have NXG : Hid (X ≠ G ∧ R ≠ G) := ⟨hX, hR⟩
  have G0 : Hid (Holds w G L0 ∧ L0.length = n) := ⟨hG, hL0⟩
  have GS : Hid (G < w.heap.size) := hGs
  have FH : Hid (∀ i, i < n → passed 16777216 (res f i) = false) := hfit
  have LE : Hid (∀ (L : List Int) (v : Int), mayC L = true → L.length = 33 → ∃ A ec, A.length = 33 ∧ (∀ w, Calls Try.prog 28 #[mdl L, .int .i64 v] w fun e w' => e = .returned (.tuple #[mdl A, .int .i64 ec]) ∧ Bel w w') ∧
      ((passed 131072 v = false ∧ ec = 0 ∧ A = learnC L v) ∨ (passed 131072 v = true ∧ ec = 1500))) := fun L v hm hL => by
    cases hp : passed 131072 v
    · exact ⟨_, _, learnC_len hL v, learn_yes L hL v hm hp, .inl ⟨rfl, rfl, rfl⟩⟩
    · exact ⟨_, _, zeros33_len, learn_far L hL v hm hp, .inr ⟨rfl, rfl⟩⟩
  have NZ : Hid (zeros33.length = 33) := zeros33_len
  have z := zero26
  have hq : ∀ wx : World, Exc (fun k => k = G) w wx → ∀ (j : Nat) (x : Addr) (L : List Int), j < n → L.length = n → Holds wx G L → ao = some x → w.cell? (x.add j) = some (.int .i64 (res f j)) → ∀ g : Int, -16777216 ≤ g ∧ g ≤ 16777216 →
      Calls Try.prog 25 #[.int .i64 (j : Int), .int .i64 g, .pointer (some ⟨X, 0, none⟩), .pointer (some ⟨R, 0, none⟩)] wx fun e w' => e = .returned (.int .i64 (res f j + g)) ∧ Holds w' G (L.set j (res f j + g)) ∧ Exc (fun k => k = G) wx w' := fun wx hE j x L hj hl hh hx hc g hg => by
    subst hx
    refine (gclo_ok X R G x n cap j hj h256 (res f j) g (L.getD j 0) (passed_no.1 (hfit j hj)) hg wx (hE.keep cX hX) (hE.keep cR hR) (hE.keep hc (by rw [add_block]; exact hb x rfl (by omega))) (hb x rfl (by omega)) hX hR (hh.cell j (by omega)) (hh.free j (by omega))).mono ?_
    rintro e w' ⟨rfl, rfl⟩
    exact ⟨rfl, (hh.set j (by omega) _).drew, (Exc.setCell (S := fun k => k = G) (a := ⟨G, j, none⟩) (Exc.refl _ wx) (fun _ => rfl) _).drew⟩
  have HQ : Hid (∀ wx : World, Exc (fun k => k = G) w wx → ∀ (j : Nat) (x : Addr) (L : List Int), j < n → L.length = n → Holds wx G L → ao = some x → w.cell? (x.add j) = some (.int .i64 (res f j)) → ∀ g : Int, -16777216 ≤ g ∧ g ≤ 16777216 →
      Calls Try.prog 25 #[.int .i64 (j : Int), .int .i64 g, .pointer (some ⟨X, 0, none⟩), .pointer (some ⟨R, 0, none⟩)] wx fun e w' => e = .returned (.int .i64 (res f j + g)) ∧ Holds w' G (L.set j (res f j + g)) ∧ Exc (fun k => k = G) wx w') := hq
  have c0 : Holds (w.alloc (.cells (vals zeros33).toArray 43)) w.heap.size (chn f 0) := holds_new w zeros33 _
  have C0 : Hid (Holds (w.alloc (.cells (vals zeros33).toArray 43)) w.heap.size (chn f 0)) := c0
  have X0 : Hid (Exc (fun k => k = G) w (w.alloc (.cells (vals zeros33).toArray 43))) := (Exc.refl _ w).alloc _
  have R0 : Hid (Holds (w.alloc (.cells (vals zeros33).toArray 43)) G L0) := hG.bel ((Bel.refl w).alloc _)
  clear hA cX cR hb hX hR hG hL0 hGs c0 hxs hn hq hfit
  go_enter Try.func19, Try.ntmps19
  go_wp2_with fail
  obtain ⟨W1, hW1⟩ : ∃ W, W = w.alloc (.cells (vals zeros33).toArray 43) := ⟨_, rfl⟩
  obtain ⟨C, hC⟩ : ∃ C, C = w.heap.size := ⟨_, rfl⟩
  have HC : Hid (C = w.heap.size) := hC
  rw [← hC, ← hW1] at C0
  rw [← hW1] at X0 R0 ⊢
  rw [← hC]
  clear hW1 hC
  have NC : Hid (C ≠ G) := (by have := HC.out; have := GS.out; omega : C ≠ G)
  go_loopw [12] (fun i wr => ∃ (j : Nat) (L : List Int), j ≤ n ∧ i = .int .i64 (j : Int) ∧ Hid (∀ i, i < j → passed 131072 (f i) = false) ∧ Hid (L.length = n ∧ ∀ i, i < j → L.getD i 0 = f i) ∧ Hid (Holds wr G L) ∧ Hid (Holds wr C (chn f j)) ∧ Hid (Exc (fun k => k = G) w wr)) (fun i _ => n - (intOf i).toNat)
  case atStart => exact ⟨0, L0, Nat.zero_le _, rfl, fun i hi => by omega, ⟨G0.out.2, fun i hi => by omega⟩, R0, C0, X0⟩
  case round =>
    obtain ⟨j, L, hj, rfl, HP, HL, GR, CR2, XR⟩ := hrel
    clear C0 X0 R0
    by_cases hlt : j < n
    · have hd : decide ((j : Int) < (n : Int)) = true := decide_eq_true (by omega)
      have mj := chn_may f j HP.out
      have nj := chn_len f j
      have RG0 : ∀ g, guessC (chn f j) = g → res f j = f j - g := fun g hg => by unfold res; rw [hg]
      obtain ⟨cj, hcj⟩ : ∃ cj, chn f j = cj := ⟨_, rfl⟩
      have HCJ : Hid (chn f j = cj) := hcj
      rw [hcj] at mj nj CR2 RG0
      have TL : Hid ((cj.drop 0).take 33 = cj) := take_all nj
      have OL : Hid (0 + 33 ≤ cj.length) := show _ ≤ _ by rw [nj]; decide
      have NL : Hid (cj.length = 33) := nj
      obtain ⟨x, hx, hc⟩ := HS.out j hlt
      have QC := fun wx (h : Exc (fun k => k = G) w wx) (L2 : List Int) (h2 : L2.length = n) (h3 : Holds wx G L2) => HQ.out wx h j x L2 hlt h2 h3 hx hc
      obtain ⟨g, hg⟩ : ∃ g, guessC cj = g := ⟨_, rfl⟩
      have gr := guessC_range mj
      rw [hg] at gr
      have GQ : Hid (∀ w, Calls Try.prog 27 #[mdl cj] w fun e w' => e = .returned (.tuple #[.int .i64 g, .int .i64 0]) ∧ Bel w w') := hg ▸ guess_yes cj nj mj
      have RG : Hid (res f j = f j - g) := RG0 g hg
      obtain ⟨v, hv⟩ : ∃ v, f j = v := ⟨_, rfl⟩
      obtain ⟨A, ec, nA, lA, oA⟩ := LE.out cj v mj nj
      have LQ : Hid (∀ w, Calls Try.prog 28 #[mdl cj, .int .i64 v] w fun e w' => e = .returned (.tuple #[mdl A, .int .i64 ec]) ∧ Bel w w') := lA
      have NA : Hid (A.length = 33) := nA
      have OA : Hid ((passed 131072 v = false ∧ ec = 0 ∧ A = learnC cj v) ∨ (passed 131072 v = true ∧ ec = 1500)) := oA
      have HV : Hid (f j = v) := hv
      obtain ⟨q, hq⟩ : ∃ q, v = q := ⟨_, rfl⟩
      have QP : Hid (passed 131072 v = false → q = f j) := fun h => by rw [hv, hq]
      have ev : res f j + g = v := by rw [RG.out, hv]; omega
      have CQ : Hid (∀ wx : World, Exc (fun k => k = G) w wx → ∀ L2 : List Int, L2.length = n → Holds wx G L2 → Calls Try.prog 25 #[.int .i64 (j : Int), .int .i64 g, .pointer (some ⟨X, 0, none⟩), .pointer (some ⟨R, 0, none⟩)] wx fun e w' => e = .returned (.int .i64 v) ∧ Holds w' G (L2.set j q) ∧ Exc (fun k => k = G) wx w') := fun wx h L2 h2 h3 => by
        have := QC wx h L2 h2 h3 g (by omega)
        rw [ev] at this
        rw [← hq]
        exact this
      clear hq ev
      have HL2 : Hid (L.length = n) := HL.out.1
      have hjn : Hid (j < n) := hlt
      clear hg mj nj RG0 lA nA oA hv hx hc hcj QC
      go_wp2_with (first | (with_reducible refine wpl_load_wide (o := 0) wide26 TL.out CR2.out OL.out rfl ?_))
      refine (GQ.out _).mono ?_
      rintro e w2 ⟨rfl, b⟩
      have X2 : Hid (Exc (fun k => k = G) w w2) := XR.out.bel b
      have C2 : Hid (Holds w2 C cj) := CR2.out.bel b
      have G2 : Hid (Holds w2 G L) := GR.out.bel b
      clear b XR CR2 GR
      go_wp2_with fail
      try simp only [Act.put, List.setIfInBounds_toArray, List.set_cons_zero, List.set_cons_succ]
      go_cut [9, 10] from 20 to 28 (fun v9 v10 wx => ∃ D, v9 = .pointer (some ⟨D, 0, none⟩) ∧ v10 = .int .i64 ec ∧ w2.heap.size ≤ D ∧ Holds wx D A ∧ Holds wx G (L.set j q) ∧ Exc (fun k => k = G) w2 wx)
      case first =>
        refine wp_region_held_drew (S := fun wx => Exc (fun k => k = G) w2 wx) (by kernel_rfl) (Exc.refl _ w2).drew (fun hHeld => ?_)
        obtain ⟨V0, hV0⟩ : ∃ V, V = World.drew w2 := ⟨_, rfl⟩
        rw [← hV0] at hHeld ⊢
        have HR0 : Holds V0 G L := hV0 ▸ G2.out.drew
        clear hV0
        refine wpAnyH_take (i := 0) (oi := { dst := some 21, op := .load 43 (.tmp 5), type := _, pos := _, after := _, guard := none }) (v := _) rfl (by kernel_rfl) (by kernel_rfl) (by kernel_rfl) (fun _ _ _ h => h) (yieldsIf_load_mid (by rfl) 43 _ rfl C 0 rfl (vals cj) _ (fun wx hSw => (hSw.holds C2.out NC.out).range) Try.underlying43 rfl (by rw [wide26.size, vals_length, NL.out])) hHeld ?_
        try simp only [Act.put, List.setIfInBounds_toArray, List.set_cons_zero, List.set_cons_succ]
        refine wpAnyH_take (i := 1) (oi := { dst := some 22, op := .move (.tmp 1), type := _, pos := _, after := _, guard := none }) (v := ?_) rfl (by kernel_rfl) (by kernel_rfl) (by kernel_rfl) (fun _ _ _ h => h) (Or.inl ⟨by rfl, ?_⟩) hHeld ?_
        rotate_left
        · intro wx hSw; clear hSw; go_simp; with_reducible rfl
        try simp only [Act.put, List.setIfInBounds_toArray, List.set_cons_zero, List.set_cons_succ]
        refine wpAnyH_take (i := 2) (oi := { dst := some 23, op := .move (.tmp 6), type := _, pos := _, after := _, guard := none }) (v := ?_) rfl (by kernel_rfl) (by kernel_rfl) (by kernel_rfl) (fun _ _ _ h => h) (Or.inl ⟨by rfl, ?_⟩) hHeld ?_
        rotate_left
        · intro wx hSw; clear hSw; go_simp; with_reducible rfl
        try simp only [Act.put, List.setIfInBounds_toArray, List.set_cons_zero, List.set_cons_succ]
        refine wpAnyH_take (i := 3) (oi := { dst := some 24, op := .move (.tmp 7), type := _, pos := _, after := _, guard := none }) (v := ?_) rfl (by kernel_rfl) (by kernel_rfl) (by kernel_rfl) (fun _ _ _ h => h) (Or.inl ⟨by rfl, ?_⟩) hHeld ?_
        rotate_left
        · intro wx hSw; clear hSw; go_simp; with_reducible rfl
        try simp only [Act.put, List.setIfInBounds_toArray, List.set_cons_zero, List.set_cons_succ]
        have E0 : Exc (fun k => k = G) w2 V0 := hHeld
        clear hHeld
        refine wpAnyH_ready (rs := [4, 9]) (by kernel_rfl) (by simp) ?_
        refine (AllReadyH.cons (o := { dst := some 25, op := .call { callee := .value (.tmp 22), args := #[.tmp 23, .tmp 24], argTypes := _ }, type := _, pos := _, after := _, guard := none }) rfl (fun K hK => ?_) (AllReadyH.cons (o := { dst := some 9, op := .alloc 43, type := _, pos := _, after := _, guard := none }) rfl (fun K hK => ?_) AllReadyH.nil))
        · go_simp
          refine (CQ.out V0 (X2.out.trans E0 (fun _ _ h => h)) L HL2.out HR0).mono ?_
          rintro e V1 ⟨rfl, hr, b⟩
          go_wp2_with fail
          have E1 : Exc (fun k => k = G) w2 V1 := E0.trans b (fun _ _ h => h)
          have HR1 : Holds V1 G (L.set j q) := hr
          clear b
          refine hK.out _ _ (E1) (fun _ => ?_)
          clear hK K
          try simp only [Act.put, List.setIfInBounds_toArray, List.set_cons_zero, List.set_cons_succ]
          refine wpAnyH_ready (rs := [5, 9]) (by kernel_rfl) (by simp) ?_
          refine (AllReadyH.cons (o := { dst := some 26, op := .call { callee := .value (.func 28), args := #[.tmp 21, .tmp 25], argTypes := _ }, type := _, pos := _, after := _, guard := none }) rfl (fun K hK => ?_) (AllReadyH.cons (o := { dst := some 9, op := .alloc 43, type := _, pos := _, after := _, guard := none }) rfl (fun K hK => ?_) AllReadyH.nil))
          · go_simp
            refine (LQ.out V1).mono ?_
            rintro e V2 ⟨rfl, bel⟩
            go_wp2_with fail
            have b : Exc (fun k => k = G) V1 V2 := Exc.of_bel bel
            have E2 : Exc (fun k => k = G) w2 V2 := E1.trans b (fun _ _ h => h)
            have HR2 : Holds V2 G (L.set j q) := HR1.bel bel
            clear b
            refine hK.out _ _ (E2) (fun _ => ?_)
            clear hK K
            try simp only [Act.put, List.setIfInBounds_toArray, List.set_cons_zero, List.set_cons_succ]
            refine wpAnyH_take (i := 6) (oi := { dst := some 20, op := .move (.tmp 26), type := _, pos := _, after := _, guard := none }) (v := ?_) rfl (by kernel_rfl) (by kernel_rfl) (by kernel_rfl) (fun _ _ _ h => h) (Or.inl ⟨by rfl, ?_⟩) E2 ?_
            rotate_left
            · intro wx hSw; clear hSw; go_simp; with_reducible rfl
            try simp only [Act.put, List.setIfInBounds_toArray, List.set_cons_zero, List.set_cons_succ]
            refine wpAnyH_take (i := 7) (oi := { dst := some 27, op := .extract (.tmp 20) 0, type := _, pos := _, after := _, guard := none }) (v := ?_) rfl (by kernel_rfl) (by kernel_rfl) (by kernel_rfl) (fun _ _ _ h => h) (Or.inl ⟨by rfl, ?_⟩) E2 ?_
            rotate_left
            · intro wx hSw; clear hSw; go_simp; with_reducible rfl
            try simp only [Act.put, List.setIfInBounds_toArray, List.set_cons_zero, List.set_cons_succ]
            refine wpAnyH_take (i := 8) (oi := { dst := some 28, op := .extract (.tmp 20) 1, type := _, pos := _, after := _, guard := none }) (v := ?_) rfl (by kernel_rfl) (by kernel_rfl) (by kernel_rfl) (fun _ _ _ h => h) (Or.inl ⟨by rfl, ?_⟩) E2 ?_
            rotate_left
            · intro wx hSw; clear hSw; go_simp; with_reducible rfl
            try simp only [Act.put, List.setIfInBounds_toArray, List.set_cons_zero, List.set_cons_succ]
            refine wpAnyH_ready (rs := [9]) (by kernel_rfl) (by simp) ?_
            refine (AllReadyH.cons (o := { dst := some 9, op := .alloc 43, type := _, pos := _, after := _, guard := none }) rfl (fun K hK => ?_) AllReadyH.nil)
            go_simp
            refine hK.out _ _ (E2.alloc _) (fun _ => ?_)
            clear hK K
            try simp only [Act.put, List.setIfInBounds_toArray, List.set_cons_zero, List.set_cons_succ]
            obtain ⟨V3, hV3⟩ : ∃ V, V = World.alloc V2 (.cells (vals zeros33).toArray 43) := ⟨_, rfl⟩
            have E3 : Exc (fun k => k = G) w2 V3 := hV3 ▸ E2.alloc _
            have bb : Bel V2 V3 := hV3 ▸ (Bel.refl _).alloc _
            have HR3 : Holds V3 G (L.set j q) := HR2.bel bb
            have HT3 : Holds V3 (V2.heap.size) zeros33 := hV3 ▸ holds_new V2 zeros33 43
            obtain ⟨D, hD⟩ : ∃ D, V2.heap.size = D := ⟨_, rfl⟩
            have LD : Hid (w2.heap.size ≤ D) := (by rw [← hD]; exact E2.size : w2.heap.size ≤ D)
            rw [← hV3]
            rw [hD] at HT3 ⊢
            clear hV3 hD bb
            refine wpAnyH_ready (rs := [10]) (by kernel_rfl) (by simp) ?_
            refine (AllReadyH.cons (o := { dst := none, op := .store 43 (.tmp 9) (.tmp 27), type := _, pos := _, after := _, guard := none }) rfl (fun K hK => ?_) AllReadyH.nil)
            rw [if_pos (by rfl)]
            refine wp_store_mid 43 _ _ rfl (D) 0 (vals A).toArray rfl rfl (by rw [size_vals, NA.out]; exact HT3.there 0 33 (by rw [NZ.out]; omega)) (by rw [wide26.size, size_vals, NA.out]) (vals_one _) ?_
            have HV := holds_all HT3 A (NZ.out.trans NA.out.symm)
            have XV : Exc (fun k => k = D) V3 (World.setCells V3 D 0 (vals A)) := Exc.setCells (S := fun k => k = D) (fun _ => rfl) _ 0 (Exc.refl _ _)
            have E4 : Exc (fun k => k = G) w2 (World.setCells V3 D 0 (vals A)) := E3.trans XV (fun k h e => absurd h (by have := LD.out; omega))
            have HR4 := XV.holds HR3 (show ¬ G = D by have := LD.out; have := X2.out.size; have := GS.out; omega)
            refine hK.out _ _ (E4) (fun _ => ?_)
            clear hK K
            try simp only [Act.put, List.setIfInBounds_toArray, List.set_cons_zero, List.set_cons_succ]
            try simp only [List.toList_toArray]
            refine wpAnyH_take (i := 11) (oi := { dst := some 10, op := .assign (.tmp 28), type := _, pos := _, after := _, guard := none }) (v := ?_) rfl (by kernel_rfl) (by kernel_rfl) (by kernel_rfl) (fun _ _ _ h => h) (Or.inl ⟨by rfl, ?_⟩) E4 ?_
            rotate_left
            · intro wx hSw; clear hSw; go_simp; with_reducible rfl
            try simp only [Act.put, List.setIfInBounds_toArray, List.set_cons_zero, List.set_cons_succ]
            refine wpAnyH_done (by kernel_rfl) ?_ _
            go_wp2_with fail
            go_meet
            exact ⟨D, rfl, rfl, LD.out, HV, HR4, E4⟩
          · go_simp
            refine hK.out _ _ (E1.alloc _) (fun _ => ?_)
            clear hK K
            try simp only [Act.put, List.setIfInBounds_toArray, List.set_cons_zero, List.set_cons_succ]
            obtain ⟨V2, hV2⟩ : ∃ V, V = World.alloc V1 (.cells (vals zeros33).toArray 43) := ⟨_, rfl⟩
            have E2 : Exc (fun k => k = G) w2 V2 := hV2 ▸ E1.alloc _
            have bb : Bel V1 V2 := hV2 ▸ (Bel.refl _).alloc _
            have HR2 : Holds V2 G (L.set j q) := HR1.bel bb
            have HT2 : Holds V2 (V1.heap.size) zeros33 := hV2 ▸ holds_new V1 zeros33 43
            obtain ⟨D, hD⟩ : ∃ D, V1.heap.size = D := ⟨_, rfl⟩
            have LD : Hid (w2.heap.size ≤ D) := (by rw [← hD]; exact E1.size : w2.heap.size ≤ D)
            rw [← hV2]
            rw [hD] at HT2 ⊢
            clear hV2 hD bb
            refine wpAnyH_ready (rs := [5]) (by kernel_rfl) (by simp) ?_
            refine (AllReadyH.cons (o := { dst := some 26, op := .call { callee := .value (.func 28), args := #[.tmp 21, .tmp 25], argTypes := _ }, type := _, pos := _, after := _, guard := none }) rfl (fun K hK => ?_) AllReadyH.nil)
            go_simp
            refine (LQ.out V2).mono ?_
            rintro e V3 ⟨rfl, bel⟩
            go_wp2_with fail
            have b : Exc (fun k => k = G) V2 V3 := Exc.of_bel bel
            have E3 : Exc (fun k => k = G) w2 V3 := E2.trans b (fun _ _ h => h)
            have HR3 : Holds V3 G (L.set j q) := HR2.bel bel
            have HT3 : Holds V3 D zeros33 := b.holds HT2 (show ¬ D = G by have := LD.out; have := X2.out.size; have := GS.out; omega)
            clear b
            refine hK.out _ _ (E3) (fun _ => ?_)
            clear hK K
            try simp only [Act.put, List.setIfInBounds_toArray, List.set_cons_zero, List.set_cons_succ]
            refine wpAnyH_take (i := 6) (oi := { dst := some 20, op := .move (.tmp 26), type := _, pos := _, after := _, guard := none }) (v := ?_) rfl (by kernel_rfl) (by kernel_rfl) (by kernel_rfl) (fun _ _ _ h => h) (Or.inl ⟨by rfl, ?_⟩) E3 ?_
            rotate_left
            · intro wx hSw; clear hSw; go_simp; with_reducible rfl
            try simp only [Act.put, List.setIfInBounds_toArray, List.set_cons_zero, List.set_cons_succ]
            refine wpAnyH_take (i := 7) (oi := { dst := some 27, op := .extract (.tmp 20) 0, type := _, pos := _, after := _, guard := none }) (v := ?_) rfl (by kernel_rfl) (by kernel_rfl) (by kernel_rfl) (fun _ _ _ h => h) (Or.inl ⟨by rfl, ?_⟩) E3 ?_
            rotate_left
            · intro wx hSw; clear hSw; go_simp; with_reducible rfl
            try simp only [Act.put, List.setIfInBounds_toArray, List.set_cons_zero, List.set_cons_succ]
            refine wpAnyH_take (i := 8) (oi := { dst := some 28, op := .extract (.tmp 20) 1, type := _, pos := _, after := _, guard := none }) (v := ?_) rfl (by kernel_rfl) (by kernel_rfl) (by kernel_rfl) (fun _ _ _ h => h) (Or.inl ⟨by rfl, ?_⟩) E3 ?_
            rotate_left
            · intro wx hSw; clear hSw; go_simp; with_reducible rfl
            try simp only [Act.put, List.setIfInBounds_toArray, List.set_cons_zero, List.set_cons_succ]
            refine wpAnyH_ready (rs := [10]) (by kernel_rfl) (by simp) ?_
            refine (AllReadyH.cons (o := { dst := none, op := .store 43 (.tmp 9) (.tmp 27), type := _, pos := _, after := _, guard := none }) rfl (fun K hK => ?_) AllReadyH.nil)
            rw [if_pos (by rfl)]
            refine wp_store_mid 43 _ _ rfl (D) 0 (vals A).toArray rfl rfl (by rw [size_vals, NA.out]; exact HT3.there 0 33 (by rw [NZ.out]; omega)) (by rw [wide26.size, size_vals, NA.out]) (vals_one _) ?_
            have HV := holds_all HT3 A (NZ.out.trans NA.out.symm)
            have XV : Exc (fun k => k = D) V3 (World.setCells V3 D 0 (vals A)) := Exc.setCells (S := fun k => k = D) (fun _ => rfl) _ 0 (Exc.refl _ _)
            have E4 : Exc (fun k => k = G) w2 (World.setCells V3 D 0 (vals A)) := E3.trans XV (fun k h e => absurd h (by have := LD.out; omega))
            have HR4 := XV.holds HR3 (show ¬ G = D by have := LD.out; have := X2.out.size; have := GS.out; omega)
            refine hK.out _ _ (E4) (fun _ => ?_)
            clear hK K
            try simp only [Act.put, List.setIfInBounds_toArray, List.set_cons_zero, List.set_cons_succ]
            try simp only [List.toList_toArray]
            refine wpAnyH_take (i := 11) (oi := { dst := some 10, op := .assign (.tmp 28), type := _, pos := _, after := _, guard := none }) (v := ?_) rfl (by kernel_rfl) (by kernel_rfl) (by kernel_rfl) (fun _ _ _ h => h) (Or.inl ⟨by rfl, ?_⟩) E4 ?_
            rotate_left
            · intro wx hSw; clear hSw; go_simp; with_reducible rfl
            try simp only [Act.put, List.setIfInBounds_toArray, List.set_cons_zero, List.set_cons_succ]
            refine wpAnyH_done (by kernel_rfl) ?_ _
            go_wp2_with fail
            go_meet
            exact ⟨D, rfl, rfl, LD.out, HV, HR4, E4⟩
        · go_simp
          refine hK.out _ _ (E0.alloc _) (fun _ => ?_)
          clear hK K
          try simp only [Act.put, List.setIfInBounds_toArray, List.set_cons_zero, List.set_cons_succ]
          obtain ⟨V1, hV1⟩ : ∃ V, V = World.alloc V0 (.cells (vals zeros33).toArray 43) := ⟨_, rfl⟩
          have E1 : Exc (fun k => k = G) w2 V1 := hV1 ▸ E0.alloc _
          have bb : Bel V0 V1 := hV1 ▸ (Bel.refl _).alloc _
          have HR1 : Holds V1 G L := HR0.bel bb
          have HT1 : Holds V1 (V0.heap.size) zeros33 := hV1 ▸ holds_new V0 zeros33 43
          obtain ⟨D, hD⟩ : ∃ D, V0.heap.size = D := ⟨_, rfl⟩
          have LD : Hid (w2.heap.size ≤ D) := (by rw [← hD]; exact E0.size : w2.heap.size ≤ D)
          rw [← hV1]
          rw [hD] at HT1 ⊢
          clear hV1 hD bb
          refine wpAnyH_ready (rs := [4]) (by kernel_rfl) (by simp) ?_
          refine (AllReadyH.cons (o := { dst := some 25, op := .call { callee := .value (.tmp 22), args := #[.tmp 23, .tmp 24], argTypes := _ }, type := _, pos := _, after := _, guard := none }) rfl (fun K hK => ?_) AllReadyH.nil)
          go_simp
          refine (CQ.out V1 (X2.out.trans E1 (fun _ _ h => h)) L HL2.out HR1).mono ?_
          rintro e V2 ⟨rfl, hr, b⟩
          go_wp2_with fail
          have E2 : Exc (fun k => k = G) w2 V2 := E1.trans b (fun _ _ h => h)
          have HR2 : Holds V2 G (L.set j q) := hr
          have HT2 : Holds V2 D zeros33 := b.holds HT1 (show ¬ D = G by have := LD.out; have := X2.out.size; have := GS.out; omega)
          clear b
          refine hK.out _ _ (E2) (fun _ => ?_)
          clear hK K
          try simp only [Act.put, List.setIfInBounds_toArray, List.set_cons_zero, List.set_cons_succ]
          refine wpAnyH_ready (rs := [5]) (by kernel_rfl) (by simp) ?_
          refine (AllReadyH.cons (o := { dst := some 26, op := .call { callee := .value (.func 28), args := #[.tmp 21, .tmp 25], argTypes := _ }, type := _, pos := _, after := _, guard := none }) rfl (fun K hK => ?_) AllReadyH.nil)
          go_simp
          refine (LQ.out V2).mono ?_
          rintro e V3 ⟨rfl, bel⟩
          go_wp2_with fail
          have b : Exc (fun k => k = G) V2 V3 := Exc.of_bel bel
          have E3 : Exc (fun k => k = G) w2 V3 := E2.trans b (fun _ _ h => h)
          have HR3 : Holds V3 G (L.set j q) := HR2.bel bel
          have HT3 : Holds V3 D zeros33 := b.holds HT2 (show ¬ D = G by have := LD.out; have := X2.out.size; have := GS.out; omega)
          clear b
          refine hK.out _ _ (E3) (fun _ => ?_)
          clear hK K
          try simp only [Act.put, List.setIfInBounds_toArray, List.set_cons_zero, List.set_cons_succ]
          refine wpAnyH_take (i := 6) (oi := { dst := some 20, op := .move (.tmp 26), type := _, pos := _, after := _, guard := none }) (v := ?_) rfl (by kernel_rfl) (by kernel_rfl) (by kernel_rfl) (fun _ _ _ h => h) (Or.inl ⟨by rfl, ?_⟩) E3 ?_
          rotate_left
          · intro wx hSw; clear hSw; go_simp; with_reducible rfl
          try simp only [Act.put, List.setIfInBounds_toArray, List.set_cons_zero, List.set_cons_succ]
          refine wpAnyH_take (i := 7) (oi := { dst := some 27, op := .extract (.tmp 20) 0, type := _, pos := _, after := _, guard := none }) (v := ?_) rfl (by kernel_rfl) (by kernel_rfl) (by kernel_rfl) (fun _ _ _ h => h) (Or.inl ⟨by rfl, ?_⟩) E3 ?_
          rotate_left
          · intro wx hSw; clear hSw; go_simp; with_reducible rfl
          try simp only [Act.put, List.setIfInBounds_toArray, List.set_cons_zero, List.set_cons_succ]
          refine wpAnyH_take (i := 8) (oi := { dst := some 28, op := .extract (.tmp 20) 1, type := _, pos := _, after := _, guard := none }) (v := ?_) rfl (by kernel_rfl) (by kernel_rfl) (by kernel_rfl) (fun _ _ _ h => h) (Or.inl ⟨by rfl, ?_⟩) E3 ?_
          rotate_left
          · intro wx hSw; clear hSw; go_simp; with_reducible rfl
          try simp only [Act.put, List.setIfInBounds_toArray, List.set_cons_zero, List.set_cons_succ]
          refine wpAnyH_ready (rs := [10]) (by kernel_rfl) (by simp) ?_
          refine (AllReadyH.cons (o := { dst := none, op := .store 43 (.tmp 9) (.tmp 27), type := _, pos := _, after := _, guard := none }) rfl (fun K hK => ?_) AllReadyH.nil)
          rw [if_pos (by rfl)]
          refine wp_store_mid 43 _ _ rfl (D) 0 (vals A).toArray rfl rfl (by rw [size_vals, NA.out]; exact HT3.there 0 33 (by rw [NZ.out]; omega)) (by rw [wide26.size, size_vals, NA.out]) (vals_one _) ?_
          have HV := holds_all HT3 A (NZ.out.trans NA.out.symm)
          have XV : Exc (fun k => k = D) V3 (World.setCells V3 D 0 (vals A)) := Exc.setCells (S := fun k => k = D) (fun _ => rfl) _ 0 (Exc.refl _ _)
          have E4 : Exc (fun k => k = G) w2 (World.setCells V3 D 0 (vals A)) := E3.trans XV (fun k h e => absurd h (by have := LD.out; omega))
          have HR4 := XV.holds HR3 (show ¬ G = D by have := LD.out; have := X2.out.size; have := GS.out; omega)
          refine hK.out _ _ (E4) (fun _ => ?_)
          clear hK K
          try simp only [Act.put, List.setIfInBounds_toArray, List.set_cons_zero, List.set_cons_succ]
          try simp only [List.toList_toArray]
          refine wpAnyH_take (i := 11) (oi := { dst := some 10, op := .assign (.tmp 28), type := _, pos := _, after := _, guard := none }) (v := ?_) rfl (by kernel_rfl) (by kernel_rfl) (by kernel_rfl) (fun _ _ _ h => h) (Or.inl ⟨by rfl, ?_⟩) E4 ?_
          rotate_left
          · intro wx hSw; clear hSw; go_simp; with_reducible rfl
          try simp only [Act.put, List.setIfInBounds_toArray, List.set_cons_zero, List.set_cons_succ]
          refine wpAnyH_done (by kernel_rfl) ?_ _
          go_wp2_with fail
          go_meet
          exact ⟨D, rfl, rfl, LD.out, HV, HR4, E4⟩
      case rest =>
        obtain ⟨D, rfl, rfl, hD, hA, hG, hE⟩ := hcut
        have XC : Hid (Exc (fun k => k = G) w wc) := X2.out.trans hE (fun _ _ h => h)
        have CC : Hid (Holds wc C cj) := hE.holds C2.out NC.out
        have GC : Hid (Holds wc G (L.set j q)) := hG
        have DC : Hid (Holds wc D A) := hA
        have DD : Hid (w2.heap.size ≤ D) := hD
        have TA : Hid ((A.drop 0).take 33 = A) := take_all NA.out
        have OA2 : Hid (0 + 33 ≤ A.length) := show _ ≤ _ by rw [NA.out]; decide
        clear hD hA hG hE
        rcases OA.out with ⟨hp, rfl, hA⟩ | ⟨hp, rfl⟩
        · have HA : Hid (A = learnC cj v) := hA
          have HPV : Hid (passed 131072 v = false) := hp
          clear hA hp OA
          go_wp2_with (first
            | (with_reducible refine wpl_load_wide (o := 0) wide26 TA.out DC.out OA2.out rfl ?_)
            | ((with_reducible refine wpl_store_widex wide26 CC.out NL.out NA.out rfl rfl ?_); intro W3 H3 E3))
          go_roundw
          case rel =>
            refine ⟨j + 1, L.set j q, hlt, by go_num, fun i hi => ?_, ⟨by rw [List.length_set]; exact HL2.out, fun i hi => ?_⟩, E3.out.holds GC.out (fun e => NC.out e.symm), ?_, XC.out.trans E3.out (fun k hk e => absurd hk (by have := HC.out; omega))⟩
            · rcases Nat.lt_or_ge i j with h | h
              · exact HP.out i h
              · obtain rfl : i = j := by omega
                rw [HV.out]; exact HPV.out
            · rcases Nat.lt_or_ge i j with h | h
              · rw [Mod.getD_set_ne _ _ _ _ (by omega)]; exact HL.out.2 i h
              · obtain rfl : i = j := by omega
                rw [Mod.getD_set_eq _ _ _ (by have := HL2.out; omega)]; exact QP.out HPV.out
            · show Holds W3 C (learnC (chn f j) (f j))
              rw [HCJ.out, HV.out, ← HA.out]; exact H3.out
          case measure => simp [intOf]; omega
        · have HB2 : Hid (anyOf (passed 131072) f n = true) := anyOf_yes j hlt (by rw [HV.out]; exact hp)
          clear hp OA
          go_wp2_with fail
          go_ret
          exact ⟨fun _ => rfl, fun h => absurd (HB2.out.symm.trans h) (by decide), XC.out⟩
    · have hd : decide ((j : Int) < (n : Int)) = false := decide_eq_false (by omega)
      have HAN : Hid (anyOf (passed 131072) f n = false) := anyOf_no fun i hi => HP.out i (by omega)
      have HLL : Hid (L = (List.range n).map (f)) := (by
        refine ext_getD _ _ (by rw [HL.out.1]; simp) fun k hk => ?_
        have hk2 : k < n := by rw [HL.out.1] at hk; exact hk
        rw [HL.out.2 k (by omega)]
        simp [List.getD_eq_getElem?_getD, hk2] : L = (List.range n).map (f))
      go_wp2_with fail
      go_ret
      exact ⟨fun h => absurd (HAN.out.symm.trans h) (by decide), fun _ => ⟨rfl, HLL.out ▸ GR.out⟩, XR.out⟩

end Go.Proofs.Ytamefddgpdhccaa.Ser
