/-
  The contracts of the reference's PutLine and GetLine. Conditions: the rows are there.
-/
import Derived.Test.YtamefddgpdhccaaJPut
import Derived.Test.YtamefddgpdhccaaHRefLearn
import Derived.Test.YtamefddgpdhccaaGApp
import Derived.Test.YtamefddgpdhccaaGExcW
import Derived.Deep.RegionHeld3
import Derived.Deep.CutRange
namespace Go.Proofs.Ytamefddgpdhccaa.Ser
open Go.RowKit Go.Sort Go.Proofs.Ytamefddgpdhccaa.Mod Go.Proofs.Ytamefddgpdhccaa.Lin Go.Proofs.Ytamefddgpdhccaa.Chn Go.Proofs.Ytamefddgpdhccaa.Ints
set_option linter.unusedVariables false
set_option linter.unusedSimpArgs false

theorem range_more (f : Nat → Int) (j : Nat) : (List.range j).map f ++ [f j] = (List.range (j + 1)).map f := by
  rw [List.range_succ, List.map_append]; rfl
theorem owns_nil (w : World) (B : Nat) : w.ownsRow B 3 1 (.slice none 0 0) 0 (vals []) := ⟨rfl, .inl ⟨rfl, rfl⟩⟩

set_option maxRecDepth 20000 in
set_option maxHeartbeats 4000000 in
theorem rput_walk (ao : Option Addr) (f : Nat → Int) (xs : List Int) (n cap : Nat) (hn : n = xs.length) (hxs : ∀ i, i < n → xs.getD i 0 = f i) (hx : n ≤ 256) (w : World) (hA : Slc w ao xs) :
    Calls Try.prog 10 #[.slice ao n cap] w fun e w' =>
      ((∃ i, i < n ∧ passed 131072 (f i) = true) → e = .returned (.tuple #[.slice none 0 0, .int .i64 1600])) ∧
      ((¬ ∃ i, i < n ∧ passed 131072 (f i) = true) → ∃ bo c, e = .returned (.tuple #[.slice bo n c, .int .i64 0]) ∧ n ≤ c ∧ c ≤ maxLen ∧ Slc w' bo ((List.range n).map (res f))) ∧ Bel w w' := by
  have HS : Hid (∀ j, j < n → ∃ x, ao = some x ∧ w.cell? (x.add j) = some (.int .i64 (f j))) := fun j hj => by
    obtain ⟨x, h1, h2⟩ := hA j (by omega)
    rw [hxs j hj] at h2
    exact ⟨x, h1, h2⟩
  have hd0 : decide ((256 : Int) < (n : Int)) = false := decide_eq_false (by omega)
  have LE : Hid (∀ (L : List Int) (v : Int), mayC L = true → L.length = 33 → ∃ A ec, A.length = 33 ∧ (∀ w, Calls Try.prog 22 #[mdl L, .int .i64 v] w fun e w' => e = .returned (.tuple #[mdl A, .int .i64 ec]) ∧ Bel w w') ∧
      ((passed 131072 v = false ∧ ec = 0 ∧ A = learnC L v) ∨ (passed 131072 v = true ∧ ec = 1500))) := fun L v hm hL => by
    cases hp : passed 131072 v
    · exact ⟨_, _, learnC_len hL v, rclearn_yes L hL v hm hp, .inl ⟨rfl, rfl, rfl⟩⟩
    · exact ⟨_, _, zeros33_len, rclearn_far L hL v hm hp, .inr ⟨rfl, rfl⟩⟩
  have NZ : Hid (zeros33.length = 33) := zeros33_len
  have z := zero26
  have C0 : Hid (Holds (w.alloc (.cells (vals zeros33).toArray 43)) w.heap.size (chn f 0)) := holds_new w zeros33 _
  have B0 : Hid (Bel w (w.alloc (.cells (vals zeros33).toArray 43))) := (Bel.refl w).alloc _
  have S0 : Hid ((w.alloc (.cells (vals zeros33).toArray 43)).heap.size = w.heap.size + 1) := (by simp : (w.alloc (.cells (vals zeros33).toArray 43)).heap.size = w.heap.size + 1)
  clear hA hxs hn
  go_enter Try.func10, Try.ntmps10
  go_wp2_with fail
  obtain ⟨W1, hW1⟩ : ∃ W, W = w.alloc (.cells (vals zeros33).toArray 43) := ⟨_, rfl⟩
  obtain ⟨C, hC⟩ : ∃ C, C = w.heap.size := ⟨_, rfl⟩
  have HC : Hid (C = w.heap.size) := hC
  rw [← hC, ← hW1] at C0 S0
  rw [← hW1] at B0 ⊢
  rw [← hC]
  clear hW1 hC
  have O0 : Hid (W1.ownsRow (C + 1) 3 1 (.slice none 0 0) 0 (vals ((List.range 0).map (res f)))) := owns_nil _ _
  go_loopw [5, 6] (fun v5 i wr => ∃ (j : Nat) (vo : Value), vo = v5 ∧ j ≤ n ∧ i = .int .i64 (j : Int) ∧ Hid (∀ i, i < j → passed 131072 (f i) = false) ∧ Hid (wr.ownsRow (C + 1) 3 1 vo j (vals ((List.range j).map (res f)))) ∧ Hid (Holds wr C (chn f j)) ∧ Hid (Bel w wr ∧ C + 1 ≤ wr.heap.size)) (fun _ i _ => n - (intOf i).toNat)
  case atStart => exact ⟨0, _, rfl, Nat.zero_le _, rfl, fun i hi => by omega, O0, C0, ⟨B0.out, by have := S0.out; omega⟩⟩
  case round =>
    obtain ⟨j, vo, rfl, hj, rfl, HP, HO, CR2, BR⟩ := hrel
    clear C0 B0 O0 S0
    by_cases hlt : j < n
    · have hd : decide ((j : Int) < (n : Int)) = true := decide_eq_true (by omega)
      have mj := chn_may f j (fun i hi => HP.out i hi)
      have nj := chn_len f j
      have RG0 : ∀ g, guessC (chn f j) = g → res f j = f j - g := fun g hg => by unfold res; rw [hg]
      obtain ⟨cj, hcj⟩ : ∃ cj, chn f j = cj := ⟨_, rfl⟩
      have HCJ : Hid (chn f j = cj) := hcj
      rw [hcj] at mj nj CR2 RG0
      have TL : Hid ((cj.drop 0).take 33 = cj) := take_all nj
      have OL : Hid (0 + 33 ≤ cj.length) := show _ ≤ _ by rw [nj]; decide
      have NL : Hid (cj.length = 33) := nj
      obtain ⟨x, rfl, hc⟩ := HS.out j hlt
      obtain ⟨g, hg⟩ : ∃ g, guessC cj = g := ⟨_, rfl⟩
      have gr := guessC_range mj
      rw [hg] at gr
      obtain ⟨g0, g1⟩ := gr
      have GQ : Hid (∀ w, Calls Try.prog 21 #[mdl cj] w fun e w' => e = .returned (.tuple #[.int .i64 g, .int .i64 0]) ∧ Bel w w') := hg ▸ rcguess_yes cj nj mj
      have RG : Hid (res f j = f j - g) := RG0 g hg
      obtain ⟨v, hv⟩ : ∃ v, f j = v := ⟨_, rfl⟩
      obtain ⟨A, ec, nA, lA, oA⟩ := LE.out cj v mj nj
      have NA : Hid (A.length = 33) := nA
      have OA : Hid ((passed 131072 v = false ∧ ec = 0 ∧ A = learnC cj v) ∨ (passed 131072 v = true ∧ ec = 1500)) := oA
      have HV : Hid (f j = v) := hv
      have LQ : Hid (∀ w, Calls Try.prog 22 #[mdl cj, .int .i64 v] w fun e w' => e = .returned (.tuple #[mdl A, .int .i64 ec]) ∧ Bel w w') := lA
      rw [hv] at hc
      clear nA lA oA hv
      have hjn : Hid (j < n) := hlt
      clear hg mj nj RG0 hcj
      go_wp2_with (first | (with_reducible refine wpl_load_wide (o := 0) wide26 TL.out CR2.out OL.out rfl ?_))
      refine (GQ.out _).mono ?_
      rintro e w2 ⟨rfl, b⟩
      have B2 : Hid (Bel w w2) := BR.out.1.trans b
      have Z2 : Hid (C + 1 ≤ w2.heap.size) := (Nat.le_trans BR.out.2 b.size : C + 1 ≤ w2.heap.size)
      have C2 : Hid (Holds w2 C cj) := CR2.out.bel b
      have hc2 := (BR.out.1.trans b).keep hc
      have KC : Hid (w.cell? (x.add j) = some (.int .i64 v)) := hc
      have O2 := owns_bel HO.out b
      have HO2 : Hid (w2.ownsRow (C + 1) 3 1 vo j (vals ((List.range j).map (res f)))) := O2
      clear b BR CR2 HO hc O2
      go_wp2_with fail
      try simp only [Act.put, List.setIfInBounds_toArray, List.set_cons_zero, List.set_cons_succ]
      go_cut [9, 10] from 25 to 33 (fun v9 v10 wx => ∃ D, v9 = .pointer (some ⟨D, 0, none⟩) ∧ v10 = .int .i64 ec ∧ w2.heap.size ≤ D ∧ Holds wx D A ∧ Bel w2 wx)
      case first =>
        refine wp_region_held_drew (S := fun wx => Bel w2 wx) (by kernel_rfl) (Bel.refl w2).drew (fun hHeld => ?_)
        obtain ⟨V0, hV0⟩ : ∃ V, V = World.drew w2 := ⟨_, rfl⟩
        rw [← hV0] at hHeld ⊢
        have esw : V0.heap.size = (w2).heap.size := by rw [hV0]; rfl
        have ESW : Hid (V0.heap.size = (w2).heap.size) := esw
        clear esw hV0
        refine wpAnyH_take (i := 1) (oi := { dst := some 27, op := .move (.tmp 0), type := _, pos := _, after := _, guard := none }) (v := ?_) rfl (by kernel_rfl) (by kernel_rfl) (by kernel_rfl) (fun _ _ _ h => h) (Or.inl ⟨by rfl, ?_⟩) hHeld ?_
        rotate_left
        · intro wx hSw; clear hSw; go_simp; with_reducible rfl
        try simp only [Act.put, List.setIfInBounds_toArray, List.set_cons_zero, List.set_cons_succ]
        refine wpAnyH_take (i := 2) (oi := { dst := some 28, op := .move (.tmp 6), type := _, pos := _, after := _, guard := none }) (v := ?_) rfl (by kernel_rfl) (by kernel_rfl) (by kernel_rfl) (fun _ _ _ h => h) (Or.inl ⟨by rfl, ?_⟩) hHeld ?_
        rotate_left
        · intro wx hSw; clear hSw; go_simp; with_reducible rfl
        try simp only [Act.put, List.setIfInBounds_toArray, List.set_cons_zero, List.set_cons_succ]
        refine wpAnyH_take (i := 0) (oi := { dst := some 26, op := .load 43 (.tmp 4), type := _, pos := _, after := _, guard := none }) (v := _) rfl (by kernel_rfl) (by kernel_rfl) (by kernel_rfl) (fun _ _ _ h => h) (yieldsIf_load_mid (by rfl) 43 _ rfl C 0 rfl (vals cj) _ (fun wx hSw => (C2.out.bel hSw).range) Try.underlying43 rfl (by rw [wide26.size, vals_length, NL.out])) hHeld ?_
        try simp only [Act.put, List.setIfInBounds_toArray, List.set_cons_zero, List.set_cons_succ]
        refine wpAnyH_take (i := 3) (oi := { dst := some 29, op := .indexAddr 22 (.tmp 27) (.tmp 28), type := _, pos := _, after := _, guard := none }) (v := ?_) rfl (by kernel_rfl) (by kernel_rfl) (by kernel_rfl) (fun _ _ _ h => h) (Or.inl ⟨by rfl, ?_⟩) hHeld ?_
        rotate_left
        · intro wx hSw; clear hSw; go_simp; with_reducible rfl
        try simp only [Act.put, List.setIfInBounds_toArray, List.set_cons_zero, List.set_cons_succ]
        refine wpAnyH_take (i := 4) (oi := { dst := some 30, op := .load 3 (.tmp 29), type := _, pos := _, after := _, guard := none }) (v := ?_) rfl (by kernel_rfl) (by kernel_rfl) (by kernel_rfl) (fun _ _ _ h => h) (Or.inl ⟨by rfl, ?_⟩) hHeld ?_
        rotate_left
        · intro wx hSw; have y0 := Bel.keep hSw hc2; clear hSw; go_simp; with_reducible rfl
        try simp only [Act.put, List.setIfInBounds_toArray, List.set_cons_zero, List.set_cons_succ]
        have BV0 : Bel w2 V0 := hHeld
        clear hHeld
        refine wpAnyH_ready (rs := [5, 9]) (by kernel_rfl) (by simp) ?_
        refine (AllReadyH.cons (o := { dst := some 31, op := .call { callee := .value (.func 22), args := #[.tmp 26, .tmp 30], argTypes := _ }, type := _, pos := _, after := _, guard := none }) rfl (fun K hK => ?_) (AllReadyH.cons (o := { dst := some 9, op := .alloc 43, type := _, pos := _, after := _, guard := none }) rfl (fun K hK => ?_) AllReadyH.nil))
        · go_simp
          refine (LQ.out _).mono ?_
          rintro e w3 ⟨rfl, b3⟩
          go_wp2_with fail
          have B3 : Bel w2 w3 := BV0.trans b3
          have SZ : Hid (V0.heap.size ≤ w3.heap.size) := b3.size
          refine hK.out _ _ (B3) (fun _ => ?_)
          clear hK K
          try simp only [Act.put, List.setIfInBounds_toArray, List.set_cons_zero, List.set_cons_succ]
          refine wpAnyH_take (i := 6) (oi := { dst := some 25, op := .move (.tmp 31), type := _, pos := _, after := _, guard := none }) (v := ?_) rfl (by kernel_rfl) (by kernel_rfl) (by kernel_rfl) (fun _ _ _ h => h) (Or.inl ⟨by rfl, ?_⟩) B3 ?_
          rotate_left
          · intro wx hSw; clear hSw; go_simp; with_reducible rfl
          try simp only [Act.put, List.setIfInBounds_toArray, List.set_cons_zero, List.set_cons_succ]
          refine wpAnyH_take (i := 7) (oi := { dst := some 32, op := .extract (.tmp 25) 0, type := _, pos := _, after := _, guard := none }) (v := ?_) rfl (by kernel_rfl) (by kernel_rfl) (by kernel_rfl) (fun _ _ _ h => h) (Or.inl ⟨by rfl, ?_⟩) B3 ?_
          rotate_left
          · intro wx hSw; clear hSw; go_simp; with_reducible rfl
          try simp only [Act.put, List.setIfInBounds_toArray, List.set_cons_zero, List.set_cons_succ]
          refine wpAnyH_take (i := 8) (oi := { dst := some 33, op := .extract (.tmp 25) 1, type := _, pos := _, after := _, guard := none }) (v := ?_) rfl (by kernel_rfl) (by kernel_rfl) (by kernel_rfl) (fun _ _ _ h => h) (Or.inl ⟨by rfl, ?_⟩) B3 ?_
          rotate_left
          · intro wx hSw; clear hSw; go_simp; with_reducible rfl
          try simp only [Act.put, List.setIfInBounds_toArray, List.set_cons_zero, List.set_cons_succ]
          refine wpAnyH_ready (rs := [9]) (by kernel_rfl) (by simp) ?_
          refine (AllReadyH.cons (o := { dst := some 9, op := .alloc 43, type := _, pos := _, after := _, guard := none }) rfl (fun K hK => ?_) AllReadyH.nil)
          have Bw3 : Bel w2 w3 := B3
          go_simp
          refine hK.out _ _ (Bw3.alloc _) (fun _ => ?_)
          clear hK K
          try simp only [Act.put, List.setIfInBounds_toArray, List.set_cons_zero, List.set_cons_succ]
          obtain ⟨V1, hV1⟩ : ∃ V, V = World.alloc w3 (.cells (vals zeros33).toArray 43) := ⟨_, rfl⟩
          have BV1 : Bel w2 V1 := hV1 ▸ Bw3.alloc _
          have HT : Holds V1 (w3.heap.size) zeros33 := hV1 ▸ holds_new w3 zeros33 43
          rw [← hV1]
          clear hV1
          refine wpAnyH_ready (rs := [10]) (by kernel_rfl) (by simp) ?_
          refine (AllReadyH.cons (o := { dst := none, op := .store 43 (.tmp 9) (.tmp 32), type := _, pos := _, after := _, guard := none }) rfl (fun K hK => ?_) AllReadyH.nil)
          rw [if_pos (by rfl)]
          refine wp_store_mid 43 _ _ rfl (w3.heap.size) 0 (vals A).toArray rfl rfl (by rw [size_vals, NA.out]; exact HT.there 0 33 (by rw [NZ.out]; omega)) (by rw [wide26.size, size_vals, NA.out]) (vals_one _) ?_
          have B6 : Bel w2 (World.setCells V1 (w3.heap.size) 0 (vals A)) := Bel.setCells (by have := ESW.out; have := SZ.out; omega) _ _ BV1
          refine hK.out _ _ (B6) (fun _ => ?_)
          clear hK K
          try simp only [Act.put, List.setIfInBounds_toArray, List.set_cons_zero, List.set_cons_succ]
          try simp only [List.toList_toArray]
          refine wpAnyH_take (i := 11) (oi := { dst := some 10, op := .assign (.tmp 33), type := _, pos := _, after := _, guard := none }) (v := ?_) rfl (by kernel_rfl) (by kernel_rfl) (by kernel_rfl) (fun _ _ _ h => h) (Or.inl ⟨by rfl, ?_⟩) B6 ?_
          rotate_left
          · intro wx hSw; clear hSw; go_simp; with_reducible rfl
          try simp only [Act.put, List.setIfInBounds_toArray, List.set_cons_zero, List.set_cons_succ]
          refine wpAnyH_done (by kernel_rfl) ?_ _
          go_wp2_with fail
          go_meet
          exact ⟨w3.heap.size, rfl, rfl, by have := ESW.out; have := SZ.out; omega, holds_all HT A (NZ.out.trans NA.out.symm), B6⟩
        · go_simp
          refine hK.out _ _ (BV0.alloc _) (fun _ => ?_)
          clear hK K
          try simp only [Act.put, List.setIfInBounds_toArray, List.set_cons_zero, List.set_cons_succ]
          obtain ⟨V1, hV1⟩ : ∃ V, V = World.alloc V0 (.cells (vals zeros33).toArray 43) := ⟨_, rfl⟩
          have BV1 : Bel w2 V1 := hV1 ▸ BV0.alloc _
          have HT : Holds V1 (V0.heap.size) zeros33 := hV1 ▸ holds_new V0 zeros33 43
          rw [← hV1]
          clear hV1
          refine wpAnyH_ready (rs := [5]) (by kernel_rfl) (by simp) ?_
          refine (AllReadyH.cons (o := { dst := some 31, op := .call { callee := .value (.func 22), args := #[.tmp 26, .tmp 30], argTypes := _ }, type := _, pos := _, after := _, guard := none }) rfl (fun K hK => ?_) AllReadyH.nil)
          go_simp
          refine (LQ.out _).mono ?_
          rintro e w3 ⟨rfl, b3⟩
          go_wp2_with fail
          have B3 : Bel w2 w3 := BV1.trans b3
          have HT := HT.bel b3
          refine hK.out _ _ (B3) (fun _ => ?_)
          clear hK K
          try simp only [Act.put, List.setIfInBounds_toArray, List.set_cons_zero, List.set_cons_succ]
          refine wpAnyH_take (i := 6) (oi := { dst := some 25, op := .move (.tmp 31), type := _, pos := _, after := _, guard := none }) (v := ?_) rfl (by kernel_rfl) (by kernel_rfl) (by kernel_rfl) (fun _ _ _ h => h) (Or.inl ⟨by rfl, ?_⟩) B3 ?_
          rotate_left
          · intro wx hSw; clear hSw; go_simp; with_reducible rfl
          try simp only [Act.put, List.setIfInBounds_toArray, List.set_cons_zero, List.set_cons_succ]
          refine wpAnyH_take (i := 7) (oi := { dst := some 32, op := .extract (.tmp 25) 0, type := _, pos := _, after := _, guard := none }) (v := ?_) rfl (by kernel_rfl) (by kernel_rfl) (by kernel_rfl) (fun _ _ _ h => h) (Or.inl ⟨by rfl, ?_⟩) B3 ?_
          rotate_left
          · intro wx hSw; clear hSw; go_simp; with_reducible rfl
          try simp only [Act.put, List.setIfInBounds_toArray, List.set_cons_zero, List.set_cons_succ]
          refine wpAnyH_take (i := 8) (oi := { dst := some 33, op := .extract (.tmp 25) 1, type := _, pos := _, after := _, guard := none }) (v := ?_) rfl (by kernel_rfl) (by kernel_rfl) (by kernel_rfl) (fun _ _ _ h => h) (Or.inl ⟨by rfl, ?_⟩) B3 ?_
          rotate_left
          · intro wx hSw; clear hSw; go_simp; with_reducible rfl
          try simp only [Act.put, List.setIfInBounds_toArray, List.set_cons_zero, List.set_cons_succ]
          refine wpAnyH_ready (rs := [10]) (by kernel_rfl) (by simp) ?_
          refine (AllReadyH.cons (o := { dst := none, op := .store 43 (.tmp 9) (.tmp 32), type := _, pos := _, after := _, guard := none }) rfl (fun K hK => ?_) AllReadyH.nil)
          rw [if_pos (by rfl)]
          refine wp_store_mid 43 _ _ rfl (V0.heap.size) 0 (vals A).toArray rfl rfl (by rw [size_vals, NA.out]; exact HT.there 0 33 (by rw [NZ.out]; omega)) (by rw [wide26.size, size_vals, NA.out]) (vals_one _) ?_
          have B6 : Bel w2 (World.setCells w3 (V0.heap.size) 0 (vals A)) := Bel.setCells (by have := ESW.out; omega) _ _ B3
          refine hK.out _ _ (B6) (fun _ => ?_)
          clear hK K
          try simp only [Act.put, List.setIfInBounds_toArray, List.set_cons_zero, List.set_cons_succ]
          try simp only [List.toList_toArray]
          refine wpAnyH_take (i := 11) (oi := { dst := some 10, op := .assign (.tmp 33), type := _, pos := _, after := _, guard := none }) (v := ?_) rfl (by kernel_rfl) (by kernel_rfl) (by kernel_rfl) (fun _ _ _ h => h) (Or.inl ⟨by rfl, ?_⟩) B6 ?_
          rotate_left
          · intro wx hSw; clear hSw; go_simp; with_reducible rfl
          try simp only [Act.put, List.setIfInBounds_toArray, List.set_cons_zero, List.set_cons_succ]
          refine wpAnyH_done (by kernel_rfl) ?_ _
          go_wp2_with fail
          go_meet
          exact ⟨V0.heap.size, rfl, rfl, by have := ESW.out; omega, holds_all HT A (NZ.out.trans NA.out.symm), B6⟩
      case rest =>
        obtain ⟨D, rfl, rfl, hD, hA, hE⟩ := hcut
        have BC : Hid (Bel w wc) := B2.out.trans hE
        have CC : Hid (Holds wc C cj) := C2.out.bel hE
        have DC : Hid (Holds wc D A) := hA
        have OW : Hid (w2.ownsRow (C + 1) 3 1 vo j (vals ((List.range j).map (res f)))) := HO2
        have OC : Hid (wc.ownsRow (C + 1) 3 1 vo j (vals ((List.range j).map (res f)))) := owns_bel HO2.out hE
        have ZC : Hid (C + 1 ≤ wc.heap.size) := (Nat.le_trans Z2.out hE.size : C + 1 ≤ wc.heap.size)
        have kc := BC.out.keep KC.out
        have TA : Hid ((A.drop 0).take 33 = A) := take_all NA.out
        have OA2 : Hid (0 + 33 ≤ A.length) := show _ ≤ _ by rw [NA.out]; decide
        have DD : Hid (w2.heap.size ≤ D) := hD
        clear hD hA hE hc2 HO2
        rcases OA.out with ⟨hp, rfl, hA⟩ | ⟨hp, rfl⟩
        · have HA : Hid (A = learnC cj v) := hA
          have HPV : Hid (passed 131072 v = false) := hp
          obtain ⟨v0, v1⟩ := passed_no.1 hp
          clear hA hp OA
          have h8 : Hid (j * 8 ≤ 140737488351232) := (by omega : j * 8 ≤ 140737488351232)
          obtain ⟨y, hy⟩ : ∃ y, v - g = y := ⟨_, rfl⟩
          have EY : Hid (y = res f j) := (by rw [← hy, RG.out, HV.out] : y = res f j)
          have MORE : Hid ((List.range j).map (res f) ++ [y] = (List.range (j + 1)).map (res f)) := (by rw [EY.out]; exact range_more (res f) j : (List.range j).map (res f) ++ [y] = (List.range (j + 1)).map (res f))
          have YW : v - g = y := hy
          clear hy
          go_wp2_with (at_builtin; refine wpl_more_exc wc rfl (.tmp 36) (.tmp 43) rfl (C + 1) j ZC.out vo ((List.range j).map (res f)) _ rfl rfl OC.out h8.out ?_)
          intro v6 w6 o6 b6
          have H6 : Hid (w6.ownsRow (C + 1) 3 1 v6 (j + 1) (vals ((List.range (j + 1)).map (res f)))) := (by rw [← MORE.out]; first | exact o6 | (rw [← YW]; exact o6) : w6.ownsRow (C + 1) 3 1 v6 (j + 1) (vals ((List.range (j + 1)).map (res f))))
          have D6 : Hid (Holds w6 D A) := b6.holds DC.out (fun e => by have := (own_old OW.out e).2; have := DD.out; omega)
          have C6 : Hid (Holds w6 C cj) := b6.holds CC.out (fun e => by have := (own_old OW.out e).1; omega)
          have B6 : Hid (Bel w w6) := b6.from BC.out (fun i e => by have := (own_old OW.out e).1; have := HC.out; omega)
          have Z6 : Hid (C + 1 ≤ w6.heap.size) := (Nat.le_trans ZC.out b6.size : C + 1 ≤ w6.heap.size)
          have OV : Hid (0 + 33 ≤ cj.length) := OL
          have PC : Hid (put cj 0 A = A) := put_all _ _ (NL.out.trans NA.out.symm)
          have WC : Hid (w.heap.size ≤ C) := (by have := HC.out; omega : w.heap.size ≤ C)
          clear o6 b6 DC CC BC OC kc
          go_wp2_with (first
            | (with_reducible refine wpl_load_wide (o := 0) wide26 TA.out D6.out OA2.out rfl ?_)
            | ((with_reducible refine wpl_store_widex wide26 C6.out NL.out NA.out rfl rfl ?_); intro W3 H3 E3))
          go_roundw
          case rel =>
            refine ⟨j + 1, _, rfl, hjn.out, by go_num, fun i hi => ?_, E3.out.owns H6.out (fun k hk e => by omega), ?_, E3.out.from B6.out (fun i e => by have := HC.out; omega), Nat.le_trans Z6.out E3.out.size⟩
            · rcases Nat.lt_or_ge i j with h | h
              · exact HP.out i h
              · obtain rfl : i = j := by omega
                rw [HV.out]; exact HPV.out
            · show Holds W3 C (learnC (chn f j) (f j))
              rw [HCJ.out, HV.out, ← HA.out]; exact H3.out
          case measure => simp [intOf]; have := hjn.out; omega
        · have HB2 : Hid (∃ i, i < n ∧ passed 131072 (f i) = true) := ⟨j, hjn.out, by rw [HV.out]; exact hp⟩
          clear hp OA
          go_wp2_with fail
          go_ret2
          exact ⟨fun _ => rfl, fun h => absurd HB2.out h, BC.out⟩
    · have hd : decide ((j : Int) < (n : Int)) = false := decide_eq_false (by omega)
      obtain rfl : j = n := by omega
      have HAN : Hid (¬ ∃ i, i < j ∧ passed 131072 (f i) = true) := fun ⟨i, hi, h⟩ => absurd (h.symm.trans (HP.out i hi)) (by decide)
      obtain ⟨bo, c, rfl, q1, q2, q3, q4⟩ := owns_slc HO.out
      have Q : Hid (j ≤ c ∧ c ≤ maxLen ∧ Slc wr bo ((List.range j).map (res f))) := ⟨q1, q2, q4⟩
      clear q1 q2 q3 q4
      go_wp2_with fail
      go_ret2
      exact ⟨fun h => absurd h HAN.out, fun _ => ⟨_, _, rfl, Q.out⟩, BR.out.1⟩

set_option maxRecDepth 20000 in
set_option maxHeartbeats 4000000 in
theorem rget_walk (ao : Option Addr) (f : Nat → Int) (xs : List Int) (n cap : Nat) (hn : n = xs.length) (hxs : ∀ i, i < n → xs.getD i 0 = res f i) (hx : n ≤ 256) (w : World) (hA : Slc w ao xs) :
    Calls Try.prog 12 #[.slice ao n cap] w fun e w' =>
      ((∃ i, i < n ∧ (passed 16777216 (res f i) = true ∨ passed 131072 (f i) = true)) → e = .returned (.tuple #[.slice none 0 0, .int .i64 1600])) ∧
      ((¬ ∃ i, i < n ∧ (passed 16777216 (res f i) = true ∨ passed 131072 (f i) = true)) → ∃ bo c, e = .returned (.tuple #[.slice bo n c, .int .i64 0]) ∧ n ≤ c ∧ c ≤ maxLen ∧ Slc w' bo ((List.range n).map (f))) ∧ Bel w w' := by
  have HS : Hid (∀ j, j < n → ∃ x, ao = some x ∧ w.cell? (x.add j) = some (.int .i64 (res f j))) := fun j hj => by
    obtain ⟨x, h1, h2⟩ := hA j (by omega)
    rw [hxs j hj] at h2
    exact ⟨x, h1, h2⟩
  have hd0 : decide ((256 : Int) < (n : Int)) = false := decide_eq_false (by omega)
  have LE : Hid (∀ (L : List Int) (v : Int), mayC L = true → L.length = 33 → ∃ A ec, A.length = 33 ∧ (∀ w, Calls Try.prog 22 #[mdl L, .int .i64 v] w fun e w' => e = .returned (.tuple #[mdl A, .int .i64 ec]) ∧ Bel w w') ∧
      ((passed 131072 v = false ∧ ec = 0 ∧ A = learnC L v) ∨ (passed 131072 v = true ∧ ec = 1500))) := fun L v hm hL => by
    cases hp : passed 131072 v
    · exact ⟨_, _, learnC_len hL v, rclearn_yes L hL v hm hp, .inl ⟨rfl, rfl, rfl⟩⟩
    · exact ⟨_, _, zeros33_len, rclearn_far L hL v hm hp, .inr ⟨rfl, rfl⟩⟩
  have NZ : Hid (zeros33.length = 33) := zeros33_len
  have z := zero26
  have C0 : Hid (Holds (w.alloc (.cells (vals zeros33).toArray 43)) w.heap.size (chn f 0)) := holds_new w zeros33 _
  have B0 : Hid (Bel w (w.alloc (.cells (vals zeros33).toArray 43))) := (Bel.refl w).alloc _
  have S0 : Hid ((w.alloc (.cells (vals zeros33).toArray 43)).heap.size = w.heap.size + 1) := (by simp : (w.alloc (.cells (vals zeros33).toArray 43)).heap.size = w.heap.size + 1)
  clear hA hxs hn
  go_enter Try.func12, Try.ntmps12
  go_wp2_with fail
  obtain ⟨W1, hW1⟩ : ∃ W, W = w.alloc (.cells (vals zeros33).toArray 43) := ⟨_, rfl⟩
  obtain ⟨C, hC⟩ : ∃ C, C = w.heap.size := ⟨_, rfl⟩
  have HC : Hid (C = w.heap.size) := hC
  rw [← hC, ← hW1] at C0 S0
  rw [← hW1] at B0 ⊢
  rw [← hC]
  clear hW1 hC
  have O0 : Hid (W1.ownsRow (C + 1) 3 1 (.slice none 0 0) 0 (vals ((List.range 0).map (f)))) := owns_nil _ _
  go_loopw [5, 6] (fun v5 i wr => ∃ (j : Nat) (vo : Value), vo = v5 ∧ j ≤ n ∧ i = .int .i64 (j : Int) ∧ Hid (∀ i, i < j → passed 131072 (f i) = false ∧ passed 16777216 (res f i) = false) ∧ Hid (wr.ownsRow (C + 1) 3 1 vo j (vals ((List.range j).map (f)))) ∧ Hid (Holds wr C (chn f j)) ∧ Hid (Bel w wr ∧ C + 1 ≤ wr.heap.size)) (fun _ i _ => n - (intOf i).toNat)
  case atStart => exact ⟨0, _, rfl, Nat.zero_le _, rfl, fun i hi => by omega, O0, C0, ⟨B0.out, by have := S0.out; omega⟩⟩
  case round =>
    obtain ⟨j, vo, rfl, hj, rfl, HP, HO, CR2, BR⟩ := hrel
    clear C0 B0 O0 S0
    by_cases hlt : j < n
    · have hd : decide ((j : Int) < (n : Int)) = true := decide_eq_true (by omega)
      have mj := chn_may f j (fun i hi => (HP.out i hi).1)
      have nj := chn_len f j
      have RG0 : ∀ g, guessC (chn f j) = g → res f j = f j - g := fun g hg => by unfold res; rw [hg]
      obtain ⟨cj, hcj⟩ : ∃ cj, chn f j = cj := ⟨_, rfl⟩
      have HCJ : Hid (chn f j = cj) := hcj
      rw [hcj] at mj nj CR2 RG0
      have TL : Hid ((cj.drop 0).take 33 = cj) := take_all nj
      have OL : Hid (0 + 33 ≤ cj.length) := show _ ≤ _ by rw [nj]; decide
      have NL : Hid (cj.length = 33) := nj
      obtain ⟨x, rfl, hc⟩ := HS.out j hlt
      obtain ⟨g, hg⟩ : ∃ g, guessC cj = g := ⟨_, rfl⟩
      have gr := guessC_range mj
      rw [hg] at gr
      obtain ⟨g0, g1⟩ := gr
      have GQ : Hid (∀ w, Calls Try.prog 21 #[mdl cj] w fun e w' => e = .returned (.tuple #[.int .i64 g, .int .i64 0]) ∧ Bel w w') := hg ▸ rcguess_yes cj nj mj
      have RG : Hid (res f j = f j - g) := RG0 g hg
      obtain ⟨v, hv⟩ : ∃ v, f j = v := ⟨_, rfl⟩
      obtain ⟨A, ec, nA, lA, oA⟩ := LE.out cj v mj nj
      have NA : Hid (A.length = 33) := nA
      have OA : Hid ((passed 131072 v = false ∧ ec = 0 ∧ A = learnC cj v) ∨ (passed 131072 v = true ∧ ec = 1500)) := oA
      have HV : Hid (f j = v) := hv
      obtain ⟨p, hp⟩ : ∃ p, res f j = p := ⟨_, rfl⟩
      have HPJ : Hid (res f j = p) := hp
      have EV : Hid (p + g = v) := (by have := RG.out; omega : p + g = v)
      have LQ : Hid (∀ z, z = v → ∀ w, Calls Try.prog 22 #[mdl cj, .int .i64 z] w fun e w' => e = .returned (.tuple #[mdl A, .int .i64 ec]) ∧ Bel w w') := fun z hz => hz ▸ lA
      have UQ : Hid (∀ w, Calls Try.prog 26 #[.int .i64 p, .int .i64 (-16777216), .int .i64 16777216] w fun e w' => e = .returned (.bool (!passed 16777216 p)) ∧ w' = w) := upto_ok 16777216 p
      rw [hp] at hc
      clear nA lA oA hv hp
      have hjn : Hid (j < n) := hlt
      clear hg mj nj RG0 hcj
      go_wp2_with (first | (with_reducible refine wpl_load_wide (o := 0) wide26 TL.out CR2.out OL.out rfl ?_))
      refine (GQ.out _).mono ?_
      rintro e w2 ⟨rfl, b⟩
      have B2 : Hid (Bel w w2) := BR.out.1.trans b
      have Z2 : Hid (C + 1 ≤ w2.heap.size) := (Nat.le_trans BR.out.2 b.size : C + 1 ≤ w2.heap.size)
      have C2 : Hid (Holds w2 C cj) := CR2.out.bel b
      have hc2 := (BR.out.1.trans b).keep hc
      have KC : Hid (w.cell? (x.add j) = some (.int .i64 p)) := hc
      have O2 := owns_bel HO.out b
      have HO2 : Hid (w2.ownsRow (C + 1) 3 1 vo j (vals ((List.range j).map (f)))) := O2
      clear b BR CR2 HO hc O2
      cases hfp : passed 16777216 p
      case true =>
        have HB2 : Hid (∃ i, i < n ∧ (passed 16777216 (res f i) = true ∨ passed 131072 (f i) = true)) := ⟨j, hjn.out, .inl (by rw [HPJ.out]; exact hfp)⟩
        rw [hfp] at UQ
        clear hfp
        go_wp2_with fail
        refine (UQ.out _).mono ?_
        rintro e w2 ⟨rfl, rfl⟩
        go_wp2_with fail
        go_ret2
        exact ⟨fun _ => rfl, fun h => absurd HB2.out h, B2.out⟩
      rw [hfp] at UQ
      have HFP : Hid (passed 16777216 p = false) := hfp
      obtain ⟨p0, p1⟩ := passed_no.1 hfp
      have SE : Hid (p + g = v) := EV
      have SW : Hid (IntKind.i64.wrap (p + g) = p + g) := show _ = _ by rw [IntKind.wrap_i64]; omega
      clear hfp
      go_wp2_with fail
      refine (UQ.out _).mono ?_
      rintro e w2 ⟨rfl, rfl⟩
      go_wp2_with fail
      try simp only [Act.put, List.setIfInBounds_toArray, List.set_cons_zero, List.set_cons_succ]
      go_cut [9, 10] from 31 to 41 (fun v9 v10 wx => ∃ D, v9 = .pointer (some ⟨D, 0, none⟩) ∧ v10 = .int .i64 ec ∧ w2.heap.size ≤ D ∧ Holds wx D A ∧ Bel w2 wx)
      case first =>
        refine wp_region_held_drew (S := fun wx => Bel w2 wx) (by kernel_rfl) (Bel.refl w2).drew (fun hHeld => ?_)
        obtain ⟨V0, hV0⟩ : ∃ V, V = World.drew w2 := ⟨_, rfl⟩
        rw [← hV0] at hHeld ⊢
        have esw : V0.heap.size = (w2).heap.size := by rw [hV0]; rfl
        have ESW : Hid (V0.heap.size = (w2).heap.size) := esw
        clear esw hV0
        refine wpAnyH_take (i := 1) (oi := { dst := some 33, op := .move (.tmp 0), type := _, pos := _, after := _, guard := none }) (v := ?_) rfl (by kernel_rfl) (by kernel_rfl) (by kernel_rfl) (fun _ _ _ h => h) (Or.inl ⟨by rfl, ?_⟩) hHeld ?_
        rotate_left
        · intro wx hSw; clear hSw; go_simp; with_reducible rfl
        try simp only [Act.put, List.setIfInBounds_toArray, List.set_cons_zero, List.set_cons_succ]
        refine wpAnyH_take (i := 2) (oi := { dst := some 34, op := .move (.tmp 6), type := _, pos := _, after := _, guard := none }) (v := ?_) rfl (by kernel_rfl) (by kernel_rfl) (by kernel_rfl) (fun _ _ _ h => h) (Or.inl ⟨by rfl, ?_⟩) hHeld ?_
        rotate_left
        · intro wx hSw; clear hSw; go_simp; with_reducible rfl
        try simp only [Act.put, List.setIfInBounds_toArray, List.set_cons_zero, List.set_cons_succ]
        refine wpAnyH_take (i := 5) (oi := { dst := some 37, op := .move (.tmp 7), type := _, pos := _, after := _, guard := none }) (v := ?_) rfl (by kernel_rfl) (by kernel_rfl) (by kernel_rfl) (fun _ _ _ h => h) (Or.inl ⟨by rfl, ?_⟩) hHeld ?_
        rotate_left
        · intro wx hSw; clear hSw; go_simp; with_reducible rfl
        try simp only [Act.put, List.setIfInBounds_toArray, List.set_cons_zero, List.set_cons_succ]
        refine wpAnyH_take (i := 0) (oi := { dst := some 32, op := .load 43 (.tmp 4), type := _, pos := _, after := _, guard := none }) (v := _) rfl (by kernel_rfl) (by kernel_rfl) (by kernel_rfl) (fun _ _ _ h => h) (yieldsIf_load_mid (by rfl) 43 _ rfl C 0 rfl (vals cj) _ (fun wx hSw => (C2.out.bel hSw).range) Try.underlying43 rfl (by rw [wide26.size, vals_length, NL.out])) hHeld ?_
        try simp only [Act.put, List.setIfInBounds_toArray, List.set_cons_zero, List.set_cons_succ]
        refine wpAnyH_take (i := 3) (oi := { dst := some 35, op := .indexAddr 22 (.tmp 33) (.tmp 34), type := _, pos := _, after := _, guard := none }) (v := ?_) rfl (by kernel_rfl) (by kernel_rfl) (by kernel_rfl) (fun _ _ _ h => h) (Or.inl ⟨by rfl, ?_⟩) hHeld ?_
        rotate_left
        · intro wx hSw; clear hSw; go_simp; with_reducible rfl
        try simp only [Act.put, List.setIfInBounds_toArray, List.set_cons_zero, List.set_cons_succ]
        refine wpAnyH_take (i := 4) (oi := { dst := some 36, op := .load 3 (.tmp 35), type := _, pos := _, after := _, guard := none }) (v := ?_) rfl (by kernel_rfl) (by kernel_rfl) (by kernel_rfl) (fun _ _ _ h => h) (Or.inl ⟨by rfl, ?_⟩) hHeld ?_
        rotate_left
        · intro wx hSw; have y0 := Bel.keep hSw hc2; clear hSw; go_simp; with_reducible rfl
        try simp only [Act.put, List.setIfInBounds_toArray, List.set_cons_zero, List.set_cons_succ]
        refine wpAnyH_take (i := 6) (oi := { dst := some 38, op := .binOp .add 3 (.tmp 36) (.tmp 37) 3, type := _, pos := _, after := _, guard := none }) (v := ?_) rfl (by kernel_rfl) (by kernel_rfl) (by kernel_rfl) (fun _ _ _ h => h) (Or.inl ⟨by rfl, ?_⟩) hHeld ?_
        rotate_left
        · intro wx hSw; clear hSw; go_simp; with_reducible rfl
        try simp only [Act.put, List.setIfInBounds_toArray, List.set_cons_zero, List.set_cons_succ]
        have BV0 : Bel w2 V0 := hHeld
        clear hHeld
        refine wpAnyH_ready (rs := [7, 11]) (by kernel_rfl) (by simp) ?_
        refine (AllReadyH.cons (o := { dst := some 39, op := .call { callee := .value (.func 22), args := #[.tmp 32, .tmp 38], argTypes := _ }, type := _, pos := _, after := _, guard := none }) rfl (fun K hK => ?_) (AllReadyH.cons (o := { dst := some 9, op := .alloc 43, type := _, pos := _, after := _, guard := none }) rfl (fun K hK => ?_) AllReadyH.nil))
        · go_simp
          refine (LQ.out _ (by first | exact SE.out | (rw [SW.out]; exact SE.out)) _).mono ?_
          rintro e w3 ⟨rfl, b3⟩
          go_wp2_with fail
          have B3 : Bel w2 w3 := BV0.trans b3
          have SZ : Hid (V0.heap.size ≤ w3.heap.size) := b3.size
          refine hK.out _ _ (B3) (fun _ => ?_)
          clear hK K
          try simp only [Act.put, List.setIfInBounds_toArray, List.set_cons_zero, List.set_cons_succ]
          refine wpAnyH_take (i := 8) (oi := { dst := some 31, op := .move (.tmp 39), type := _, pos := _, after := _, guard := none }) (v := ?_) rfl (by kernel_rfl) (by kernel_rfl) (by kernel_rfl) (fun _ _ _ h => h) (Or.inl ⟨by rfl, ?_⟩) B3 ?_
          rotate_left
          · intro wx hSw; clear hSw; go_simp; with_reducible rfl
          try simp only [Act.put, List.setIfInBounds_toArray, List.set_cons_zero, List.set_cons_succ]
          refine wpAnyH_take (i := 9) (oi := { dst := some 40, op := .extract (.tmp 31) 0, type := _, pos := _, after := _, guard := none }) (v := ?_) rfl (by kernel_rfl) (by kernel_rfl) (by kernel_rfl) (fun _ _ _ h => h) (Or.inl ⟨by rfl, ?_⟩) B3 ?_
          rotate_left
          · intro wx hSw; clear hSw; go_simp; with_reducible rfl
          try simp only [Act.put, List.setIfInBounds_toArray, List.set_cons_zero, List.set_cons_succ]
          refine wpAnyH_take (i := 10) (oi := { dst := some 41, op := .extract (.tmp 31) 1, type := _, pos := _, after := _, guard := none }) (v := ?_) rfl (by kernel_rfl) (by kernel_rfl) (by kernel_rfl) (fun _ _ _ h => h) (Or.inl ⟨by rfl, ?_⟩) B3 ?_
          rotate_left
          · intro wx hSw; clear hSw; go_simp; with_reducible rfl
          try simp only [Act.put, List.setIfInBounds_toArray, List.set_cons_zero, List.set_cons_succ]
          refine wpAnyH_ready (rs := [11]) (by kernel_rfl) (by simp) ?_
          refine (AllReadyH.cons (o := { dst := some 9, op := .alloc 43, type := _, pos := _, after := _, guard := none }) rfl (fun K hK => ?_) AllReadyH.nil)
          have Bw3 : Bel w2 w3 := B3
          go_simp
          refine hK.out _ _ (Bw3.alloc _) (fun _ => ?_)
          clear hK K
          try simp only [Act.put, List.setIfInBounds_toArray, List.set_cons_zero, List.set_cons_succ]
          obtain ⟨V1, hV1⟩ : ∃ V, V = World.alloc w3 (.cells (vals zeros33).toArray 43) := ⟨_, rfl⟩
          have BV1 : Bel w2 V1 := hV1 ▸ Bw3.alloc _
          have HT : Holds V1 (w3.heap.size) zeros33 := hV1 ▸ holds_new w3 zeros33 43
          rw [← hV1]
          clear hV1
          refine wpAnyH_ready (rs := [12]) (by kernel_rfl) (by simp) ?_
          refine (AllReadyH.cons (o := { dst := none, op := .store 43 (.tmp 9) (.tmp 40), type := _, pos := _, after := _, guard := none }) rfl (fun K hK => ?_) AllReadyH.nil)
          rw [if_pos (by rfl)]
          refine wp_store_mid 43 _ _ rfl (w3.heap.size) 0 (vals A).toArray rfl rfl (by rw [size_vals, NA.out]; exact HT.there 0 33 (by rw [NZ.out]; omega)) (by rw [wide26.size, size_vals, NA.out]) (vals_one _) ?_
          have B6 : Bel w2 (World.setCells V1 (w3.heap.size) 0 (vals A)) := Bel.setCells (by have := ESW.out; have := SZ.out; omega) _ _ BV1
          refine hK.out _ _ (B6) (fun _ => ?_)
          clear hK K
          try simp only [Act.put, List.setIfInBounds_toArray, List.set_cons_zero, List.set_cons_succ]
          try simp only [List.toList_toArray]
          refine wpAnyH_take (i := 13) (oi := { dst := some 10, op := .assign (.tmp 41), type := _, pos := _, after := _, guard := none }) (v := ?_) rfl (by kernel_rfl) (by kernel_rfl) (by kernel_rfl) (fun _ _ _ h => h) (Or.inl ⟨by rfl, ?_⟩) B6 ?_
          rotate_left
          · intro wx hSw; clear hSw; go_simp; with_reducible rfl
          try simp only [Act.put, List.setIfInBounds_toArray, List.set_cons_zero, List.set_cons_succ]
          refine wpAnyH_done (by kernel_rfl) ?_ _
          go_wp2_with fail
          go_meet
          exact ⟨w3.heap.size, rfl, rfl, by have := ESW.out; have := SZ.out; omega, holds_all HT A (NZ.out.trans NA.out.symm), B6⟩
        · go_simp
          refine hK.out _ _ (BV0.alloc _) (fun _ => ?_)
          clear hK K
          try simp only [Act.put, List.setIfInBounds_toArray, List.set_cons_zero, List.set_cons_succ]
          obtain ⟨V1, hV1⟩ : ∃ V, V = World.alloc V0 (.cells (vals zeros33).toArray 43) := ⟨_, rfl⟩
          have BV1 : Bel w2 V1 := hV1 ▸ BV0.alloc _
          have HT : Holds V1 (V0.heap.size) zeros33 := hV1 ▸ holds_new V0 zeros33 43
          rw [← hV1]
          clear hV1
          refine wpAnyH_ready (rs := [7]) (by kernel_rfl) (by simp) ?_
          refine (AllReadyH.cons (o := { dst := some 39, op := .call { callee := .value (.func 22), args := #[.tmp 32, .tmp 38], argTypes := _ }, type := _, pos := _, after := _, guard := none }) rfl (fun K hK => ?_) AllReadyH.nil)
          go_simp
          refine (LQ.out _ (by first | exact SE.out | (rw [SW.out]; exact SE.out)) _).mono ?_
          rintro e w3 ⟨rfl, b3⟩
          go_wp2_with fail
          have B3 : Bel w2 w3 := BV1.trans b3
          have HT := HT.bel b3
          refine hK.out _ _ (B3) (fun _ => ?_)
          clear hK K
          try simp only [Act.put, List.setIfInBounds_toArray, List.set_cons_zero, List.set_cons_succ]
          refine wpAnyH_take (i := 8) (oi := { dst := some 31, op := .move (.tmp 39), type := _, pos := _, after := _, guard := none }) (v := ?_) rfl (by kernel_rfl) (by kernel_rfl) (by kernel_rfl) (fun _ _ _ h => h) (Or.inl ⟨by rfl, ?_⟩) B3 ?_
          rotate_left
          · intro wx hSw; clear hSw; go_simp; with_reducible rfl
          try simp only [Act.put, List.setIfInBounds_toArray, List.set_cons_zero, List.set_cons_succ]
          refine wpAnyH_take (i := 9) (oi := { dst := some 40, op := .extract (.tmp 31) 0, type := _, pos := _, after := _, guard := none }) (v := ?_) rfl (by kernel_rfl) (by kernel_rfl) (by kernel_rfl) (fun _ _ _ h => h) (Or.inl ⟨by rfl, ?_⟩) B3 ?_
          rotate_left
          · intro wx hSw; clear hSw; go_simp; with_reducible rfl
          try simp only [Act.put, List.setIfInBounds_toArray, List.set_cons_zero, List.set_cons_succ]
          refine wpAnyH_take (i := 10) (oi := { dst := some 41, op := .extract (.tmp 31) 1, type := _, pos := _, after := _, guard := none }) (v := ?_) rfl (by kernel_rfl) (by kernel_rfl) (by kernel_rfl) (fun _ _ _ h => h) (Or.inl ⟨by rfl, ?_⟩) B3 ?_
          rotate_left
          · intro wx hSw; clear hSw; go_simp; with_reducible rfl
          try simp only [Act.put, List.setIfInBounds_toArray, List.set_cons_zero, List.set_cons_succ]
          refine wpAnyH_ready (rs := [12]) (by kernel_rfl) (by simp) ?_
          refine (AllReadyH.cons (o := { dst := none, op := .store 43 (.tmp 9) (.tmp 40), type := _, pos := _, after := _, guard := none }) rfl (fun K hK => ?_) AllReadyH.nil)
          rw [if_pos (by rfl)]
          refine wp_store_mid 43 _ _ rfl (V0.heap.size) 0 (vals A).toArray rfl rfl (by rw [size_vals, NA.out]; exact HT.there 0 33 (by rw [NZ.out]; omega)) (by rw [wide26.size, size_vals, NA.out]) (vals_one _) ?_
          have B6 : Bel w2 (World.setCells w3 (V0.heap.size) 0 (vals A)) := Bel.setCells (by have := ESW.out; omega) _ _ B3
          refine hK.out _ _ (B6) (fun _ => ?_)
          clear hK K
          try simp only [Act.put, List.setIfInBounds_toArray, List.set_cons_zero, List.set_cons_succ]
          try simp only [List.toList_toArray]
          refine wpAnyH_take (i := 13) (oi := { dst := some 10, op := .assign (.tmp 41), type := _, pos := _, after := _, guard := none }) (v := ?_) rfl (by kernel_rfl) (by kernel_rfl) (by kernel_rfl) (fun _ _ _ h => h) (Or.inl ⟨by rfl, ?_⟩) B6 ?_
          rotate_left
          · intro wx hSw; clear hSw; go_simp; with_reducible rfl
          try simp only [Act.put, List.setIfInBounds_toArray, List.set_cons_zero, List.set_cons_succ]
          refine wpAnyH_done (by kernel_rfl) ?_ _
          go_wp2_with fail
          go_meet
          exact ⟨V0.heap.size, rfl, rfl, by have := ESW.out; omega, holds_all HT A (NZ.out.trans NA.out.symm), B6⟩
      case rest =>
        obtain ⟨D, rfl, rfl, hD, hA, hE⟩ := hcut
        have BC : Hid (Bel w wc) := B2.out.trans hE
        have CC : Hid (Holds wc C cj) := C2.out.bel hE
        have DC : Hid (Holds wc D A) := hA
        have OW : Hid (w2.ownsRow (C + 1) 3 1 vo j (vals ((List.range j).map (f)))) := HO2
        have OC : Hid (wc.ownsRow (C + 1) 3 1 vo j (vals ((List.range j).map (f)))) := owns_bel HO2.out hE
        have ZC : Hid (C + 1 ≤ wc.heap.size) := (Nat.le_trans Z2.out hE.size : C + 1 ≤ wc.heap.size)
        have kc := BC.out.keep KC.out
        have TA : Hid ((A.drop 0).take 33 = A) := take_all NA.out
        have OA2 : Hid (0 + 33 ≤ A.length) := show _ ≤ _ by rw [NA.out]; decide
        have DD : Hid (w2.heap.size ≤ D) := hD
        clear hD hA hE hc2 HO2
        rcases OA.out with ⟨hp, rfl, hA⟩ | ⟨hp, rfl⟩
        · have HA : Hid (A = learnC cj v) := hA
          have HPV : Hid (passed 131072 v = false) := hp
          obtain ⟨v0, v1⟩ := passed_no.1 hp
          clear hA hp OA
          have h8 : Hid (j * 8 ≤ 140737488351232) := (by omega : j * 8 ≤ 140737488351232)
          obtain ⟨y, hy⟩ : ∃ y, p + g = y := ⟨_, rfl⟩
          have EY : Hid (y = f j) := (by have := EV.out; have := HV.out; omega : y = f j)
          have MORE : Hid ((List.range j).map (f) ++ [y] = (List.range (j + 1)).map (f)) := (by rw [EY.out]; exact range_more (f) j : (List.range j).map (f) ++ [y] = (List.range (j + 1)).map (f))
          have YW : p + g = y := hy
          clear hy
          go_wp2_with (at_builtin; refine wpl_more_exc wc rfl (.tmp 44) (.tmp 51) rfl (C + 1) j ZC.out vo ((List.range j).map (f)) _ rfl rfl OC.out h8.out ?_)
          intro v6 w6 o6 b6
          have H6 : Hid (w6.ownsRow (C + 1) 3 1 v6 (j + 1) (vals ((List.range (j + 1)).map (f)))) := (by rw [← MORE.out]; first | exact o6 | (rw [← YW]; exact o6) : w6.ownsRow (C + 1) 3 1 v6 (j + 1) (vals ((List.range (j + 1)).map (f))))
          have D6 : Hid (Holds w6 D A) := b6.holds DC.out (fun e => by have := (own_old OW.out e).2; have := DD.out; omega)
          have C6 : Hid (Holds w6 C cj) := b6.holds CC.out (fun e => by have := (own_old OW.out e).1; omega)
          have B6 : Hid (Bel w w6) := b6.from BC.out (fun i e => by have := (own_old OW.out e).1; have := HC.out; omega)
          have Z6 : Hid (C + 1 ≤ w6.heap.size) := (Nat.le_trans ZC.out b6.size : C + 1 ≤ w6.heap.size)
          have OV : Hid (0 + 33 ≤ cj.length) := OL
          have PC : Hid (put cj 0 A = A) := put_all _ _ (NL.out.trans NA.out.symm)
          have WC : Hid (w.heap.size ≤ C) := (by have := HC.out; omega : w.heap.size ≤ C)
          clear o6 b6 DC CC BC OC kc
          go_wp2_with (first
            | (with_reducible refine wpl_load_wide (o := 0) wide26 TA.out D6.out OA2.out rfl ?_)
            | ((with_reducible refine wpl_store_widex wide26 C6.out NL.out NA.out rfl rfl ?_); intro W3 H3 E3))
          go_roundw
          case rel =>
            refine ⟨j + 1, _, rfl, hjn.out, by go_num, fun i hi => ?_, E3.out.owns H6.out (fun k hk e => by omega), ?_, E3.out.from B6.out (fun i e => by have := HC.out; omega), Nat.le_trans Z6.out E3.out.size⟩
            · rcases Nat.lt_or_ge i j with h | h
              · exact HP.out i h
              · obtain rfl : i = j := by omega
                exact ⟨by rw [HV.out]; exact HPV.out, by rw [HPJ.out]; exact HFP.out⟩
            · show Holds W3 C (learnC (chn f j) (f j))
              rw [HCJ.out, HV.out, ← HA.out]; exact H3.out
          case measure => simp [intOf]; have := hjn.out; omega
        · have HB2 : Hid (∃ i, i < n ∧ (passed 16777216 (res f i) = true ∨ passed 131072 (f i) = true)) := ⟨j, hjn.out, .inr (by rw [HV.out]; exact hp)⟩
          clear hp OA
          go_wp2_with fail
          go_ret2
          exact ⟨fun _ => rfl, fun h => absurd HB2.out h, BC.out⟩
    · have hd : decide ((j : Int) < (n : Int)) = false := decide_eq_false (by omega)
      obtain rfl : j = n := by omega
      have HAN : Hid (¬ ∃ i, i < j ∧ (passed 16777216 (res f i) = true ∨ passed 131072 (f i) = true)) := fun ⟨i, hi, h⟩ => by have := HP.out i hi; rw [this.1, this.2] at h; exact absurd h (by decide)
      obtain ⟨bo, c, rfl, q1, q2, q3, q4⟩ := owns_slc HO.out
      have Q : Hid (j ≤ c ∧ c ≤ maxLen ∧ Slc wr bo ((List.range j).map (f))) := ⟨q1, q2, q4⟩
      clear q1 q2 q3 q4
      go_wp2_with fail
      go_ret2
      exact ⟨fun h => absurd h HAN.out, fun _ => ⟨_, _, rfl, Q.out⟩, BR.out.1⟩

end Go.Proofs.Ytamefddgpdhccaa.Ser
