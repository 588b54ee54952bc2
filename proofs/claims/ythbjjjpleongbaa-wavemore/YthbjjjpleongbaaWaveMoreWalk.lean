/-
  WaveMore, walked: it answers true for every text and int, where the program's Parse keeps its contract. Condition: it does; the text's length is within the reach.
-/
import Derived.Test.YthbjjjpleongbaaWvMore
import Derived.Deep.RegionHeld3
namespace Go.Proofs.Ythbjjjpleongbaa.Wav
open Go.RowKit Go.Sort Go.Proofs.Ythbjjjpleongbaa.Mod Go.Proofs.Ythbjjjpleongbaa.Num Go.Proofs.Ythbjjjpleongbaa.Chk
set_option linter.unusedVariables false
set_option linter.unusedSimpArgs false

theorem parts_le {L : List UInt8} {y : Wv} (h : parse L = some y) : y.2.2.1.length ≤ 4096 ∧ y.2.2.2.1.length ≤ 4096 ∧ y.2.2.2.2.length ≤ 4096 := by
  have h1 := parse_le h
  rw [← parse_all h] at h1
  unfold all at h1
  simp only [List.length_append] at h1
  omega
theorem head_12 {L : List UInt8} {c b : Int} {H D T : List UInt8} (h : parse L = some (c, b, H, D, T)) : 12 ≤ H.length := by
  obtain ⟨A, hA, hfit⟩ := parse_chunks h
  obtain ⟨_, hc, _⟩ := chunks_chain hA
  cases hp : picks A 0 none none with
  | none => rw [hp] at hfit; cases hfit
  | some pr =>
    obtain ⟨fo, so⟩ := pr
    rw [hp] at hfit
    cases fo with
    | none => cases hfit
    | some i =>
      cases so with
      | none => cases hfit
      | some j =>
        obtain ⟨hi, hj⟩ := picks_lt A 0 none none i j (fun k hk => by cases hk) (fun k hk => by cases hk) hp
        rw [Nat.zero_add] at hi hj
        obtain ⟨ej, lj⟩ := chain_at L j A 12 hc hj
        have gj := stop_ge L j 12
        have nj := nxt_gt L (stop L j 12)
        have e := (fitP_some hfit).2.2
        have hH : H = L.take (A.getD j ([], 0, 0)).2.1 := congrArg (fun x : Wv => x.2.2.1) e
        rw [ej] at hH
        rw [hH, List.length_take]
        show 12 ≤ min (stop L j 12 + 8) L.length
        omega
theorem and7 (n : Int) : bits .and .i64 n 7 = n % 8 := and_mask 3 7 (by decide) (by decide) n

set_option maxRecDepth 8000 in
set_option maxHeartbeats 4000000 in
theorem more_no (P : ProgW) (L : List UInt8) (hL : L.length ≤ 140737488351232) (y : Wv) (ey : Int) (hy : ansW (parse L) = y) (hey : errW (parse L) = ey) (n : Nat) (eg : Int) (hg : errR (chunks L) = eg) (hn : (ansR (chunks L)).length = n)
    (hcond : ey ≠ 0 ∧ y = wv0 ∨ ey = 0 ∧ eg = 0 ∧ 12 ≤ y.2.2.1.length ∧ y.2.2.1.length ≤ 4096 ∧ (4056 < L.length ∨ 64 ≤ n)) (a : Int) (w : World) :
    Calls Try.prog 7 #[.string (tx L), .int .i64 a] w fun e w' => e = .returned (.bool true) ∧ Bel w w' := by
  have AW : Hid (∀ w, Calls Try.prog 13 #[] w fun e w' => e = .returned (.bool true) ∧ Bel w w') := awake_ok P
  have Q1 : Hid (∀ w, Calls Try.prog 8 #[.string (tx L)] w fun e w' => e = .returned (.tuple #[wvl y, .int .i64 ey]) ∧ Bel w w') := fun w => by
    have := P.parse (tx L) L rfl (by show L.length ≤ maxLen; unfold maxLen; omega) w
    rw [hy, hey] at this
    exact this
  have Q2 : Hid (∀ w, Calls Try.prog 15 #[.string (tx L)] w fun e w' => (∃ ao cap, e = .returned (.tuple #[.slice ao n cap, .int .i64 eg])) ∧ Bel w w') := fun w => by
    have := ref_k (tx L) L rfl (by show L.length ≤ maxLen; unfold maxLen; omega) _ rfl w
    rw [hg, hn] at this
    refine this.mono ?_
    rintro e w' ⟨⟨ao, cap, h, _, _⟩, b⟩
    exact ⟨⟨ao, cap, h⟩, b⟩
  have Y0 : Hid (∀ w : World, BoxV (w.alloc (.cells #[.int .i64 y.1, .int .i64 y.2.1, .string (tx y.2.2.1), .string (tx y.2.2.2.1), .string (tx y.2.2.2.2)] 25)) w.heap.size y) := fun w => boxV_new w y
  have E := fun w => eq_wv y wv0 w
  have zL := tx_size L
  clear P hy hey hg hn
  obtain ⟨yc, yb, yh, yd, yt⟩ := y
  simp only at Y0 hcond
  have zh := tx_size yh
  go_enter Try.func7, Try.ntmps7
  go_wp2_with fail
  refine (AW.out _).mono ?_
  rintro e w0 ⟨rfl, b0⟩
  go_wp2_with fail
  refine (Q1.out _).mono ?_
  rintro e w1 ⟨rfl, b1⟩
  have B1 : Hid (Bel w (w1.alloc (.cells #[.int .i64 yc, .int .i64 yb, .string (tx yh), .string (tx yd), .string (tx yt)] 25))) := (b0.trans b1).alloc _
  have Y1 : Hid (BoxV (w1.alloc (.cells #[.int .i64 yc, .int .i64 yb, .string (tx yh), .string (tx yd), .string (tx yt)] 25)) w1.heap.size (yc, yb, yh, yd, yt)) := Y0.out w1
  clear b0 b1 Y0
  go_wp2_with fail
  refine (Q2.out _).mono ?_
  rintro e w2 ⟨⟨ao, cap, rfl⟩, b2⟩
  have B2 : Hid (Bel w w2) := B1.out.trans b2
  obtain ⟨⟨c0, c1, c2, c3, c4⟩, _⟩ := Y1.out.bel b2
  simp only at c0 c1 c2 c3 c4
  clear b2 B1 Y1
  rcases hcond with ⟨h1, h2⟩ | ⟨rfl, rfl, h3, h3b, h4⟩
  · have n1 : (ey != 0) = true := by simp [h1]
    have n2 : (ey == 0) = false := by simp [h1]
    have E2 : ∀ w, (Op.equalIn 10000 25 (wvl (yc, yb, yh, yd, yt)) (wvl wv0)).run Try.prog w = .ok true w := fun w => by rw [E w, decide_eq_true h2]
    clear h1 h2 E
    go_wp2_with fail
    refine (num_ok _ _).mono ?_
    rintro e w7 ⟨rfl, rfl⟩
    go_wp2_with fail
    refine (num_ok _ _).mono ?_
    rintro e w7 ⟨rfl, rfl⟩
    go_wp2_with fail
    refine (num_ok _ _).mono ?_
    rintro e w7 ⟨rfl, rfl⟩
    go_wp2
    go_ret
    exact ⟨rfl, B2.out⟩
  · have n3 : decide ((yh.length : Int) < 12) = false := decide_eq_false (by omega)
    clear E
    rcases (Decidable.em (4056 < L.length)) with h5 | h5
    · have n5 : decide (4056 < (L.length : Int)) = true := decide_eq_true (by omega)
      go_wp2_with fail
      refine (num_ok _ _).mono ?_
      rintro e w7 ⟨rfl, rfl⟩
      go_wp2_with fail
      refine (num_ok _ _).mono ?_
      rintro e w7 ⟨rfl, rfl⟩
      go_wp2_with fail
      refine (num_ok _ _).mono ?_
      rintro e w7 ⟨rfl, rfl⟩
      go_wp2
      go_ret
      exact ⟨rfl, B2.out⟩
    · have n5 : decide (4056 < (L.length : Int)) = false := decide_eq_false (by omega)
      have n6 : decide (64 ≤ (n : Int)) = true := decide_eq_true (by omega)
      go_wp2_with fail
      refine (num_ok _ _).mono ?_
      rintro e w7 ⟨rfl, rfl⟩
      go_wp2_with fail
      refine (num_ok _ _).mono ?_
      rintro e w7 ⟨rfl, rfl⟩
      go_wp2_with fail
      refine (num_ok _ _).mono ?_
      rintro e w7 ⟨rfl, rfl⟩
      go_wp2
      go_ret
      exact ⟨rfl, B2.out⟩

/-- The block b holds N zeros. -/
def Zrow (w : World) (b N : Nat) : Prop := ∀ j, j < N → w.cell? ⟨b, j, none⟩ = some (.int .u8 0)
theorem Zrow.bel {w w' : World} {b N : Nat} (h : Zrow w b N) (k : Bel w w') : Zrow w' b N := fun j hj => k.keep (h j hj)
theorem zrow_new (w : World) (N : Nat) : Zrow (w.alloc (.cells (madeCells #[.int .u8 0] N) 5)) w.heap.size N := fun j hj => (World.rowIs_made w (.int .u8 0) N 5).cell hj
theorem Zrow.conv {w : World} {b N : Nat} (h : Zrow w b N) : (convert 39 9 (.slice (some ⟨b, 0, none⟩) N N)).run Try.prog w = .ok (.string (zeros N)) w := by
  have := run_convert_bytes_back (P := Try.prog) w 39 9 5 ⟨b, 0, none⟩ N (List.replicate N 0) Try.underlying39 Try.underlying5 Try.underlying9 (fun j hj => by
    rw [Addr.add_lit, Nat.zero_add, h j (by simpa using hj)]
    simp)
  rw [List.length_replicate] at this
  exact this

set_option maxRecDepth 20000 in
set_option maxHeartbeats 8000000 in
theorem more_yes (P : ProgW) (L : List UInt8) (A : List Ch) (hA : chunks L = some A) (c b : Int) (H D T : List UInt8) (h : parse L = some (c, b, H, D, T)) (hl : L.length ≤ 4056) (h64 : A.length < 64) (a : Int) (w : World) :
    Calls Try.prog 7 #[.string (tx L), .int .i64 a] w fun e w' => e = .returned (.bool true) ∧ Bel w w' := by
  have AW : Hid (∀ w, Calls Try.prog 13 #[] w fun e w' => e = .returned (.bool true) ∧ Bel w w') := awake_ok P
  obtain ⟨u, hu⟩ : ∃ u : Nat, a % 8 = (u : Int) := ⟨(a % 8).toNat, by omega⟩
  have ha : bits .and .i64 a 7 = (u : Int) := (and7 a).trans hu
  obtain ⟨K, hK⟩ : ∃ K : Nat, 2 * (u : Int) = (K : Int) := ⟨2 * u, by omega⟩
  have k14 : K ≤ 14 := by omega
  have k2 : K % 2 = 0 := by omega
  obtain ⟨H', hp', hl', hd', h12⟩ := parse_more L A hA c b H D T h hl h64 K k14 k2
  have h12L : 12 ≤ L.length ∧ H.length ≤ L.length ∧ D.length ≤ L.length ∧ T.length ≤ L.length := by
    have := parse_all h
    rw [← this]
    unfold all
    simp only [List.length_append]
    omega
  have Q1 : Hid (∀ w, Calls Try.prog 8 #[.string (tx L)] w fun e w' => e = .returned (.tuple #[.agg #[.int .i64 c, .int .i64 b, .string (tx H), .string (tx D), .string (tx T)], .int .i64 0]) ∧ Bel w w') := fun w => by
    have := P.parse (tx L) L rfl (by show L.length ≤ maxLen; unfold maxLen; omega) w
    rw [h] at this
    exact this
  have Q2 : Hid (∀ w, Calls Try.prog 15 #[.string (tx L)] w fun e w' => (∃ ao cap, e = .returned (.tuple #[.slice ao A.length cap, .int .i64 0])) ∧ Bel w w') := fun w => by
    refine (ref_k (tx L) L rfl (by show L.length ≤ maxLen; unfold maxLen; omega) _ hA w).mono ?_
    rintro e w' ⟨⟨ao, cap, h, _, _⟩, b⟩
    exact ⟨⟨ao, cap, h⟩, b⟩
  have FL := filM_length L (L.length + K) K (by omega)
  obtain ⟨M, hM⟩ : ∃ M, filM L (L.length + K) K = M := ⟨_, rfl⟩
  rw [hM] at hp' FL
  have Q3 : Hid (∀ w, Calls Try.prog 8 #[.string (tx M)] w fun e w' => e = .returned (.tuple #[.agg #[.int .i64 c, .int .i64 b, .string (tx H'), .string (tx D), .string (tx (T ++ moB K))], .int .i64 0]) ∧ Bel w w') := fun w => by
    have := P.parse (tx M) M rfl (by show M.length ≤ maxLen; unfold maxLen; omega) w
    rw [hp'] at this
    exact this
  have WV : Hid (∀ w, Calls Try.prog 14 #[.agg #[.int .i64 1, .int .i64 8], .string ⟨#[]⟩] w fun e w' => e = .returned (.string (tx (fil_1_8 []))) ∧ Bel w w') := wav_1_8 [] (by decide)
  have RF : Hid (∀ w, Calls Try.prog 9 #[.string (tx (fil_1_8 []))] w fun e w' => (∃ c b h d t, e = .returned (.tuple #[.agg (wcs c b h d t), .int .i64 0])) ∧ Bel w w') := fun w => by
    have := rparse_ok (tx (fil_1_8 [])) _ rfl (by unfold maxLen; decide) w
    rw [filA_of, parse_any [] (by decide) _ rfl] at this
    rw [filA_of]
    refine this.mono ?_
    rintro e w' ⟨h, b⟩
    exact ⟨⟨_, _, _, _, _, h⟩, b⟩
  have LK : Hid (∀ w, Calls Try.prog 16 #[.int .i64 (K : Int), .int .i64 4] w fun e w' => e = .returned (.string (tx (l4 K))) ∧ Bel w w') := fun w => low4_any K (by omega) w
  have mz : (tx (moB K)).size = 8 + K := moB_length K
  have hmo : (⟨#[97, 98, 99, 100]⟩ : ByteArray) ++ tx (l4 K) ++ zeros K = tx (moB K) := ba_eq (by rw [cat_list, cat_list, zeros_list]; rfl)
  have z4 : (tx (l4 K)).size = 4 := rfl
  have zz := zeros_size K
  have mkK : ∀ w, (Instr.makeSlice 39 (.int .i64 (K : Int)) (.int .i64 (K : Int))).run Try.prog w = .ok (.slice (some ⟨w.heap.size, 0, none⟩) K K) (w.alloc (.cells (madeCells #[.int .u8 0] K) 5)) := fun w =>
    run_make_row' (P := Try.prog) 39 5 (.int .u8 0) 1 Try.underlying39 Byt.info_byte rfl .i64 .i64 K (by omega) (by omega) w
  have cvK : ∀ w : World, (convert 39 9 (.slice (some ⟨w.heap.size, 0, none⟩) K K)).run Try.prog (w.alloc (.cells (madeCells #[.int .u8 0] K) 5)) = .ok (.string (zeros K)) (w.alloc (.cells (madeCells #[.int .u8 0] K) 5)) := fun w => zeros_conv w _ K (fun _ => rfl)
  have kw : IntKind.i64.wrap (K : Int) = (K : Int) := by rw [IntKind.wrap_i64]; omega
  have Y0 : Hid (∀ w : World, BoxV (w.alloc (.cells #[.int .i64 c, .int .i64 b, .string (tx H), .string (tx D), .string (tx T)] 25)) w.heap.size (c, b, H, D, T)) := fun w => boxV_new w (c, b, H, D, T)
  have kk : ¬ (9223372036854775807 < 8 + K) := by omega
  have zL := tx_size L
  have zh := tx_size H
  have n3 : decide ((H.length : Int) < 12) = false := decide_eq_false (by omega)
  have n5 : decide (4056 < (L.length : Int)) = false := decide_eq_false (by omega)
  have n6 : decide (64 ≤ (A.length : Int)) = false := decide_eq_false (by omega)
  clear P hA h hp' hu
  generalize A.length = n at *
  go_enter Try.func7, Try.ntmps7
  go_wp2_with fail
  refine (AW.out _).mono ?_
  rintro e w0 ⟨rfl, b0⟩
  go_wp2_with fail
  refine (Q1.out _).mono ?_
  rintro e w1 ⟨rfl, b1⟩
  have B1 : Hid (Bel w (w1.alloc (.cells #[.int .i64 c, .int .i64 b, .string (tx H), .string (tx D), .string (tx T)] 25))) := (b0.trans b1).alloc _
  have Y1 : Hid (BoxV (w1.alloc (.cells #[.int .i64 c, .int .i64 b, .string (tx H), .string (tx D), .string (tx T)] 25)) w1.heap.size (c, b, H, D, T)) := Y0.out w1
  clear b0 b1 Y0
  go_wp2_with fail
  refine (Q2.out _).mono ?_
  rintro e w2 ⟨⟨ao, cap, rfl⟩, b2⟩
  have B2 : Hid (Bel w w2) := B1.out.trans b2
  have Y2 : Hid (BoxV w2 w1.heap.size (c, b, H, D, T)) := Y1.out.bel b2
  obtain ⟨g5, hg5⟩ : ∃ g, w1.heap.size = g := ⟨_, rfl⟩
  rw [hg5] at Y2
  rw [hg5]
  obtain ⟨⟨c0, c1, c2, c3, c4⟩, _⟩ := Y2.out
  simp only at c0 c1 c2 c3 c4
  clear b2 B1 Y1 hg5
  go_wp2_with fail
  refine (num_ok _ _).mono ?_
  rintro e w7 ⟨rfl, rfl⟩
  go_wp2_with fail
  refine (num_ok _ _).mono ?_
  rintro e w7 ⟨rfl, rfl⟩
  go_upto_region 10 with fail
  go_cut [10] from 65 to 71 (fun v wx => v = .string (tx (moB K)) ∧ Bel w7 wx)
  case first =>
    refine wp_region_held_drew (S := fun wx => Bel w7 wx) (by kernel_rfl) (Bel.refl w7).drew (fun hHeld => ?_)
    obtain ⟨V0, hV0⟩ : ∃ V, V = World.drew w7 := ⟨_, rfl⟩
    rw [← hV0] at hHeld ⊢
    clear hV0
    refine wpAnyH_take (i := 0) (oi := { dst := some 65, op := .move (.tmp 9), type := _, pos := _, after := _, guard := none }) (v := ?_) rfl (by kernel_rfl) (by kernel_rfl) (by kernel_rfl) (fun _ _ _ h => h) (Or.inl ⟨by rfl, ?_⟩) hHeld ?_
    rotate_left
    · intro wx hSw; clear hSw; go_simp; with_reducible rfl
    try simp only [Act.put, List.setIfInBounds_toArray, List.set_cons_zero, List.set_cons_succ]
    refine wpAnyH_take (i := 3) (oi := { dst := some 68, op := .move (.tmp 9), type := _, pos := _, after := _, guard := none }) (v := ?_) rfl (by kernel_rfl) (by kernel_rfl) (by kernel_rfl) (fun _ _ _ h => h) (Or.inl ⟨by rfl, ?_⟩) hHeld ?_
    rotate_left
    · intro wx hSw; clear hSw; go_simp; with_reducible rfl
    try simp only [Act.put, List.setIfInBounds_toArray, List.set_cons_zero, List.set_cons_succ]
    have BV0 : Bel w7 V0 := hHeld
    clear hHeld
    refine wpAnyH_ready (rs := [1, 4]) (by kernel_rfl) (by simp) ?_
    refine (AllReadyH.cons (o := { dst := some 66, op := .call { callee := .value (.func 16), args := #[.tmp 65, .const (.int .i64 4)], argTypes := _ }, type := _, pos := _, after := _, guard := none }) rfl (fun K hK => ?_) (AllReadyH.cons (o := { dst := some 69, op := .makeSlice 39 (.tmp 68) (.tmp 68), type := _, pos := _, after := _, guard := none }) rfl (fun K hK => ?_) AllReadyH.nil))
    · go_simp
      refine (LK.out _).mono ?_
      rintro e w1x ⟨rfl, bx⟩
      go_wp2_with fail
      have Bw1x : Bel w7 w1x := BV0.trans bx
      clear bx
      refine hK.out _ _ Bw1x (fun _ => ?_)
      clear hK K
      try simp only [Act.put, List.setIfInBounds_toArray, List.set_cons_zero, List.set_cons_succ]
      refine wpAnyH_take (i := 2) (oi := { dst := some 67, op := .binOp .add 9 (.const (.string ⟨#[97, 98, 99, 100]⟩)) (.tmp 66) 9, type := _, pos := _, after := _, guard := none }) (v := ?_) rfl (by kernel_rfl) (by kernel_rfl) (by kernel_rfl) (fun _ _ _ h => h) (Or.inl ⟨by rfl, ?_⟩) Bw1x ?_
      rotate_left
      · intro wx hSw; clear hSw; go_simp; with_reducible rfl
      try simp only [Act.put, List.setIfInBounds_toArray, List.set_cons_zero, List.set_cons_succ]
      refine wpAnyH_ready (rs := [4]) (by kernel_rfl) (by simp) ?_
      refine (AllReadyH.cons (o := { dst := some 69, op := .makeSlice 39 (.tmp 68) (.tmp 68), type := _, pos := _, after := _, guard := none }) rfl (fun K hK => ?_) AllReadyH.nil)
      go_simp
      refine hK.out _ _ (Bw1x.alloc _) (fun _ => ?_)
      clear hK K
      try simp only [Act.put, List.setIfInBounds_toArray, List.set_cons_zero, List.set_cons_succ]
      obtain ⟨V2, hV2⟩ : ∃ V, V = World.alloc w1x (.cells (madeCells #[.int .u8 0] K) 5) := ⟨_, rfl⟩
      obtain ⟨bA, hbA⟩ : ∃ b, b = w1x.heap.size := ⟨_, rfl⟩
      have EV2 : Bel w1x V2 := hV2 ▸ (Bel.refl w1x).alloc _
      have BV2 : Bel w7 V2 := Bw1x.trans EV2
      have FA : Zrow V2 bA K := by
        rw [hV2, hbA]
        exact zrow_new w1x K
      rw [← hV2, ← hbA]
      clear hV2 hbA EV2
      refine wpAnyH_ready (rs := [5]) (by kernel_rfl) (by simp) ?_
      refine (AllReadyH.cons (o := { dst := some 70, op := .convert 39 9 (.tmp 69), type := _, pos := _, after := _, guard := none }) rfl (fun K hK => ?_) AllReadyH.nil)
      have cvx := FA.conv
      go_simp
      refine hK.out _ _ BV2 (fun _ => ?_)
      clear hK K
      try simp only [Act.put, List.setIfInBounds_toArray, List.set_cons_zero, List.set_cons_succ]
      refine wpAnyH_take (i := 6) (oi := { dst := some 71, op := .binOp .add 9 (.tmp 67) (.tmp 70) 9, type := _, pos := _, after := _, guard := none }) (v := ?_) rfl (by kernel_rfl) (by kernel_rfl) (by kernel_rfl) (fun _ _ _ h => h) (Or.inl ⟨by rfl, ?_⟩) BV2 ?_
      rotate_left
      · intro wx hSw; clear hSw; go_simp; with_reducible rfl
      try simp only [Act.put, List.setIfInBounds_toArray, List.set_cons_zero, List.set_cons_succ]
      refine wpAnyH_take (i := 7) (oi := { dst := some 10, op := .assign (.tmp 71), type := _, pos := _, after := _, guard := none }) (v := ?_) rfl (by kernel_rfl) (by kernel_rfl) (by kernel_rfl) (fun _ _ _ h => h) (Or.inl ⟨by rfl, ?_⟩) BV2 ?_
      rotate_left
      · intro wx hSw; clear hSw; go_simp; with_reducible rfl
      try simp only [Act.put, List.setIfInBounds_toArray, List.set_cons_zero, List.set_cons_succ]
      refine wpAnyH_done (by kernel_rfl) ?_ _
      go_wp2_with fail
      go_meet
      exact ⟨rfl, BV2⟩
    · go_simp
      refine hK.out _ _ (BV0.alloc _) (fun _ => ?_)
      clear hK K
      try simp only [Act.put, List.setIfInBounds_toArray, List.set_cons_zero, List.set_cons_succ]
      obtain ⟨V4, hV4⟩ : ∃ V, V = World.alloc V0 (.cells (madeCells #[.int .u8 0] K) 5) := ⟨_, rfl⟩
      obtain ⟨bA, hbA⟩ : ∃ b, b = V0.heap.size := ⟨_, rfl⟩
      have EV4 : Bel V0 V4 := hV4 ▸ (Bel.refl V0).alloc _
      have BV4 : Bel w7 V4 := BV0.trans EV4
      have FA : Zrow V4 bA K := by
        rw [hV4, hbA]
        exact zrow_new V0 K
      rw [← hV4, ← hbA]
      clear hV4 hbA EV4
      refine wpAnyH_ready (rs := [1, 5]) (by kernel_rfl) (by simp) ?_
      refine (AllReadyH.cons (o := { dst := some 66, op := .call { callee := .value (.func 16), args := #[.tmp 65, .const (.int .i64 4)], argTypes := _ }, type := _, pos := _, after := _, guard := none }) rfl (fun K hK => ?_) (AllReadyH.cons (o := { dst := some 70, op := .convert 39 9 (.tmp 69), type := _, pos := _, after := _, guard := none }) rfl (fun K hK => ?_) AllReadyH.nil))
      · go_simp
        refine (LK.out _).mono ?_
        rintro e w5x ⟨rfl, bx⟩
        go_wp2_with fail
        have Bw5x : Bel w7 w5x := BV4.trans bx
        replace FA := FA.bel bx
        clear bx
        refine hK.out _ _ Bw5x (fun _ => ?_)
        clear hK K
        try simp only [Act.put, List.setIfInBounds_toArray, List.set_cons_zero, List.set_cons_succ]
        refine wpAnyH_take (i := 2) (oi := { dst := some 67, op := .binOp .add 9 (.const (.string ⟨#[97, 98, 99, 100]⟩)) (.tmp 66) 9, type := _, pos := _, after := _, guard := none }) (v := ?_) rfl (by kernel_rfl) (by kernel_rfl) (by kernel_rfl) (fun _ _ _ h => h) (Or.inl ⟨by rfl, ?_⟩) Bw5x ?_
        rotate_left
        · intro wx hSw; clear hSw; go_simp; with_reducible rfl
        try simp only [Act.put, List.setIfInBounds_toArray, List.set_cons_zero, List.set_cons_succ]
        refine wpAnyH_ready (rs := [5]) (by kernel_rfl) (by simp) ?_
        refine (AllReadyH.cons (o := { dst := some 70, op := .convert 39 9 (.tmp 69), type := _, pos := _, after := _, guard := none }) rfl (fun K hK => ?_) AllReadyH.nil)
        have cvx := FA.conv
        go_simp
        refine hK.out _ _ Bw5x (fun _ => ?_)
        clear hK K
        try simp only [Act.put, List.setIfInBounds_toArray, List.set_cons_zero, List.set_cons_succ]
        refine wpAnyH_take (i := 6) (oi := { dst := some 71, op := .binOp .add 9 (.tmp 67) (.tmp 70) 9, type := _, pos := _, after := _, guard := none }) (v := ?_) rfl (by kernel_rfl) (by kernel_rfl) (by kernel_rfl) (fun _ _ _ h => h) (Or.inl ⟨by rfl, ?_⟩) Bw5x ?_
        rotate_left
        · intro wx hSw; clear hSw; go_simp; with_reducible rfl
        try simp only [Act.put, List.setIfInBounds_toArray, List.set_cons_zero, List.set_cons_succ]
        refine wpAnyH_take (i := 7) (oi := { dst := some 10, op := .assign (.tmp 71), type := _, pos := _, after := _, guard := none }) (v := ?_) rfl (by kernel_rfl) (by kernel_rfl) (by kernel_rfl) (fun _ _ _ h => h) (Or.inl ⟨by rfl, ?_⟩) Bw5x ?_
        rotate_left
        · intro wx hSw; clear hSw; go_simp; with_reducible rfl
        try simp only [Act.put, List.setIfInBounds_toArray, List.set_cons_zero, List.set_cons_succ]
        refine wpAnyH_done (by kernel_rfl) ?_ _
        go_wp2_with fail
        go_meet
        exact ⟨rfl, Bw5x⟩
      · have cvx := FA.conv
        go_simp
        refine hK.out _ _ BV4 (fun _ => ?_)
        clear hK K
        try simp only [Act.put, List.setIfInBounds_toArray, List.set_cons_zero, List.set_cons_succ]
        refine wpAnyH_ready (rs := [1]) (by kernel_rfl) (by simp) ?_
        refine (AllReadyH.cons (o := { dst := some 66, op := .call { callee := .value (.func 16), args := #[.tmp 65, .const (.int .i64 4)], argTypes := _ }, type := _, pos := _, after := _, guard := none }) rfl (fun K hK => ?_) AllReadyH.nil)
        go_simp
        refine (LK.out _).mono ?_
        rintro e w8x ⟨rfl, bx⟩
        go_wp2_with fail
        have Bw8x : Bel w7 w8x := BV4.trans bx
        replace FA := FA.bel bx
        clear bx
        refine hK.out _ _ Bw8x (fun _ => ?_)
        clear hK K
        try simp only [Act.put, List.setIfInBounds_toArray, List.set_cons_zero, List.set_cons_succ]
        refine wpAnyH_take (i := 2) (oi := { dst := some 67, op := .binOp .add 9 (.const (.string ⟨#[97, 98, 99, 100]⟩)) (.tmp 66) 9, type := _, pos := _, after := _, guard := none }) (v := ?_) rfl (by kernel_rfl) (by kernel_rfl) (by kernel_rfl) (fun _ _ _ h => h) (Or.inl ⟨by rfl, ?_⟩) Bw8x ?_
        rotate_left
        · intro wx hSw; clear hSw; go_simp; with_reducible rfl
        try simp only [Act.put, List.setIfInBounds_toArray, List.set_cons_zero, List.set_cons_succ]
        refine wpAnyH_take (i := 6) (oi := { dst := some 71, op := .binOp .add 9 (.tmp 67) (.tmp 70) 9, type := _, pos := _, after := _, guard := none }) (v := ?_) rfl (by kernel_rfl) (by kernel_rfl) (by kernel_rfl) (fun _ _ _ h => h) (Or.inl ⟨by rfl, ?_⟩) Bw8x ?_
        rotate_left
        · intro wx hSw; clear hSw; go_simp; with_reducible rfl
        try simp only [Act.put, List.setIfInBounds_toArray, List.set_cons_zero, List.set_cons_succ]
        refine wpAnyH_take (i := 7) (oi := { dst := some 10, op := .assign (.tmp 71), type := _, pos := _, after := _, guard := none }) (v := ?_) rfl (by kernel_rfl) (by kernel_rfl) (by kernel_rfl) (fun _ _ _ h => h) (Or.inl ⟨by rfl, ?_⟩) Bw8x ?_
        rotate_left
        · intro wx hSw; clear hSw; go_simp; with_reducible rfl
        try simp only [Act.put, List.setIfInBounds_toArray, List.set_cons_zero, List.set_cons_succ]
        refine wpAnyH_done (by kernel_rfl) ?_ _
        go_wp2_with fail
        go_meet
        exact ⟨rfl, Bw8x⟩
  case rest =>
    obtain ⟨rfl, bw⟩ := hcut
    have B3 : Hid (Bel w wc) := B2.out.trans bw
    have Y3 : Hid (BoxV wc g5 (c, b, H, D, T)) := Y2.out.bel bw
    obtain ⟨w3, hw3⟩ : ∃ W, W = wc := ⟨_, rfl⟩
    subst hw3
    clear bw B2 Y2 c0 c1 c2 c3 c4 mkK cvK kw kk zz LK
    obtain ⟨N, hN⟩ : ∃ N : Nat, (L.length : Int) + (8 + (K : Int)) - 8 = (N : Int) := ⟨L.length + K, by omega⟩
    have hNK : N = L.length + K := by omega
    have LN : Hid (∀ w, Calls Try.prog 16 #[.int .i64 (N : Int), .int .i64 4] w fun e w' => e = .returned (.string (tx (l4 N))) ∧ Bel w w') := fun w => low4_any N (by omega) w
    have x8 : (tx L).extract 8 L.length = tx (L.drop 8) := ba_eq (by rw [ext_mid, List.take_of_length_le (by rw [List.length_drop]; exact Nat.le_refl _)])
    have y8 : decide ((L.length : Int) < 8) = false := decide_eq_false (by omega)
    have y8b : decide (L.length < 8) = false := decide_eq_false (by omega)
    obtain ⟨P1, q1⟩ : ∃ P1, tx [82, 73, 70, 70] ++ tx (l4 N) = P1 := ⟨_, rfl⟩
    obtain ⟨P2, q2⟩ : ∃ P2, P1 ++ tx (L.drop 8) = P2 := ⟨_, rfl⟩
    have r1 : P1.data.toList = [82, 73, 70, 70] ++ l4 N := by rw [← q1, cat_list]
    have r2 : P2.data.toList = [82, 73, 70, 70] ++ l4 N ++ L.drop 8 := by rw [← q2, cat_list, r1]
    have q3 : P2 ++ tx (moB K) = tx M := ba_eq (by rw [cat_list, r2, ← hM, hNK]; unfold filM l4; simp)
    have s1 : P1.size = 8 := by rw [size_len _ _ r1]; rfl
    have s2 : (tx (L.drop 8)).size = L.length - 8 := by rw [tx_size, List.length_drop]
    have s3 : P2.size = L.length := by rw [size_len _ _ r2, List.length_append, List.length_drop]; show 8 + _ = _; omega
    have s4 : (tx (l4 N)).size = 4 := rfl
    have kk1 : ¬ (9223372036854775807 < 8 + (L.length - 8)) := by omega
    have kk2 : ¬ (9223372036854775807 < L.length + (8 + K)) := by omega
    clear hNK hM r1 r2
    go_upto_region 11 with fail
    refine wp_region_quiet_below (by kernel_rfl) (by kernel_rfl) ?_
    repeat (go_big_quiet_step ((go_at_call 16; with_reducible exact Calls.regrown_of (LN.out _))))
    refine wpQuiet_nil ?_
    intro _ hw'
    obtain ⟨⟨dq, osq⟩, hw''⟩ := hw'
    subst hw''
    have B4 : Hid (Bel w (grow (redrawn w3 dq) osq)) := B3.out.trans (below_regrown w3 dq osq)
    have Y4 : Hid (BoxV (grow (redrawn w3 dq) osq) g5 (c, b, H, D, T)) := Y3.out.bel (below_regrown w3 dq osq)
    show Exit.then _ _ _ _ (grow (redrawn w3 dq) osq)
    generalize grow (redrawn w3 dq) osq = w4 at *
    clear B3 Y3 q1 q2 q3 s1 s2 s3 s4 kk1 kk2 x8 y8 y8b LN hN
    have V0 : Hid (∀ w : World, BoxV (w.alloc (.cells #[.int .i64 c, .int .i64 b, .string (tx H'), .string (tx D), .string (tx (T ++ moB K))] 25)) w.heap.size (c, b, H', D, T ++ moB K)) := fun w => boxV_new w (c, b, H', D, T ++ moB K)
    go_wp2_with fail
    refine (Q3.out _).mono ?_
    rintro e w5 ⟨rfl, b5⟩
    have B5 : Hid (Bel w (w5.alloc (.cells #[.int .i64 c, .int .i64 b, .string (tx H'), .string (tx D), .string (tx (T ++ moB K))] 25))) := (B4.out.trans b5).alloc _
    have Y5 : Hid (BoxV (w5.alloc (.cells #[.int .i64 c, .int .i64 b, .string (tx H'), .string (tx D), .string (tx (T ++ moB K))] 25)) g5 (c, b, H, D, T)) := Y4.out.bel (b5.alloc _)
    have V5 : Hid (BoxV (w5.alloc (.cells #[.int .i64 c, .int .i64 b, .string (tx H'), .string (tx D), .string (tx (T ++ moB K))] 25)) w5.heap.size (c, b, H', D, T ++ moB K)) := V0.out w5
    clear b5 B4 Y4 V0
    go_wp2_with fail
    refine (WV.out _).mono ?_
    rintro e w6 ⟨rfl, b6⟩
    have B6 : Hid (Bel w w6) := B5.out.trans b6
    have Y6 : Hid (BoxV w6 g5 (c, b, H, D, T)) := Y5.out.bel b6
    have V6 : Hid (BoxV w6 w5.heap.size (c, b, H', D, T ++ moB K)) := V5.out.bel b6
    obtain ⟨g12, hg12⟩ : ∃ g, w5.heap.size = g := ⟨_, rfl⟩
    rw [hg12] at V6
    rw [hg12]
    clear b6 B5 Y5 V5 hg12
    go_wp2_with fail
    refine (RF.out _).mono ?_
    rintro e w8 ⟨⟨rc, rb, rh, rd, rt, rfl⟩, b8⟩
    have B8 : Hid (Bel w (w8.alloc (.cells #[.int .i64 rc, .int .i64 rb, .string rh, .string rd, .string rt] 25))) := (B6.out.trans b8).alloc _
    obtain ⟨⟨c0, c1, c2, c3, c4⟩, _⟩ := Y6.out.bel (b8.alloc (.cells #[.int .i64 rc, .int .i64 rb, .string rh, .string rd, .string rt] 25))
    obtain ⟨⟨d0, d1, d2, d3, d4⟩, _⟩ := V6.out.bel (b8.alloc (.cells #[.int .i64 rc, .int .i64 rb, .string rh, .string rd, .string rt] 25))
    simp only at c0 c1 c2 c3 c4 d0 d1 d2 d3 d4
    clear b8 B6 Y6 V6
    have x9 : (tx H').extract 8 H.length = tx (H.drop 8) := ba_eq (by rw [ext_mid, List.take_of_length_le (by rw [List.length_drop, hl']; exact Nat.le_refl _)]; exact hd')
    have x10 : (tx H).extract 8 H.length = tx (H.drop 8) := ba_eq (by rw [ext_mid, List.take_of_length_le (by rw [List.length_drop]; exact Nat.le_refl _)])
    have zh' : (tx H').size = H.length := hl'
    have h8 : 8 ≤ H.length := by omega
    have v1 : decide ((H.length : Int) < 8) = false := decide_eq_false (by omega)
    have v2 : decide (H.length < 8) = false := decide_eq_false (by omega)
    have zt := tx_size T
    have zmo : (tx (moB K)).size = 8 + K := mz
    have kk3 : ¬ (9223372036854775807 < T.length + (8 + K)) := by omega
    obtain ⟨TM, hTM⟩ : ∃ TM, T ++ moB K = TM := ⟨_, rfl⟩
    have q5 : tx T ++ tx (moB K) = tx TM := by rw [tx_cat, hTM]
    rw [hTM] at d4
    have e1 : (D == D) = true := beq_self_eq_true D
    have e2 : (TM == TM) = true := beq_self_eq_true TM
    obtain ⟨HD, hHD⟩ : ∃ X, H.drop 8 = X := ⟨_, rfl⟩
    rw [hHD] at x9 x10
    have e3 : (HD == HD) = true := beq_self_eq_true HD
    have EF := fun w => eq_fmt 9998 c b c b w
    rw [beq_self_eq_true, beq_self_eq_true, Bool.true_and] at EF
    have N0 : Hid (∀ n w, Calls Try.prog 12 #[.int .i64 n] w fun e w' => e = .returned (.int .i64 n) ∧ w' = w) := num_ok
    clear hTM hHD hd' hl'
    go_upto_region 14 with fail
    generalize w8.alloc (.cells #[.int .i64 rc, .int .i64 rb, .string rh, .string rd, .string rt] 25) = w9 at *
    go_quiet ((go_at_call 12; with_reducible exact Calls.quiet_of ((N0.out _ _).mono (by rintro e w' ⟨rfl, rfl⟩; exact ⟨rfl, 0, rfl⟩))))
    go_wp2
    go_ret
    exact ⟨rfl, B8.out.drewN nq⟩

theorem more_walk (P : ProgW) (L : List UInt8) (hL : L.length ≤ 140737488351232) (a : Int) (w : World) :
    Calls Try.prog 7 #[.string (tx L), .int .i64 a] w fun e w' => e = .returned (.bool true) ∧ Bel w w' := by
  cases h : parse L with
  | none => exact more_no P L hL wv0 2100 (by rw [h]; rfl) (by rw [h]; rfl) _ _ rfl rfl (.inl ⟨by decide, rfl⟩) a w
  | some y =>
    obtain ⟨A, hA, _⟩ := parse_chunks h
    obtain ⟨c, b, H, D, T⟩ := y
    by_cases hs : 4056 < L.length ∨ 64 ≤ A.length
    · have h12 : 12 ≤ H.length := head_12 h
      exact more_no P L hL (c, b, H, D, T) 0 (by rw [h]; rfl) (by rw [h]; rfl) A.length 0 (by rw [hA]; rfl) (by rw [hA]; rfl) (.inr ⟨rfl, rfl, h12, (parts_le h).1, hs⟩) a w
    · exact more_yes P L A hA c b H D T h (by omega) (by omega) a w

end Go.Proofs.Ythbjjjpleongbaa.Wav
