/-
  PcmForms, walked, where 'which' is even. No condition.
-/
import Derived.Test.YtpakcajdbibbbaaPcFormsP
import Derived.Deep.RegionHeld3
namespace Go.Proofs.Ytpakcajdbibbbaa.Pcm
open Go.RowKit Go.Sort Go.Proofs.Ytpakcajdbibbbaa.Mod Go.Proofs.Ytpakcajdbibbbaa.Ints Go.Proofs.Ytpakcajdbibbbaa.Num
set_option linter.unusedVariables false
set_option linter.unusedSimpArgs false

set_option maxRecDepth 20000 in
set_option maxHeartbeats 20000000 in
theorem forms_0 (a x : Int) (ha : bits .and .i64 a 1 = 0) (w : World) :
    Calls Try.prog 4 #[.int .i64 a, .int .i64 x] w fun e w' => e = .returned (.bool true) ∧ Bel w w' := by
  obtain ⟨K, hK, hk⟩ := place_of a 6 (by omega) (by omega)
  obtain ⟨r, hr⟩ : ∃ r, x % 1024 = r := ⟨_, rfl⟩
  have hx : bits .and .i64 x 1023 = r := (and_10 x).trans hr
  have r0 : 0 ≤ r := by omega
  have r1 : r ≤ 1023 := by omega
  have AW : Hid (∀ w, Calls Try.prog 17 #[] w fun e w' => e = .returned (.bool true) ∧ Bel w w') := awake_true
  clear hr
  obtain ⟨d, hd⟩ : ∃ d, 1 + r = d := ⟨_, rfl⟩
  have d0 : 1 ≤ d := by omega
  have d1 : d ≤ 1024 := by omega
  have HD : Hid (1 + r = d) := hd
  go_enter Try.func4, Try.ntmps4
  go_wp2_with fail
  refine (AW.out _).mono ?_
  rintro e w1 ⟨rfl, b1⟩
  have B1 : Hid (Bel w w1) := b1
  clear b1
  go_upto_region 4 with fail
  go_cut [6] from 29 to 45 (fun v6 wx => ∃ B, v6 = .pointer (some ⟨B, 0, none⟩) ∧ Bad w1 wx B)
  case first =>
    have F0 : okF 0 8 = false := by decide
    have F1 : okF (2 + d) 8 = false := by unfold okF; rw [decide_eq_false (by omega : ¬ 2 + d ≤ 2), Bool.and_false, Bool.false_and]
    have F2 : okF (-d) 16 = false := by unfold okF; rw [decide_eq_false (by omega : ¬ 1 ≤ -d), Bool.false_and, Bool.false_and]
    have F3 : okF 1 0 = false := by decide
    have F4 : okF 1 24 = false := by decide
    have F5 : okF 2 (-8) = false := by decide
    have FF : Hid (okF 0 8 = false ∧ okF (2 + d) 8 = false ∧ okF (-d) 16 = false ∧ okF 1 0 = false ∧ okF 1 24 = false ∧ okF 2 (-8) = false) := ⟨F0, F1, F2, F3, F4, F5⟩
    clear F0 F1 F2 F3 F4 F5
    match K, hK with
    | 0, _ => go_wp2_with fail; go_meet; exact ⟨_, rfl, _, _, FF.out.1, ⟨by go_simp, by go_simp⟩, ((Bel.refl _).alloc _).alloc _⟩
    | 1, _ => go_wp2_with fail; go_meet; exact ⟨_, rfl, _, _, FF.out.2.1, ⟨by go_simp, by go_simp⟩, ((Bel.refl _).alloc _).alloc _⟩
    | 2, _ => go_wp2_with fail; go_meet; exact ⟨_, rfl, _, _, FF.out.2.2.1, ⟨by go_simp, by go_simp⟩, ((Bel.refl _).alloc _).alloc _⟩
    | 3, _ => go_wp2_with fail; go_meet; exact ⟨_, rfl, _, _, FF.out.2.2.2.1, ⟨by go_simp, by go_simp⟩, ((Bel.refl _).alloc _).alloc _⟩
    | 4, _ => go_wp2_with fail; go_meet; exact ⟨_, rfl, _, _, FF.out.2.2.2.2.1, ⟨by go_simp, by go_simp⟩, ((Bel.refl _).alloc _).alloc _⟩
    | 5, _ => go_wp2_with fail; go_meet; exact ⟨_, rfl, _, _, FF.out.2.2.2.2.2, ⟨by go_simp, by go_simp⟩, ((Bel.refl _).alloc _).alloc _⟩
    | k + 6, h => omega
  case rest =>
    obtain ⟨B, rfl, c, b, hok, hbx, hbw⟩ := hcut
    have BX : Hid (okF c b = false ∧ Box wc B c b) := ⟨hok, hbx⟩
    have B2 : Hid (Bel w wc) := B1.out.trans hbw
    have q0 := cell_a1 hbx.1
    have q1 := cell_a1 hbx.2
    have G1 : Hid (∀ w, Calls Try.prog 8 #[.string ⟨#[]⟩, fmt c b] w fun e w' => e = .returned (.tuple #[.slice none 0 0, .int .i64 1900]) ∧ Bel w w') := fun w => get_no c b ⟨#[]⟩ [] rfl (by unfold maxLen; decide) (get_f hok _) w
    have P1 : Hid (∀ w, Calls Try.prog 10 #[.slice none 0 0, fmt c b] w fun e w' => e = .returned (.tuple #[.string ⟨#[]⟩, .int .i64 1900]) ∧ Bel w w') := fun w => put_no c b none [] 0 0 rfl (by unfold maxLen; omega) (put_f hok _) w (lls_nil _ _)
    have XX : Hid (∀ w : World, Box (w.alloc (.cells #[.int .i64 2, .int .i64 16] 24)) w.heap.size 2 16 ∧ Bel w (w.alloc (.cells #[.int .i64 2, .int .i64 16] 24))) := fun w => ⟨box_new w 2 16, (Bel.refl _).alloc _⟩
    clear hok hbx hbw hk hK AW B1
    go_wp2_with fail
    refine (G1.out _).mono ?_
    rintro e w2 ⟨rfl, b2⟩
    have b2' := (XX.out wc).2.trans b2
    have X2 := (XX.out wc).1.bel b2
    obtain ⟨g, hg⟩ : ∃ g, wc.heap.size = g := ⟨_, rfl⟩
    rw [hg] at X2
    rw [hg]
    have F2 : Hid (Box w2 g 2 16 ∧ Box w2 B c b ∧ Bel w w2) := ⟨X2, BX.out.2.bel b2', B2.out.trans b2'⟩
    obtain ⟨x2, y2⟩ := F2.out.2.1
    clear hg X2 b2 b2' q0 q1 XX
    go_wp2_with fail
    refine (P1.out _).mono ?_
    rintro e w3 ⟨rfl, b3⟩
    have F3 : Hid (Box w3 g 2 16 ∧ Box w3 B c b ∧ Bel w w3) := ⟨F2.out.1.bel b3, F2.out.2.1.bel b3, F2.out.2.2.trans b3⟩
    obtain ⟨x3, y3⟩ := F3.out.1
    have l0 := cell_regrown x3
    have l1 := cell_regrown y3
    clear b3 x2 y2 F2
    have G8 : Hid (∀ w, Calls Try.prog 8 #[.string (ByteArray.extract ⟨#[97, 98, 99, 100, 101]⟩ 0 1), fmt 2 16] w fun e w' => e = .returned (.tuple #[.slice none 0 0, .int .i64 1900]) ∧ Bel w w') := fun w => get_no 2 16 _ _ rfl (by unfold maxLen; decide +kernel) (by decide +kernel) w
    go_upto_region 8 with fail
    refine wp_region_quiet_below (by kernel_rfl) (by kernel_rfl) ?_
    repeat (go_big_quiet_step (first
      | (go_at_call 8; with_reducible exact Calls.regrown_of (G8.out _))))
    refine wpQuiet_nil ?_
    intro _ hw'
    obtain ⟨⟨dq, osq⟩, hw''⟩ := hw'
    subst hw''
    have br : Bel w3 (grow (redrawn w3 dq) osq) := below_regrown w3 dq osq
    obtain ⟨w4, hw4⟩ : ∃ W, grow (redrawn w3 dq) osq = W := ⟨_, rfl⟩
    rw [hw4] at br
    rw [hw4]
    have F4 : Hid (Box w4 g 2 16 ∧ Box w4 B c b ∧ Bel w w4) := ⟨F3.out.1.bel br, F3.out.2.1.bel br, F3.out.2.2.trans br⟩
    clear hw4 br l0 l1 x3 y3 F3 G8
    go_upto_region 9 with fail
    obtain ⟨N, hN⟩ : ∃ N : Nat, 4096 + 4 * d = (N : Int) := ⟨(4096 + 4 * d).toNat, by omega⟩
    obtain ⟨t4, ht4⟩ : ∃ t, 4 * d = t := ⟨_, rfl⟩
    have hN2 : 4096 + t4 = (N : Int) := by omega
    have hN3 : 4096 < N ∧ N ≤ 8192 := by omega
    have hN4 : N % 4 = N % 4 := rfl
    have mk : ∀ w, (Instr.makeSlice 43 (.int .i64 (N : Int)) (.int .i64 (N : Int))).run Try.prog w = .ok (.slice (some ⟨w.heap.size, 0, none⟩) N N) (w.alloc (.cells (madeCells #[.int .u8 0] N) 5)) := fun w => by
      have := run_make_row' (P := Try.prog) 43 5 (.int .u8 0) 1 Try.underlying43 Byt.info_byte rfl .i64 .i64 N (by omega) (by omega) w
      exact this
    have G9 : Hid (∀ w, Calls Try.prog 8 #[.string (zeros N), fmt 2 16] w fun e w' => e = .returned (.tuple #[.slice none 0 0, .int .i64 1900]) ∧ Bel w w') := fun w => get_no 2 16 _ _ (zeros_list N) (by rw [zeros_size]; unfold maxLen; omega) (get_n (.inr (by rw [List.length_replicate]; omega))) w
    have x4 := F4.out.1.1
    have y4 := F4.out.1.2
    have x4a := cell_a1 x4
    have y4a := cell_a1 y4
    have wd1 : IntKind.i64.wrap t4 = t4 := by rw [IntKind.wrap_i64]; omega
    have wd2 : IntKind.i64.wrap (N : Int) = (N : Int) := by rw [IntKind.wrap_i64]; omega
    have cv1 := zeros_conv w4 (w4.alloc (.cells (madeCells #[.int .u8 0] N) 5)) N (fun _ => rfl)
    have cv2 := zeros_conv w4 (w4.alloc (.cells (madeCells #[.int .u8 0] N) 5)).drew N (fun _ => rfl)
    clear hN hN4
    go_cut [15] from 67 to 76 (fun s wx => s = .int .i64 1900 ∧ Bel w4 wx)
    case first =>
      go_region_with (first
        | (go_at_call 8
           with_reducible refine (G9.out _).mono ?_
           rintro e w6 ⟨rfl, b6⟩
           have HB6 : Hid (Bel w4 w6) := Bel.trans (by repeat (first | with_reducible exact Bel.refl _ | with_reducible apply Bel.drew | with_reducible apply Bel.alloc)) b6
           clear b6))
      all_goals go_wp2_with fail
      all_goals go_meet
      all_goals exact ⟨rfl, HB6.out⟩
    case rest =>
    obtain ⟨rfl, bc⟩ := hcut
    have F5 : Hid (Box wc g 2 16 ∧ Box wc B c b ∧ Bel w wc) := ⟨F4.out.1.bel bc, F4.out.2.1.bel bc, F4.out.2.2.trans bc⟩
    clear bc F4 mk cv1 cv2 wd1 wd2 x4 y4 x4a y4a G9 hN2 hN3 ht4
    obtain ⟨w5, hw5⟩ : ∃ W, W = wc := ⟨_, rfl⟩
    subst hw5
    obtain ⟨y0, hy0⟩ : ∃ y, -32768 - d = y := ⟨_, rfl⟩
    obtain ⟨y1, hy1⟩ : ∃ y, 32767 + d = y := ⟨_, rfl⟩
    have wy0 : IntKind.i64.wrap y0 = y0 := by rw [IntKind.wrap_i64]; omega
    have wy1 : IntKind.i64.wrap y1 = y1 := by rw [IntKind.wrap_i64]; omega
    have PN : Hid (∀ (ao : Option Addr) (w : World), Lls w ao [[1], [y0]] → Calls Try.prog 10 #[.slice ao 2 2, fmt 2 16] w fun e w' => e = .returned (.tuple #[.string ⟨#[]⟩, .int .i64 1900]) ∧ Bel w w') := fun ao w h => put_no 2 16 ao [[1], [y0]] 2 2 rfl (by unfold maxLen; omega) (put_bad (one_bad 2 y0 (not_fit 2 y0 (by show y0 < -32768 ∨ 32768 ≤ y0; omega)) _ 1 (by simp) rfl)) w h
    obtain ⟨x5, z5⟩ := F5.out.1
    have x5a := cell_a1 x5
    have z5a := cell_a1 z5
    have x5b := cell_a2 x5
    have z5b := cell_a2 z5
    have x5c := cell_a3 x5
    have z5c := cell_a3 z5
    have x5d := cell_a4 x5
    have z5d := cell_a4 z5
    go_upto_region 10 with fail
    go_cut [17] from 77 to 93 (fun s wx => s = .int .i64 1900 ∧ Bel w5 wx)
    case first =>
      refine wp_region_held_drew (S := fun wx => Bel w5 wx) (by kernel_rfl) (Bel.refl w5).drew (fun hHeld => ?_)
      obtain ⟨V0, hV0⟩ : ∃ V, V = World.drew w5 := ⟨_, rfl⟩
      rw [← hV0] at hHeld ⊢
      clear hV0
      refine wpAnyH_take (i := 1) (oi := { dst := some 79, op := .move (.tmp 5), type := _, pos := _, after := _, guard := none }) (v := ?_) rfl (by kernel_rfl) (by kernel_rfl) (by kernel_rfl) (fun _ _ _ h => h) (Or.inl ⟨by rfl, ?_⟩) hHeld ?_
      rotate_left
      · intro wx hSw; clear hSw; go_simp; with_reducible rfl
      try simp only [Act.put, List.setIfInBounds_toArray, List.set_cons_zero, List.set_cons_succ]
      refine wpAnyH_take (i := 2) (oi := { dst := some 80, op := .binOp .sub 3 (.const (.int .i64 (-32768))) (.tmp 79) 3, type := _, pos := _, after := _, guard := none }) (v := ?_) rfl (by kernel_rfl) (by kernel_rfl) (by kernel_rfl) (fun _ _ _ h => h) (Or.inl ⟨by rfl, ?_⟩) hHeld ?_
      rotate_left
      · intro wx hSw; clear hSw; go_simp; with_reducible rfl
      try simp only [Act.put, List.setIfInBounds_toArray, List.set_cons_zero, List.set_cons_succ]
      refine wpAnyH_take (i := 3) (oi := { dst := some 81, op := .move (.tmp 5), type := _, pos := _, after := _, guard := none }) (v := ?_) rfl (by kernel_rfl) (by kernel_rfl) (by kernel_rfl) (fun _ _ _ h => h) (Or.inl ⟨by rfl, ?_⟩) hHeld ?_
      rotate_left
      · intro wx hSw; clear hSw; go_simp; with_reducible rfl
      try simp only [Act.put, List.setIfInBounds_toArray, List.set_cons_zero, List.set_cons_succ]
      refine wpAnyH_take (i := 4) (oi := { dst := some 82, op := .binOp .add 3 (.const (.int .i64 32767)) (.tmp 81) 3, type := _, pos := _, after := _, guard := none }) (v := ?_) rfl (by kernel_rfl) (by kernel_rfl) (by kernel_rfl) (fun _ _ _ h => h) (Or.inl ⟨by rfl, ?_⟩) hHeld ?_
      rotate_left
      · intro wx hSw; clear hSw; go_simp; with_reducible rfl
      try simp only [Act.put, List.setIfInBounds_toArray, List.set_cons_zero, List.set_cons_succ]
      refine wpAnyH_take (i := 6) (oi := { dst := some 84, op := .move (.tmp 0), type := _, pos := _, after := _, guard := none }) (v := ?_) rfl (by kernel_rfl) (by kernel_rfl) (by kernel_rfl) (fun _ _ _ h => h) (Or.inl ⟨by rfl, ?_⟩) hHeld ?_
      rotate_left
      · intro wx hSw; clear hSw; go_simp; with_reducible rfl
      try simp only [Act.put, List.setIfInBounds_toArray, List.set_cons_zero, List.set_cons_succ]
      refine wpAnyH_take (i := 7) (oi := { dst := some 85, op := .binOp .and 3 (.tmp 84) (.const (.int .i64 1)) 3, type := _, pos := _, after := _, guard := none }) (v := ?_) rfl (by kernel_rfl) (by kernel_rfl) (by kernel_rfl) (fun _ _ _ h => h) (Or.inl ⟨by rfl, ?_⟩) hHeld ?_
      rotate_left
      · intro wx hSw; clear hSw; go_simp; with_reducible rfl
      try simp only [Act.put, List.setIfInBounds_toArray, List.set_cons_zero, List.set_cons_succ]
      refine wpAnyH_take (i := 12) (oi := { dst := some 90, op := .load 24 (.tmp 7), type := _, pos := _, after := _, guard := none }) (v := ?_) rfl (by kernel_rfl) (by kernel_rfl) (by kernel_rfl) (fun _ _ _ h => h) (Or.inl ⟨by rfl, ?_⟩) hHeld ?_
      rotate_left
      · intro wx hSw; have q0 := Bel.keep hSw x5; have q1 := Bel.keep hSw z5; clear hSw; go_simp; with_reducible rfl
      try simp only [Act.put, List.setIfInBounds_toArray, List.set_cons_zero, List.set_cons_succ]
      have BV0 : Bel w5 V0 := hHeld
      clear hHeld
      refine wpAnyH_ready (rs := [0, 5]) (by kernel_rfl) (by simp) ?_
      refine (AllReadyH.cons (o := { dst := some 78, op := .buildSlice 44 1 #[(0, .const (.int .i64 1))], type := _, pos := _, after := _, guard := none }) rfl (fun K hK => ?_) (AllReadyH.cons (o := { dst := some 83, op := .buildSlice 44 2 #[(0, .tmp 80), (1, .tmp 82)], type := _, pos := _, after := _, guard := none }) rfl (fun K hK => ?_) AllReadyH.nil))
      · go_simp
        refine hK.out _ _ (BV0.alloc _) (fun _ => ?_)
        clear hK K
        try simp only [Act.put, List.setIfInBounds_toArray, List.set_cons_zero, List.set_cons_succ]
        obtain ⟨V1, hV1⟩ : ∃ V, V = World.alloc V0 (.cells #[.int .i64 1] 3) := ⟨_, rfl⟩
        obtain ⟨bA, hbA⟩ : ∃ b, b = V0.heap.size := ⟨_, rfl⟩
        have EV1 : Bel V0 V1 := hV1 ▸ (Bel.refl V0).alloc _
        have BV1 : Bel w5 V1 := BV0.trans EV1
        have FA : Slc V1 (some ⟨bA, 0, none⟩) [1] := by
          rw [hV1, hbA]
          exact (holds_new V0 [1] 3).slc
        rw [← hV1, ← hbA]
        clear hV1 hbA EV1
        refine wpAnyH_ready (rs := [5]) (by kernel_rfl) (by simp) ?_
        refine (AllReadyH.cons (o := { dst := some 83, op := .buildSlice 44 2 #[(0, .tmp 80), (1, .tmp 82)], type := _, pos := _, after := _, guard := none }) rfl (fun K hK => ?_) AllReadyH.nil)
        go_simp
        refine hK.out _ _ (BV1.alloc _) (fun _ => ?_)
        clear hK K
        try simp only [Act.put, List.setIfInBounds_toArray, List.set_cons_zero, List.set_cons_succ]
        obtain ⟨V2, hV2⟩ : ∃ V, V = World.alloc V1 (.cells #[.int .i64 y0, .int .i64 y1] 3) := ⟨_, rfl⟩
        obtain ⟨bP, hbP⟩ : ∃ b, b = V1.heap.size := ⟨_, rfl⟩
        have EV2 : Bel V1 V2 := hV2 ▸ (Bel.refl V1).alloc _
        have BV2 : Bel w5 V2 := BV1.trans EV2
        have FP : World.cell? V2 ⟨bP, 0, none⟩ = some (.int .i64 y0) := by
          rw [hV2, hbP]
          exact (holds_new V1 [y0, y1] 3).cell 0 (by simp)
        replace FA := FA.bel EV2
        rw [← hV2, ← hbP]
        clear hV2 hbP EV2
        refine wpAnyH_take (i := 8) (oi := { dst := some 86, op := .indexAddr 44 (.tmp 83) (.tmp 85), type := _, pos := _, after := _, guard := none }) (v := ?_) rfl (by kernel_rfl) (by kernel_rfl) (by kernel_rfl) (fun _ _ _ h => h) (Or.inl ⟨by rfl, ?_⟩) BV2 ?_
        rotate_left
        · intro wx hSw; clear hSw; go_simp; with_reducible rfl
        try simp only [Act.put, List.setIfInBounds_toArray, List.set_cons_zero, List.set_cons_succ]
        refine wpAnyH_ready (rs := [9]) (by kernel_rfl) (by simp) ?_
        refine (AllReadyH.cons (o := { dst := some 87, op := .load 3 (.tmp 86), type := _, pos := _, after := _, guard := none }) rfl (fun K hK => ?_) AllReadyH.nil)
        go_simp
        refine hK.out _ _ BV2 (fun _ => ?_)
        clear hK K
        try simp only [Act.put, List.setIfInBounds_toArray, List.set_cons_zero, List.set_cons_succ]
        refine wpAnyH_ready (rs := [10]) (by kernel_rfl) (by simp) ?_
        refine (AllReadyH.cons (o := { dst := some 88, op := .buildSlice 44 1 #[(0, .tmp 87)], type := _, pos := _, after := _, guard := none }) rfl (fun K hK => ?_) AllReadyH.nil)
        go_simp
        refine hK.out _ _ (BV2.alloc _) (fun _ => ?_)
        clear hK K
        try simp only [Act.put, List.setIfInBounds_toArray, List.set_cons_zero, List.set_cons_succ]
        obtain ⟨V4, hV4⟩ : ∃ V, V = World.alloc V2 (.cells #[.int .i64 y0] 3) := ⟨_, rfl⟩
        obtain ⟨bY, hbY⟩ : ∃ b, b = V2.heap.size := ⟨_, rfl⟩
        have EV4 : Bel V2 V4 := hV4 ▸ (Bel.refl V2).alloc _
        have BV4 : Bel w5 V4 := BV2.trans EV4
        have FY : Slc V4 (some ⟨bY, 0, none⟩) [y0] := by
          rw [hV4, hbY]
          exact (holds_new V2 [y0] 3).slc
        replace FP := Bel.keep EV4 FP
        replace FA := FA.bel EV4
        rw [← hV4, ← hbY]
        clear hV4 hbY EV4
        refine wpAnyH_ready (rs := [11]) (by kernel_rfl) (by simp) ?_
        refine (AllReadyH.cons (o := { dst := some 89, op := .buildSlice 22 2 #[(0, .tmp 78), (1, .tmp 88)], type := _, pos := _, after := _, guard := none }) rfl (fun K hK => ?_) AllReadyH.nil)
        go_simp
        refine hK.out _ _ (BV4.alloc _) (fun _ => ?_)
        clear hK K
        try simp only [Act.put, List.setIfInBounds_toArray, List.set_cons_zero, List.set_cons_succ]
        obtain ⟨V5, hV5⟩ : ∃ V, V = World.alloc V4 (.cells #[.slice (some ⟨bA, 0, none⟩) 1 1, .slice (some ⟨bY, 0, none⟩) 1 1] 44) := ⟨_, rfl⟩
        obtain ⟨bH, hbH⟩ : ∃ b, b = V4.heap.size := ⟨_, rfl⟩
        have EV5 : Bel V4 V5 := hV5 ▸ (Bel.refl V4).alloc _
        have BV5 : Bel w5 V5 := BV4.trans EV5
        have FH : Lls V5 (some ⟨bH, 0, none⟩) [[1], [y0]] := by
          rw [hV5, hbH]
          exact hdr_2 V4 (n := 1) (m := 1) (c := 1) (d := 1) rfl (by decide) (fun q => by cases q) FA rfl (by decide) (fun q => by cases q) FY
        replace FY := FY.bel EV5
        replace FP := Bel.keep EV5 FP
        replace FA := FA.bel EV5
        rw [← hV5, ← hbH]
        clear hV5 hbH EV5
        refine wpAnyH_ready (rs := [13]) (by kernel_rfl) (by simp) ?_
        refine (AllReadyH.cons (o := { dst := some 91, op := .call { callee := .value (.func 10), args := #[.tmp 89, .tmp 90], argTypes := _ }, type := _, pos := _, after := _, guard := none }) rfl (fun K hK => ?_) AllReadyH.nil)
        go_simp
        refine (PN.out _ _ FH).mono ?_
        rintro e w6x ⟨rfl, bx⟩
        go_wp2_with fail
        have Bw6x : Bel w5 w6x := BV5.trans bx
        clear bx
        refine hK.out _ _ Bw6x (fun _ => ?_)
        clear hK K
        try simp only [Act.put, List.setIfInBounds_toArray, List.set_cons_zero, List.set_cons_succ]
        refine wpAnyH_take (i := 14) (oi := { dst := some 77, op := .move (.tmp 91), type := _, pos := _, after := _, guard := none }) (v := ?_) rfl (by kernel_rfl) (by kernel_rfl) (by kernel_rfl) (fun _ _ _ h => h) (Or.inl ⟨by rfl, ?_⟩) Bw6x ?_
        rotate_left
        · intro wx hSw; clear hSw; go_simp; with_reducible rfl
        try simp only [Act.put, List.setIfInBounds_toArray, List.set_cons_zero, List.set_cons_succ]
        refine wpAnyH_take (i := 15) (oi := { dst := some 92, op := .extract (.tmp 77) 0, type := _, pos := _, after := _, guard := none }) (v := ?_) rfl (by kernel_rfl) (by kernel_rfl) (by kernel_rfl) (fun _ _ _ h => h) (Or.inl ⟨by rfl, ?_⟩) Bw6x ?_
        rotate_left
        · intro wx hSw; clear hSw; go_simp; with_reducible rfl
        try simp only [Act.put, List.setIfInBounds_toArray, List.set_cons_zero, List.set_cons_succ]
        refine wpAnyH_take (i := 16) (oi := { dst := some 93, op := .extract (.tmp 77) 1, type := _, pos := _, after := _, guard := none }) (v := ?_) rfl (by kernel_rfl) (by kernel_rfl) (by kernel_rfl) (fun _ _ _ h => h) (Or.inl ⟨by rfl, ?_⟩) Bw6x ?_
        rotate_left
        · intro wx hSw; clear hSw; go_simp; with_reducible rfl
        try simp only [Act.put, List.setIfInBounds_toArray, List.set_cons_zero, List.set_cons_succ]
        refine wpAnyH_take (i := 17) (oi := { dst := some 16, op := .assign (.tmp 92), type := _, pos := _, after := _, guard := none }) (v := ?_) rfl (by kernel_rfl) (by kernel_rfl) (by kernel_rfl) (fun _ _ _ h => h) (Or.inl ⟨by rfl, ?_⟩) Bw6x ?_
        rotate_left
        · intro wx hSw; clear hSw; go_simp; with_reducible rfl
        try simp only [Act.put, List.setIfInBounds_toArray, List.set_cons_zero, List.set_cons_succ]
        refine wpAnyH_take (i := 18) (oi := { dst := some 17, op := .assign (.tmp 93), type := _, pos := _, after := _, guard := none }) (v := ?_) rfl (by kernel_rfl) (by kernel_rfl) (by kernel_rfl) (fun _ _ _ h => h) (Or.inl ⟨by rfl, ?_⟩) Bw6x ?_
        rotate_left
        · intro wx hSw; clear hSw; go_simp; with_reducible rfl
        try simp only [Act.put, List.setIfInBounds_toArray, List.set_cons_zero, List.set_cons_succ]
        refine wpAnyH_done (by kernel_rfl) ?_ _
        go_wp2_with fail
        go_meet
        exact ⟨rfl, Bw6x⟩
      · go_simp
        refine hK.out _ _ (BV0.alloc _) (fun _ => ?_)
        clear hK K
        try simp only [Act.put, List.setIfInBounds_toArray, List.set_cons_zero, List.set_cons_succ]
        obtain ⟨V7, hV7⟩ : ∃ V, V = World.alloc V0 (.cells #[.int .i64 y0, .int .i64 y1] 3) := ⟨_, rfl⟩
        obtain ⟨bP, hbP⟩ : ∃ b, b = V0.heap.size := ⟨_, rfl⟩
        have EV7 : Bel V0 V7 := hV7 ▸ (Bel.refl V0).alloc _
        have BV7 : Bel w5 V7 := BV0.trans EV7
        have FP : World.cell? V7 ⟨bP, 0, none⟩ = some (.int .i64 y0) := by
          rw [hV7, hbP]
          exact (holds_new V0 [y0, y1] 3).cell 0 (by simp)
        rw [← hV7, ← hbP]
        clear hV7 hbP EV7
        refine wpAnyH_take (i := 8) (oi := { dst := some 86, op := .indexAddr 44 (.tmp 83) (.tmp 85), type := _, pos := _, after := _, guard := none }) (v := ?_) rfl (by kernel_rfl) (by kernel_rfl) (by kernel_rfl) (fun _ _ _ h => h) (Or.inl ⟨by rfl, ?_⟩) BV7 ?_
        rotate_left
        · intro wx hSw; clear hSw; go_simp; with_reducible rfl
        try simp only [Act.put, List.setIfInBounds_toArray, List.set_cons_zero, List.set_cons_succ]
        refine wpAnyH_ready (rs := [0, 9]) (by kernel_rfl) (by simp) ?_
        refine (AllReadyH.cons (o := { dst := some 78, op := .buildSlice 44 1 #[(0, .const (.int .i64 1))], type := _, pos := _, after := _, guard := none }) rfl (fun K hK => ?_) (AllReadyH.cons (o := { dst := some 87, op := .load 3 (.tmp 86), type := _, pos := _, after := _, guard := none }) rfl (fun K hK => ?_) AllReadyH.nil))
        · go_simp
          refine hK.out _ _ (BV7.alloc _) (fun _ => ?_)
          clear hK K
          try simp only [Act.put, List.setIfInBounds_toArray, List.set_cons_zero, List.set_cons_succ]
          obtain ⟨V8, hV8⟩ : ∃ V, V = World.alloc V7 (.cells #[.int .i64 1] 3) := ⟨_, rfl⟩
          obtain ⟨bA, hbA⟩ : ∃ b, b = V7.heap.size := ⟨_, rfl⟩
          have EV8 : Bel V7 V8 := hV8 ▸ (Bel.refl V7).alloc _
          have BV8 : Bel w5 V8 := BV7.trans EV8
          have FA : Slc V8 (some ⟨bA, 0, none⟩) [1] := by
            rw [hV8, hbA]
            exact (holds_new V7 [1] 3).slc
          replace FP := Bel.keep EV8 FP
          rw [← hV8, ← hbA]
          clear hV8 hbA EV8
          refine wpAnyH_ready (rs := [9]) (by kernel_rfl) (by simp) ?_
          refine (AllReadyH.cons (o := { dst := some 87, op := .load 3 (.tmp 86), type := _, pos := _, after := _, guard := none }) rfl (fun K hK => ?_) AllReadyH.nil)
          go_simp
          refine hK.out _ _ BV8 (fun _ => ?_)
          clear hK K
          try simp only [Act.put, List.setIfInBounds_toArray, List.set_cons_zero, List.set_cons_succ]
          refine wpAnyH_ready (rs := [10]) (by kernel_rfl) (by simp) ?_
          refine (AllReadyH.cons (o := { dst := some 88, op := .buildSlice 44 1 #[(0, .tmp 87)], type := _, pos := _, after := _, guard := none }) rfl (fun K hK => ?_) AllReadyH.nil)
          go_simp
          refine hK.out _ _ (BV8.alloc _) (fun _ => ?_)
          clear hK K
          try simp only [Act.put, List.setIfInBounds_toArray, List.set_cons_zero, List.set_cons_succ]
          obtain ⟨V10, hV10⟩ : ∃ V, V = World.alloc V8 (.cells #[.int .i64 y0] 3) := ⟨_, rfl⟩
          obtain ⟨bY, hbY⟩ : ∃ b, b = V8.heap.size := ⟨_, rfl⟩
          have EV10 : Bel V8 V10 := hV10 ▸ (Bel.refl V8).alloc _
          have BV10 : Bel w5 V10 := BV8.trans EV10
          have FY : Slc V10 (some ⟨bY, 0, none⟩) [y0] := by
            rw [hV10, hbY]
            exact (holds_new V8 [y0] 3).slc
          replace FA := FA.bel EV10
          replace FP := Bel.keep EV10 FP
          rw [← hV10, ← hbY]
          clear hV10 hbY EV10
          refine wpAnyH_ready (rs := [11]) (by kernel_rfl) (by simp) ?_
          refine (AllReadyH.cons (o := { dst := some 89, op := .buildSlice 22 2 #[(0, .tmp 78), (1, .tmp 88)], type := _, pos := _, after := _, guard := none }) rfl (fun K hK => ?_) AllReadyH.nil)
          go_simp
          refine hK.out _ _ (BV10.alloc _) (fun _ => ?_)
          clear hK K
          try simp only [Act.put, List.setIfInBounds_toArray, List.set_cons_zero, List.set_cons_succ]
          obtain ⟨V11, hV11⟩ : ∃ V, V = World.alloc V10 (.cells #[.slice (some ⟨bA, 0, none⟩) 1 1, .slice (some ⟨bY, 0, none⟩) 1 1] 44) := ⟨_, rfl⟩
          obtain ⟨bH, hbH⟩ : ∃ b, b = V10.heap.size := ⟨_, rfl⟩
          have EV11 : Bel V10 V11 := hV11 ▸ (Bel.refl V10).alloc _
          have BV11 : Bel w5 V11 := BV10.trans EV11
          have FH : Lls V11 (some ⟨bH, 0, none⟩) [[1], [y0]] := by
            rw [hV11, hbH]
            exact hdr_2 V10 (n := 1) (m := 1) (c := 1) (d := 1) rfl (by decide) (fun q => by cases q) FA rfl (by decide) (fun q => by cases q) FY
          replace FY := FY.bel EV11
          replace FA := FA.bel EV11
          replace FP := Bel.keep EV11 FP
          rw [← hV11, ← hbH]
          clear hV11 hbH EV11
          refine wpAnyH_ready (rs := [13]) (by kernel_rfl) (by simp) ?_
          refine (AllReadyH.cons (o := { dst := some 91, op := .call { callee := .value (.func 10), args := #[.tmp 89, .tmp 90], argTypes := _ }, type := _, pos := _, after := _, guard := none }) rfl (fun K hK => ?_) AllReadyH.nil)
          go_simp
          refine (PN.out _ _ FH).mono ?_
          rintro e w12x ⟨rfl, bx⟩
          go_wp2_with fail
          have Bw12x : Bel w5 w12x := BV11.trans bx
          clear bx
          refine hK.out _ _ Bw12x (fun _ => ?_)
          clear hK K
          try simp only [Act.put, List.setIfInBounds_toArray, List.set_cons_zero, List.set_cons_succ]
          refine wpAnyH_take (i := 14) (oi := { dst := some 77, op := .move (.tmp 91), type := _, pos := _, after := _, guard := none }) (v := ?_) rfl (by kernel_rfl) (by kernel_rfl) (by kernel_rfl) (fun _ _ _ h => h) (Or.inl ⟨by rfl, ?_⟩) Bw12x ?_
          rotate_left
          · intro wx hSw; clear hSw; go_simp; with_reducible rfl
          try simp only [Act.put, List.setIfInBounds_toArray, List.set_cons_zero, List.set_cons_succ]
          refine wpAnyH_take (i := 15) (oi := { dst := some 92, op := .extract (.tmp 77) 0, type := _, pos := _, after := _, guard := none }) (v := ?_) rfl (by kernel_rfl) (by kernel_rfl) (by kernel_rfl) (fun _ _ _ h => h) (Or.inl ⟨by rfl, ?_⟩) Bw12x ?_
          rotate_left
          · intro wx hSw; clear hSw; go_simp; with_reducible rfl
          try simp only [Act.put, List.setIfInBounds_toArray, List.set_cons_zero, List.set_cons_succ]
          refine wpAnyH_take (i := 16) (oi := { dst := some 93, op := .extract (.tmp 77) 1, type := _, pos := _, after := _, guard := none }) (v := ?_) rfl (by kernel_rfl) (by kernel_rfl) (by kernel_rfl) (fun _ _ _ h => h) (Or.inl ⟨by rfl, ?_⟩) Bw12x ?_
          rotate_left
          · intro wx hSw; clear hSw; go_simp; with_reducible rfl
          try simp only [Act.put, List.setIfInBounds_toArray, List.set_cons_zero, List.set_cons_succ]
          refine wpAnyH_take (i := 17) (oi := { dst := some 16, op := .assign (.tmp 92), type := _, pos := _, after := _, guard := none }) (v := ?_) rfl (by kernel_rfl) (by kernel_rfl) (by kernel_rfl) (fun _ _ _ h => h) (Or.inl ⟨by rfl, ?_⟩) Bw12x ?_
          rotate_left
          · intro wx hSw; clear hSw; go_simp; with_reducible rfl
          try simp only [Act.put, List.setIfInBounds_toArray, List.set_cons_zero, List.set_cons_succ]
          refine wpAnyH_take (i := 18) (oi := { dst := some 17, op := .assign (.tmp 93), type := _, pos := _, after := _, guard := none }) (v := ?_) rfl (by kernel_rfl) (by kernel_rfl) (by kernel_rfl) (fun _ _ _ h => h) (Or.inl ⟨by rfl, ?_⟩) Bw12x ?_
          rotate_left
          · intro wx hSw; clear hSw; go_simp; with_reducible rfl
          try simp only [Act.put, List.setIfInBounds_toArray, List.set_cons_zero, List.set_cons_succ]
          refine wpAnyH_done (by kernel_rfl) ?_ _
          go_wp2_with fail
          go_meet
          exact ⟨rfl, Bw12x⟩
        · go_simp
          refine hK.out _ _ BV7 (fun _ => ?_)
          clear hK K
          try simp only [Act.put, List.setIfInBounds_toArray, List.set_cons_zero, List.set_cons_succ]
          refine wpAnyH_ready (rs := [0, 10]) (by kernel_rfl) (by simp) ?_
          refine (AllReadyH.cons (o := { dst := some 78, op := .buildSlice 44 1 #[(0, .const (.int .i64 1))], type := _, pos := _, after := _, guard := none }) rfl (fun K hK => ?_) (AllReadyH.cons (o := { dst := some 88, op := .buildSlice 44 1 #[(0, .tmp 87)], type := _, pos := _, after := _, guard := none }) rfl (fun K hK => ?_) AllReadyH.nil))
          · go_simp
            refine hK.out _ _ (BV7.alloc _) (fun _ => ?_)
            clear hK K
            try simp only [Act.put, List.setIfInBounds_toArray, List.set_cons_zero, List.set_cons_succ]
            obtain ⟨V14, hV14⟩ : ∃ V, V = World.alloc V7 (.cells #[.int .i64 1] 3) := ⟨_, rfl⟩
            obtain ⟨bA, hbA⟩ : ∃ b, b = V7.heap.size := ⟨_, rfl⟩
            have EV14 : Bel V7 V14 := hV14 ▸ (Bel.refl V7).alloc _
            have BV14 : Bel w5 V14 := BV7.trans EV14
            have FA : Slc V14 (some ⟨bA, 0, none⟩) [1] := by
              rw [hV14, hbA]
              exact (holds_new V7 [1] 3).slc
            replace FP := Bel.keep EV14 FP
            rw [← hV14, ← hbA]
            clear hV14 hbA EV14
            refine wpAnyH_ready (rs := [10]) (by kernel_rfl) (by simp) ?_
            refine (AllReadyH.cons (o := { dst := some 88, op := .buildSlice 44 1 #[(0, .tmp 87)], type := _, pos := _, after := _, guard := none }) rfl (fun K hK => ?_) AllReadyH.nil)
            go_simp
            refine hK.out _ _ (BV14.alloc _) (fun _ => ?_)
            clear hK K
            try simp only [Act.put, List.setIfInBounds_toArray, List.set_cons_zero, List.set_cons_succ]
            obtain ⟨V15, hV15⟩ : ∃ V, V = World.alloc V14 (.cells #[.int .i64 y0] 3) := ⟨_, rfl⟩
            obtain ⟨bY, hbY⟩ : ∃ b, b = V14.heap.size := ⟨_, rfl⟩
            have EV15 : Bel V14 V15 := hV15 ▸ (Bel.refl V14).alloc _
            have BV15 : Bel w5 V15 := BV14.trans EV15
            have FY : Slc V15 (some ⟨bY, 0, none⟩) [y0] := by
              rw [hV15, hbY]
              exact (holds_new V14 [y0] 3).slc
            replace FA := FA.bel EV15
            replace FP := Bel.keep EV15 FP
            rw [← hV15, ← hbY]
            clear hV15 hbY EV15
            refine wpAnyH_ready (rs := [11]) (by kernel_rfl) (by simp) ?_
            refine (AllReadyH.cons (o := { dst := some 89, op := .buildSlice 22 2 #[(0, .tmp 78), (1, .tmp 88)], type := _, pos := _, after := _, guard := none }) rfl (fun K hK => ?_) AllReadyH.nil)
            go_simp
            refine hK.out _ _ (BV15.alloc _) (fun _ => ?_)
            clear hK K
            try simp only [Act.put, List.setIfInBounds_toArray, List.set_cons_zero, List.set_cons_succ]
            obtain ⟨V16, hV16⟩ : ∃ V, V = World.alloc V15 (.cells #[.slice (some ⟨bA, 0, none⟩) 1 1, .slice (some ⟨bY, 0, none⟩) 1 1] 44) := ⟨_, rfl⟩
            obtain ⟨bH, hbH⟩ : ∃ b, b = V15.heap.size := ⟨_, rfl⟩
            have EV16 : Bel V15 V16 := hV16 ▸ (Bel.refl V15).alloc _
            have BV16 : Bel w5 V16 := BV15.trans EV16
            have FH : Lls V16 (some ⟨bH, 0, none⟩) [[1], [y0]] := by
              rw [hV16, hbH]
              exact hdr_2 V15 (n := 1) (m := 1) (c := 1) (d := 1) rfl (by decide) (fun q => by cases q) FA rfl (by decide) (fun q => by cases q) FY
            replace FY := FY.bel EV16
            replace FA := FA.bel EV16
            replace FP := Bel.keep EV16 FP
            rw [← hV16, ← hbH]
            clear hV16 hbH EV16
            refine wpAnyH_ready (rs := [13]) (by kernel_rfl) (by simp) ?_
            refine (AllReadyH.cons (o := { dst := some 91, op := .call { callee := .value (.func 10), args := #[.tmp 89, .tmp 90], argTypes := _ }, type := _, pos := _, after := _, guard := none }) rfl (fun K hK => ?_) AllReadyH.nil)
            go_simp
            refine (PN.out _ _ FH).mono ?_
            rintro e w17x ⟨rfl, bx⟩
            go_wp2_with fail
            have Bw17x : Bel w5 w17x := BV16.trans bx
            clear bx
            refine hK.out _ _ Bw17x (fun _ => ?_)
            clear hK K
            try simp only [Act.put, List.setIfInBounds_toArray, List.set_cons_zero, List.set_cons_succ]
            refine wpAnyH_take (i := 14) (oi := { dst := some 77, op := .move (.tmp 91), type := _, pos := _, after := _, guard := none }) (v := ?_) rfl (by kernel_rfl) (by kernel_rfl) (by kernel_rfl) (fun _ _ _ h => h) (Or.inl ⟨by rfl, ?_⟩) Bw17x ?_
            rotate_left
            · intro wx hSw; clear hSw; go_simp; with_reducible rfl
            try simp only [Act.put, List.setIfInBounds_toArray, List.set_cons_zero, List.set_cons_succ]
            refine wpAnyH_take (i := 15) (oi := { dst := some 92, op := .extract (.tmp 77) 0, type := _, pos := _, after := _, guard := none }) (v := ?_) rfl (by kernel_rfl) (by kernel_rfl) (by kernel_rfl) (fun _ _ _ h => h) (Or.inl ⟨by rfl, ?_⟩) Bw17x ?_
            rotate_left
            · intro wx hSw; clear hSw; go_simp; with_reducible rfl
            try simp only [Act.put, List.setIfInBounds_toArray, List.set_cons_zero, List.set_cons_succ]
            refine wpAnyH_take (i := 16) (oi := { dst := some 93, op := .extract (.tmp 77) 1, type := _, pos := _, after := _, guard := none }) (v := ?_) rfl (by kernel_rfl) (by kernel_rfl) (by kernel_rfl) (fun _ _ _ h => h) (Or.inl ⟨by rfl, ?_⟩) Bw17x ?_
            rotate_left
            · intro wx hSw; clear hSw; go_simp; with_reducible rfl
            try simp only [Act.put, List.setIfInBounds_toArray, List.set_cons_zero, List.set_cons_succ]
            refine wpAnyH_take (i := 17) (oi := { dst := some 16, op := .assign (.tmp 92), type := _, pos := _, after := _, guard := none }) (v := ?_) rfl (by kernel_rfl) (by kernel_rfl) (by kernel_rfl) (fun _ _ _ h => h) (Or.inl ⟨by rfl, ?_⟩) Bw17x ?_
            rotate_left
            · intro wx hSw; clear hSw; go_simp; with_reducible rfl
            try simp only [Act.put, List.setIfInBounds_toArray, List.set_cons_zero, List.set_cons_succ]
            refine wpAnyH_take (i := 18) (oi := { dst := some 17, op := .assign (.tmp 93), type := _, pos := _, after := _, guard := none }) (v := ?_) rfl (by kernel_rfl) (by kernel_rfl) (by kernel_rfl) (fun _ _ _ h => h) (Or.inl ⟨by rfl, ?_⟩) Bw17x ?_
            rotate_left
            · intro wx hSw; clear hSw; go_simp; with_reducible rfl
            try simp only [Act.put, List.setIfInBounds_toArray, List.set_cons_zero, List.set_cons_succ]
            refine wpAnyH_done (by kernel_rfl) ?_ _
            go_wp2_with fail
            go_meet
            exact ⟨rfl, Bw17x⟩
          · go_simp
            refine hK.out _ _ (BV7.alloc _) (fun _ => ?_)
            clear hK K
            try simp only [Act.put, List.setIfInBounds_toArray, List.set_cons_zero, List.set_cons_succ]
            obtain ⟨V18, hV18⟩ : ∃ V, V = World.alloc V7 (.cells #[.int .i64 y0] 3) := ⟨_, rfl⟩
            obtain ⟨bY, hbY⟩ : ∃ b, b = V7.heap.size := ⟨_, rfl⟩
            have EV18 : Bel V7 V18 := hV18 ▸ (Bel.refl V7).alloc _
            have BV18 : Bel w5 V18 := BV7.trans EV18
            have FY : Slc V18 (some ⟨bY, 0, none⟩) [y0] := by
              rw [hV18, hbY]
              exact (holds_new V7 [y0] 3).slc
            replace FP := Bel.keep EV18 FP
            rw [← hV18, ← hbY]
            clear hV18 hbY EV18
            refine wpAnyH_ready (rs := [0]) (by kernel_rfl) (by simp) ?_
            refine (AllReadyH.cons (o := { dst := some 78, op := .buildSlice 44 1 #[(0, .const (.int .i64 1))], type := _, pos := _, after := _, guard := none }) rfl (fun K hK => ?_) AllReadyH.nil)
            go_simp
            refine hK.out _ _ (BV18.alloc _) (fun _ => ?_)
            clear hK K
            try simp only [Act.put, List.setIfInBounds_toArray, List.set_cons_zero, List.set_cons_succ]
            obtain ⟨V19, hV19⟩ : ∃ V, V = World.alloc V18 (.cells #[.int .i64 1] 3) := ⟨_, rfl⟩
            obtain ⟨bA, hbA⟩ : ∃ b, b = V18.heap.size := ⟨_, rfl⟩
            have EV19 : Bel V18 V19 := hV19 ▸ (Bel.refl V18).alloc _
            have BV19 : Bel w5 V19 := BV18.trans EV19
            have FA : Slc V19 (some ⟨bA, 0, none⟩) [1] := by
              rw [hV19, hbA]
              exact (holds_new V18 [1] 3).slc
            replace FY := FY.bel EV19
            replace FP := Bel.keep EV19 FP
            rw [← hV19, ← hbA]
            clear hV19 hbA EV19
            refine wpAnyH_ready (rs := [11]) (by kernel_rfl) (by simp) ?_
            refine (AllReadyH.cons (o := { dst := some 89, op := .buildSlice 22 2 #[(0, .tmp 78), (1, .tmp 88)], type := _, pos := _, after := _, guard := none }) rfl (fun K hK => ?_) AllReadyH.nil)
            go_simp
            refine hK.out _ _ (BV19.alloc _) (fun _ => ?_)
            clear hK K
            try simp only [Act.put, List.setIfInBounds_toArray, List.set_cons_zero, List.set_cons_succ]
            obtain ⟨V20, hV20⟩ : ∃ V, V = World.alloc V19 (.cells #[.slice (some ⟨bA, 0, none⟩) 1 1, .slice (some ⟨bY, 0, none⟩) 1 1] 44) := ⟨_, rfl⟩
            obtain ⟨bH, hbH⟩ : ∃ b, b = V19.heap.size := ⟨_, rfl⟩
            have EV20 : Bel V19 V20 := hV20 ▸ (Bel.refl V19).alloc _
            have BV20 : Bel w5 V20 := BV19.trans EV20
            have FH : Lls V20 (some ⟨bH, 0, none⟩) [[1], [y0]] := by
              rw [hV20, hbH]
              exact hdr_2 V19 (n := 1) (m := 1) (c := 1) (d := 1) rfl (by decide) (fun q => by cases q) FA rfl (by decide) (fun q => by cases q) FY
            replace FA := FA.bel EV20
            replace FY := FY.bel EV20
            replace FP := Bel.keep EV20 FP
            rw [← hV20, ← hbH]
            clear hV20 hbH EV20
            refine wpAnyH_ready (rs := [13]) (by kernel_rfl) (by simp) ?_
            refine (AllReadyH.cons (o := { dst := some 91, op := .call { callee := .value (.func 10), args := #[.tmp 89, .tmp 90], argTypes := _ }, type := _, pos := _, after := _, guard := none }) rfl (fun K hK => ?_) AllReadyH.nil)
            go_simp
            refine (PN.out _ _ FH).mono ?_
            rintro e w21x ⟨rfl, bx⟩
            go_wp2_with fail
            have Bw21x : Bel w5 w21x := BV20.trans bx
            clear bx
            refine hK.out _ _ Bw21x (fun _ => ?_)
            clear hK K
            try simp only [Act.put, List.setIfInBounds_toArray, List.set_cons_zero, List.set_cons_succ]
            refine wpAnyH_take (i := 14) (oi := { dst := some 77, op := .move (.tmp 91), type := _, pos := _, after := _, guard := none }) (v := ?_) rfl (by kernel_rfl) (by kernel_rfl) (by kernel_rfl) (fun _ _ _ h => h) (Or.inl ⟨by rfl, ?_⟩) Bw21x ?_
            rotate_left
            · intro wx hSw; clear hSw; go_simp; with_reducible rfl
            try simp only [Act.put, List.setIfInBounds_toArray, List.set_cons_zero, List.set_cons_succ]
            refine wpAnyH_take (i := 15) (oi := { dst := some 92, op := .extract (.tmp 77) 0, type := _, pos := _, after := _, guard := none }) (v := ?_) rfl (by kernel_rfl) (by kernel_rfl) (by kernel_rfl) (fun _ _ _ h => h) (Or.inl ⟨by rfl, ?_⟩) Bw21x ?_
            rotate_left
            · intro wx hSw; clear hSw; go_simp; with_reducible rfl
            try simp only [Act.put, List.setIfInBounds_toArray, List.set_cons_zero, List.set_cons_succ]
            refine wpAnyH_take (i := 16) (oi := { dst := some 93, op := .extract (.tmp 77) 1, type := _, pos := _, after := _, guard := none }) (v := ?_) rfl (by kernel_rfl) (by kernel_rfl) (by kernel_rfl) (fun _ _ _ h => h) (Or.inl ⟨by rfl, ?_⟩) Bw21x ?_
            rotate_left
            · intro wx hSw; clear hSw; go_simp; with_reducible rfl
            try simp only [Act.put, List.setIfInBounds_toArray, List.set_cons_zero, List.set_cons_succ]
            refine wpAnyH_take (i := 17) (oi := { dst := some 16, op := .assign (.tmp 92), type := _, pos := _, after := _, guard := none }) (v := ?_) rfl (by kernel_rfl) (by kernel_rfl) (by kernel_rfl) (fun _ _ _ h => h) (Or.inl ⟨by rfl, ?_⟩) Bw21x ?_
            rotate_left
            · intro wx hSw; clear hSw; go_simp; with_reducible rfl
            try simp only [Act.put, List.setIfInBounds_toArray, List.set_cons_zero, List.set_cons_succ]
            refine wpAnyH_take (i := 18) (oi := { dst := some 17, op := .assign (.tmp 93), type := _, pos := _, after := _, guard := none }) (v := ?_) rfl (by kernel_rfl) (by kernel_rfl) (by kernel_rfl) (fun _ _ _ h => h) (Or.inl ⟨by rfl, ?_⟩) Bw21x ?_
            rotate_left
            · intro wx hSw; clear hSw; go_simp; with_reducible rfl
            try simp only [Act.put, List.setIfInBounds_toArray, List.set_cons_zero, List.set_cons_succ]
            refine wpAnyH_done (by kernel_rfl) ?_ _
            go_wp2_with fail
            go_meet
            exact ⟨rfl, Bw21x⟩
    case rest =>
    obtain ⟨rfl, bc⟩ := hcut
    have F6 : Hid (Box wc g 2 16 ∧ Box wc B c b ∧ Bel w wc) := ⟨F5.out.1.bel bc, F5.out.2.1.bel bc, F5.out.2.2.trans bc⟩
    clear bc F5 x5 z5 x5a z5a x5b z5b x5c z5c x5d z5d PN wy0 wy1 hy0 hy1
    obtain ⟨w6, hw6⟩ : ∃ W, W = wc := ⟨_, rfl⟩
    subst hw6
    obtain ⟨z0, hz0⟩ : ∃ y, -128 - d = y := ⟨_, rfl⟩
    obtain ⟨z1, hz1⟩ : ∃ y, 127 + d = y := ⟨_, rfl⟩
    have PN : Hid (∀ (ao : Option Addr) (w : World), Lls w ao [[z0]] → Calls Try.prog 10 #[.slice ao 1 1, fmt 1 8] w fun e w' => e = .returned (.tuple #[.string ⟨#[]⟩, .int .i64 1900]) ∧ Bel w w') := fun ao w h => put_no 1 8 ao [[z0]] 1 1 rfl (by unfold maxLen; omega) (put_bad (one_bad 1 z0 (not_fit 1 z0 (by show z0 < -128 ∨ 128 ≤ z0; omega)) _ 0 (by simp) rfl)) w h
    go_wp2_with fail
    refine (PN.out _ _ (si1 _ _ _ _)).mono ?_
    rintro e w7 ⟨rfl, b7⟩
    have b7' : Bel w6 w7 := Bel.trans ((((Bel.refl _).alloc _).alloc _).alloc _) b7
    have F7 : Hid (Box w7 g 2 16 ∧ Box w7 B c b ∧ Bel w w7) := ⟨F6.out.1.bel b7', F6.out.2.1.bel b7', F6.out.2.2.trans b7'⟩
    obtain ⟨x7, y7⟩ := F7.out.1
    have x7c := cell_a3 x7
    have y7c := cell_a3 y7
    clear b7 b7' F6 PN hz0 hz1
    have PN : Hid (∀ (ao : Option Addr) (w : World), Lls w ao [[1], [1, 2]] → Calls Try.prog 10 #[.slice ao 2 2, fmt 2 16] w fun e w' => e = .returned (.tuple #[.string ⟨#[]⟩, .int .i64 1900]) ∧ Bel w w') := fun ao w h => put_no 2 16 ao [[1], [1, 2]] 2 2 rfl (by unfold maxLen; omega) (by decide +kernel) w h
    go_wp2_with fail
    refine (PN.out _ _ (lit_2 w7 [1] [1, 2] (by decide) (by decide))).mono ?_
    rintro e w8 ⟨rfl, b8⟩
    have b8' : Bel w7 w8 := Bel.trans ((((Bel.refl _).alloc _).alloc _).alloc _) b8
    have F8 : Hid (Box w8 g 2 16 ∧ Box w8 B c b ∧ Bel w w8) := ⟨F7.out.1.bel b8', F7.out.2.1.bel b8', F7.out.2.2.trans b8'⟩
    clear b8 b8' x7 y7 x7c y7c F7 PN
    obtain ⟨x8, y8⟩ := F8.out.1
    have x8a := cell_a1 x8
    have y8a := cell_a1 y8
    have x8b := cell_a2 x8
    have y8b := cell_a2 y8
    have x8c := cell_a3 x8
    have y8c := cell_a3 y8
    obtain ⟨N2, hN5⟩ : ∃ N : Nat, 1024 + d = (N : Int) := ⟨(1024 + d).toNat, by omega⟩
    have hN6 : 1024 < N2 ∧ N2 ≤ 2048 := by omega
    have wd3 : IntKind.i64.wrap (N2 : Int) = (N2 : Int) := by rw [IntKind.wrap_i64]; omega
    have mk2 : ∀ w, (Instr.makeSlice 44 (.int .i64 (N2 : Int)) (.int .i64 (N2 : Int))).run Try.prog w = .ok (.slice (some ⟨w.heap.size, 0, none⟩) N2 N2) (w.alloc (.cells (vals (List.replicate N2 0)).toArray 3)) := fun w => Sid.mk_row N2 (by omega) w
    have PN : Hid (∀ (ao : Option Addr) (w : World), Lls w ao [List.replicate N2 0, List.replicate N2 0] → Calls Try.prog 10 #[.slice ao 2 2, fmt 2 16] w fun e w' => e = .returned (.tuple #[.string ⟨#[]⟩, .int .i64 1900]) ∧ Bel w w') := fun ao w h => put_no 2 16 ao [List.replicate N2 0, List.replicate N2 0] 2 2 rfl (by unfold maxLen; omega) (put_long (by show 4096 < (List.replicate N2 (0 : Int)).length * 4; rw [List.length_replicate]; omega)) w h
    have N8 : Hid (N2 * 8 ≤ 140737488351232) := (by omega : N2 * 8 ≤ 140737488351232)
    have M8 : Hid (∀ w, Calls Try.prog 14 #[fmt c b] w fun e w' => e = .returned (.bool false) ∧ Bel w w') := fun w => BX.out.1 ▸ may_ok c b w
    go_upto_region 13 with fail
    go_cut [23] from 118 to 129 (fun s wx => s = .int .i64 1900 ∧ Bel w8 wx)
    case first =>
      refine wp_region_held_drew (S := fun wx => Bel w8 wx) (by kernel_rfl) (Bel.refl w8).drew (fun hHeld => ?_)
      obtain ⟨V0, hV0⟩ : ∃ V, V = World.drew w8 := ⟨_, rfl⟩
      rw [← hV0] at hHeld ⊢
      clear hV0
      refine wpAnyH_take (i := 0) (oi := { dst := some 119, op := .move (.tmp 5), type := _, pos := _, after := _, guard := none }) (v := ?_) rfl (by kernel_rfl) (by kernel_rfl) (by kernel_rfl) (fun _ _ _ h => h) (Or.inl ⟨by rfl, ?_⟩) hHeld ?_
      rotate_left
      · intro wx hSw; clear hSw; go_simp; with_reducible rfl
      try simp only [Act.put, List.setIfInBounds_toArray, List.set_cons_zero, List.set_cons_succ]
      refine wpAnyH_take (i := 1) (oi := { dst := some 120, op := .binOp .add 3 (.const (.int .i64 1024)) (.tmp 119) 3, type := _, pos := _, after := _, guard := none }) (v := ?_) rfl (by kernel_rfl) (by kernel_rfl) (by kernel_rfl) (fun _ _ _ h => h) (Or.inl ⟨by rfl, ?_⟩) hHeld ?_
      rotate_left
      · intro wx hSw; clear hSw; go_simp; with_reducible rfl
      try simp only [Act.put, List.setIfInBounds_toArray, List.set_cons_zero, List.set_cons_succ]
      refine wpAnyH_take (i := 3) (oi := { dst := some 122, op := .move (.tmp 5), type := _, pos := _, after := _, guard := none }) (v := ?_) rfl (by kernel_rfl) (by kernel_rfl) (by kernel_rfl) (fun _ _ _ h => h) (Or.inl ⟨by rfl, ?_⟩) hHeld ?_
      rotate_left
      · intro wx hSw; clear hSw; go_simp; with_reducible rfl
      try simp only [Act.put, List.setIfInBounds_toArray, List.set_cons_zero, List.set_cons_succ]
      refine wpAnyH_take (i := 4) (oi := { dst := some 123, op := .binOp .add 3 (.const (.int .i64 1024)) (.tmp 122) 3, type := _, pos := _, after := _, guard := none }) (v := ?_) rfl (by kernel_rfl) (by kernel_rfl) (by kernel_rfl) (fun _ _ _ h => h) (Or.inl ⟨by rfl, ?_⟩) hHeld ?_
      rotate_left
      · intro wx hSw; clear hSw; go_simp; with_reducible rfl
      try simp only [Act.put, List.setIfInBounds_toArray, List.set_cons_zero, List.set_cons_succ]
      refine wpAnyH_take (i := 7) (oi := { dst := some 126, op := .load 24 (.tmp 7), type := _, pos := _, after := _, guard := none }) (v := ?_) rfl (by kernel_rfl) (by kernel_rfl) (by kernel_rfl) (fun _ _ _ h => h) (Or.inl ⟨by rfl, ?_⟩) hHeld ?_
      rotate_left
      · intro wx hSw; have q0 := Bel.keep hSw x8; have q1 := Bel.keep hSw y8; clear hSw; go_simp; with_reducible rfl
      try simp only [Act.put, List.setIfInBounds_toArray, List.set_cons_zero, List.set_cons_succ]
      have BV0 : Bel w8 V0 := hHeld
      clear hHeld
      refine wpAnyH_ready (rs := [2, 5]) (by kernel_rfl) (by simp) ?_
      refine (AllReadyH.cons (o := { dst := some 121, op := .makeSlice 44 (.tmp 120) (.tmp 120), type := _, pos := _, after := _, guard := none }) rfl (fun K hK => ?_) (AllReadyH.cons (o := { dst := some 124, op := .makeSlice 44 (.tmp 123) (.tmp 123), type := _, pos := _, after := _, guard := none }) rfl (fun K hK => ?_) AllReadyH.nil))
      · go_simp
        refine hK.out _ _ (BV0.alloc _) (fun _ => ?_)
        clear hK K
        try simp only [Act.put, List.setIfInBounds_toArray, List.set_cons_zero, List.set_cons_succ]
        obtain ⟨V1, hV1⟩ : ∃ V, V = World.alloc V0 (.cells (vals (List.replicate N2 0)).toArray 3) := ⟨_, rfl⟩
        obtain ⟨bA, hbA⟩ : ∃ b, b = V0.heap.size := ⟨_, rfl⟩
        have EV1 : Bel V0 V1 := hV1 ▸ (Bel.refl V0).alloc _
        have BV1 : Bel w8 V1 := BV0.trans EV1
        have FA : Slc V1 (some ⟨bA, 0, none⟩) (List.replicate N2 0) := by
          rw [hV1, hbA]
          exact (holds_new V0 (List.replicate N2 0) 3).slc
        rw [← hV1, ← hbA]
        clear hV1 hbA EV1
        refine wpAnyH_ready (rs := [5]) (by kernel_rfl) (by simp) ?_
        refine (AllReadyH.cons (o := { dst := some 124, op := .makeSlice 44 (.tmp 123) (.tmp 123), type := _, pos := _, after := _, guard := none }) rfl (fun K hK => ?_) AllReadyH.nil)
        go_simp
        refine hK.out _ _ (BV1.alloc _) (fun _ => ?_)
        clear hK K
        try simp only [Act.put, List.setIfInBounds_toArray, List.set_cons_zero, List.set_cons_succ]
        obtain ⟨V2, hV2⟩ : ∃ V, V = World.alloc V1 (.cells (vals (List.replicate N2 0)).toArray 3) := ⟨_, rfl⟩
        obtain ⟨bY, hbY⟩ : ∃ b, b = V1.heap.size := ⟨_, rfl⟩
        have EV2 : Bel V1 V2 := hV2 ▸ (Bel.refl V1).alloc _
        have BV2 : Bel w8 V2 := BV1.trans EV2
        have FY : Slc V2 (some ⟨bY, 0, none⟩) (List.replicate N2 0) := by
          rw [hV2, hbY]
          exact (holds_new V1 (List.replicate N2 0) 3).slc
        replace FA := FA.bel EV2
        rw [← hV2, ← hbY]
        clear hV2 hbY EV2
        refine wpAnyH_ready (rs := [6]) (by kernel_rfl) (by simp) ?_
        refine (AllReadyH.cons (o := { dst := some 125, op := .buildSlice 22 2 #[(0, .tmp 121), (1, .tmp 124)], type := _, pos := _, after := _, guard := none }) rfl (fun K hK => ?_) AllReadyH.nil)
        go_simp
        refine hK.out _ _ (BV2.alloc _) (fun _ => ?_)
        clear hK K
        try simp only [Act.put, List.setIfInBounds_toArray, List.set_cons_zero, List.set_cons_succ]
        obtain ⟨V3, hV3⟩ : ∃ V, V = World.alloc V2 (.cells #[.slice (some ⟨bA, 0, none⟩) N2 N2, .slice (some ⟨bY, 0, none⟩) N2 N2] 44) := ⟨_, rfl⟩
        obtain ⟨bH, hbH⟩ : ∃ b, b = V2.heap.size := ⟨_, rfl⟩
        have EV3 : Bel V2 V3 := hV3 ▸ (Bel.refl V2).alloc _
        have BV3 : Bel w8 V3 := BV2.trans EV3
        have FH : Lls V3 (some ⟨bH, 0, none⟩) [List.replicate N2 0, List.replicate N2 0] := by
          rw [hV3, hbH]
          exact hdr_2 V2 (c := N2) (d := N2) (List.length_replicate (n := N2) (a := (0 : Int))).symm N8.out (fun q => by cases q) FA (List.length_replicate (n := N2) (a := (0 : Int))).symm N8.out (fun q => by cases q) FY
        replace FY := FY.bel EV3
        replace FA := FA.bel EV3
        rw [← hV3, ← hbH]
        clear hV3 hbH EV3
        refine wpAnyH_ready (rs := [8]) (by kernel_rfl) (by simp) ?_
        refine (AllReadyH.cons (o := { dst := some 127, op := .call { callee := .value (.func 10), args := #[.tmp 125, .tmp 126], argTypes := _ }, type := _, pos := _, after := _, guard := none }) rfl (fun K hK => ?_) AllReadyH.nil)
        go_simp
        refine (PN.out _ _ FH).mono ?_
        rintro e w4x ⟨rfl, bx⟩
        go_wp2_with fail
        have Bw4x : Bel w8 w4x := BV3.trans bx
        clear bx
        refine hK.out _ _ Bw4x (fun _ => ?_)
        clear hK K
        try simp only [Act.put, List.setIfInBounds_toArray, List.set_cons_zero, List.set_cons_succ]
        refine wpAnyH_take (i := 9) (oi := { dst := some 118, op := .move (.tmp 127), type := _, pos := _, after := _, guard := none }) (v := ?_) rfl (by kernel_rfl) (by kernel_rfl) (by kernel_rfl) (fun _ _ _ h => h) (Or.inl ⟨by rfl, ?_⟩) Bw4x ?_
        rotate_left
        · intro wx hSw; clear hSw; go_simp; with_reducible rfl
        try simp only [Act.put, List.setIfInBounds_toArray, List.set_cons_zero, List.set_cons_succ]
        refine wpAnyH_take (i := 10) (oi := { dst := some 128, op := .extract (.tmp 118) 0, type := _, pos := _, after := _, guard := none }) (v := ?_) rfl (by kernel_rfl) (by kernel_rfl) (by kernel_rfl) (fun _ _ _ h => h) (Or.inl ⟨by rfl, ?_⟩) Bw4x ?_
        rotate_left
        · intro wx hSw; clear hSw; go_simp; with_reducible rfl
        try simp only [Act.put, List.setIfInBounds_toArray, List.set_cons_zero, List.set_cons_succ]
        refine wpAnyH_take (i := 11) (oi := { dst := some 129, op := .extract (.tmp 118) 1, type := _, pos := _, after := _, guard := none }) (v := ?_) rfl (by kernel_rfl) (by kernel_rfl) (by kernel_rfl) (fun _ _ _ h => h) (Or.inl ⟨by rfl, ?_⟩) Bw4x ?_
        rotate_left
        · intro wx hSw; clear hSw; go_simp; with_reducible rfl
        try simp only [Act.put, List.setIfInBounds_toArray, List.set_cons_zero, List.set_cons_succ]
        refine wpAnyH_take (i := 12) (oi := { dst := some 22, op := .assign (.tmp 128), type := _, pos := _, after := _, guard := none }) (v := ?_) rfl (by kernel_rfl) (by kernel_rfl) (by kernel_rfl) (fun _ _ _ h => h) (Or.inl ⟨by rfl, ?_⟩) Bw4x ?_
        rotate_left
        · intro wx hSw; clear hSw; go_simp; with_reducible rfl
        try simp only [Act.put, List.setIfInBounds_toArray, List.set_cons_zero, List.set_cons_succ]
        refine wpAnyH_take (i := 13) (oi := { dst := some 23, op := .assign (.tmp 129), type := _, pos := _, after := _, guard := none }) (v := ?_) rfl (by kernel_rfl) (by kernel_rfl) (by kernel_rfl) (fun _ _ _ h => h) (Or.inl ⟨by rfl, ?_⟩) Bw4x ?_
        rotate_left
        · intro wx hSw; clear hSw; go_simp; with_reducible rfl
        try simp only [Act.put, List.setIfInBounds_toArray, List.set_cons_zero, List.set_cons_succ]
        refine wpAnyH_done (by kernel_rfl) ?_ _
        go_wp2_with fail
        go_meet
        exact ⟨rfl, Bw4x⟩
      · go_simp
        refine hK.out _ _ (BV0.alloc _) (fun _ => ?_)
        clear hK K
        try simp only [Act.put, List.setIfInBounds_toArray, List.set_cons_zero, List.set_cons_succ]
        obtain ⟨V5, hV5⟩ : ∃ V, V = World.alloc V0 (.cells (vals (List.replicate N2 0)).toArray 3) := ⟨_, rfl⟩
        obtain ⟨bY, hbY⟩ : ∃ b, b = V0.heap.size := ⟨_, rfl⟩
        have EV5 : Bel V0 V5 := hV5 ▸ (Bel.refl V0).alloc _
        have BV5 : Bel w8 V5 := BV0.trans EV5
        have FY : Slc V5 (some ⟨bY, 0, none⟩) (List.replicate N2 0) := by
          rw [hV5, hbY]
          exact (holds_new V0 (List.replicate N2 0) 3).slc
        rw [← hV5, ← hbY]
        clear hV5 hbY EV5
        refine wpAnyH_ready (rs := [2]) (by kernel_rfl) (by simp) ?_
        refine (AllReadyH.cons (o := { dst := some 121, op := .makeSlice 44 (.tmp 120) (.tmp 120), type := _, pos := _, after := _, guard := none }) rfl (fun K hK => ?_) AllReadyH.nil)
        go_simp
        refine hK.out _ _ (BV5.alloc _) (fun _ => ?_)
        clear hK K
        try simp only [Act.put, List.setIfInBounds_toArray, List.set_cons_zero, List.set_cons_succ]
        obtain ⟨V6, hV6⟩ : ∃ V, V = World.alloc V5 (.cells (vals (List.replicate N2 0)).toArray 3) := ⟨_, rfl⟩
        obtain ⟨bA, hbA⟩ : ∃ b, b = V5.heap.size := ⟨_, rfl⟩
        have EV6 : Bel V5 V6 := hV6 ▸ (Bel.refl V5).alloc _
        have BV6 : Bel w8 V6 := BV5.trans EV6
        have FA : Slc V6 (some ⟨bA, 0, none⟩) (List.replicate N2 0) := by
          rw [hV6, hbA]
          exact (holds_new V5 (List.replicate N2 0) 3).slc
        replace FY := FY.bel EV6
        rw [← hV6, ← hbA]
        clear hV6 hbA EV6
        refine wpAnyH_ready (rs := [6]) (by kernel_rfl) (by simp) ?_
        refine (AllReadyH.cons (o := { dst := some 125, op := .buildSlice 22 2 #[(0, .tmp 121), (1, .tmp 124)], type := _, pos := _, after := _, guard := none }) rfl (fun K hK => ?_) AllReadyH.nil)
        go_simp
        refine hK.out _ _ (BV6.alloc _) (fun _ => ?_)
        clear hK K
        try simp only [Act.put, List.setIfInBounds_toArray, List.set_cons_zero, List.set_cons_succ]
        obtain ⟨V7, hV7⟩ : ∃ V, V = World.alloc V6 (.cells #[.slice (some ⟨bA, 0, none⟩) N2 N2, .slice (some ⟨bY, 0, none⟩) N2 N2] 44) := ⟨_, rfl⟩
        obtain ⟨bH, hbH⟩ : ∃ b, b = V6.heap.size := ⟨_, rfl⟩
        have EV7 : Bel V6 V7 := hV7 ▸ (Bel.refl V6).alloc _
        have BV7 : Bel w8 V7 := BV6.trans EV7
        have FH : Lls V7 (some ⟨bH, 0, none⟩) [List.replicate N2 0, List.replicate N2 0] := by
          rw [hV7, hbH]
          exact hdr_2 V6 (c := N2) (d := N2) (List.length_replicate (n := N2) (a := (0 : Int))).symm N8.out (fun q => by cases q) FA (List.length_replicate (n := N2) (a := (0 : Int))).symm N8.out (fun q => by cases q) FY
        replace FA := FA.bel EV7
        replace FY := FY.bel EV7
        rw [← hV7, ← hbH]
        clear hV7 hbH EV7
        refine wpAnyH_ready (rs := [8]) (by kernel_rfl) (by simp) ?_
        refine (AllReadyH.cons (o := { dst := some 127, op := .call { callee := .value (.func 10), args := #[.tmp 125, .tmp 126], argTypes := _ }, type := _, pos := _, after := _, guard := none }) rfl (fun K hK => ?_) AllReadyH.nil)
        go_simp
        refine (PN.out _ _ FH).mono ?_
        rintro e w8x ⟨rfl, bx⟩
        go_wp2_with fail
        have Bw8x : Bel w8 w8x := BV7.trans bx
        clear bx
        refine hK.out _ _ Bw8x (fun _ => ?_)
        clear hK K
        try simp only [Act.put, List.setIfInBounds_toArray, List.set_cons_zero, List.set_cons_succ]
        refine wpAnyH_take (i := 9) (oi := { dst := some 118, op := .move (.tmp 127), type := _, pos := _, after := _, guard := none }) (v := ?_) rfl (by kernel_rfl) (by kernel_rfl) (by kernel_rfl) (fun _ _ _ h => h) (Or.inl ⟨by rfl, ?_⟩) Bw8x ?_
        rotate_left
        · intro wx hSw; clear hSw; go_simp; with_reducible rfl
        try simp only [Act.put, List.setIfInBounds_toArray, List.set_cons_zero, List.set_cons_succ]
        refine wpAnyH_take (i := 10) (oi := { dst := some 128, op := .extract (.tmp 118) 0, type := _, pos := _, after := _, guard := none }) (v := ?_) rfl (by kernel_rfl) (by kernel_rfl) (by kernel_rfl) (fun _ _ _ h => h) (Or.inl ⟨by rfl, ?_⟩) Bw8x ?_
        rotate_left
        · intro wx hSw; clear hSw; go_simp; with_reducible rfl
        try simp only [Act.put, List.setIfInBounds_toArray, List.set_cons_zero, List.set_cons_succ]
        refine wpAnyH_take (i := 11) (oi := { dst := some 129, op := .extract (.tmp 118) 1, type := _, pos := _, after := _, guard := none }) (v := ?_) rfl (by kernel_rfl) (by kernel_rfl) (by kernel_rfl) (fun _ _ _ h => h) (Or.inl ⟨by rfl, ?_⟩) Bw8x ?_
        rotate_left
        · intro wx hSw; clear hSw; go_simp; with_reducible rfl
        try simp only [Act.put, List.setIfInBounds_toArray, List.set_cons_zero, List.set_cons_succ]
        refine wpAnyH_take (i := 12) (oi := { dst := some 22, op := .assign (.tmp 128), type := _, pos := _, after := _, guard := none }) (v := ?_) rfl (by kernel_rfl) (by kernel_rfl) (by kernel_rfl) (fun _ _ _ h => h) (Or.inl ⟨by rfl, ?_⟩) Bw8x ?_
        rotate_left
        · intro wx hSw; clear hSw; go_simp; with_reducible rfl
        try simp only [Act.put, List.setIfInBounds_toArray, List.set_cons_zero, List.set_cons_succ]
        refine wpAnyH_take (i := 13) (oi := { dst := some 23, op := .assign (.tmp 129), type := _, pos := _, after := _, guard := none }) (v := ?_) rfl (by kernel_rfl) (by kernel_rfl) (by kernel_rfl) (fun _ _ _ h => h) (Or.inl ⟨by rfl, ?_⟩) Bw8x ?_
        rotate_left
        · intro wx hSw; clear hSw; go_simp; with_reducible rfl
        try simp only [Act.put, List.setIfInBounds_toArray, List.set_cons_zero, List.set_cons_succ]
        refine wpAnyH_done (by kernel_rfl) ?_ _
        go_wp2_with fail
        go_meet
        exact ⟨rfl, Bw8x⟩
    case rest =>
    obtain ⟨rfl, bc⟩ := hcut
    have F9 : Hid (Box wc B c b ∧ Bel w wc) := ⟨F8.out.2.1.bel bc, F8.out.2.2.trans bc⟩
    obtain ⟨x9, y9⟩ := F9.out.1
    clear bc F8 x8 y8 x8a y8a x8b y8b x8c y8c PN mk2 wd3 hN5
    go_wp2_with fail
    refine (M8.out _).mono ?_
    rintro e w10 ⟨rfl, b10⟩
    have F10 : Hid (Bel w w10) := F9.out.2.trans b10
    clear b10 F9 x9 y9
    go_wp2_with (go_at_call 13; refine (num_ok _ _).mono ?_; rintro e w99 ⟨rfl, hw⟩; replace hw := hw.symm; subst hw)
    go_ret
    exact ⟨rfl, F10.out⟩

end Go.Proofs.Ytpakcajdbibbbaa.Pcm
