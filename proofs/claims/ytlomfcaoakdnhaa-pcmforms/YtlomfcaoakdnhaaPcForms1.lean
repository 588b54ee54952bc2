/-
  PcmForms, walked, where 'which' is odd. No condition.
-/
import Derived.Test.YtlomfcaoakdnhaaPcFormsP
namespace Go.Proofs.Ytlomfcaoakdnhaa.Pcm
open Go.RowKit Go.Sort Go.Proofs.Ytlomfcaoakdnhaa.Mod Go.Proofs.Ytlomfcaoakdnhaa.Ints Go.Proofs.Ytlomfcaoakdnhaa.Num
set_option linter.unusedVariables false
set_option linter.unusedSimpArgs false

set_option maxRecDepth 20000 in
set_option maxHeartbeats 20000000 in
theorem forms_1 (a x : Int) (ha : bits .and .i64 a 1 = 1) (w : World) :
    Calls Try.prog 4 #[.int .i64 a, .int .i64 x] w fun e w' => e = .returned (.bool true) ∧ Bel w w' := by
  obtain ⟨K, hK, hk⟩ := place_of a 6 (by omega) (by omega)
  obtain ⟨r, hr⟩ : ∃ r, x % 1024 = r := ⟨_, rfl⟩
  have hx : bits .and .i64 x 1023 = r := (and_10 x).trans hr
  have r0 : 0 ≤ r := by omega
  have r1 : r ≤ 1023 := by omega
  have AW : Hid (∀ w, Calls Try.prog 17 #[] w fun e w' => e = .returned (.bool true) ∧ Bel w w') := awake_true
  clear hr
  obtain ⟨d, hd⟩ : ∃ d, 1 + r = d := ⟨_, rfl⟩
  have d0 : 1 ≤ d := by omega
  have d1 : d ≤ 1024 := by omega
  have HD : Hid (1 + r = d) := hd
  go_enter Try.func4, Try.ntmps4
  go_wp2_with fail
  refine (AW.out _).mono ?_
  rintro e w1 ⟨rfl, b1⟩
  have B1 : Hid (Bel w w1) := b1
  clear b1
  go_upto_region 4 with fail
  go_cut [6] from 29 to 45 (fun v6 wx => ∃ B, v6 = .pointer (some ⟨B, 0, none⟩) ∧ Bad w1 wx B)
  case first =>
    have F0 : okF 0 8 = false := by decide
    have F1 : okF (2 + d) 8 = false := by unfold okF; rw [decide_eq_false (by omega : ¬ 2 + d ≤ 2), Bool.and_false, Bool.false_and]
    have F2 : okF (-d) 16 = false := by unfold okF; rw [decide_eq_false (by omega : ¬ 1 ≤ -d), Bool.false_and, Bool.false_and]
    have F3 : okF 1 0 = false := by decide
    have F4 : okF 1 24 = false := by decide
    have F5 : okF 2 (-8) = false := by decide
    have FF : Hid (okF 0 8 = false ∧ okF (2 + d) 8 = false ∧ okF (-d) 16 = false ∧ okF 1 0 = false ∧ okF 1 24 = false ∧ okF 2 (-8) = false) := ⟨F0, F1, F2, F3, F4, F5⟩
    clear F0 F1 F2 F3 F4 F5
    match K, hK with
    | 0, _ => go_wp2_with fail; go_meet; exact ⟨_, rfl, _, _, FF.out.1, ⟨by go_simp, by go_simp⟩, ((Bel.refl _).alloc _).alloc _⟩
    | 1, _ => go_wp2_with fail; go_meet; exact ⟨_, rfl, _, _, FF.out.2.1, ⟨by go_simp, by go_simp⟩, ((Bel.refl _).alloc _).alloc _⟩
    | 2, _ => go_wp2_with fail; go_meet; exact ⟨_, rfl, _, _, FF.out.2.2.1, ⟨by go_simp, by go_simp⟩, ((Bel.refl _).alloc _).alloc _⟩
    | 3, _ => go_wp2_with fail; go_meet; exact ⟨_, rfl, _, _, FF.out.2.2.2.1, ⟨by go_simp, by go_simp⟩, ((Bel.refl _).alloc _).alloc _⟩
    | 4, _ => go_wp2_with fail; go_meet; exact ⟨_, rfl, _, _, FF.out.2.2.2.2.1, ⟨by go_simp, by go_simp⟩, ((Bel.refl _).alloc _).alloc _⟩
    | 5, _ => go_wp2_with fail; go_meet; exact ⟨_, rfl, _, _, FF.out.2.2.2.2.2, ⟨by go_simp, by go_simp⟩, ((Bel.refl _).alloc _).alloc _⟩
    | k + 6, h => omega
  case rest =>
    obtain ⟨B, rfl, c, b, hok, hbx, hbw⟩ := hcut
    have BX : Hid (okF c b = false ∧ Box wc B c b) := ⟨hok, hbx⟩
    have B2 : Hid (Bel w wc) := B1.out.trans hbw
    have q0 := cell_a1 hbx.1
    have q1 := cell_a1 hbx.2
    have G1 : Hid (∀ w, Calls Try.prog 8 #[.string ⟨#[]⟩, fmt c b] w fun e w' => e = .returned (.tuple #[.slice none 0 0, .int .i64 1900]) ∧ Bel w w') := fun w => get_no c b ⟨#[]⟩ [] rfl (by unfold maxLen; decide) (get_f hok _) w
    have P1 : Hid (∀ w, Calls Try.prog 10 #[.slice none 0 0, fmt c b] w fun e w' => e = .returned (.tuple #[.string ⟨#[]⟩, .int .i64 1900]) ∧ Bel w w') := fun w => put_no c b none [] 0 0 rfl (by unfold maxLen; omega) (put_f hok _) w (lls_nil _ _)
    have XX : Hid (∀ w : World, Box (w.alloc (.cells #[.int .i64 2, .int .i64 16] 24)) w.heap.size 2 16 ∧ Bel w (w.alloc (.cells #[.int .i64 2, .int .i64 16] 24))) := fun w => ⟨box_new w 2 16, (Bel.refl _).alloc _⟩
    clear hok hbx hbw hk hK AW B1
    go_wp2_with fail
    refine (G1.out _).mono ?_
    rintro e w2 ⟨rfl, b2⟩
    have b2' := (XX.out wc).2.trans b2
    have X2 := (XX.out wc).1.bel b2
    obtain ⟨g, hg⟩ : ∃ g, wc.heap.size = g := ⟨_, rfl⟩
    rw [hg] at X2
    rw [hg]
    have F2 : Hid (Box w2 g 2 16 ∧ Box w2 B c b ∧ Bel w w2) := ⟨X2, BX.out.2.bel b2', B2.out.trans b2'⟩
    obtain ⟨x2, y2⟩ := F2.out.2.1
    clear hg X2 b2 b2' q0 q1 XX
    go_wp2_with fail
    refine (P1.out _).mono ?_
    rintro e w3 ⟨rfl, b3⟩
    have F3 : Hid (Box w3 g 2 16 ∧ Box w3 B c b ∧ Bel w w3) := ⟨F2.out.1.bel b3, F2.out.2.1.bel b3, F2.out.2.2.trans b3⟩
    obtain ⟨x3, y3⟩ := F3.out.1
    have l0 := cell_regrown x3
    have l1 := cell_regrown y3
    clear b3 x2 y2 F2
    have G8 : Hid (∀ w, Calls Try.prog 8 #[.string (ByteArray.extract ⟨#[97, 98, 99, 100, 101]⟩ 0 5), fmt 2 16] w fun e w' => e = .returned (.tuple #[.slice none 0 0, .int .i64 1900]) ∧ Bel w w') := fun w => get_no 2 16 _ _ rfl (by unfold maxLen; decide +kernel) (by decide +kernel) w
    go_upto_region 8 with fail
    refine wp_region_quiet_below (by kernel_rfl) (by kernel_rfl) ?_
    repeat (go_big_quiet_step (first
      | (go_at_call 8; with_reducible exact Calls.regrown_of (G8.out _))))
    refine wpQuiet_nil ?_
    intro _ hw'
    obtain ⟨⟨dq, osq⟩, hw''⟩ := hw'
    subst hw''
    have br : Bel w3 (grow (redrawn w3 dq) osq) := below_regrown w3 dq osq
    obtain ⟨w4, hw4⟩ : ∃ W, grow (redrawn w3 dq) osq = W := ⟨_, rfl⟩
    rw [hw4] at br
    rw [hw4]
    have F4 : Hid (Box w4 g 2 16 ∧ Box w4 B c b ∧ Bel w w4) := ⟨F3.out.1.bel br, F3.out.2.1.bel br, F3.out.2.2.trans br⟩
    clear hw4 br l0 l1 x3 y3 F3 G8
    go_upto_region 9 with fail
    obtain ⟨N, hN⟩ : ∃ N : Nat, 4096 + 4 * d = (N : Int) := ⟨(4096 + 4 * d).toNat, by omega⟩
    obtain ⟨t4, ht4⟩ : ∃ t, 4 * d = t := ⟨_, rfl⟩
    have hN2 : 4096 + t4 = (N : Int) := by omega
    have hN3 : 4096 < N ∧ N ≤ 8192 := by omega
    have hN4 : N % 4 = N % 4 := rfl
    have mk : ∀ w, (Instr.makeSlice 43 (.int .i64 (N : Int)) (.int .i64 (N : Int))).run Try.prog w = .ok (.slice (some ⟨w.heap.size, 0, none⟩) N N) (w.alloc (.cells (madeCells #[.int .u8 0] N) 5)) := fun w => by
      have := run_make_row' (P := Try.prog) 43 5 (.int .u8 0) 1 Try.underlying43 Byt.info_byte rfl .i64 .i64 N (by omega) (by omega) w
      exact this
    have G9 : Hid (∀ w, Calls Try.prog 8 #[.string (zeros N), fmt 2 16] w fun e w' => e = .returned (.tuple #[.slice none 0 0, .int .i64 1900]) ∧ Bel w w') := fun w => get_no 2 16 _ _ (zeros_list N) (by rw [zeros_size]; unfold maxLen; omega) (get_n (.inr (by rw [List.length_replicate]; omega))) w
    have x4 := F4.out.1.1
    have y4 := F4.out.1.2
    have x4a := cell_a1 x4
    have y4a := cell_a1 y4
    have wd1 : IntKind.i64.wrap t4 = t4 := by rw [IntKind.wrap_i64]; omega
    have wd2 : IntKind.i64.wrap (N : Int) = (N : Int) := by rw [IntKind.wrap_i64]; omega
    have cv1 := zeros_conv w4 (w4.alloc (.cells (madeCells #[.int .u8 0] N) 5)) N (fun _ => rfl)
    have cv2 := zeros_conv w4 (w4.alloc (.cells (madeCells #[.int .u8 0] N) 5)).drew N (fun _ => rfl)
    clear hN hN4
    go_cut [15] from 67 to 76 (fun s wx => s = .int .i64 1900 ∧ Bel w4 wx)
    case first =>
      go_region_with (first
        | (go_at_call 8
           with_reducible refine (G9.out _).mono ?_
           rintro e w6 ⟨rfl, b6⟩
           have HB6 : Hid (Bel w4 w6) := Bel.trans (by repeat (first | with_reducible exact Bel.refl _ | with_reducible apply Bel.drew | with_reducible apply Bel.alloc)) b6
           clear b6))
      all_goals go_wp2_with fail
      all_goals go_meet
      all_goals exact ⟨rfl, HB6.out⟩
    case rest =>
    obtain ⟨rfl, bc⟩ := hcut
    have F5 : Hid (Box wc g 2 16 ∧ Box wc B c b ∧ Bel w wc) := ⟨F4.out.1.bel bc, F4.out.2.1.bel bc, F4.out.2.2.trans bc⟩
    clear bc F4 mk cv1 cv2 wd1 wd2 x4 y4 x4a y4a G9 hN2 hN3 ht4
    obtain ⟨w5, hw5⟩ : ∃ W, W = wc := ⟨_, rfl⟩
    subst hw5
    obtain ⟨y0, hy0⟩ : ∃ y, -32768 - d = y := ⟨_, rfl⟩
    obtain ⟨y1, hy1⟩ : ∃ y, 32767 + d = y := ⟨_, rfl⟩
    have wy0 : IntKind.i64.wrap y0 = y0 := by rw [IntKind.wrap_i64]; omega
    have wy1 : IntKind.i64.wrap y1 = y1 := by rw [IntKind.wrap_i64]; omega
    have PN : Hid (∀ (ao : Option Addr) (w : World), Lls w ao [[1], [y1]] → Calls Try.prog 10 #[.slice ao 2 2, fmt 2 16] w fun e w' => e = .returned (.tuple #[.string ⟨#[]⟩, .int .i64 1900]) ∧ Bel w w') := fun ao w h => put_no 2 16 ao [[1], [y1]] 2 2 rfl (by unfold maxLen; omega) (put_bad (one_bad 2 y1 (not_fit 2 y1 (by show y1 < -32768 ∨ 32768 ≤ y1; omega)) _ 1 (by simp) rfl)) w h
    obtain ⟨x5, z5⟩ := F5.out.1
    have x5a := cell_a1 x5
    have z5a := cell_a1 z5
    have x5b := cell_a2 x5
    have z5b := cell_a2 z5
    have x5c := cell_a3 x5
    have z5c := cell_a3 z5
    have x5d := cell_a4 x5
    have z5d := cell_a4 z5
    go_upto_region 10 with fail
    go_cut [17] from 77 to 93 (fun s wx => s = .int .i64 1900 ∧ Bel w5 wx)
    case first =>
      go_region_with (first
        | (go_at_call 10
           with_reducible refine (PN.out _ _ ?_).mono ?_
           · first | with_reducible exact sh1 _ _ _ _ | with_reducible exact sh2 _ _ _ _ | with_reducible exact sh3 _ _ _ _
           rintro e w6 ⟨rfl, b6⟩
           have HB6 : Hid (Bel w5 w6) := Bel.trans (by repeat (first | with_reducible exact Bel.refl _ | with_reducible apply Bel.drew | with_reducible apply Bel.alloc)) b6
           clear b6))
      all_goals go_wp2_with fail
      all_goals go_meet
      all_goals exact ⟨rfl, HB6.out⟩
    case rest =>
    obtain ⟨rfl, bc⟩ := hcut
    have F6 : Hid (Box wc g 2 16 ∧ Box wc B c b ∧ Bel w wc) := ⟨F5.out.1.bel bc, F5.out.2.1.bel bc, F5.out.2.2.trans bc⟩
    clear bc F5 x5 z5 x5a z5a x5b z5b x5c z5c x5d z5d PN wy0 wy1 hy0 hy1
    obtain ⟨w6, hw6⟩ : ∃ W, W = wc := ⟨_, rfl⟩
    subst hw6
    obtain ⟨z0, hz0⟩ : ∃ y, -128 - d = y := ⟨_, rfl⟩
    obtain ⟨z1, hz1⟩ : ∃ y, 127 + d = y := ⟨_, rfl⟩
    have PN : Hid (∀ (ao : Option Addr) (w : World), Lls w ao [[z1]] → Calls Try.prog 10 #[.slice ao 1 1, fmt 1 8] w fun e w' => e = .returned (.tuple #[.string ⟨#[]⟩, .int .i64 1900]) ∧ Bel w w') := fun ao w h => put_no 1 8 ao [[z1]] 1 1 rfl (by unfold maxLen; omega) (put_bad (one_bad 1 z1 (not_fit 1 z1 (by show z1 < -128 ∨ 128 ≤ z1; omega)) _ 0 (by simp) rfl)) w h
    go_wp2_with fail
    refine (PN.out _ _ (si1 _ _ _ _)).mono ?_
    rintro e w7 ⟨rfl, b7⟩
    have b7' : Bel w6 w7 := Bel.trans ((((Bel.refl _).alloc _).alloc _).alloc _) b7
    have F7 : Hid (Box w7 g 2 16 ∧ Box w7 B c b ∧ Bel w w7) := ⟨F6.out.1.bel b7', F6.out.2.1.bel b7', F6.out.2.2.trans b7'⟩
    obtain ⟨x7, y7⟩ := F7.out.1
    have x7c := cell_a3 x7
    have y7c := cell_a3 y7
    clear b7 b7' F6 PN hz0 hz1
    have PN : Hid (∀ (ao : Option Addr) (w : World), Lls w ao [[1], [1, 2]] → Calls Try.prog 10 #[.slice ao 2 2, fmt 2 16] w fun e w' => e = .returned (.tuple #[.string ⟨#[]⟩, .int .i64 1900]) ∧ Bel w w') := fun ao w h => put_no 2 16 ao [[1], [1, 2]] 2 2 rfl (by unfold maxLen; omega) (by decide +kernel) w h
    go_wp2_with fail
    refine (PN.out _ _ (lit_2 w7 [1] [1, 2] (by decide) (by decide))).mono ?_
    rintro e w8 ⟨rfl, b8⟩
    have b8' : Bel w7 w8 := Bel.trans ((((Bel.refl _).alloc _).alloc _).alloc _) b8
    have F8 : Hid (Box w8 g 2 16 ∧ Box w8 B c b ∧ Bel w w8) := ⟨F7.out.1.bel b8', F7.out.2.1.bel b8', F7.out.2.2.trans b8'⟩
    clear b8 b8' x7 y7 x7c y7c F7 PN
    obtain ⟨x8, y8⟩ := F8.out.1
    have x8a := cell_a1 x8
    have y8a := cell_a1 y8
    have x8b := cell_a2 x8
    have y8b := cell_a2 y8
    have x8c := cell_a3 x8
    have y8c := cell_a3 y8
    obtain ⟨N2, hN5⟩ : ∃ N : Nat, 1024 + d = (N : Int) := ⟨(1024 + d).toNat, by omega⟩
    have hN6 : 1024 < N2 ∧ N2 ≤ 2048 := by omega
    have wd3 : IntKind.i64.wrap (N2 : Int) = (N2 : Int) := by rw [IntKind.wrap_i64]; omega
    have mk2 : ∀ w, (Instr.makeSlice 44 (.int .i64 (N2 : Int)) (.int .i64 (N2 : Int))).run Try.prog w = .ok (.slice (some ⟨w.heap.size, 0, none⟩) N2 N2) (w.alloc (.cells (vals (List.replicate N2 0)).toArray 3)) := fun w => Sid.mk_row N2 (by omega) w
    have PN : Hid (∀ (ao : Option Addr) (w : World), Lls w ao [List.replicate N2 0, List.replicate N2 0] → Calls Try.prog 10 #[.slice ao 2 2, fmt 2 16] w fun e w' => e = .returned (.tuple #[.string ⟨#[]⟩, .int .i64 1900]) ∧ Bel w w') := fun ao w h => put_no 2 16 ao [List.replicate N2 0, List.replicate N2 0] 2 2 rfl (by unfold maxLen; omega) (put_long (by show 4096 < (List.replicate N2 (0 : Int)).length * 4; rw [List.length_replicate]; omega)) w h
    have N8 : Hid (N2 * 8 ≤ 140737488351232) := (by omega : N2 * 8 ≤ 140737488351232)
    have M8 : Hid (∀ w, Calls Try.prog 14 #[fmt c b] w fun e w' => e = .returned (.bool false) ∧ Bel w w') := fun w => BX.out.1 ▸ may_ok c b w
    go_upto_region 13 with fail
    go_cut [23] from 118 to 129 (fun s wx => s = .int .i64 1900 ∧ Bel w8 wx)
    case first =>
      go_region_with (first
        | (go_at_call 10
           with_reducible refine (PN.out _ _ ?_).mono ?_
           · first | with_reducible exact sq1 _ _ N8.out | with_reducible exact sq2 _ _ N8.out
           rintro e w9 ⟨rfl, b9⟩
           have HB9 : Hid (Bel w8 w9) := Bel.trans (by repeat (first | with_reducible exact Bel.refl _ | with_reducible apply Bel.drew | with_reducible apply Bel.alloc)) b9
           clear b9))
      all_goals go_wp2_with fail
      all_goals go_meet
      all_goals exact ⟨rfl, HB9.out⟩
    case rest =>
    obtain ⟨rfl, bc⟩ := hcut
    have F9 : Hid (Box wc B c b ∧ Bel w wc) := ⟨F8.out.2.1.bel bc, F8.out.2.2.trans bc⟩
    obtain ⟨x9, y9⟩ := F9.out.1
    clear bc F8 x8 y8 x8a y8a x8b y8b x8c y8c PN mk2 wd3 hN5
    go_wp2_with fail
    refine (M8.out _).mono ?_
    rintro e w10 ⟨rfl, b10⟩
    have F10 : Hid (Bel w w10) := F9.out.2.trans b10
    clear b10 F9 x9 y9
    go_wp2_with (go_at_call 13; refine (num_ok _ _).mono ?_; rintro e w99 ⟨rfl, hw⟩; replace hw := hw.symm; subst hw)
    go_ret
    exact ⟨rfl, F10.out⟩

end Go.Proofs.Ytlomfcaoakdnhaa.Pcm
