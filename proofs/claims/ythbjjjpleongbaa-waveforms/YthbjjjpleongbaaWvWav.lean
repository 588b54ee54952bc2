/-
  The contract of the statements' own wav, of one channel of 8 bits and of two of 16, whatever the samples' bytes. Condition: these are within the reach.
-/
import Derived.Test.YthbjjjpleongbaaWvRBuild
namespace Go.Proofs.Ythbjjjpleongbaa.Wav
open Go.RowKit Go.Sort Go.Proofs.Ythbjjjpleongbaa.Mod Go.Proofs.Ythbjjjpleongbaa.Num Go.Proofs.Ythbjjjpleongbaa.Chk
set_option linter.unusedVariables false
set_option linter.unusedSimpArgs false

theorem low2_lit (w : World) (x : Int) (s : ByteArray) (h0 : 0 ≤ x) (h1 : x < 65536) (hs : strOfNums [x % 256, x / 256] = s) :
    Calls Try.prog 16 #[.int .i64 x, .int .i64 2] w fun e w' => e = .returned (.string s) ∧ Bel w w' := by
  rw [← hs]; exact Ref.low2 x h0 h1 w
theorem ba_cat (l m : List UInt8) : ((⟨l.toArray⟩ : ByteArray) ++ (⟨m.toArray⟩ : ByteArray)) = ⟨(l ++ m).toArray⟩ := tx_cat l m

/-- Four bytes of whatever number, the lowest first. -/
def l4 (n : Nat) : List UInt8 := [UInt8.ofNat (n % 256), UInt8.ofNat (n / 256 % 256), UInt8.ofNat (n / 65536 % 256), UInt8.ofNat (n / 16777216 % 256)]
theorem strOf4 (n : Nat) : strOfNums [(n : Int) % 256, (n : Int) / 256 % 256, (n : Int) / 65536 % 256, (n : Int) / 16777216 % 256] = ⟨#[UInt8.ofNat (n % 256), UInt8.ofNat (n / 256 % 256), UInt8.ofNat (n / 65536 % 256), UInt8.ofNat (n / 16777216 % 256)]⟩ := rfl

set_option maxHeartbeats 400000 in
theorem low4_any (n : Nat) (h : n ≤ 140737488355328) (w : World) :
    Calls Try.prog 16 #[.int .i64 (n : Int), .int .i64 4] w fun e w' => e = .returned (.string (tx (l4 n))) ∧ Bel w w' := by
  have hmk := Field.mk4
  have hcv := Field.cv4 w ((n : Int) % 256) ((n : Int) / 256 % 256) ((n : Int) / 65536 % 256) ((n : Int) / 16777216 % 256)
  rw [strOf4] at hcv
  go_enter Try.func16, Try.ntmps16
  go_wp2
  refine wp_loop_rounds 5 ?_
  rw [rounds_succ]
  go_wp2
  rw [rounds_succ]
  go_wp2
  rw [rounds_succ]
  go_wp2
  rw [rounds_succ]
  go_wp2
  rw [rounds_succ]
  go_wp2
  go_ret
  exact ⟨rfl, (Bel.refl _).alloc _⟩

def more : List UInt8 := [109, 111, 114, 101, 3, 0, 0, 0, 97, 98, 99, 100]
def pad (D : List UInt8) : List UInt8 := if D.length % 2 = 1 then [112] else []

/-- The file's bytes behind the first eight, and all of them. -/
def bod_1_8 (D : List UInt8) : List UInt8 := [87, 65, 86, 69, 102, 109, 116, 32, 16, 0, 0, 0, 1, 0, 1, 0, 114, 97, 116, 101, 97, 110, 100, 98, 1, 0, 8, 0, 100, 97, 116, 97] ++ (l4 D.length ++ (D ++ (pad D ++ more)))
def fil_1_8 (D : List UInt8) : List UInt8 := [82, 73, 70, 70] ++ (l4 (bod_1_8 D).length ++ bod_1_8 D)

set_option maxRecDepth 8000 in
set_option maxHeartbeats 2000000 in
theorem wav_1_8 (D : List UInt8) (hD : D.length ≤ 140737488351232) (w : World) :
    Calls Try.prog 14 #[.agg #[.int .i64 1, .int .i64 8], .string (tx D)] w fun e w' => e = .returned (.string (tx (fil_1_8 D))) ∧ Bel w w' := by
  have Q1 : Hid (∀ w, Calls Try.prog 16 #[.int .i64 1, .int .i64 2] w fun e w' => e = .returned (.string ⟨#[1, 0]⟩) ∧ Bel w w') := fun w => low2_lit w 1 _ (by decide) (by decide) (by rfl)
  have Q8 : Hid (∀ w, Calls Try.prog 16 #[.int .i64 8, .int .i64 2] w fun e w' => e = .returned (.string ⟨#[8, 0]⟩) ∧ Bel w w') := fun w => low2_lit w 8 _ (by decide) (by decide) (by rfl)
  have QD : Hid (∀ w, Calls Try.prog 16 #[.int .i64 (D.length : Int), .int .i64 4] w fun e w' => e = .returned (.string (tx (l4 D.length))) ∧ Bel w w') := fun w => low4_any _ (by omega) w
  have k0 : (w.alloc (.cells #[.int .i64 1, .int .i64 8] 23)).cell? ⟨w.heap.size, 0, none⟩ = some (.int .i64 1) := by go_simp
  have k1 : (w.alloc (.cells #[.int .i64 1, .int .i64 8] 23)).cell? ⟨w.heap.size, 1, none⟩ = some (.int .i64 8) := by go_simp
  have c0 := cell_regrown k0
  have c1 := cell_regrown k1
  have zD := tx_size D
  have zl : (l4 D.length).length = 4 := rfl
  go_enter Try.func14, Try.ntmps14
  go_upto_region 2 with fail
  refine wp_region_quiet_below (by kernel_rfl) (by kernel_rfl) ?_
  repeat (go_big_quiet_step (first
    | (go_at_call 16; with_reducible exact Calls.regrown_of (Q1.out _))
    | (go_at_call 16; with_reducible exact Calls.regrown_of (Q8.out _))))
  refine wpQuiet_nil ?_
  intro _ hw'
  obtain ⟨⟨dq, osq⟩, hw''⟩ := hw'
  subst hw''
  have B1 : Hid (Bel w (grow (redrawn (w.alloc (.cells #[.int .i64 1, .int .i64 8] 23)) dq) osq)) := ((Bel.refl _).alloc _).trans (below_regrown _ dq osq)
  clear c0 c1 k0 k1
  show Exit.then _ _ _ _ (grow (redrawn (w.alloc (.cells #[.int .i64 1, .int .i64 8] 23)) dq) osq)
  generalize grow (redrawn (w.alloc (.cells #[.int .i64 1, .int .i64 8] 23)) dq) osq = w1 at *
  simp only [ba_cat, List.cons_append, List.nil_append]
  go_wp2_with fail
  refine (QD.out _).mono ?_
  rintro e w2 ⟨rfl, b2⟩
  have B2 : Hid (Bel w w2) := B1.out.trans b2
  clear b2
  have hb : bod_1_8 D = [87, 65, 86, 69, 102, 109, 116, 32, 16, 0, 0, 0, 1, 0, 1, 0, 114, 97, 116, 101, 97, 110, 100, 98, 1, 0, 8, 0, 100, 97, 116, 97] ++ (l4 D.length ++ (D ++ (pad D ++ more))) := rfl
  unfold pad at hb
  by_cases hp : D.length % 2 = 1
  · have o1 : ((D.length : Int) % 2 == 1) = true := by simp; omega
    rw [if_pos hp] at hb
    have EL : (36 + (D.length : Int) + 1 + 12) = (((bod_1_8 D).length : Nat) : Int) := by
      rw [hb]
      unfold l4 more
      simp only [List.length_append, List.length_cons, List.length_nil]
      omega
    have QF : Hid (∀ w, Calls Try.prog 16 #[.int .i64 (((bod_1_8 D).length : Nat) : Int), .int .i64 4] w fun e w' => e = .returned (.string (tx (l4 (bod_1_8 D).length))) ∧ Bel w w') := fun w => low4_any _ (by omega) w
    have zf : (l4 (bod_1_8 D).length).length = 4 := rfl
    have hf : fil_1_8 D = [82, 73, 70, 70] ++ (l4 (bod_1_8 D).length ++ bod_1_8 D) := rfl
    generalize l4 (bod_1_8 D).length = m4 at *
    rw [hb] at hf
    have HF : Hid _ := hf
    clear hp hf hb
    go_wp2_with fail
    simp only [ba_cat, List.cons_append, List.nil_append, List.append_assoc]
    refine (QF.out _).mono ?_
    rintro e w3 ⟨rfl, b3⟩
    have B3 : Hid (Bel w w3) := B2.out.trans b3
    clear b3 EL
    go_wp2
    simp only [ba_cat, List.cons_append, List.nil_append, List.append_assoc]
    go_ret
    refine ⟨?_, B3.out⟩
    rw [HF.out]
    unfold more
    simp only [List.cons_append, List.nil_append, List.append_assoc]
    rfl
  · have o1 : ((D.length : Int) % 2 == 1) = false := by simp; omega
    rw [if_neg hp] at hb
    have EL : (36 + (D.length : Int) + 12) = (((bod_1_8 D).length : Nat) : Int) := by
      rw [hb]
      unfold l4 more
      simp only [List.length_append, List.length_cons, List.length_nil]
      omega
    have QF : Hid (∀ w, Calls Try.prog 16 #[.int .i64 (((bod_1_8 D).length : Nat) : Int), .int .i64 4] w fun e w' => e = .returned (.string (tx (l4 (bod_1_8 D).length))) ∧ Bel w w') := fun w => low4_any _ (by omega) w
    have zf : (l4 (bod_1_8 D).length).length = 4 := rfl
    have hf : fil_1_8 D = [82, 73, 70, 70] ++ (l4 (bod_1_8 D).length ++ bod_1_8 D) := rfl
    generalize l4 (bod_1_8 D).length = m4 at *
    rw [hb] at hf
    have HF : Hid _ := hf
    clear hp hf hb
    go_wp2_with fail
    simp only [ba_cat, List.cons_append, List.nil_append, List.append_assoc]
    refine (QF.out _).mono ?_
    rintro e w3 ⟨rfl, b3⟩
    have B3 : Hid (Bel w w3) := B2.out.trans b3
    clear b3 EL
    go_wp2
    simp only [ba_cat, List.cons_append, List.nil_append, List.append_assoc]
    go_ret
    refine ⟨?_, B3.out⟩
    rw [HF.out]
    unfold more
    simp only [List.cons_append, List.nil_append, List.append_assoc]
    rfl
/-- The file's bytes behind the first eight, and all of them. -/
def bod_2_16 (D : List UInt8) : List UInt8 := [87, 65, 86, 69, 102, 109, 116, 32, 16, 0, 0, 0, 1, 0, 2, 0, 114, 97, 116, 101, 97, 110, 100, 98, 4, 0, 16, 0, 100, 97, 116, 97] ++ (l4 D.length ++ (D ++ (pad D ++ more)))
def fil_2_16 (D : List UInt8) : List UInt8 := [82, 73, 70, 70] ++ (l4 (bod_2_16 D).length ++ bod_2_16 D)

set_option maxRecDepth 8000 in
set_option maxHeartbeats 2000000 in
theorem wav_2_16 (D : List UInt8) (hD : D.length ≤ 140737488351232) (w : World) :
    Calls Try.prog 14 #[.agg #[.int .i64 2, .int .i64 16], .string (tx D)] w fun e w' => e = .returned (.string (tx (fil_2_16 D))) ∧ Bel w w' := by
  have Q2 : Hid (∀ w, Calls Try.prog 16 #[.int .i64 2, .int .i64 2] w fun e w' => e = .returned (.string ⟨#[2, 0]⟩) ∧ Bel w w') := fun w => low2_lit w 2 _ (by decide) (by decide) (by rfl)
  have Q4 : Hid (∀ w, Calls Try.prog 16 #[.int .i64 4, .int .i64 2] w fun e w' => e = .returned (.string ⟨#[4, 0]⟩) ∧ Bel w w') := fun w => low2_lit w 4 _ (by decide) (by decide) (by rfl)
  have Q16 : Hid (∀ w, Calls Try.prog 16 #[.int .i64 16, .int .i64 2] w fun e w' => e = .returned (.string ⟨#[16, 0]⟩) ∧ Bel w w') := fun w => low2_lit w 16 _ (by decide) (by decide) (by rfl)
  have QD : Hid (∀ w, Calls Try.prog 16 #[.int .i64 (D.length : Int), .int .i64 4] w fun e w' => e = .returned (.string (tx (l4 D.length))) ∧ Bel w w') := fun w => low4_any _ (by omega) w
  have k0 : (w.alloc (.cells #[.int .i64 2, .int .i64 16] 23)).cell? ⟨w.heap.size, 0, none⟩ = some (.int .i64 2) := by go_simp
  have k1 : (w.alloc (.cells #[.int .i64 2, .int .i64 16] 23)).cell? ⟨w.heap.size, 1, none⟩ = some (.int .i64 16) := by go_simp
  have c0 := cell_regrown k0
  have c1 := cell_regrown k1
  have zD := tx_size D
  have zl : (l4 D.length).length = 4 := rfl
  go_enter Try.func14, Try.ntmps14
  go_upto_region 2 with fail
  refine wp_region_quiet_below (by kernel_rfl) (by kernel_rfl) ?_
  repeat (go_big_quiet_step (first
    | (go_at_call 16; with_reducible exact Calls.regrown_of (Q2.out _))
    | (go_at_call 16; with_reducible exact Calls.regrown_of (Q4.out _))
    | (go_at_call 16; with_reducible exact Calls.regrown_of (Q16.out _))))
  refine wpQuiet_nil ?_
  intro _ hw'
  obtain ⟨⟨dq, osq⟩, hw''⟩ := hw'
  subst hw''
  have B1 : Hid (Bel w (grow (redrawn (w.alloc (.cells #[.int .i64 2, .int .i64 16] 23)) dq) osq)) := ((Bel.refl _).alloc _).trans (below_regrown _ dq osq)
  clear c0 c1 k0 k1
  show Exit.then _ _ _ _ (grow (redrawn (w.alloc (.cells #[.int .i64 2, .int .i64 16] 23)) dq) osq)
  generalize grow (redrawn (w.alloc (.cells #[.int .i64 2, .int .i64 16] 23)) dq) osq = w1 at *
  simp only [ba_cat, List.cons_append, List.nil_append]
  go_wp2_with fail
  refine (QD.out _).mono ?_
  rintro e w2 ⟨rfl, b2⟩
  have B2 : Hid (Bel w w2) := B1.out.trans b2
  clear b2
  have hb : bod_2_16 D = [87, 65, 86, 69, 102, 109, 116, 32, 16, 0, 0, 0, 1, 0, 2, 0, 114, 97, 116, 101, 97, 110, 100, 98, 4, 0, 16, 0, 100, 97, 116, 97] ++ (l4 D.length ++ (D ++ (pad D ++ more))) := rfl
  unfold pad at hb
  by_cases hp : D.length % 2 = 1
  · have o1 : ((D.length : Int) % 2 == 1) = true := by simp; omega
    rw [if_pos hp] at hb
    have EL : (36 + (D.length : Int) + 1 + 12) = (((bod_2_16 D).length : Nat) : Int) := by
      rw [hb]
      unfold l4 more
      simp only [List.length_append, List.length_cons, List.length_nil]
      omega
    have QF : Hid (∀ w, Calls Try.prog 16 #[.int .i64 (((bod_2_16 D).length : Nat) : Int), .int .i64 4] w fun e w' => e = .returned (.string (tx (l4 (bod_2_16 D).length))) ∧ Bel w w') := fun w => low4_any _ (by omega) w
    have zf : (l4 (bod_2_16 D).length).length = 4 := rfl
    have hf : fil_2_16 D = [82, 73, 70, 70] ++ (l4 (bod_2_16 D).length ++ bod_2_16 D) := rfl
    generalize l4 (bod_2_16 D).length = m4 at *
    rw [hb] at hf
    have HF : Hid _ := hf
    clear hp hf hb
    go_wp2_with fail
    simp only [ba_cat, List.cons_append, List.nil_append, List.append_assoc]
    refine (QF.out _).mono ?_
    rintro e w3 ⟨rfl, b3⟩
    have B3 : Hid (Bel w w3) := B2.out.trans b3
    clear b3 EL
    go_wp2
    simp only [ba_cat, List.cons_append, List.nil_append, List.append_assoc]
    go_ret
    refine ⟨?_, B3.out⟩
    rw [HF.out]
    unfold more
    simp only [List.cons_append, List.nil_append, List.append_assoc]
    rfl
  · have o1 : ((D.length : Int) % 2 == 1) = false := by simp; omega
    rw [if_neg hp] at hb
    have EL : (36 + (D.length : Int) + 12) = (((bod_2_16 D).length : Nat) : Int) := by
      rw [hb]
      unfold l4 more
      simp only [List.length_append, List.length_cons, List.length_nil]
      omega
    have QF : Hid (∀ w, Calls Try.prog 16 #[.int .i64 (((bod_2_16 D).length : Nat) : Int), .int .i64 4] w fun e w' => e = .returned (.string (tx (l4 (bod_2_16 D).length))) ∧ Bel w w') := fun w => low4_any _ (by omega) w
    have zf : (l4 (bod_2_16 D).length).length = 4 := rfl
    have hf : fil_2_16 D = [82, 73, 70, 70] ++ (l4 (bod_2_16 D).length ++ bod_2_16 D) := rfl
    generalize l4 (bod_2_16 D).length = m4 at *
    rw [hb] at hf
    have HF : Hid _ := hf
    clear hp hf hb
    go_wp2_with fail
    simp only [ba_cat, List.cons_append, List.nil_append, List.append_assoc]
    refine (QF.out _).mono ?_
    rintro e w3 ⟨rfl, b3⟩
    have B3 : Hid (Bel w w3) := B2.out.trans b3
    clear b3 EL
    go_wp2
    simp only [ba_cat, List.cons_append, List.nil_append, List.append_assoc]
    go_ret
    refine ⟨?_, B3.out⟩
    rw [HF.out]
    unfold more
    simp only [List.cons_append, List.nil_append, List.append_assoc]
    rfl
end Go.Proofs.Ythbjjjpleongbaa.Wav
