/-
  The contracts of package pcm's small functions, and of the reference's: which formats may be, how many bytes, numbers and samples. No condition but what each says.
-/
import Derived.Test.YtpakcajdbibbbaaPcNum
import Derived.Test.YtpakcajdbibbbaaGUp
import Derived.ProofKit
import Derived.WalkSpells
import Derived.BigQuiet
namespace Go.Proofs.Ytpakcajdbibbbaa.Pcm
open Go.RowKit Go.Proofs.Ytpakcajdbibbbaa.Mod Go.Proofs.Ytpakcajdbibbbaa.Num
set_option linter.unusedVariables false

abbrev fmt (c b : Int) : Value := .agg #[.int .i64 c, .int .i64 b]

set_option maxHeartbeats 400000 in
theorem may_ok (c b : Int) (w : World) : Calls Try.prog 14 #[fmt c b] w fun e w' => e = .returned (.bool (okF c b)) ∧ Bel w w' := by
  by_cases h1 : 1 ≤ c
  · by_cases h2 : c ≤ 2
    · by_cases h3 : b = 8
      · subst h3
        rw [show okF c 8 = true by unfold okF; rw [decide_eq_true h1, decide_eq_true h2]; rfl]
        have d1 : decide (1 ≤ c) = true := decide_eq_true h1
        have d2 : decide (c ≤ 2) = true := decide_eq_true h2
        go_enter Try.func14, Try.ntmps14
        go_wp2
        go_ret
        exact ⟨rfl, (Bel.refl _).alloc _⟩
      · have d3 : (b == 8) = false := by simpa using h3
        rw [show okF c b = (b == 16) by unfold okF; rw [decide_eq_true h1, decide_eq_true h2, d3]; rfl]
        have d1 : decide (1 ≤ c) = true := decide_eq_true h1
        have d2 : decide (c ≤ 2) = true := decide_eq_true h2
        go_enter Try.func14, Try.ntmps14
        go_wp2
        go_ret
        exact ⟨rfl, (Bel.refl _).alloc _⟩
    · rw [show okF c b = false by unfold okF; rw [decide_eq_false h2, Bool.and_false, Bool.false_and]]
      have d1 : decide (1 ≤ c) = true := decide_eq_true h1
      have d2 : decide (c ≤ 2) = false := decide_eq_false h2
      go_enter Try.func14, Try.ntmps14
      go_wp2
      go_ret
      exact ⟨rfl, (Bel.refl _).alloc _⟩
  · rw [show okF c b = false by unfold okF; rw [decide_eq_false h1, Bool.false_and, Bool.false_and]]
    have d1 : decide (1 ≤ c) = false := decide_eq_false h1
    go_enter Try.func14, Try.ntmps14
    go_wp2
    go_ret
    exact ⟨rfl, (Bel.refl _).alloc _⟩

set_option maxHeartbeats 400000 in
theorem rmay_ok (c b : Int) (w : World) : Calls Try.prog 15 #[fmt c b] w fun e w' => e = .returned (.bool (okF c b)) ∧ Bel w w' := by
  have U : Hid (∀ w, Calls Try.prog 30 #[.int .i64 c, .int .i64 1, .int .i64 2] w fun e w' => e = .returned (.bool (decide (1 ≤ c) && decide (c ≤ 2))) ∧ w' = w) := fun w => Has.upto_any c 1 2 w
  obtain ⟨r, hr⟩ : ∃ r, (decide (1 ≤ c) && decide (c ≤ 2)) = r := ⟨_, rfl⟩
  have e : okF c b = (r && (b == 8 || b == 16)) := by rw [← hr]; rfl
  rw [e]
  rw [hr] at U
  clear hr e
  cases r
  · rw [Bool.false_and]
    go_enter Try.func15, Try.ntmps15
    go_wp2_with fail
    refine (U.out _).mono ?_
    rintro e w1 ⟨rfl, rfl⟩
    go_wp2
    go_ret
    exact ⟨rfl, (Bel.refl _).alloc _⟩
  · rw [Bool.true_and]
    cases h3 : (b == 8)
    · rw [Bool.false_or]
      go_enter Try.func15, Try.ntmps15
      go_wp2_with fail
      refine (U.out _).mono ?_
      rintro e w1 ⟨rfl, rfl⟩
      go_wp2
      go_ret
      exact ⟨rfl, (Bel.refl _).alloc _⟩
    · rw [Bool.true_or]
      go_enter Try.func15, Try.ntmps15
      go_wp2_with fail
      refine (U.out _).mono ?_
      rintro e w1 ⟨rfl, rfl⟩
      go_wp2
      go_ret
      exact ⟨rfl, (Bel.refl _).alloc _⟩

set_option maxHeartbeats 400000 in
theorem bytes_ok (b : Int) (h : b = 8 ∨ b = 16) (w : World) : Calls Try.prog 21 #[.int .i64 b] w fun e w' => e = .returned (.int .i64 (fQ b : Int)) ∧ w' = w := by
  rcases h with rfl | rfl
  · go_enter Try.func21, Try.ntmps21
    go_wp2
    go_ret
    exact ⟨rfl, rfl⟩
  · go_enter Try.func21, Try.ntmps21
    go_wp2
    go_ret
    exact ⟨rfl, rfl⟩

set_option maxHeartbeats 400000 in
theorem half_ok (b : Int) (h : b = 8 ∨ b = 16) (w : World) : Calls Try.prog 33 #[.int .i64 b] w fun e w' => e = .returned (.int .i64 (hlf (fQ b))) ∧ w' = w := by
  rcases h with rfl | rfl
  · go_enter Try.func33, Try.ntmps33
    go_wp2
    go_ret
    exact ⟨rfl, rfl⟩
  · go_enter Try.func33, Try.ntmps33
    go_wp2
    go_ret
    exact ⟨rfl, rfl⟩

set_option maxHeartbeats 400000 in
theorem frame_ok (c b : Int) (h : okF c b = true) (w : World) : Calls Try.prog 19 #[fmt c b] w fun e w' => e = .returned (.int .i64 ((fC c * fQ b : Nat) : Int)) ∧ Bel w w' := by
  obtain ⟨h1, h2⟩ := okF_yes h
  clear h
  rcases h1 with rfl | rfl <;> rcases h2 with rfl | rfl
  all_goals
    go_enter Try.func19, Try.ntmps19
    go_wp2
    go_ret
    exact ⟨rfl, (Bel.refl _).alloc _⟩

set_option maxHeartbeats 400000 in
theorem rframe_ok (c b : Int) (h : okF c b = true) (w : World) : Calls Try.prog 23 #[fmt c b] w fun e w' => e = .returned (.int .i64 ((fC c * fQ b : Nat) : Int)) ∧ Bel w w' := by
  obtain ⟨h1, h2⟩ := okF_yes h
  clear h
  rcases h1 with rfl | rfl <;> rcases h2 with rfl | rfl
  all_goals
    go_enter Try.func23, Try.ntmps23
    go_wp2
    go_ret
    exact ⟨rfl, (Bel.refl _).alloc _⟩

set_option maxHeartbeats 1000000 in
theorem none_ok (b x : Int) (h : b = 8 ∨ b = 16) (w : World) : Calls Try.prog 35 #[.int .i64 b, .int .i64 x] w fun e w' => e = .returned (.bool (!fits (fQ b) x)) ∧ w' = w := by
  have H : Hid (∀ w, Calls Try.prog 33 #[.int .i64 b] w fun e w' => e = .returned (.int .i64 (hlf (fQ b))) ∧ w' = w) := half_ok b h
  have e : (!fits (fQ b) x) = (decide (x < -hlf (fQ b)) || decide (hlf (fQ b) ≤ x)) := by
    unfold fits
    by_cases h1 : x < -hlf (fQ b)
    · rw [decide_eq_false (by omega), decide_eq_true h1]; rfl
    · rw [decide_eq_true (by omega), decide_eq_false h1, Bool.true_and, Bool.false_or]
      by_cases h2 : hlf (fQ b) ≤ x
      · rw [decide_eq_true h2, decide_eq_false (by omega)]; rfl
      · rw [decide_eq_false h2, decide_eq_true (by omega)]; rfl
  rw [e]
  have hb : 0 < hlf (fQ b) ∧ hlf (fQ b) ≤ 32768 := by rcases h with rfl | rfl <;> decide
  clear e h
  obtain ⟨l, hl⟩ : ∃ l, hlf (fQ b) = l := ⟨_, rfl⟩
  rw [hl] at H hb ⊢
  clear hl
  cases hc : decide (x < -l)
  · rw [Bool.false_or]
    go_enter Try.func35, Try.ntmps35
    go_wp2_with fail
    refine (H.out _).mono ?_
    rintro e w1 ⟨rfl, rfl⟩
    go_wp2_with fail
    refine (H.out _).mono ?_
    rintro e w1 ⟨rfl, rfl⟩
    go_wp2
    go_ret
    exact ⟨rfl, rfl⟩
  · rw [Bool.true_or]
    go_enter Try.func35, Try.ntmps35
    go_wp2_with fail
    refine (H.out _).mono ?_
    rintro e w1 ⟨rfl, rfl⟩
    go_wp2
    go_ret
    exact ⟨rfl, rfl⟩

set_option maxHeartbeats 1000000 in
theorem number_ok (b x : Int) (h : b = 8 ∨ b = 16) (hx : fits (fQ b) x = true) (w : World) : Calls Try.prog 26 #[.int .i64 b, .int .i64 x] w fun e w' => e = .returned (.int .i64 (numb (fQ b) x)) ∧ w' = w := by
  have H : Hid (∀ w, Calls Try.prog 33 #[.int .i64 b] w fun e w' => e = .returned (.int .i64 (hlf (fQ b))) ∧ w' = w) := half_ok b h
  rcases h with rfl | rfl
  · obtain ⟨x0, x1⟩ := fits_1 hx
    rw [show numb (fQ 8) x = x + 128 from rfl]
    clear hx
    go_enter Try.func26, Try.ntmps26
    go_wp2_with fail
    refine (H.out _).mono ?_
    rintro e w1 ⟨rfl, rfl⟩
    simp only [show hlf (fQ 8) = 128 from rfl]
    go_wp2
    go_ret
    exact ⟨rfl, rfl⟩
  · obtain ⟨x0, x1⟩ := fits_2 hx
    clear hx
    by_cases hn : x < 0
    · rw [show numb (fQ 16) x = x + 65536 by unfold numb; rw [if_neg (by decide), if_pos hn]]
      go_enter Try.func26, Try.ntmps26
      go_wp2_with fail
      refine (H.out _).mono ?_
      rintro e w1 ⟨rfl, rfl⟩
      simp only [show hlf (fQ 16) = 32768 from rfl]
      go_wp2
      go_ret
      exact ⟨rfl, rfl⟩
    · rw [show numb (fQ 16) x = x by unfold numb; rw [if_neg (by decide), if_neg hn]]
      have hn2 : 0 ≤ x := by omega
      go_enter Try.func26, Try.ntmps26
      go_wp2
      go_ret
      exact ⟨rfl, rfl⟩

set_option maxHeartbeats 1000000 in
theorem sample_ok (b u : Int) (h : b = 8 ∨ b = 16) (h0 : 0 ≤ u) (h1 : u < 65536) (w : World) : Calls Try.prog 22 #[.int .i64 b, .int .i64 u] w fun e w' => e = .returned (.int .i64 (smp (fQ b) u)) ∧ w' = w := by
  have H : Hid (∀ w, Calls Try.prog 33 #[.int .i64 b] w fun e w' => e = .returned (.int .i64 (hlf (fQ b))) ∧ w' = w) := half_ok b h
  rcases h with rfl | rfl
  · rw [show smp (fQ 8) u = u - 128 from rfl]
    go_enter Try.func22, Try.ntmps22
    go_wp2_with fail
    refine (H.out _).mono ?_
    rintro e w1 ⟨rfl, rfl⟩
    simp only [show hlf (fQ 8) = 128 from rfl]
    go_wp2
    go_ret
    exact ⟨rfl, rfl⟩
  · by_cases hn : 32768 ≤ u
    · rw [show smp (fQ 16) u = u - 65536 by unfold smp; rw [if_neg (by decide), if_pos hn]]
      go_enter Try.func22, Try.ntmps22
      go_wp2_with fail
      refine (H.out _).mono ?_
      rintro e w1 ⟨rfl, rfl⟩
      simp only [show hlf (fQ 16) = 32768 from rfl]
      go_wp2_with fail
      refine (H.out _).mono ?_
      rintro e w1 ⟨rfl, rfl⟩
      simp only [show hlf (fQ 16) = 32768 from rfl]
      go_wp2
      go_ret
      exact ⟨rfl, rfl⟩
    · rw [show smp (fQ 16) u = u by unfold smp; rw [if_neg (by decide), if_neg hn]]
      have hn2 : u < 32768 := by omega
      go_enter Try.func22, Try.ntmps22
      go_wp2_with fail
      refine (H.out _).mono ?_
      rintro e w1 ⟨rfl, rfl⟩
      simp only [show hlf (fQ 16) = 32768 from rfl]
      go_wp2
      go_ret
      exact ⟨rfl, rfl⟩

end Go.Proofs.Ytpakcajdbibbbaa.Pcm
