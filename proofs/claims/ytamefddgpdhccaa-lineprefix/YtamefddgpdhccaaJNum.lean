/-
  Plain facts on lines of samples as residuals: the chain behind n samples, the residuals, and back. No condition.
-/
import Derived.Test.YtamefddgpdhccaaHNum
namespace Go.Proofs.Ytamefddgpdhccaa.Ser
open Go.RowKit Go.Proofs.Ytamefddgpdhccaa.Mod Go.Proofs.Ytamefddgpdhccaa.Lin Go.Proofs.Ytamefddgpdhccaa.Chn
set_option linter.unusedVariables false
set_option linter.unusedSimpArgs false

/-- The chain behind n samples. -/
def chn (f : Nat → Int) : Nat → List Int
  | 0 => zeros33
  | n + 1 => learnC (chn f n) (f n)
def res (f : Nat → Int) (n : Nat) : Int := f n - guessC (chn f n)

theorem chn_len (f : Nat → Int) : ∀ n, (chn f n).length = 33
  | 0 => zeros33_len
  | n + 1 => learnC_len (chn_len f n) _

theorem chn_may (f : Nat → Int) : ∀ n, (∀ i, i < n → passed 131072 (f i) = false) → mayC (chn f n) = true
  | 0, _ => zeros33_may
  | n + 1, h => may_learnC (chn_len f n) (chn_may f n (fun i hi => h i (by omega))) (h n (by omega))

theorem chn_same {f g : Nat → Int} : ∀ n, (∀ i, i < n → f i = g i) → chn f n = chn g n
  | 0, _ => rfl
  | n + 1, h => by rw [chn, chn, chn_same n (fun i hi => h i (by omega)), h n (by omega)]

theorem res_same {f g : Nat → Int} (n : Nat) (h : ∀ i, i < n + 1 → f i = g i) : res f n = res g n := by
  unfold res
  rw [chn_same n (fun i hi => h i (by omega)), h n (by omega)]

/-- The first unlike one: the residuals are unlike by as much. -/
theorem res_unlike {f g : Nat → Int} (n : Nat) (h : ∀ i, i < n → f i = g i) : res f n - res g n = f n - g n := by
  unfold res
  rw [chn_same n h]
  omega

theorem res_range {f : Nat → Int} (n : Nat) (h : ∀ i, i < n + 1 → passed 131072 (f i) = false) : -16777216 ≤ res f n ∧ res f n ≤ 16777216 :=
  guessC_off (chn_may f n (fun i hi => h i (by omega))) (h n (by omega))

theorem guessC_range {M : List Int} (hm : mayC M = true) : -2228224 ≤ guessC M ∧ guessC M ≤ 2228224 := by
  obtain ⟨h0, _, _⟩ := (mayC_iff M).1 hm
  have g := guess_range (partA M)
  have k := guess_range (partB M)
  unfold guessC
  omega

/-! The way back. -/
def back (r : Nat → Int) : Nat → List Int
  | 0 => zeros33
  | n + 1 => learnC (back r n) (r n + guessC (back r n))
def smp (r : Nat → Int) (n : Nat) : Int := r n + guessC (back r n)

theorem back_chn (r : Nat → Int) : ∀ n, back r n = chn (smp r) n
  | 0 => rfl
  | n + 1 => by rw [back, chn, ← back_chn r n]; rfl

theorem res_smp (r : Nat → Int) (n : Nat) : res (smp r) n = r n := by
  unfold res
  rw [← back_chn, smp]
  omega

theorem back_res (f : Nat → Int) : ∀ n, back (res f) n = chn f n
  | 0 => rfl
  | n + 1 => by
    rw [back, chn, back_res f n, res]
    congr 1
    omega

theorem smp_res (f : Nat → Int) (n : Nat) : smp (res f) n = f n := by
  unfold smp
  rw [back_res, res]
  omega

/-- A row that stays. -/
theorem still_chn {f : Nat → Int} {v : Int} : ∀ n, (∀ i, i < n → f i = v) → Still v n (chn f n)
  | 0, _ => still_zero v
  | n + 1, h => by
    rw [chn, h n (by omega)]
    exact (still_chn n (fun i hi => h i (by omega))).step

theorem res_still {f : Nat → Int} {v : Int} (n : Nat) (h : ∀ i, i < n + 1 → f i = v) : res f n = if n = 0 then v else 0 := by
  have s := still_chn (f := f) (v := v) n (fun i hi => h i (by omega))
  unfold res
  rw [h n (by omega)]
  by_cases e : n = 0
  · subst e
    rw [if_pos rfl]
    have : guessC (chn f 0) = 0 := by show guessC zeros33 = 0; decide +kernel
    omega
  · rw [if_neg e, s.guess (by omega)]
    omega

end Go.Proofs.Ytamefddgpdhccaa.Ser
