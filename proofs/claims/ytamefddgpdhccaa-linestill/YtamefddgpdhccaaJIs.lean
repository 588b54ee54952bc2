/-
  There and back: what Put and Get answer, of whatever row; the reference's answers are the same. Conditions: the rows are there.
-/
import Derived.Test.YtamefddgpdhccaaJRef
namespace Go.Proofs.Ytamefddgpdhccaa.Ser
open Go.RowKit Go.Sort Go.Proofs.Ytamefddgpdhccaa.Mod Go.Proofs.Ytamefddgpdhccaa.Lin Go.Proofs.Ytamefddgpdhccaa.Chn Go.Proofs.Ytamefddgpdhccaa.Ints
set_option linter.unusedVariables false
set_option linter.unusedSimpArgs false

theorem back_same {r s : Nat → Int} : ∀ n, (∀ i, i < n → r i = s i) → back r n = back s n
  | 0, _ => rfl
  | n + 1, h => by rw [back, back, back_same n (fun i hi => h i (by omega)), h n (by omega)]
theorem smp_same {r s : Nat → Int} (n : Nat) (h : ∀ i, i < n + 1 → r i = s i) : smp r n = smp s n := by
  unfold smp
  rw [back_same n (fun i hi => h i (by omega)), h n (by omega)]

theorem resL_len (xs : List Int) : (resL xs).length = xs.length := by simp [resL]
theorem smpL_len (rs : List Int) : (smpL rs).length = rs.length := by simp [smpL]
theorem ith_res (xs : List Int) (j : Nat) (hj : j < xs.length) : ith (resL xs) j = res (ith xs) j := by simp [ith, resL, List.getD_eq_getElem?_getD, hj]
theorem ith_smp (rs : List Int) (j : Nat) (hj : j < rs.length) : ith (smpL rs) j = smp (ith rs) j := by simp [ith, smpL, List.getD_eq_getElem?_getD, hj]

theorem okP_iff (xs : List Int) : okP xs = true ↔ xs.length ≤ 256 ∧ ∀ i, i < xs.length → passed 131072 (ith xs i) = false := by
  unfold okP
  rw [Bool.and_eq_true, decide_eq_true_eq, Bool.not_eq_true']
  exact ⟨fun h => ⟨h.1, anyOf_false h.2⟩, fun h => ⟨h.1, anyOf_no h.2⟩⟩
theorem okG_iff (rs : List Int) : okG rs = true ↔ rs.length ≤ 256 ∧ (∀ i, i < rs.length → passed 16777216 (ith rs i) = false) ∧ ∀ i, i < rs.length → passed 131072 (smp (ith rs) i) = false := by
  unfold okG
  rw [Bool.and_eq_true, decide_eq_true_eq, Bool.and_eq_true, Bool.not_eq_true', Bool.not_eq_true']
  exact ⟨fun h => ⟨h.1, anyOf_false h.2.1, anyOf_false h.2.2⟩, fun h => ⟨h.1, anyOf_no h.2.1, anyOf_no h.2.2⟩⟩

theorem smp_of_res (xs : List Int) (j : Nat) (hj : j < xs.length) : smp (ith (resL xs)) j = ith xs j := by
  rw [smp_same (s := res (ith xs)) j (fun i hi => ith_res xs i (by omega)), smp_res]
theorem res_of_smp (rs : List Int) (j : Nat) (hj : j < rs.length) : res (ith (smpL rs)) j = ith rs j := by
  rw [res_same (g := smp (ith rs)) j (fun i hi => ith_smp rs i (by omega)), res_smp]

/-- The residuals of samples give these samples. -/
theorem back_put {xs : List Int} (h : okP xs = true) : okG (resL xs) = true ∧ smpL (resL xs) = xs := by
  obtain ⟨h1, h2⟩ := (okP_iff xs).1 h
  refine ⟨(okG_iff _).2 ⟨by rw [resL_len]; exact h1, fun i hi => ?_, fun i hi => ?_⟩, ?_⟩
  · rw [resL_len] at hi
    rw [ith_res xs i hi]
    exact passed_no.2 (res_range i (fun k hk => h2 k (by omega)))
  · rw [resL_len] at hi
    rw [smp_of_res xs i hi]
    exact h2 i hi
  · refine ext_getD _ _ (by rw [smpL_len, resL_len]) fun k hk => ?_
    rw [smpL_len] at hk
    have e := ith_smp (resL xs) k hk
    rw [resL_len] at hk
    rw [smp_of_res xs k hk] at e
    exact e
/-- The samples of residuals give these residuals. -/
theorem back_get {rs : List Int} (h : okG rs = true) : okP (smpL rs) = true ∧ resL (smpL rs) = rs := by
  obtain ⟨h1, _, h2⟩ := (okG_iff rs).1 h
  refine ⟨(okP_iff _).2 ⟨by rw [smpL_len]; exact h1, fun i hi => ?_⟩, ?_⟩
  · rw [smpL_len] at hi
    rw [ith_smp rs i hi]
    exact h2 i hi
  · refine ext_getD _ _ (by rw [resL_len, smpL_len]) fun k hk => ?_
    rw [resL_len] at hk
    have e := ith_res (smpL rs) k hk
    rw [smpL_len] at hk
    rw [res_of_smp rs k hk] at e
    exact e

def putL (xs : List Int) : List Int := if okP xs then resL xs else []
def putE (xs : List Int) : Int := if okP xs then 0 else 1600
def getL (rs : List Int) : List Int := if okG rs then smpL rs else []
def getE (rs : List Int) : Int := if okG rs then 0 else 1600

/-- A row that a call makes, or none beside an error. -/
def Own (w w' : World) (bo : Option Addr) (n c : Nat) (L : List Int) (E : Int) : Prop :=
  n = L.length ∧ n ≤ c ∧ c ≤ maxLen ∧ Slc w' bo L ∧ ((E = 1600 ∧ bo = none ∧ n = 0 ∧ c = 0) ∨ (E = 0 ∧ ∃ g, bo = some ⟨g, 0, none⟩ ∧ w.heap.size ≤ g ∧ g < w'.heap.size ∧ Holds w' g L))
theorem own_none (w w' : World) : Own w w' none 0 0 [] 1600 := ⟨rfl, Nat.le_refl _, Nat.zero_le _, slc_nil _ _, .inl ⟨rfl, rfl, rfl, rfl⟩⟩

theorem put_is (ao : Option Addr) (xs : List Int) (n cap : Nat) (hn : n = xs.length) (hm : n ≤ maxLen) (w : World) (hA : Slc w ao xs) :
    Calls Try.prog 9 #[.slice ao n cap] w fun e w' => ∃ bo k c, e = .returned (.tuple #[.slice bo k c, .int .i64 (putE xs)]) ∧ Own w w' bo k c (putL xs) (putE xs) ∧ Bel w w' := by
  unfold putE putL
  cases h : okP xs
  · exact (put_no ao xs n cap hn hm h w hA).mono fun e w' k => ⟨none, 0, 0, k.1, own_none _ _, k.2⟩
  · refine (put_yes ao xs n cap hn h w hA).mono ?_
    rintro e w' ⟨g, rfl, h1, h2, h3, b⟩
    exact ⟨_, _, _, rfl, ⟨by simp [resL_len, hn], Nat.le_refl _, hm, h3.slc, .inr ⟨rfl, g, rfl, h1, h2, h3⟩⟩, b⟩
theorem get_is (ao : Option Addr) (rs : List Int) (n cap : Nat) (hn : n = rs.length) (hm : n ≤ maxLen) (w : World) (hA : Slc w ao rs) :
    Calls Try.prog 11 #[.slice ao n cap] w fun e w' => ∃ bo k c, e = .returned (.tuple #[.slice bo k c, .int .i64 (getE rs)]) ∧ Own w w' bo k c (getL rs) (getE rs) ∧ Bel w w' := by
  unfold getE getL
  cases h : okG rs
  · exact (get_no ao rs n cap hn hm h w hA).mono fun e w' k => ⟨none, 0, 0, k.1, own_none _ _, k.2⟩
  · refine (get_yes ao rs n cap hn h w hA).mono ?_
    rintro e w' ⟨g, rfl, h1, h2, h3, b⟩
    exact ⟨_, _, _, rfl, ⟨by simp [smpL_len, hn], Nat.le_refl _, hm, h3.slc, .inr ⟨rfl, g, rfl, h1, h2, h3⟩⟩, b⟩

set_option maxHeartbeats 400000 in
theorem rput_long (ao : Option Addr) (n cap : Nat) (hx : 256 < n) (hm : n ≤ maxLen) (w : World) :
    Calls Try.prog 10 #[.slice ao n cap] w fun e w' => e = .returned (.tuple #[.slice none 0 0, .int .i64 1600]) ∧ w' = w := by
  unfold maxLen at hm
  have hd : decide ((256 : Int) < (n : Int)) = true := decide_eq_true (by omega)
  go_enter Try.func10, Try.ntmps10
  go_wp2
  go_ret2
  exact ⟨rfl, rfl⟩
set_option maxHeartbeats 400000 in
theorem rget_long (ao : Option Addr) (n cap : Nat) (hx : 256 < n) (hm : n ≤ maxLen) (w : World) :
    Calls Try.prog 12 #[.slice ao n cap] w fun e w' => e = .returned (.tuple #[.slice none 0 0, .int .i64 1600]) ∧ w' = w := by
  unfold maxLen at hm
  have hd : decide ((256 : Int) < (n : Int)) = true := decide_eq_true (by omega)
  go_enter Try.func12, Try.ntmps12
  go_wp2
  go_ret2
  exact ⟨rfl, rfl⟩

theorem rput_is (ao : Option Addr) (xs : List Int) (n cap : Nat) (hn : n = xs.length) (hm : n ≤ maxLen) (w : World) (hA : Slc w ao xs) :
    Calls Try.prog 10 #[.slice ao n cap] w fun e w' => ∃ bo k c, e = .returned (.tuple #[.slice bo k c, .int .i64 (putE xs)]) ∧ (k = (putL xs).length ∧ k ≤ c ∧ c ≤ maxLen ∧ Slc w' bo (putL xs)) ∧ Bel w w' := by
  by_cases h : n ≤ 256
  · refine (rput_walk ao (ith xs) xs n cap hn (fun _ _ => rfl) h w hA).mono ?_
    rintro e w' ⟨h1, h2, b⟩
    unfold putE putL
    cases ho : okP xs
    · have : ∃ i, i < n ∧ passed 131072 (ith xs i) = true := Classical.byContradiction fun q => by
        rw [(okP_iff xs).2 ⟨by omega, fun i hi => by cases hq : passed 131072 (ith xs i); rfl; exact absurd ⟨i, by omega, hq⟩ q⟩] at ho
        cases ho
      exact ⟨none, 0, 0, h1 this, ⟨rfl, Nat.le_refl _, Nat.zero_le _, slc_nil _ _⟩, b⟩
    · obtain ⟨bo, c, he, q1, q2, q3⟩ := h2 (fun ⟨i, hi, hq⟩ => by rw [((okP_iff xs).1 ho).2 i (by omega)] at hq; cases hq)
      have e : resL xs = (List.range n).map (res (ith xs)) := by rw [hn]; rfl
      rw [← e] at q3
      exact ⟨bo, n, c, he, ⟨by simp [resL_len, hn], q1, q2, q3⟩, b⟩
  · refine (rput_long ao n cap (by omega) hm w).mono ?_
    rintro e w' ⟨he, hw⟩
    have ho : okP xs = false := by
      cases ho : okP xs
      · rfl
      · have := ((okP_iff xs).1 ho).1; omega
    unfold putE putL
    rw [ho]
    exact ⟨none, 0, 0, he, ⟨rfl, Nat.le_refl _, Nat.zero_le _, slc_nil _ _⟩, hw ▸ Bel.refl _⟩

theorem rget_is (ao : Option Addr) (rs : List Int) (n cap : Nat) (hn : n = rs.length) (hm : n ≤ maxLen) (w : World) (hA : Slc w ao rs) :
    Calls Try.prog 12 #[.slice ao n cap] w fun e w' => ∃ bo k c, e = .returned (.tuple #[.slice bo k c, .int .i64 (getE rs)]) ∧ (k = (getL rs).length ∧ k ≤ c ∧ c ≤ maxLen ∧ Slc w' bo (getL rs)) ∧ Bel w w' := by
  by_cases h : n ≤ 256
  · refine (rget_walk ao (smp (ith rs)) rs n cap hn (fun i _ => (res_smp (ith rs) i).symm) h w hA).mono ?_
    rintro e w' ⟨h1, h2, b⟩
    simp only [res_smp] at h1 h2
    unfold getE getL
    cases ho : okG rs
    · have : ∃ i, i < n ∧ (passed 16777216 (ith rs i) = true ∨ passed 131072 (smp (ith rs) i) = true) := Classical.byContradiction fun q => by
        rw [(okG_iff rs).2 ⟨by omega, fun i hi => by cases hq : passed 16777216 (ith rs i); rfl; exact absurd ⟨i, by omega, .inl hq⟩ q, fun i hi => by cases hq : passed 131072 (smp (ith rs) i); rfl; exact absurd ⟨i, by omega, .inr hq⟩ q⟩] at ho
        cases ho
      exact ⟨none, 0, 0, h1 this, ⟨rfl, Nat.le_refl _, Nat.zero_le _, slc_nil _ _⟩, b⟩
    · obtain ⟨bo, c, he, q1, q2, q3⟩ := h2 (fun ⟨i, hi, hq⟩ => by rw [((okG_iff rs).1 ho).2.1 i (by omega), ((okG_iff rs).1 ho).2.2 i (by omega)] at hq; rcases hq with hq | hq <;> cases hq)
      have e : smpL rs = (List.range n).map (smp (ith rs)) := by rw [hn]; rfl
      rw [← e] at q3
      exact ⟨bo, n, c, he, ⟨by simp [smpL_len, hn], q1, q2, q3⟩, b⟩
  · refine (rget_long ao n cap (by omega) hm w).mono ?_
    rintro e w' ⟨he, hw⟩
    have ho : okG rs = false := by
      cases ho : okG rs
      · rfl
      · have := ((okG_iff rs).1 ho).1; omega
    unfold getE getL
    rw [ho]
    exact ⟨none, 0, 0, he, ⟨rfl, Nat.le_refl _, Nat.zero_le _, slc_nil _ _⟩, hw ▸ Bel.refl _⟩

end Go.Proofs.Ytamefddgpdhccaa.Ser
