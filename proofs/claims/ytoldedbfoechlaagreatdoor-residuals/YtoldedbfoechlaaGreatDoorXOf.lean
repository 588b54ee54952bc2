/-
  The contract of context.Of, of any int and any row of ints, as P12.1 has it. Condition: the row is there.
-/
import Derived.Test.YtoldedbfoechlaaGreatDoorXSmall
import Derived.Test.YtoldedbfoechlaaGreatDoorXArr
namespace Go.Proofs.YtoldedbfoechlaaGreatDoor.Ctx
open Go.RowKit Go.Proofs.YtoldedbfoechlaaGreatDoor.Mod Go.Proofs.YtoldedbfoechlaaGreatDoor.Ints Go.Proofs.YtoldedbfoechlaaGreatDoor.Num Go.Proofs.YtoldedbfoechlaaGreatDoor.Gam
set_option linter.unusedVariables false

theorem last_is {L : List Int} (h0 : 0 < L.length) : last1 L = (L.getD (L.length - 1) 0 == 1) := by
  unfold last1
  by_cases q : L.getD (L.length - 1) 0 = 1
  · rw [decide_eq_true ⟨h0, q⟩, q]; rfl
  · rw [decide_eq_false fun h => q h.2]
    exact (by simpa using q : (L.getD (L.length - 1) 0 == 1) = false).symm

set_option maxRecDepth 20000 in
set_option maxHeartbeats 1000000 in
theorem of_nil (ao : Option Addr) (n cap : Nat) (b y0 y1 y2 f t : Int) (n63 : n ≤ 63) (b0 : 0 ≤ b) (b63 : b ≤ 63) (hy0 : 0 ≤ y0) (hy0' : y0 ≤ 31) (hy1 : 0 ≤ y1) (hy1' : y1 ≤ 31) (hy2 : 0 ≤ y2) (hy2' : y2 ≤ 31) (hf : 0 ≤ f) (hf' : f ≤ 1) (ht : 0 ≤ t) (ht' : t ≤ 1) (hn : n = 0) (w : World)
    (k1 : ∀ w', Bel w w' → Calls Tryz.prog 16 #[.slice ao n cap, .func (.func 72) #[] #[]] w' fun e w'' => e = .returned (.bool false) ∧ w'' = w')
    (k2 : ∀ w', Bel w w' → Calls Tryz.prog 71 #[.slice ao n cap, .int .i64 0] w' fun e w'' => e = .returned (.int .i64 (-1)) ∧ w'' = w')
    (k3 : ∀ w, Calls Tryz.prog 73 #[.int .i64 ((n : Nat) : Int)] w fun e w' => e = .returned (.int .i64 y0) ∧ w' = w)
    (k4 : ∀ w, Calls Tryz.prog 73 #[.int .i64 b] w fun e w' => e = .returned (.int .i64 y1) ∧ w' = w)
    (k5 : ∀ w, Calls Tryz.prog 73 #[.int .i64 ((n : Nat) : Int)] w fun e w' => e = .returned (.int .i64 y2) ∧ w' = w)
    (k6 : ∀ w, Calls Tryz.prog 74 #[.bool false] w fun e w' => e = .returned (.int .i64 f) ∧ w' = w)
    (k7 : ∀ w, Calls Tryz.prog 74 #[.bool false] w fun e w' => e = .returned (.int .i64 t) ∧ w' = w) :
    Calls Tryz.prog 46 #[.int .i64 b, .slice ao n cap] w fun e w' => e = .returned (.tuple #[.agg #[.int .i64 (y0 + 32 * f), .int .i64 (2 * y1 + f), .int .i64 (y2 + 32 * t)], .int .i64 0]) ∧ Bel w w' := by
  subst hn
  have K1 : Hid (∀ w', Bel w w' → Calls Tryz.prog 16 _ w' _) := k1
  have K2 : Hid (∀ w', Bel w w' → Calls Tryz.prog 71 _ w' _) := k2
  have K3 : Hid (∀ w, Calls Tryz.prog 73 _ w _) := k3
  have K4 : Hid (∀ w, Calls Tryz.prog 73 _ w _) := k4
  have K5 : Hid (∀ w, Calls Tryz.prog 73 _ w _) := k5
  have K6 : Hid (∀ w, Calls Tryz.prog 74 _ w _) := k6
  have K7 : Hid (∀ w, Calls Tryz.prog 74 _ w _) := k7
  clear k1 k2 k3 k4 k5 k6 k7
  go_enter Tryz.func46, Tryz.ntmps46
  go_wp2_with fail
  refine (K1.out _ ((Bel.refl w).alloc _)).mono ?_
  rintro e w1 ⟨rfl, h2⟩
  replace h2 := h2.symm
  subst h2
  go_wp2_with fail
  refine (K2.out _ ((Bel.refl w).alloc _)).mono ?_
  rintro e w1 ⟨rfl, h2⟩
  replace h2 := h2.symm
  subst h2
  go_wp2_with fail
  refine (K3.out _).mono ?_
  rintro e w1 ⟨rfl, h2⟩
  replace h2 := h2.symm
  subst h2
  go_wp2_with fail
  refine (K6.out _).mono ?_
  rintro e w1 ⟨rfl, h2⟩
  replace h2 := h2.symm
  subst h2
  go_wp2_with fail
  refine (K4.out _).mono ?_
  rintro e w1 ⟨rfl, h2⟩
  replace h2 := h2.symm
  subst h2
  go_wp2_with fail
  refine (K6.out _).mono ?_
  rintro e w1 ⟨rfl, h2⟩
  replace h2 := h2.symm
  subst h2
  go_wp2_with fail
  refine (K5.out _).mono ?_
  rintro e w1 ⟨rfl, h2⟩
  replace h2 := h2.symm
  subst h2
  go_wp2_with fail
  refine (K7.out _).mono ?_
  rintro e w1 ⟨rfl, h2⟩
  replace h2 := h2.symm
  subst h2
  go_wp2
  refine bodyPost_ret (results_arr2 Tryz.results46 rfl rfl (by simp) (by simp) (by simp)) rfl ⟨rfl, ?_⟩
  exact (Bel.refl w).alloc _

set_option maxRecDepth 20000 in
set_option maxHeartbeats 1000000 in
theorem of_has (ao : Option Addr) (n cap : Nat) (b y0 y1 y2 f t : Int) (n63 : n ≤ 63) (b0 : 0 ≤ b) (b63 : b ≤ 63) (hy0 : 0 ≤ y0) (hy0' : y0 ≤ 31) (hy1 : 0 ≤ y1) (hy1' : y1 ≤ 31) (hy2 : 0 ≤ y2) (hy2' : y2 ≤ 31) (hf : 0 ≤ f) (hf' : f ≤ 1) (ht : 0 ≤ t) (ht' : t ≤ 1) (k : Nat) (hk : k < n) (x : Addr) (hx : ao = some x) (hn : 0 < n) (p : Int) (w : World) (hc : ∀ w', Bel w w' → w'.cell? (x.add (n - 1)) = some (.int .i64 p))
    (k1 : ∀ w', Bel w w' → Calls Tryz.prog 16 #[.slice ao n cap, .func (.func 72) #[] #[]] w' fun e w'' => e = .returned (.bool false) ∧ w'' = w')
    (k2 : ∀ w', Bel w w' → Calls Tryz.prog 71 #[.slice ao n cap, .int .i64 0] w' fun e w'' => e = .returned (.int .i64 ((k : Nat) : Int)) ∧ w'' = w')
    (k3 : ∀ w, Calls Tryz.prog 73 #[.int .i64 ((k : Nat) : Int)] w fun e w' => e = .returned (.int .i64 y0) ∧ w' = w)
    (k4 : ∀ w, Calls Tryz.prog 73 #[.int .i64 b] w fun e w' => e = .returned (.int .i64 y1) ∧ w' = w)
    (k5 : ∀ w, Calls Tryz.prog 73 #[.int .i64 ((n : Nat) : Int)] w fun e w' => e = .returned (.int .i64 y2) ∧ w' = w)
    (k6 : ∀ w, Calls Tryz.prog 74 #[.bool true] w fun e w' => e = .returned (.int .i64 f) ∧ w' = w)
    (k7 : ∀ w, Calls Tryz.prog 74 #[.bool (p == 1)] w fun e w' => e = .returned (.int .i64 t) ∧ w' = w) :
    Calls Tryz.prog 46 #[.int .i64 b, .slice ao n cap] w fun e w' => e = .returned (.tuple #[.agg #[.int .i64 (y0 + 32 * f), .int .i64 (2 * y1 + f), .int .i64 (y2 + 32 * t)], .int .i64 0]) ∧ Bel w w' := by
  subst hx
  have hcc := hc _ ((Bel.refl w).alloc (.cells #[.int .i64 0, .int .i64 0, .int .i64 0] 44))
  clear hc
  have K1 : Hid (∀ w', Bel w w' → Calls Tryz.prog 16 _ w' _) := k1
  have K2 : Hid (∀ w', Bel w w' → Calls Tryz.prog 71 _ w' _) := k2
  have K3 : Hid (∀ w, Calls Tryz.prog 73 _ w _) := k3
  have K4 : Hid (∀ w, Calls Tryz.prog 73 _ w _) := k4
  have K5 : Hid (∀ w, Calls Tryz.prog 73 _ w _) := k5
  have K6 : Hid (∀ w, Calls Tryz.prog 74 _ w _) := k6
  have K7 : Hid (∀ w, Calls Tryz.prog 74 _ w _) := k7
  clear k1 k2 k3 k4 k5 k6 k7
  go_enter Tryz.func46, Tryz.ntmps46
  go_wp2_with fail
  refine (K1.out _ ((Bel.refl w).alloc _)).mono ?_
  rintro e w1 ⟨rfl, h2⟩
  replace h2 := h2.symm
  subst h2
  go_wp2_with fail
  refine (K2.out _ ((Bel.refl w).alloc _)).mono ?_
  rintro e w1 ⟨rfl, h2⟩
  replace h2 := h2.symm
  subst h2
  go_wp2_with fail
  refine (K3.out _).mono ?_
  rintro e w1 ⟨rfl, h2⟩
  replace h2 := h2.symm
  subst h2
  go_wp2_with fail
  refine (K6.out _).mono ?_
  rintro e w1 ⟨rfl, h2⟩
  replace h2 := h2.symm
  subst h2
  go_wp2_with fail
  refine (K4.out _).mono ?_
  rintro e w1 ⟨rfl, h2⟩
  replace h2 := h2.symm
  subst h2
  go_wp2_with fail
  refine (K6.out _).mono ?_
  rintro e w1 ⟨rfl, h2⟩
  replace h2 := h2.symm
  subst h2
  go_wp2_with fail
  refine (K5.out _).mono ?_
  rintro e w1 ⟨rfl, h2⟩
  replace h2 := h2.symm
  subst h2
  go_wp2_with fail
  refine (K7.out _).mono ?_
  rintro e w1 ⟨rfl, h2⟩
  replace h2 := h2.symm
  subst h2
  go_wp2
  refine bodyPost_ret (results_arr2 Tryz.results46 rfl rfl (by simp) (by simp) (by simp)) rfl ⟨rfl, ?_⟩
  exact (Bel.refl w).alloc _

set_option maxRecDepth 20000 in
set_option maxHeartbeats 1000000 in
theorem of_none (ao : Option Addr) (n cap : Nat) (b y0 y1 y2 f t : Int) (n63 : n ≤ 63) (b0 : 0 ≤ b) (b63 : b ≤ 63) (hy0 : 0 ≤ y0) (hy0' : y0 ≤ 31) (hy1 : 0 ≤ y1) (hy1' : y1 ≤ 31) (hy2 : 0 ≤ y2) (hy2' : y2 ≤ 31) (hf : 0 ≤ f) (hf' : f ≤ 1) (ht : 0 ≤ t) (ht' : t ≤ 1) (x : Addr) (hx : ao = some x) (hn : 0 < n) (p : Int) (w : World) (hc : ∀ w', Bel w w' → w'.cell? (x.add (n - 1)) = some (.int .i64 p))
    (k1 : ∀ w', Bel w w' → Calls Tryz.prog 16 #[.slice ao n cap, .func (.func 72) #[] #[]] w' fun e w'' => e = .returned (.bool false) ∧ w'' = w')
    (k2 : ∀ w', Bel w w' → Calls Tryz.prog 71 #[.slice ao n cap, .int .i64 0] w' fun e w'' => e = .returned (.int .i64 (-1)) ∧ w'' = w')
    (k3 : ∀ w, Calls Tryz.prog 73 #[.int .i64 ((n : Nat) : Int)] w fun e w' => e = .returned (.int .i64 y0) ∧ w' = w)
    (k4 : ∀ w, Calls Tryz.prog 73 #[.int .i64 b] w fun e w' => e = .returned (.int .i64 y1) ∧ w' = w)
    (k5 : ∀ w, Calls Tryz.prog 73 #[.int .i64 ((n : Nat) : Int)] w fun e w' => e = .returned (.int .i64 y2) ∧ w' = w)
    (k6 : ∀ w, Calls Tryz.prog 74 #[.bool false] w fun e w' => e = .returned (.int .i64 f) ∧ w' = w)
    (k7 : ∀ w, Calls Tryz.prog 74 #[.bool (p == 1)] w fun e w' => e = .returned (.int .i64 t) ∧ w' = w) :
    Calls Tryz.prog 46 #[.int .i64 b, .slice ao n cap] w fun e w' => e = .returned (.tuple #[.agg #[.int .i64 (y0 + 32 * f), .int .i64 (2 * y1 + f), .int .i64 (y2 + 32 * t)], .int .i64 0]) ∧ Bel w w' := by
  subst hx
  have hcc := hc _ ((Bel.refl w).alloc (.cells #[.int .i64 0, .int .i64 0, .int .i64 0] 44))
  clear hc
  have K1 : Hid (∀ w', Bel w w' → Calls Tryz.prog 16 _ w' _) := k1
  have K2 : Hid (∀ w', Bel w w' → Calls Tryz.prog 71 _ w' _) := k2
  have K3 : Hid (∀ w, Calls Tryz.prog 73 _ w _) := k3
  have K4 : Hid (∀ w, Calls Tryz.prog 73 _ w _) := k4
  have K5 : Hid (∀ w, Calls Tryz.prog 73 _ w _) := k5
  have K6 : Hid (∀ w, Calls Tryz.prog 74 _ w _) := k6
  have K7 : Hid (∀ w, Calls Tryz.prog 74 _ w _) := k7
  clear k1 k2 k3 k4 k5 k6 k7
  go_enter Tryz.func46, Tryz.ntmps46
  go_wp2_with fail
  refine (K1.out _ ((Bel.refl w).alloc _)).mono ?_
  rintro e w1 ⟨rfl, h2⟩
  replace h2 := h2.symm
  subst h2
  go_wp2_with fail
  refine (K2.out _ ((Bel.refl w).alloc _)).mono ?_
  rintro e w1 ⟨rfl, h2⟩
  replace h2 := h2.symm
  subst h2
  go_wp2_with fail
  refine (K3.out _).mono ?_
  rintro e w1 ⟨rfl, h2⟩
  replace h2 := h2.symm
  subst h2
  go_wp2_with fail
  refine (K6.out _).mono ?_
  rintro e w1 ⟨rfl, h2⟩
  replace h2 := h2.symm
  subst h2
  go_wp2_with fail
  refine (K4.out _).mono ?_
  rintro e w1 ⟨rfl, h2⟩
  replace h2 := h2.symm
  subst h2
  go_wp2_with fail
  refine (K6.out _).mono ?_
  rintro e w1 ⟨rfl, h2⟩
  replace h2 := h2.symm
  subst h2
  go_wp2_with fail
  refine (K5.out _).mono ?_
  rintro e w1 ⟨rfl, h2⟩
  replace h2 := h2.symm
  subst h2
  go_wp2_with fail
  refine (K7.out _).mono ?_
  rintro e w1 ⟨rfl, h2⟩
  replace h2 := h2.symm
  subst h2
  go_wp2
  refine bodyPost_ret (results_arr2 Tryz.results46 rfl rfl (by simp) (by simp) (by simp)) rfl ⟨rfl, ?_⟩
  exact (Bel.refl w).alloc _

/-- Of what may be asked. -/
theorem of_yes (b : Int) (ao : Option Addr) (L : List Int) (n cap : Nat) (hn : n = L.length) (hm : May b L) (w : World) (hA : Slc w ao L) :
    Calls Tryz.prog 46 #[.int .i64 b, .slice ao n cap] w fun e w' => e = .returned (.tuple #[ctxV b L, .int .i64 0]) ∧ Bel w w' := by
  obtain ⟨b0, b63, l63, hb⟩ := hm
  have n63 : n ≤ 63 := by omega
  have k1 := fun w' (q : Bel w w') => contains_ok ao L n cap hn n63 false ⟨fun h => absurd h (by decide), fun h => absurd hb h⟩ w' (hA.bel q)
  have k2 := fun w' (q : Bel w w') => index_ok ao L n cap hn n63 hb _ rfl w' (hA.bel q)
  have r0 := upto31_range (ones L) (by omega)
  have r1 := upto31_range b b0
  have r2 := upto31_range L.length (by omega)
  have rf := oneB_range (has0 L)
  have rt := oneB_range (last1 L)
  rcases Nat.eq_zero_or_pos n with h0 | h0
  · obtain rfl : L = [] := List.eq_nil_of_length_eq_zero (hn.symm.trans h0)
    exact of_nil ao n cap b _ _ _ _ _ n63 b0 b63 r0.1 r0.2 r1.1 r1.2 r2.1 r2.2 rf.1 rf.2 rt.1 rt.2 h0 w k1 k2 (by rw [h0]; exact counted_ok _) (counted_ok b) (by rw [h0]; exact counted_ok _) (oneIf_ok false) (oneIf_ok false)
  · obtain ⟨x, hx, _⟩ := hA (n - 1) (by omega)
    have hc : ∀ w', Bel w w' → w'.cell? (x.add (n - 1)) = some (.int .i64 (L.getD (n - 1) 0)) := fun w' q => by
      obtain ⟨y, hy, h⟩ := hA (n - 1) (by omega)
      rw [hx] at hy
      injection hy with hy
      subst hy
      exact q.keep h
    have kl : ∀ w, Calls Tryz.prog 74 #[.bool (L.getD (n - 1) 0 == 1)] w fun e w' => e = .returned (.int .i64 (oneB (last1 L))) ∧ w' = w := by
      rw [last_is (by omega), hn]
      exact oneIf_ok _
    by_cases hz : ones L < L.length
    · have e : has0 L = true := decide_eq_true hz
      rw [e, if_pos rfl] at k2
      exact of_has ao n cap b _ _ _ _ _ n63 b0 b63 r0.1 r0.2 r1.1 r1.2 r2.1 r2.2 rf.1 rf.2 rt.1 rt.2 (ones L) (by omega) x hx h0 _ w hc k1 k2 (counted_ok _) (counted_ok b) (by rw [hn]; exact counted_ok _) (by rw [e]; exact oneIf_ok true) kl
    · have e : has0 L = false := decide_eq_false hz
      have e2 : ones L = n := by have := ones_le L; omega
      rw [e, if_neg (by decide)] at k2
      exact of_none ao n cap b _ _ _ _ _ n63 b0 b63 r0.1 r0.2 r1.1 r1.2 r2.1 r2.2 rf.1 rf.2 rt.1 rt.2 x hx h0 _ w hc k1 k2 (by rw [e2]; exact counted_ok _) (counted_ok b) (by rw [hn]; exact counted_ok _) (by rw [e]; exact oneIf_ok false) kl

set_option maxRecDepth 20000 in
set_option maxHeartbeats 1000000 in
/-- Of what may not be asked. -/
theorem of_no (b : Int) (ao : Option Addr) (L : List Int) (n cap : Nat) (hn : n = L.length) (hx : n ≤ maxLen) (hm : ¬ May b L) (w : World) (hA : Slc w ao L) :
    Calls Tryz.prog 46 #[.int .i64 b, .slice ao n cap] w fun e w' => e = .returned (.tuple #[.agg #[.int .i64 0, .int .i64 0, .int .i64 0], .int .i64 1200]) ∧ Bel w w' := by
  unfold maxLen at hx
  by_cases h1 : b < 0
  · clear hm hA hn
    have hb : decide (b < 0) = true := decide_eq_true h1
    go_enter Tryz.func46, Tryz.ntmps46
    go_wp2
    refine bodyPost_ret (results_arr2 Tryz.results46 rfl rfl (by simp) (by simp) (by simp)) rfl ⟨rfl, ?_⟩
    exact (Bel.refl w).alloc _
  have hb1 : decide (b < 0) = false := decide_eq_false h1
  by_cases h2 : 63 < b
  · clear hm hA hn
    have hb : decide (63 < b) = true := decide_eq_true h2
    go_enter Tryz.func46, Tryz.ntmps46
    go_wp2
    refine bodyPost_ret (results_arr2 Tryz.results46 rfl rfl (by simp) (by simp) (by simp)) rfl ⟨rfl, ?_⟩
    exact (Bel.refl w).alloc _
  have hb2 : decide (63 < b) = false := decide_eq_false h2
  by_cases h3 : 63 < n
  · clear hm hA hn
    have hb : decide (63 < (n : Int)) = true := decide_eq_true (by omega)
    go_enter Tryz.func46, Tryz.ntmps46
    go_wp2
    refine bodyPost_ret (results_arr2 Tryz.results46 rfl rfl (by simp) (by simp) (by simp)) rfl ⟨rfl, ?_⟩
    exact (Bel.refl w).alloc _
  have hb3 : decide (63 < (n : Int)) = false := decide_eq_false (by omega)
  have K1 : Hid (∀ w', Bel w w' → Calls Tryz.prog 16 _ w' _) := fun w' (q : Bel w w') => contains_ok ao L n cap hn (by omega) true ⟨fun _ h => hm ⟨by omega, by omega, by omega, h⟩, fun _ => rfl⟩ w' (hA.bel q)
  clear hm hA hn
  go_enter Tryz.func46, Tryz.ntmps46
  go_wp2_with fail
  refine (K1.out _ ((Bel.refl w).alloc _)).mono ?_
  rintro e w1 ⟨rfl, h2⟩
  replace h2 := h2.symm
  subst h2
  go_wp2
  refine bodyPost_ret (results_arr2 Tryz.results46 rfl rfl (by simp) (by simp) (by simp)) rfl ⟨rfl, ?_⟩
  exact (Bel.refl w).alloc _

end Go.Proofs.YtoldedbfoechlaaGreatDoor.Ctx
