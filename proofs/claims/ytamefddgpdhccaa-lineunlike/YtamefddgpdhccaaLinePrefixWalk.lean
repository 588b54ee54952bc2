/-
  LinePrefix answers true for every row of ints and every int: a beginning's residuals are the beginning of the residuals. Conditions: the row is there, within the reach.
-/
import Derived.Test.YtamefddgpdhccaaJAwake
import Derived.Test.YtamefddgpdhccaaGPlace
namespace Go.Proofs.Ytamefddgpdhccaa.Ser
open Go.RowKit Go.Sort Go.Proofs.Ytamefddgpdhccaa.Mod Go.Proofs.Ytamefddgpdhccaa.Lin Go.Proofs.Ytamefddgpdhccaa.Chn Go.Proofs.Ytamefddgpdhccaa.Ints
set_option linter.unusedVariables false
set_option linter.unusedSimpArgs false

theorem ith_take (xs : List Int) (K j : Nat) (h : j < K) : ith (xs.take K) j = ith xs j := by
  simp [ith, List.getD_eq_getElem?_getD, h]

theorem take_put {xs : List Int} (K : Nat) (hK : K ≤ xs.length) (h : okP xs = true) : okP (xs.take K) = true ∧ resL (xs.take K) = (resL xs).take K := by
  obtain ⟨h1, h2⟩ := (okP_iff xs).1 h
  have hl : (xs.take K).length = K := by simp; omega
  refine ⟨(okP_iff _).2 ⟨by omega, fun i hi => ?_⟩, ?_⟩
  · rw [ith_take xs K i (by omega)]; exact h2 i (by omega)
  · refine ext_getD _ _ (by rw [resL_len, hl]; simp [resL_len]; omega) fun k hk => ?_
    rw [resL_len, hl] at hk
    have e1 := ith_res (xs.take K) k (by omega)
    have e2 := ith_res xs k (by omega)
    have e3 := ith_take (resL xs) K k hk
    unfold ith at e1 e2 e3
    rw [e1, e3, e2]
    exact res_same k (fun i hi => ith_take xs K i (by omega))

set_option maxRecDepth 20000 in
set_option maxHeartbeats 1000000 in
theorem prefix_no (ao : Option Addr) (xs : List Int) (n cap : Nat) (hn : n = xs.length) (hc : n ≤ cap) (h8 : cap * 8 ≤ 140737488351232) (ho : okP xs = false) (x : Int) (w : World) (hA : Slc w ao xs) :
    Calls Try.prog 5 #[.slice ao n cap, .int .i64 x] w fun e w' => e = .returned (.bool true) ∧ Bel w w' := by
  obtain ⟨K, hK, hk⟩ := place_of x ((n : Int) + 1) (by omega) (by omega)
  have kn : K ≤ n := by omega
  have kc : (K : Int) ≤ (cap : Int) := by omega
  have AW : Hid (∀ w, Calls Try.prog 17 #[] w fun e w' => e = .returned (.bool true) ∧ Bel w w') := awake_true
  have P0 : Hid (∀ w', Bel w w' → Calls Try.prog 9 #[.slice ao n cap] w' fun e w'' => e = .returned (.tuple #[.slice none 0 0, .int .i64 1600]) ∧ Bel w' w'') := fun w' b => put_no ao xs n cap hn (by unfold maxLen; omega) ho w' (hA.bel b)
  have P1 : Hid (∀ w', Bel w w' → Calls Try.prog 9 #[.slice ao K cap] w' fun e w'' => ∃ bo k c, e = .returned (.tuple #[.slice bo k c, .int .i64 (putE (xs.take K))]) ∧ Own w' w'' bo k c (putL (xs.take K)) (putE (xs.take K)) ∧ Bel w' w'') := fun w' b => put_is ao (xs.take K) K cap (by simp; omega) (by unfold maxLen; omega) w' ((hA.take K).bel b)
  clear hn ho hA hK
  generalize putE (xs.take K) = pe at *
  generalize putL (xs.take K) = pl at *
  go_enter Try.func5, Try.ntmps5
  go_wp2_with fail
  refine (AW.out _).mono ?_
  rintro e w1 ⟨rfl, b1⟩
  have B1 : Hid (Bel w w1) := b1
  clear b1
  go_wp2_with fail
  refine (P0.out _ B1.out).mono ?_
  rintro e w2 ⟨rfl, b2⟩
  have B2 : Hid (Bel w w2) := B1.out.trans b2
  clear b2
  go_wp2_with fail
  refine (P1.out _ B2.out).mono ?_
  rintro e w3 ⟨bo, k, c, rfl, _, b3⟩
  have B3 : Hid (Bel w w3) := B2.out.trans b3
  clear b3
  go_wp2_with (go_at_call 14; refine (Lin.num_ok _ _).mono ?_; rintro e w5 ⟨rfl, hw⟩; replace hw := hw.symm; subst hw)
  go_ret
  exact ⟨rfl, B3.out⟩

set_option maxRecDepth 20000 in
set_option maxHeartbeats 1000000 in
theorem prefix_yes (ao : Option Addr) (xs : List Int) (n cap : Nat) (hn : n = xs.length) (hc : n ≤ cap) (h8 : cap * 8 ≤ 140737488351232) (ho : okP xs = true) (x : Int) (w : World) (hA : Slc w ao xs) :
    Calls Try.prog 5 #[.slice ao n cap, .int .i64 x] w fun e w' => e = .returned (.bool true) ∧ Bel w w' := by
  obtain ⟨K, hK, hk⟩ := place_of x ((n : Int) + 1) (by omega) (by omega)
  have kn : K ≤ n := by omega
  have kc : (K : Int) ≤ (cap : Int) := by omega
  have ki : (K : Int) ≤ (n : Int) := by omega
  obtain ⟨t1, t2⟩ := take_put K (hn ▸ kn) ho
  have AW : Hid (∀ w, Calls Try.prog 17 #[] w fun e w' => e = .returned (.bool true) ∧ Bel w w') := awake_true
  have P0 : Hid (∀ w', Bel w w' → Calls Try.prog 9 #[.slice ao n cap] w' fun e w'' => ∃ g, e = .returned (.tuple #[.slice (some ⟨g, 0, none⟩) n n, .int .i64 0]) ∧ w'.heap.size ≤ g ∧ g < w''.heap.size ∧ Holds w'' g (resL xs) ∧ Bel w' w'') := fun w' b => put_yes ao xs n cap hn ho w' (hA.bel b)
  have P1 : Hid (∀ w', Bel w w' → Calls Try.prog 9 #[.slice ao K cap] w' fun e w'' => ∃ g, e = .returned (.tuple #[.slice (some ⟨g, 0, none⟩) K K, .int .i64 0]) ∧ w'.heap.size ≤ g ∧ g < w''.heap.size ∧ Holds w'' g ((resL xs).take K) ∧ Bel w' w'') := fun w' b => t2 ▸ put_yes ao (xs.take K) K cap (by simp; omega) t1 w' ((hA.take K).bel b)
  have HN : Hid (n = (resL xs).length) := (by rw [resL_len]; exact hn : n = (resL xs).length)
  clear hn ho hA hK t1 t2
  generalize resL xs = R at *
  go_enter Try.func5, Try.ntmps5
  go_wp2_with fail
  refine (AW.out _).mono ?_
  rintro e w1 ⟨rfl, b1⟩
  have B1 : Hid (Bel w w1) := b1
  clear b1
  go_wp2_with fail
  refine (P0.out _ B1.out).mono ?_
  rintro e w2 ⟨g, rfl, _, _, h2, b2⟩
  have B2 : Hid (Bel w w2) := B1.out.trans b2
  have H2 : Hid (Holds w2 g R) := h2
  clear b2 h2
  go_wp2_with fail
  refine (P1.out _ B2.out).mono ?_
  rintro e w3 ⟨g2, rfl, _, _, h3, b3⟩
  have B3 : Hid (Bel w w3) := B2.out.trans b3
  have H3 : Hid (Holds w3 g2 (R.take K) ∧ Holds w3 g R) := ⟨h3, H2.out.bel b3⟩
  clear b3 h3 H2
  go_wp2_with (go_at_call 14; refine (Lin.num_ok _ _).mono ?_; rintro e w5 ⟨rfl, hw⟩; replace hw := hw.symm; subst hw)
  refine (same_ok (some ⟨g2, 0, none⟩) (some ⟨g, 0, none⟩) (R.take K) (R.take K) K K K n (by simp; have := HN.out; omega) (by simp; have := HN.out; omega) (by unfold maxLen; omega) (by unfold maxLen; omega) _ H3.out.1.slc (H3.out.2.slc.take K)).mono ?_
  rintro e w5 ⟨rfl, q, hw⟩
  have B5 : Hid (Bel w w5) := by
    rw [hw]
    exact B3.out.drewN q
  clear hw
  go_wp2
  go_ret
  exact ⟨congrArg (fun v => Ending.returned (.bool v)) (by simp), B5.out⟩

theorem prefix_walk (ao : Option Addr) (xs : List Int) (n cap : Nat) (hn : n = xs.length) (hc : n ≤ cap) (h8 : cap * 8 ≤ 140737488351232) (x : Int) (w : World) (hA : Slc w ao xs) :
    Calls Try.prog 5 #[.slice ao n cap, .int .i64 x] w fun e w' => e = .returned (.bool true) ∧ Bel w w' := by
  cases ho : okP xs
  · exact prefix_no ao xs n cap hn hc h8 ho x w hA
  · exact prefix_yes ao xs n cap hn hc h8 ho x w hA

end Go.Proofs.Ytamefddgpdhccaa.Ser
