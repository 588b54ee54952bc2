/-
  LmsSteps answers true for every line and every int. No condition.
-/
import Derived.Test.YtjckeagbimfonaaLAwake
namespace Go.Proofs.Ytjckeagbimfonaa.Lin
open Go.RowKit Go.Sort Go.Proofs.Ytjckeagbimfonaa.Mod
set_option linter.unusedVariables false
set_option linter.unusedSimpArgs false

theorem hold_near (v s : Int) (hv : -1048576 ≤ v ∧ v ≤ 1048576) (hs : -16 ≤ s ∧ s ≤ 16) : -16 ≤ hold 1048576 (v + s) - v ∧ hold 1048576 (v + s) - v ≤ 16 := by
  unfold hold
  split
  · omega
  · split <;> omega
theorem hold_id (v : Int) (hv : -1048576 ≤ v ∧ v ≤ 1048576) : hold 1048576 v = v := by
  unfold hold
  split
  · omega
  · split <;> omega

theorem stp_near {L : List Int} (hm : mayL L = true) (off : Int) (k : Nat) (hk : k < 8) :
    (-16 ≤ stp L off k - L.getD k 0 ∧ stp L off k - L.getD k 0 ≤ 16) ∧ (L.getD (8 + k) 0 = 0 → stp L off k = L.getD k 0) := by
  have hw := ((may_iff L).1 hm).1 k hk
  refine ⟨hold_near _ _ hw (sgns_range _ _), fun h => ?_⟩
  unfold stp
  rw [h, sgn_zero, Int.mul_zero, Int.add_zero]
  exact hold_id _ hw

set_option maxRecDepth 20000 in
set_option maxHeartbeats 1000000 in
theorem steps_no (L : List Int) (hL : L.length = 16) (x : Int)
    (no : ∀ w, Calls Try.prog 11 #[mdl L, .int .i64 x] w fun e w' => e = .returned (.tuple #[mdl zeros16, .int .i64 1400]) ∧ Bel w w') (w : World) :
    Calls Try.prog 7 #[mdl L, .int .i64 x] w fun e w' => e = .returned (.bool true) ∧ Bel w w' := by
  have NO : Hid (∀ w, Calls Try.prog 11 #[mdl L, .int .i64 x] w fun e w' => e = .returned (.tuple #[mdl zeros16, .int .i64 1400]) ∧ Bel w w') := no
  have NL : Hid (L.length = 16) := hL
  have NZ : Hid (zeros16.length = 16) := zeros16_len
  have z := zero24
  have q1 := eq_24 zeros16 zeros16 zeros16_len zeros16_len
  have q2 := eq_in24 zeros16 zeros16 zeros16_len zeros16_len
  simp only [decide_true] at q1 q2
  have H0 : Hid (Holds (w.alloc (.cells (vals L).toArray 24)) w.heap.size L) := holds_new w L _
  clear no hL
  go_enter Try.func7, Try.ntmps7
  go_wp2_with fail
  refine (awake_true _).mono ?_
  rintro e w1 ⟨rfl, b⟩
  have H1 : Hid (Holds w1 w.heap.size L) := H0.out.bel b
  have B1 : Hid (Bel w w1) := ((Bel.refl w).alloc _).trans b
  clear b H0
  go_wp2_with (first | (with_reducible refine wpl_load24 H1.out NL.out rfl ?_))
  refine (NO.out _).mono ?_
  rintro e w2 ⟨rfl, b⟩
  have a3 : Holds (w2.alloc (.cells (vals zeros16).toArray 24)) w2.heap.size zeros16 := holds_new w2 zeros16 _
  have b3 : Bel w (w2.alloc (.cells (vals zeros16).toArray 24)) := (B1.out.trans b).alloc _
  clear b H1 B1 NO
  go_wp2_with (first | (with_reducible refine wpl_store24n NZ.out NZ.out rfl rfl ?_))
  refine (num_ok _ _).mono ?_
  rintro e W ⟨rfl, rfl⟩
  generalize w2.alloc (.cells (vals zeros16).toArray 24) = W at *
  have A3 : Hid (Holds W w2.heap.size zeros16) := a3
  have B3 : Hid (Bel w W) := b3
  clear a3 b3
  go_wp2_with (first
    | (with_reducible refine wpl_load24 A3.out NZ.out rfl ?_)
    | (with_reducible refine wpl_build24 ?_))
  go_ret
  exact ⟨rfl, B3.out⟩

set_option maxRecDepth 20000 in
set_option maxHeartbeats 1000000 in
theorem steps_yes (L : List Int) (hL : L.length = 16) (x : Int) (hm : mayL L = true) (hx : passed 4194304 x = false) (w : World) :
    Calls Try.prog 7 #[mdl L, .int .i64 x] w fun e w' => e = .returned (.bool true) ∧ Bel w w' := by
  obtain ⟨A, hA⟩ : ∃ A, learn L x = A := ⟨_, rfl⟩
  have YE : Hid (∀ w, Calls Try.prog 11 #[mdl L, .int .i64 x] w fun e w' => e = .returned (.tuple #[mdl A, .int .i64 0]) ∧ Bel w w') := hA ▸ learn_yes L hL x hm hx
  have NL : Hid (L.length = 16) := hL
  have NA : Hid (A.length = 16) := by rw [← hA]; exact (learn_len L x).trans hL
  have MA : Hid (∀ w, Calls Try.prog 14 #[mdl A] w fun e w' => e = .returned (.bool true) ∧ Bel w w') := fun w => by
    have := may_ok A NA.out w
    rwa [show mayL A = true by rw [← hA]; exact may_learn hL hm x hx] at this
  have ST : Hid (∀ k, k < 8 → (-16 ≤ A.getD k 0 - L.getD k 0 ∧ A.getD k 0 - L.getD k 0 ≤ 16) ∧ (L.getD (8 + k) 0 = 0 → A.getD k 0 = L.getD k 0)) := fun k hk => by
    have e : A.getD k 0 = stp L (x - guess L) k := by rw [← hA, learn_get L x hL k (by omega), if_pos hk]
    rw [e]
    exact stp_near hm _ k hk
  have WR : Hid (∀ k, k < 8 → -1048576 ≤ L.getD k 0 ∧ L.getD k 0 ≤ 1048576) := ((may_iff L).1 hm).1
  have NZ : Hid (zeros16.length = 16) := zeros16_len
  have z := zero24
  have H0 : Hid (Holds (w.alloc (.cells (vals L).toArray 24)) w.heap.size L) := holds_new w L _
  clear hL hm hx hA
  go_enter Try.func7, Try.ntmps7
  go_wp2_with fail
  refine (awake_true _).mono ?_
  rintro e w1 ⟨rfl, b⟩
  have H1 : Hid (Holds w1 w.heap.size L) := H0.out.bel b
  have B1 : Hid (Bel w w1) := ((Bel.refl w).alloc _).trans b
  clear b H0
  go_wp2_with (first | (with_reducible refine wpl_load24 H1.out NL.out rfl ?_))
  refine (YE.out _).mono ?_
  rintro e w2 ⟨rfl, b⟩
  have h3 := (H1.out.bel b).bel ((Bel.refl _).alloc (.cells (vals A).toArray 24))
  have a3 : Holds (w2.alloc (.cells (vals A).toArray 24)) w2.heap.size A := holds_new w2 A _
  have b3 : Bel w (w2.alloc (.cells (vals A).toArray 24)) := (B1.out.trans b).alloc _
  clear b H1 B1 YE
  go_wp2_with (first | (with_reducible refine wpl_store24n NZ.out NA.out rfl rfl ?_))
  refine (num_ok _ _).mono ?_
  rintro e W ⟨rfl, rfl⟩
  generalize w2.alloc (.cells (vals A).toArray 24) = W at *
  have H3 : Hid (Holds W w.heap.size L) := h3
  have A3 : Hid (Holds W w2.heap.size A) := a3
  have B3 : Hid (Bel w W) := b3
  clear h3 a3 b3
  go_wp2_with fail
  go_loopw [7] (fun i wr => ∃ j : Nat, j ≤ 8 ∧ i = .int .i64 (j : Int) ∧ Holds wr w.heap.size L ∧ Holds wr w2.heap.size A ∧ Bel w wr) (fun i _ => 8 - (intOf i).toNat)
  case atStart => exact ⟨0, by omega, rfl, H3.out, A3.out, B3.out⟩
  case round =>
    obtain ⟨j, hj, rfl, h, a, b⟩ := hrel
    have H4 : Hid (Holds wr w.heap.size L) := h
    have A4 : Hid (Holds wr w2.heap.size A) := a
    have B4 : Hid (Bel w wr) := b
    clear h a b H3 A3 B3
    by_cases hlt : j < 8
    · have hd : decide ((j : Int) < 8) = true := decide_eq_true (by omega)
      have c1 := A4.out.cell j (by rw [NA.out]; omega)
      have c2 := H4.out.cell j (by rw [NL.out]; omega)
      have c3 := H4.out.cell (8 + j) (by rw [NL.out]; omega)
      obtain ⟨⟨s0, s1⟩, s2⟩ := ST.out j hlt
      obtain ⟨v0, v1⟩ := WR.out j hlt
      generalize A.getD j 0 = u at *
      generalize L.getD j 0 = v at *
      generalize L.getD (8 + j) 0 = y at *
      have t1 : decide (u - v > 16) = false := decide_eq_false (by omega)
      have t2 : decide (u - v < -16) = false := decide_eq_false (by omega)
      by_cases hy : y = 0
      · obtain rfl := s2 hy
        subst hy
        clear s2 t1 t2
        go_wp2
        go_quiet (fail)
        go_wp2
        go_roundw
        case rel => exact ⟨j + 1, by omega, by go_num, H4.out.drewN _, A4.out.drewN _, B4.out.drewN _⟩
        case measure => simp [intOf]; omega
      · have t3 : (y == 0) = false := by simpa using hy
        clear s2 hy
        go_wp2
        go_quiet (fail)
        go_wp2
        go_roundw
        case rel => exact ⟨j + 1, by omega, by go_num, H4.out.drewN _, A4.out.drewN _, B4.out.drewN _⟩
        case measure => simp [intOf]; omega
    · have hd : decide ((j : Int) < 8) = false := decide_eq_false (by omega)
      go_wp2_with (first | (with_reducible refine wpl_load24 A4.out NA.out rfl ?_))
      refine (MA.out _).mono ?_
      rintro e w3 ⟨rfl, b⟩
      have B5 : Hid (Bel w w3) := B4.out.trans b
      clear b
      go_wp2
      go_ret
      exact ⟨rfl, B5.out⟩

theorem steps_walk (L : List Int) (hL : L.length = 16) (x : Int) (w : World) :
    Calls Try.prog 7 #[mdl L, .int .i64 x] w fun e w' => e = .returned (.bool true) ∧ Bel w w' := by
  cases hm : mayL L
  · exact steps_no L hL x (learn_no L hL x hm) w
  · cases hx : passed 4194304 x
    · exact steps_yes L hL x hm hx w
    · exact steps_no L hL x (learn_far L hL x hm hx) w

end Go.Proofs.Ytjckeagbimfonaa.Lin
