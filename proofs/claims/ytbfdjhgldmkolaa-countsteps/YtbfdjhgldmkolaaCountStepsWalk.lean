/-
  The walk of CountSteps: it answers true for any row of ints, a nil one too. No condition but that the row is there.
-/
import Derived.Test.YtbfdjhgldmkolaaUAwake
import Derived.Test.YtbfdjhgldmkolaaOnto
namespace Go.Proofs.Ytbfdjhgldmkolaa.Cnt
open Go.RowKit Go.Proofs.Ytbfdjhgldmkolaa.Num
set_option linter.unusedVariables false

theorem and1' (n : Int) : bits .and .i64 n 1 = n % 2 := and_mask 1 1 (by decide) (by decide) n

theorem chance_in (c : Int) (h0 : 0 ≤ c) (h1 : c ≤ 65535) : 1 ≤ chance c ∧ chance c ≤ 4095 := by
  unfold chance
  split <;> omega

set_option maxHeartbeats 1000000 in
theorem steps_some (a0 : Option Addr) (n0 c0' : Nat) (z0 : Nat → Int) (m : Nat) (hm0 : m ≤ n0) (hm1 : m ≤ 60) (hm : m = n0 ∨ m = 60) (hn0 : n0 ≤ c0') (hc0 : c0' ≤ maxLen) (w : World)
    (hz0 : ∀ i, i < m → ∃ x, a0 = some x ∧ w.cell? (x.add i) = some (.int .i64 (z0 i))) :
    Calls Try.prog 7 #[.slice a0 n0 c0'] w fun e w' => e = .returned (.bool true) ∧ Onto w w' := by
  unfold maxLen at hc0
  have HZ0 : Hid (∀ i, i < m → ∃ x, a0 = some x ∧ w.cell? (x.add i) = some (.int .i64 (z0 i))) := hz0
  clear hz0
  go_enter Try.func7, Try.ntmps7
  go_wp2_with fail
  refine (awake_true _).mono ?_
  rintro e w1 ⟨rfl, rfl⟩
  go_wp2_with fail
  refine (new_ok _).mono ?_
  rintro e w1 ⟨rfl, rfl⟩
  go_wp2
  go_loopw [3, 4] (fun v i wr => ∃ (j : Nat) (y : Int), j ≤ m ∧ i = .int .i64 (j : Int) ∧ v = .int .i64 y ∧ 0 ≤ y ∧ y ≤ 65535 ∧ Onto w1 wr) (fun _ i _ => m - (intOf i).toNat)
  case atStart => exact ⟨0, 32768, by omega, rfl, rfl, by decide, by decide, Onto.refl _⟩
  case round =>
    obtain ⟨j, y, hj, rfl, rfl, y0, y1, o⟩ := hrel
    have O : Hid (Onto w1 wr) := o
    clear o
    by_cases hlt : j < m
    · obtain ⟨x, rfl, cx⟩ := HZ0.out j hlt
      have ex : wr.cell? (x.add j) = some (.int .i64 (z0 j)) := O.out.cell_some cx
      have i0 : (j : Int) < (n0 : Int) := by omega
      have i2 : (j : Int) < 60 := by omega
      have m1 := and1' (z0 j)
      clear cx
      rcases (by omega : z0 j % 2 = 0 ∨ z0 j % 2 = 1) with hb | hb
      · rw [hb] at m1
        obtain ⟨z, hz⟩ : ∃ z, step y 0 = z := ⟨_, rfl⟩
        have e1 : step y 0 = y - y / 16 := if_neg (by decide)
        have z1 : z ≤ 65535 := by omega
        have z2 : 0 ≤ z := by omega
        have t : 16 * (y - z) ≤ y := by omega
        have C := next_may y 0 z y0 y1 (.inl rfl) hz
        have HK : Hid (j < m) := hlt
        clear e1 hz hlt hj hb
        go_wp2_with fail
        refine (C _).mono ?_
        rintro e w2 ⟨rfl, rfl⟩
        go_wp2_with fail
        refine (num_ok _ _).mono ?_
        rintro e w2 ⟨rfl, rfl⟩
        go_wp2
        go_roundw
        case rel => exact ⟨j + 1, z, HK.out, by go_num, rfl, z2, z1, O.out⟩
        case measure => have := HK.out; simp [intOf]; omega
      · rw [hb] at m1
        obtain ⟨z, hz⟩ : ∃ z, step y 1 = z := ⟨_, rfl⟩
        have e1 : step y 1 = y + (65535 - y) / 16 := if_pos rfl
        have z1 : z ≤ 65535 := by omega
        have z2 : 0 ≤ z := by omega
        have t : 16 * (z - y) ≤ 65535 - y := by omega
        have C := next_may y 1 z y0 y1 (.inr rfl) hz
        have HK : Hid (j < m) := hlt
        clear e1 hz hlt hj hb
        go_wp2_with fail
        refine (C _).mono ?_
        rintro e w2 ⟨rfl, rfl⟩
        go_wp2_with fail
        refine (num_ok _ _).mono ?_
        rintro e w2 ⟨rfl, rfl⟩
        go_wp2
        go_roundw
        case rel => exact ⟨j + 1, z, HK.out, by go_num, rfl, z2, z1, O.out⟩
        case measure => have := HK.out; simp [intOf]; omega
    · obtain rfl : j = m := by omega
      obtain ⟨p0, p1⟩ := chance_in y y0 y1
      have C := p_may y _ y0 y1 rfl
      generalize chance y = p at *
      rcases hm with rfl | rfl
      · go_wp2_with fail
        refine (C _).mono ?_
        rintro e w2 ⟨rfl, rfl⟩
        go_wp2_with (go_at_call 12; go_in)
        go_wp2
        go_ret
        exact ⟨rfl, O.out⟩
      · by_cases h60 : 60 < n0
        · have i0 : (60 : Int) < (n0 : Int) := by omega
          go_wp2_with fail
          refine (C _).mono ?_
          rintro e w2 ⟨rfl, rfl⟩
          go_wp2_with (go_at_call 12; go_in)
          go_wp2
          go_ret
          exact ⟨rfl, O.out⟩
        · obtain rfl : n0 = 60 := by omega
          go_wp2_with fail
          refine (C _).mono ?_
          rintro e w2 ⟨rfl, rfl⟩
          go_wp2_with (go_at_call 12; go_in)
          go_wp2
          go_ret
          exact ⟨rfl, O.out⟩

theorem steps_walk (a0 : Option Addr) (len0 cap0 : Nat) (z0 : List Int) (w : World)
    (w0 : (a0 = none ∧ len0 = 0 ∧ cap0 = 0 ∧ z0 = []) ∨ ∃ x, a0 = some x ∧ len0 ≤ cap0 ∧ cap0 ≤ maxLen ∧ z0.length = cap0 ∧ (∀ i, i < z0.length → w.cell? (x.add i) = some (.int .i64 (z0.getD i 0))) ∧ ∀ n ∈ z0, (Lit.int .i64 n).wf = true) :
    Calls Try.prog 7 #[.slice a0 len0 cap0] w fun e w' => e = .returned (.bool true) ∧ Onto w w' := by
  rcases w0 with ⟨rfl, rfl, rfl, _⟩ | ⟨x0, rfl, h0, h0', h0l, h0c, _⟩
  · exact steps_some none 0 0 (fun _ => 0) 0 (by decide) (by decide) (.inl rfl) (by decide) (by decide) w (fun i hi => absurd hi (by omega))
  · exact steps_some (some x0) len0 cap0 (fun i => z0.getD i 0) (min len0 60) (by omega) (by omega) (by omega) h0 h0' w (fun i hi => ⟨x0, rfl, h0c i (by omega)⟩)

end Go.Proofs.Ytbfdjhgldmkolaa.Cnt
