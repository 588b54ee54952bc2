/-
  The contract of gamma.Number, of any row of ints, as P11.1 has it. Condition: the row is there.
-/
import Derived.Test.YtoldedbfoechlaaGreatDoorGHead
namespace Go.Proofs.YtoldedbfoechlaaGreatDoor.Gam
open Go.RowKit Go.Proofs.YtoldedbfoechlaaGreatDoor.Mod Go.Proofs.YtoldedbfoechlaaGreatDoor.Ints Go.Proofs.YtoldedbfoechlaaGreatDoor.Num
set_option linter.unusedVariables false

theorem rest_snoc (L : List Int) (k j : Nat) (h : k + 1 + j < L.length) : (L.drop (k + 1)).take (j + 1) = (L.drop (k + 1)).take j ++ [L.getD (k + 1 + j) 0] := by
  have hj : j < (L.drop (k + 1)).length := by simp; omega
  rw [List.take_succ_eq_append_getElem hj]
  simp [List.getD_eq_getElem?_getD, h]
theorem rest_split (L : List Int) (k j : Nat) (h : k + 1 + j < L.length) : L.drop (k + 1) = (L.drop (k + 1)).take j ++ L.getD (k + 1 + j) 0 :: (L.drop (k + 1)).drop (j + 1) := by
  have e := rest_snoc L k j h
  have := List.take_append_drop (j + 1) (L.drop (k + 1))
  rw [e] at this
  simpa using this.symm

/-- An address behind another one's. -/
theorem add_past (x : Addr) (a j : Nat) (h : 0 < a) : x.add (a + j) = ⟨x.block, x.off + a + j, none⟩ := by
  unfold Addr.add
  rw [if_neg (by omega), Nat.add_assoc]

theorem half (k : Nat) : (2 * k + 1) / 2 = k := by omega

set_option maxRecDepth 20000 in
set_option maxHeartbeats 2000000 in
theorem number_some (x : Addr) (L : List Int) (k cap : Nat) (hl : L.length = 2 * k + 1) (hk : k ≤ 25) (hc : 2 * k + 1 ≤ cap) (hm : cap ≤ maxLen) (w : World) (hA : Slc w (some x) L) :
    Calls Tryz.prog 65 #[.slice (some x) (2 * k + 1) cap] w fun e w' => e = .returned (numV L) ∧ w' = w := by
  have hh : L.length / 2 = k := by omega
  unfold maxLen at hm
  obtain ⟨p, hp⟩ : ∃ p, numP L = p := ⟨_, rfl⟩
  unfold numV
  rw [hp]
  obtain ⟨p1, p2⟩ := p
  have HP : Hid (numP L = (p1, p2)) := hp
  have HL : Hid (L.length = 2 * k + 1) := hl
  have HA : Hid (∀ j, j < 2 * k + 1 → w.cell? (x.add j) = some (.int .i64 (L.getD j 0))) := fun j hj => by
    obtain ⟨y, hy, h⟩ := hA j (by omega)
    cases hy
    exact h
  have D := isHead_ok x (L.take (k + 1)) k cap (by simp; omega) (by omega) (by omega) w (hA.take _)
  have C := behind_ok 33554433 25 (by decide) (by decide) (by decide) w
  have HH : Hid (headOk L ↔ L.take (k + 1) = List.replicate k 1 ++ [0]) := (by unfold headOk; rw [hh] : headOk L ↔ L.take (k + 1) = List.replicate k 1 ++ [0])
  have d : (2 * (k : Int) + 1).tdiv 2 = (k : Int) := by rw [Int.tdiv_eq_ediv_of_nonneg (by omega)]; omega
  clear hA hl hh hp
  by_cases hhd : L.take (k + 1) = List.replicate k 1 ++ [0]
  · rw [decide_eq_true hhd] at D
    have HD : Hid (headOk L) := HH.out.2 hhd
    clear hhd HH
    by_cases hcap : cap = k + 1
    · obtain rfl : k = 0 := by omega
      subst hcap
      obtain ⟨rfl, rfl⟩ : p1 = 0 ∧ p2 = 0 := by
        have e : L.drop (L.length / 2 + 1) = [] := List.drop_of_length_le (by have := HL.out; omega)
        have := numP_some (L := L) (v := 1) (by have := HL.out; omega) (by have := HL.out; omega) HD.out (by rw [e]; rfl) (by decide)
        rw [HP.out] at this
        simpa using this
      go_enter Tryz.func65, Tryz.ntmps65
      go_wp2_with (first | (go_at_call 44; refine C.mono ?_; rintro e w1 ⟨rfl, h2⟩; replace h2 := h2.symm; subst h2) | (go_at_call 100; refine D.mono ?_; rintro e w1 ⟨rfl, h2⟩; replace h2 := h2.symm; subst h2))
      refine wp_loop_rounds 1 ?_
      rw [rounds_succ]
      go_wp2
      go_ret2
      exact ⟨rfl, rfl⟩
    · go_enter Tryz.func65, Tryz.ntmps65
      go_wp2_with (first | (go_at_call 44; refine C.mono ?_; rintro e w1 ⟨rfl, h2⟩; replace h2 := h2.symm; subst h2) | (go_at_call 100; refine D.mono ?_; rintro e w1 ⟨rfl, h2⟩; replace h2 := h2.symm; subst h2))
      go_loopw [5, 35] (fun v i wr => ∃ (j : Nat) (y : Int), j ≤ k ∧ i = .int .i64 j ∧ v = .int .i64 y ∧ wr = w ∧ Hid (take01 1 ((L.drop (k + 1)).take j) = some y)) (fun _ i _ => k - (intOf i).toNat)
      case atStart => exact ⟨0, 1, Nat.zero_le _, rfl, rfl, rfl, rfl⟩
      case round =>
        obtain ⟨j, y, hj, rfl, rfl, hw, HT⟩ := hrel
        replace hw := hw.symm
        subst hw
        have hy := take01_small HT.out (by simp; omega)
        by_cases hlt : j < k
        · have hc1 := HA.out (k + 1 + j) (by omega)
          rw [add_past x (k + 1) j (by omega)] at hc1
          have HS : Hid ((L.drop (k + 1)).take (j + 1) = (L.drop (k + 1)).take j ++ [L.getD (k + 1 + j) 0]) := rest_snoc L k j (by have := HL.out; omega)
          have HR : Hid (L.drop (k + 1) = (L.drop (k + 1)).take j ++ L.getD (k + 1 + j) 0 :: (L.drop (k + 1)).drop (j + 1)) := rest_split L k j (by have := HL.out; omega)
          generalize L.getD (k + 1 + j) 0 = b at *
          by_cases hb : b = 0 ∨ b = 1
          · have HN : Hid (take01 1 ((L.drop (k + 1)).take (j + 1)) = some (2 * y + b)) := (by rw [HS.out]; exact take01_snoc HT.out hb : take01 1 ((L.drop (k + 1)).take (j + 1)) = some (2 * y + b))
            clear HS HR HT
            rcases hb with rfl | rfl
            · go_wp2
              go_roundw
              case rel => exact ⟨j + 1, _, by omega, by go_num, rfl, by first | rfl | trivial, by simpa using HN⟩
              case measure => simp [intOf]; omega
            · go_wp2
              go_roundw
              case rel => exact ⟨j + 1, _, by omega, by go_num, rfl, by first | rfl | trivial, HN⟩
              case measure => simp [intOf]; omega
          · obtain ⟨rfl, rfl⟩ : p1 = 0 ∧ p2 = 1100 := by
              have hh : L.length / 2 = k := by have := HL.out; omega
              have := numP_none (L := L) (by rw [hh, HR.out]; exact take01_bad HT.out hb)
              rw [HP.out] at this
              simpa using this
            have b0 : (b != 0) = true := by simp; omega
            have b1 : (b != 1) = true := by simp; omega
            clear HS HR HT hb
            go_wp2
            go_ret2
            exact ⟨rfl, rfl⟩
        · obtain rfl : j = k := by omega
          have hh : L.length / 2 = j := by have := HL.out; omega
          have e : (L.drop (j + 1)).take j = L.drop (L.length / 2 + 1) := by rw [hh]; exact List.take_of_length_le (by simp; have := HL.out; omega)
          have HT2 : Hid (take01 1 (L.drop (L.length / 2 + 1)) = some y) := e ▸ HT.out
          clear e hh HT
          by_cases hg : y ≤ 33554433
          · obtain ⟨rfl, rfl⟩ : p1 = y - 1 ∧ p2 = 0 := by
              have := numP_some (L := L) (by have := HL.out; omega) (by have := HL.out; omega) HD.out HT2.out hg
              rw [HP.out] at this
              simpa using this
            go_wp2
            go_ret2
            exact ⟨rfl, rfl⟩
          · obtain ⟨rfl, rfl⟩ : p1 = 0 ∧ p2 = 1100 := by
              have := numP_great (L := L) HT2.out (by omega)
              rw [HP.out] at this
              simpa using this
            go_wp2
            go_ret2
            exact ⟨rfl, rfl⟩
  · rw [decide_eq_false hhd] at D
    obtain ⟨rfl, rfl⟩ : p1 = 0 ∧ p2 = 1100 := by
      have := numP_no (L := L) (fun q => hhd (HH.out.1 q.2.2))
      rw [HP.out] at this
      simpa using this
    clear hhd HH
    go_enter Tryz.func65, Tryz.ntmps65
    go_wp2_with (first | (go_at_call 44; refine C.mono ?_; rintro e w1 ⟨rfl, h2⟩; replace h2 := h2.symm; subst h2) | (go_at_call 100; refine D.mono ?_; rintro e w1 ⟨rfl, h2⟩; replace h2 := h2.symm; subst h2))
    go_ret2
    exact ⟨rfl, rfl⟩

/-- Number of any row. -/
theorem number_ok (ao : Option Addr) (L : List Int) (n cap : Nat) (hn : n = L.length) (hc : n ≤ cap) (hm : cap ≤ maxLen) (w : World) (hA : Slc w ao L) :
    Calls Tryz.prog 65 #[.slice ao n cap] w fun e w' => e = .returned (numV L) ∧ w' = w := by
  by_cases h : n = 2 * (n / 2) + 1 ∧ n / 2 ≤ 25
  · obtain ⟨x, rfl, _⟩ := hA 0 (by omega)
    have := number_some x L (n / 2) cap (by omega) h.2 (by omega) hm w hA
    rwa [← h.1] at this
  · exact number_len ao L n cap hn (by omega) h w

end Go.Proofs.YtoldedbfoechlaaGreatDoor.Gam
