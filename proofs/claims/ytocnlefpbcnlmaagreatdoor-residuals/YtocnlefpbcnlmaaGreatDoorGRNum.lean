/-
  The contracts of the reference's Ones, bitMay and Number, of any row of ints: what gamma.Number tells. Condition: the row is there.
-/
import Derived.Test.YtocnlefpbcnlmaaGreatDoorPk14
import Derived.Test.YtocnlefpbcnlmaaGreatDoorPk18
namespace Go.Proofs.YtocnlefpbcnlmaaGreatDoor.Gam
open Go.RowKit Go.Proofs.YtocnlefpbcnlmaaGreatDoor.Mod Go.Proofs.YtocnlefpbcnlmaaGreatDoor.Ints Go.Proofs.YtocnlefpbcnlmaaGreatDoor.Num
set_option linter.unusedVariables false

set_option maxHeartbeats 1000000 in
theorem ones_ok (ao : Option Addr) (L : List Int) (n cap : Nat) (hn : n = L.length) (hx : n ≤ maxLen) (w : World) (hA : Slc w ao L) :
    Calls Tryz.prog 33 #[.slice ao n cap] w fun e w' => e = .returned (.int .i64 ((ones L : Nat) : Int)) ∧ w' = w := by
  unfold maxLen at hx
  have HA : Hid (Slc w ao L) := hA
  have HN : Hid (n = L.length) := hn
  obtain ⟨r, hr⟩ : ∃ r, ones L = r := ⟨_, rfl⟩
  rw [hr]
  have HR : Hid (ones L = r) := hr
  clear hA hn hr
  go_enter Tryz.func33, Tryz.ntmps33
  go_wp2
  go_loopw [3] (fun i wr => ∃ j : Nat, j ≤ n ∧ i = .int .i64 j ∧ wr = w ∧ Hid (∀ t, t < j → L.getD t 0 = 1)) (fun i _ => n - (intOf i).toNat)
  case atStart => exact ⟨0, Nat.zero_le _, rfl, rfl, fun t ht => by omega⟩
  case round =>
    obtain ⟨j, hj, rfl, hw, hh⟩ := hrel
    replace hw := hw.symm
    subst hw
    by_cases hlt : j < n
    · obtain ⟨x, rfl, hc⟩ := HA.out j (HN.out ▸ hlt)
      have hd : decide ((j : Int) < (n : Int)) = true := decide_eq_true (by omega)
      by_cases he : L.getD j 0 = 1
      · have h2 : Hid (∀ t, t < j + 1 → L.getD t 0 = 1) := fun t ht => by
          rcases Nat.lt_or_ge t j with h | h
          · exact hh.out t h
          · obtain rfl : t = j := by omega
            exact he
        rw [he] at hc
        clear he hh
        go_wp2
        go_roundw
        case rel => exact ⟨j + 1, by omega, by go_num, by first | rfl | trivial, h2⟩
        case measure => simp [intOf]; omega
      · obtain rfl : j = r := (ones_is L j (by have := HN.out; omega) hh.out (.inr he)).symm.trans HR.out
        generalize L.getD j 0 = p at *
        have hb : (p == 1) = false := by simpa using he
        go_wp2
        go_ret
        exact ⟨rfl, rfl⟩
    · obtain rfl : j = n := by omega
      obtain rfl : j = r := (ones_is L j (by have := HN.out; omega) hh.out (.inl HN.out)).symm.trans HR.out
      go_wp2
      go_ret
      exact ⟨rfl, rfl⟩

theorem bitMay_ok (b : Int) (r : Bool) (h : decide (b = 0 ∨ b = 1) = r) (w : World) :
    Calls Tryz.prog 52 #[.int .i64 b] w fun e w' => e = .returned (.bool r) ∧ w' = w := by
  subst h
  by_cases a : b = 0
  · subst a
    go_enter Tryz.func52, Tryz.ntmps52
    go_wp2
    go_ret
    exact ⟨rfl, rfl⟩
  · have hb : (b == 0) = false := by simpa using a
    have hr : decide (b = 0 ∨ b = 1) = (b == 1) := by
      by_cases q : b = 1
      · simp [q]
      · simp [a, q]
    rw [hr]
    clear hr a
    go_enter Tryz.func52, Tryz.ntmps52
    go_wp2
    go_ret
    exact ⟨rfl, rfl⟩

set_option maxRecDepth 20000 in
set_option maxHeartbeats 2000000 in
theorem rnumber_some (x : Addr) (L : List Int) (k cap : Nat) (hl : L.length = 2 * k + 1) (hk : k ≤ 25) (ho : ones L = k) (w : World) (hA : Slc w (some x) L) :
    Calls Tryz.prog 39 #[.slice (some x) (2 * k + 1) cap] w fun e w' => e = .returned (numV L) ∧ w' = w := by
  obtain ⟨p, hp⟩ : ∃ p, numP L = p := ⟨_, rfl⟩
  unfold numV
  rw [hp]
  obtain ⟨p1, p2⟩ := p
  have HP : Hid (numP L = (p1, p2)) := hp
  have HL : Hid (L.length = 2 * k + 1) := hl
  have HO : Hid (ones L = k) := ho
  have HA : Hid (∀ j, j < 2 * k + 1 → w.cell? (x.add j) = some (.int .i64 (L.getD j 0))) := fun j hj => by
    obtain ⟨y, hy, h⟩ := hA j (by omega)
    cases hy
    exact h
  have C := ones_ok (some x) L (2 * k + 1) cap hl.symm (by unfold maxLen; omega) w hA
  rw [ho] at C
  have hb : ((2 * (k : Int) + 1) != 2 * (k : Int) + 1) = false := by simp
  have hck := HA.out k (by omega)
  clear hA hl hp ho
  go_enter Tryz.func39, Tryz.ntmps39
  go_wp2_with (go_at_call 33; refine C.mono ?_; rintro e w1 ⟨rfl, h2⟩; replace h2 := h2.symm; subst h2)
  go_loopw [5, 6] (fun v i wr => ∃ (j : Nat) (y z : Int), j ≤ k ∧ i = .int .i64 z ∧ z = (k : Int) + 1 + j ∧ v = .int .i64 y ∧ wr = w ∧ Hid (take01 1 ((L.drop (k + 1)).take j) = some y)) (fun _ i _ => (2 * (k : Int) + 1 - intOf i).toNat)
  case atStart => exact ⟨0, 1, _, Nat.zero_le _, rfl, by omega, rfl, rfl, rfl⟩
  case round =>
    obtain ⟨j, y, z, hj, rfl, hz, rfl, hw, HT⟩ := hrel
    replace hw := hw.symm
    subst hw
    have hy := take01_small HT.out (by simp; omega)
    by_cases hlt : j < k
    · have hc1 := HA.out (k + 1 + j) (by omega)
      obtain ⟨m, hm⟩ : ∃ m : Nat, k + 1 + j = m := ⟨_, rfl⟩
      rw [hm] at hc1
      obtain rfl : z = (m : Int) := by omega
      have HS : Hid ((L.drop (k + 1)).take (j + 1) = (L.drop (k + 1)).take j ++ [L.getD m 0]) := hm ▸ rest_snoc L k j (by have := HL.out; omega)
      have HR : Hid (L.drop (k + 1) = (L.drop (k + 1)).take j ++ L.getD m 0 :: (L.drop (k + 1)).drop (j + 1)) := hm ▸ rest_split L k j (by have := HL.out; omega)
      have hm1 : m < 2 * k + 1 := by omega
      have HM : Hid (k + 1 + j = m) := hm
      clear hm hz
      generalize L.getD m 0 = b at *
      by_cases hb2 : b = 0 ∨ b = 1
      · have HN : Hid (take01 1 ((L.drop (k + 1)).take (j + 1)) = some (2 * y + b)) := (by rw [HS.out]; exact take01_snoc HT.out hb2 : take01 1 ((L.drop (k + 1)).take (j + 1)) = some (2 * y + b))
        have B := bitMay_ok b true (decide_eq_true hb2) w
        clear HS HR HT
        have hb3 : 0 ≤ b ∧ b ≤ 1 := by omega
        clear hb2
        go_wp2_with (go_at_call 52; refine B.mono ?_; rintro e w1 ⟨rfl, h2⟩; replace h2 := h2.symm; subst h2)
        go_roundw
        case rel => exact ⟨j + 1, _, _, by omega, rfl, by have := HM.out; omega, rfl, by first | rfl | trivial, HN⟩
        case measure => simp [intOf]; omega
      · obtain ⟨rfl, rfl⟩ : p1 = 0 ∧ p2 = 1100 := by
          have hh : L.length / 2 = k := by have := HL.out; omega
          have := numP_none (L := L) (by rw [hh, HR.out]; exact take01_bad HT.out hb2)
          rw [HP.out] at this
          simpa using this
        have B := bitMay_ok b false (decide_eq_false hb2) w
        clear HS HR HT hb2
        go_wp2_with (go_at_call 52; refine B.mono ?_; rintro e w1 ⟨rfl, h2⟩; replace h2 := h2.symm; subst h2)
        go_ret2
        exact ⟨rfl, rfl⟩
    · obtain rfl : j = k := by omega
      obtain rfl : z = 2 * (j : Int) + 1 := by omega
      have hh : L.length / 2 = j := by have := HL.out; omega
      have e : (L.drop (j + 1)).take j = L.drop (L.length / 2 + 1) := by rw [hh]; exact List.take_of_length_le (by simp; have := HL.out; omega)
      have HT2 : Hid (take01 1 (L.drop (L.length / 2 + 1)) = some y) := e ▸ HT.out
      have HH : Hid (headOk L ↔ L.getD j 0 = 0) := ⟨fun q => ((head_iff L j HL.out).1 q).2, fun q => (head_iff L j HL.out).2 ⟨fun i hi => ones_one L i (by have := HO.out; omega), q⟩⟩
      clear e hh HT hz
      by_cases hz0 : L.getD j 0 = 0
      · have HD : Hid (headOk L) := HH.out.2 hz0
        rw [hz0] at hck
        clear hz0 HH
        by_cases hg : y ≤ 33554433
        · obtain ⟨rfl, rfl⟩ : p1 = y - 1 ∧ p2 = 0 := by
            have := numP_some (L := L) (by have := HL.out; omega) (by have := HL.out; omega) HD.out HT2.out hg
            rw [HP.out] at this
            simpa using this
          go_wp2
          go_ret2
          exact ⟨rfl, rfl⟩
        · obtain ⟨rfl, rfl⟩ : p1 = 0 ∧ p2 = 1100 := by
            have := numP_great (L := L) HT2.out (by omega)
            rw [HP.out] at this
            simpa using this
          go_wp2
          go_ret2
          exact ⟨rfl, rfl⟩
      · obtain ⟨rfl, rfl⟩ : p1 = 0 ∧ p2 = 1100 := by
          have := numP_no (L := L) (fun q => hz0 (HH.out.1 q.2.2))
          rw [HP.out] at this
          simpa using this
        generalize L.getD j 0 = p at *
        have hb3 : (p != 0) = true := by simpa using hz0
        go_wp2
        go_ret2
        exact ⟨rfl, rfl⟩

set_option maxHeartbeats 1000000 in
/-- The reference's Number of a row of a wrong length. -/
theorem rnumber_len (ao : Option Addr) (L : List Int) (n cap k : Nat) (hn : n = L.length) (hx : n * 8 ≤ 140737488351232) (hk : ones L = k) (h : ¬(n = 2 * k + 1 ∧ k ≤ 25)) (w : World) (hA : Slc w ao L) :
    Calls Tryz.prog 39 #[.slice ao n cap] w fun e w' => e = .returned (numV L) ∧ w' = w := by
  have e : numP L = (0, 1100) := numP_no (by
    intro q
    have := head_ones q.1 q.2.2
    exact h ⟨by omega, by omega⟩)
  unfold numV
  rw [e]
  have C := ones_ok ao L n cap hn (by unfold maxLen; omega) w hA
  have hle := ones_le L
  rw [hk] at C hle
  have hle2 : k ≤ n := by omega
  clear e hn hk hA hle
  by_cases q : n = 2 * k + 1
  · have k25 : 25 < k := by omega
    have hb : ((n : Int) != 2 * (k : Int) + 1) = false := by simp; omega
    clear q h
    go_enter Tryz.func39, Tryz.ntmps39
    go_wp2_with (go_at_call 33; refine C.mono ?_; rintro e w1 ⟨rfl, h2⟩; replace h2 := h2.symm; subst h2)
    go_ret2
    exact ⟨rfl, rfl⟩
  · have hb : ((n : Int) != 2 * (k : Int) + 1) = true := by simp; omega
    clear q h
    go_enter Tryz.func39, Tryz.ntmps39
    go_wp2_with (go_at_call 33; refine C.mono ?_; rintro e w1 ⟨rfl, h2⟩; replace h2 := h2.symm; subst h2)
    go_ret2
    exact ⟨rfl, rfl⟩

/-- The reference's Number of any row. -/
theorem rnumber_ok (ao : Option Addr) (L : List Int) (n cap : Nat) (hn : n = L.length) (hx : n * 8 ≤ 140737488351232) (w : World) (hA : Slc w ao L) :
    Calls Tryz.prog 39 #[.slice ao n cap] w fun e w' => e = .returned (numV L) ∧ w' = w := by
  by_cases h : n = 2 * ones L + 1 ∧ ones L ≤ 25
  · obtain ⟨x, rfl, _⟩ := hA 0 (by omega)
    have := rnumber_some x L (ones L) cap (by omega) h.2 rfl w hA
    rwa [← h.1] at this
  · exact rnumber_len ao L n cap _ hn hx rfl h w hA

end Go.Proofs.YtocnlefpbcnlmaaGreatDoor.Gam
