/-
  The contract of the reference's ChannelsMay. Conditions: the rows are there.
-/
import Derived.Test.YtpakcajdbibbbaaSdNum
import Derived.Test.YtpakcajdbibbbaaGUp
import Derived.Test.YtpakcajdbibbbaaGList
import Derived.BigQuiet
namespace Go.Proofs.Ytpakcajdbibbbaa.Sid
open Go.RowKit Go.Proofs.Ytpakcajdbibbbaa.Mod Go.Proofs.Ytpakcajdbibbbaa.Lin
set_option linter.unusedVariables false

set_option maxHeartbeats 1000000 in
theorem rmay_ok (ao : Option Addr) (Ls : List (List Int)) (n cap : Nat) (hn : n = Ls.length) (hx : n ≤ maxLen) (w : World) (hA : Lls w ao Ls) :
    Calls Try.prog 29 #[.slice ao n cap] w fun e w' => e = .returned (.bool (chsMay Ls)) ∧ ∃ q, w' = w.drewN q := by
  unfold maxLen at hx
  have U : Hid (∀ w, Calls Try.prog 30 #[.int .i64 (n : Int), .int .i64 1, .int .i64 2] w fun e w' => e = .returned (.bool (decide ((1 : Int) ≤ (n : Int)) && decide ((n : Int) ≤ 2))) ∧ w' = w) := fun w => Has.upto_any _ _ _ w
  by_cases h0 : n < 1 ∨ 2 < n
  · have e : chsMay Ls = false := h0.elim (fun h => chsMay_none (hn ▸ h)) (fun h => chsMay_many (hn ▸ h))
    rw [e]
    have hb : (decide ((1 : Int) ≤ (n : Int)) && decide ((n : Int) ≤ 2)) = false := by
      rcases h0 with h | h
      · rw [decide_eq_false (by omega), Bool.false_and]
      · rw [decide_eq_false (by omega : ¬ (n : Int) ≤ 2), Bool.and_false]
    rw [hb] at U
    clear e hb hA hn
    go_enter Try.func29, Try.ntmps29
    go_wp2_with fail
    refine (U.out _).mono ?_
    rintro e w1 ⟨rfl, rfl⟩
    go_wp2
    go_ret
    exact ⟨rfl, 0, rfl⟩
  have hb : (decide ((1 : Int) ≤ (n : Int)) && decide ((n : Int) ≤ 2)) = true := by rw [decide_eq_true (by omega), decide_eq_true (by omega)]; rfl
  rw [hb] at U
  clear hb
  rw [chsMay_some (by omega) (by omega)]
  obtain ⟨r, hr⟩ : ∃ r, rowsMay Ls = r := ⟨_, rfl⟩
  rw [hr]
  have HR : Hid (rowsMay Ls = r) := hr
  obtain ⟨x, rfl, b0, c0, p0, s0, z0, t0⟩ := hA 0 (by omega)
  have HN : Hid (n = Ls.length) := hn
  have HA : Hid (Lls w (some x) Ls) := hA
  have S0 : Hid ((Ls.getD 0 []).length * 8 ≤ 140737488351232) := s0
  clear hr hA hn t0 z0 s0
  obtain ⟨l0, hl0⟩ : ∃ l0, (Ls.getD 0 []).length = l0 := ⟨_, rfl⟩
  rw [hl0] at p0 S0
  replace p0 : w.cell? x = some (.slice b0 l0 c0) := by rw [Addr.add_zero'] at p0; exact p0
  have P0 : Hid (w.cell? x = some (.slice b0 l0 c0)) := p0
  have L0 : Hid ((Ls.getD 0 []).length = l0) := hl0
  clear hl0 p0
  have SM : Hid (∀ p w, Calls Try.prog 38 #[.int .i64 p] w fun e w' => e = .returned (.bool (!passed 131072 p)) ∧ w' = w) := fun p w => Has.sample_ok p w
  go_enter Try.func29, Try.ntmps29
  go_wp2_with fail
  refine (U.out _).mono ?_
  rintro e w1 ⟨rfl, rfl⟩
  go_wp2
  go_loopw [3] (fun i wr => ∃ j : Nat, j ≤ n ∧ i = .int .i64 j ∧ Hid (∀ k, k < j → (Ls.getD k []).length = (Ls.getD 0 []).length ∧ okRow (Ls.getD k []) = true) ∧ Hid (∃ q, wr = w1.drewN q)) (fun i _ => n - (intOf i).toNat)
  case atStart => exact ⟨0, Nat.zero_le _, rfl, fun k hk => by omega, ⟨0, rfl⟩⟩
  case round =>
    obtain ⟨j, hj, rfl, hh, hw⟩ := hrel
    by_cases hlt : j < n
    · obtain ⟨y, hy, b1, c1, p1, s1, z1, t1⟩ := HA.out j (HN.out ▸ hlt)
      cases hy
      have hj2 : decide ((j : Int) < (n : Int)) = true := decide_eq_true (by omega)
      have g0 : wr.cell? x = some (.slice b0 l0 c0) := by obtain ⟨q, rfl⟩ := hw.out; exact P0.out
      have g1 : wr.cell? (x.add j) = some (.slice b1 (Ls.getD j []).length c1) := by obtain ⟨q, rfl⟩ := hw.out; exact p1
      have T1 : Hid (Slc w1 b1 (Ls.getD j [])) := t1
      have S1 : Hid ((Ls.getD j []).length * 8 ≤ 140737488351232) := s1
      have P1 : Hid (w1.cell? (x.add j) = some (.slice b1 (Ls.getD j []).length c1)) := p1
      clear p1 s1 z1 t1
      obtain ⟨l1, hl1⟩ : ∃ l1, (Ls.getD j []).length = l1 := ⟨_, rfl⟩
      rw [hl1] at g1 S1 P1
      have L1 : Hid ((Ls.getD j []).length = l1) := hl1
      clear hl1
      by_cases hl : l1 = l0
      · subst hl
        have hb : ((l1 : Int) != (l1 : Int)) = false := by simp
        have s8 := S1.out
        go_wp2
        go_quiet (fail)
        go_wp2
        go_loopw [4] (fun i wr2 => ∃ k : Nat, k ≤ l1 ∧ i = .int .i64 k ∧ Hid (∀ i, i < k → passed 131072 ((Ls.getD j []).getD i 0) = false) ∧ Hid (∃ q, wr2 = w1.drewN q)) (fun i _ => l1 - (intOf i).toNat)
        case atStart => exact ⟨0, Nat.zero_le _, rfl, (fun k hk => by omega : ∀ i, i < 0 → passed 131072 ((Ls.getD j []).getD i 0) = false), (by obtain ⟨q, e⟩ := hw.out; exact ⟨_, by rw [e, World.drewN_drewN]⟩ : ∃ q, _ = w1.drewN q)⟩
        case round =>
          obtain ⟨k, hk, rfl, hp, hw2⟩ := hrel
          clear g0 g1
          have f1 : wr.cell? (x.add j) = some (.slice b1 l1 c1) := by obtain ⟨q, rfl⟩ := hw2.out; exact P1.out
          by_cases hkt : k < l1
          · have hk2 : decide ((k : Int) < (l1 : Int)) = true := decide_eq_true (by omega)
            obtain ⟨z, rfl, hz⟩ := T1.out k (L1.out.symm ▸ hkt)
            have f2 : wr.cell? (z.add k) = some (.int .i64 ((Ls.getD j []).getD k 0)) := by obtain ⟨q, rfl⟩ := hw2.out; exact hz
            clear hz
            obtain ⟨p, hpv⟩ : ∃ p, (Ls.getD j []).getD k 0 = p := ⟨_, rfl⟩
            rw [hpv] at f2
            have HPV : Hid ((Ls.getD j []).getD k 0 = p) := hpv
            clear hpv
            have SP := SM.out p
            cases hpp : passed 131072 p
            · rw [hpp] at SP
              have SQ : Hid (∀ w, Calls Try.prog 38 #[.int .i64 p] w fun e w' => e = .returned (.bool true) ∧ w' = w) := SP
              have hp2 : Hid (∀ i, i < k + 1 → passed 131072 ((Ls.getD j []).getD i 0) = false) := fun i hi => by
                rcases Nat.lt_or_ge i k with h | h
                · exact hp.out i h
                · obtain rfl : i = k := by omega
                  rw [HPV.out]; exact hpp
              clear SP hpp hp
              go_wp2_with fail
              refine (SQ.out _).mono ?_
              rintro e w2 ⟨rfl, rfl⟩
              go_wp2
              go_roundw
              case rel => exact ⟨k + 1, by omega, by go_num, hp2, hw2⟩
              case measure => simp [intOf]; omega
            · rw [hpp] at SP
              have SQ : Hid (∀ w, Calls Try.prog 38 #[.int .i64 p] w fun e w' => e = .returned (.bool false) ∧ w' = w) := SP
              obtain rfl : r = false := HR.out.symm.trans (rowsMay_no j (HN.out ▸ hlt) (.inr (by unfold okRow; rw [anyOf_yes k (L1.out.symm ▸ hkt) (by show passed 131072 ((Ls.getD j []).getD k 0) = true; rw [HPV.out]; exact hpp)]; rfl)))
              clear SP hpp hp
              go_wp2_with fail
              refine (SQ.out _).mono ?_
              rintro e w2 ⟨rfl, rfl⟩
              go_wp2
              go_ret
              exact ⟨rfl, hw2.out⟩
          · obtain rfl : k = l1 := by omega
            have hk2 : decide ((k : Int) < (k : Int)) = false := decide_eq_false (by omega)
            have hh2 : Hid (∀ i, i < j + 1 → (Ls.getD i []).length = (Ls.getD 0 []).length ∧ okRow (Ls.getD i []) = true) := fun i hi => by
              rcases Nat.lt_or_ge i j with h | h
              · exact hh.out i h
              · obtain rfl : i = j := by omega
                exact ⟨L1.out.trans L0.out.symm, by unfold okRow; rw [anyOf_no (fun i hi => hp.out i (L1.out ▸ hi))]; rfl⟩
            clear hp hh
            go_wp2
            go_roundw
            case rel => exact ⟨j + 1, by omega, by go_num, hh2, hw2⟩
            case measure => simp [intOf]; omega
      · obtain rfl : r = false := HR.out.symm.trans (rowsMay_no j (HN.out ▸ hlt) (.inl (by rw [L1.out, L0.out]; exact hl)))
        have hb : ((l1 : Int) != (l0 : Int)) = true := by simp; omega
        go_wp2
        go_quiet (fail)
        go_wp2
        go_ret
        exact ⟨rfl, by obtain ⟨q, e⟩ := hw.out; exact ⟨_, by rw [e, World.drewN_drewN]⟩⟩
    · obtain rfl : j = n := by omega
      have hj2 : decide ((j : Int) < (j : Int)) = false := decide_eq_false (by omega)
      obtain rfl : r = true := HR.out.symm.trans (rowsMay_yes (fun k hk => hh.out k (HN.out.symm ▸ hk)))
      go_wp2
      go_ret
      exact ⟨rfl, hw.out⟩

end Go.Proofs.Ytpakcajdbibbbaa.Sid
