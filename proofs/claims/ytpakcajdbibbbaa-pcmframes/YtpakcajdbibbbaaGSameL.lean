/-
  The contract of the statements' own SameLists. Conditions: the rows are there.
-/
import Derived.Test.YtpakcajdbibbbaaGList
import Derived.Test.YtpakcajdbibbbaaLInts
namespace Go.Proofs.Ytpakcajdbibbbaa.Ints
open Go.RowKit Go.Proofs.Ytpakcajdbibbbaa.Mod
set_option linter.unusedVariables false

theorem eq_of_getL {L M : List (List Int)} (hl : L.length = M.length) (h : ∀ k, k < L.length → L.getD k [] = M.getD k []) : L = M := by
  refine List.ext_getElem hl fun k a b => ?_
  have := h k a
  rwa [List.getD_eq_getElem?_getD, List.getD_eq_getElem?_getD, List.getElem?_eq_getElem a, List.getElem?_eq_getElem b] at this

set_option maxHeartbeats 1000000 in
theorem sameL_ok (ao bo : Option Addr) (L M : List (List Int)) (n m ca cb : Nat) (hn : n = L.length) (hm : m = M.length) (hx : n ≤ maxLen) (hy : m ≤ maxLen) (w : World) (hA : Lls w ao L) (hB : Lls w bo M) :
    Calls Try.prog 12 #[.slice ao n ca, .slice bo m cb] w fun e w' => e = .returned (.bool (decide (L = M))) ∧ ∃ q, w' = w.drewN q := by
  unfold maxLen at hx hy
  by_cases hnm : n = m
  · subst hnm
    have HA : Hid (Lls w ao L) := hA
    have HB : Hid (Lls w bo M) := hB
    have HN : Hid (n = L.length) := hn
    have HM : Hid (n = M.length) := hm
    clear hA hB hn hm
    obtain ⟨r, hr⟩ : ∃ r, decide (L = M) = r := ⟨_, rfl⟩
    rw [hr]
    have HR : Hid (decide (L = M) = r) := hr
    clear hr
    go_enter Try.func12, Try.ntmps12
    go_wp2
    go_loopw [5] (fun i wr => ∃ j : Nat, j ≤ n ∧ i = .int .i64 j ∧ Hid (∃ q, wr = w.drewN q) ∧ Hid (∀ k, k < j → L.getD k [] = M.getD k [])) (fun i _ => n - (intOf i).toNat)
    case atStart => exact ⟨0, Nat.zero_le _, rfl, ⟨0, rfl⟩, fun k hk => by omega⟩
    case round =>
      obtain ⟨j, hj, rfl, hw, hh⟩ := hrel
      by_cases hlt : j < n
      · obtain ⟨x, rfl, b1, c1, h1, s1, z1, t1⟩ := HA.out j (HN.out ▸ hlt)
        obtain ⟨y, rfl, b2, c2, h2, s2, z2, t2⟩ := HB.out j (HM.out ▸ hlt)
        have hd : decide ((j : Int) < (n : Int)) = true := decide_eq_true (by omega)
        have f1 : wr.cell? (x.add j) = some (.slice b1 (L.getD j []).length c1) := by obtain ⟨q, rfl⟩ := hw.out; exact h1
        have f2 : wr.cell? (y.add j) = some (.slice b2 (M.getD j []).length c2) := by obtain ⟨q, rfl⟩ := hw.out; exact h2
        have Q : Hid (∀ n, Calls Try.prog 18 #[.slice b1 (L.getD j []).length c1, .slice b2 (M.getD j []).length c2] (wr.drewN n) fun e w' => e = .returned (.bool (decide (L.getD j [] = M.getD j []))) ∧ ∃ q, w' = (wr.drewN n).drewN q) := fun n => by
          obtain ⟨q, rfl⟩ := hw.out
          exact same_ok b1 b2 (L.getD j []) (M.getD j []) _ _ c1 c2 rfl rfl (by unfold maxLen; omega) (by unfold maxLen; omega) _ t1 t2
        clear h1 h2 t1 t2 z1 z2 s1 s2
        by_cases he : L.getD j [] = M.getD j []
        · have hh2 : Hid (∀ k, k < j + 1 → L.getD k [] = M.getD k []) := fun k hk => by
            rcases Nat.lt_or_ge k j with h | h
            · exact hh.out k h
            · obtain rfl : k = j := by omega
              exact he
          rw [decide_eq_true he] at Q
          clear he hh
          generalize (L.getD j []).length = l1 at *
          generalize (M.getD j []).length = l2 at *
          go_wp2
          go_quiet ((go_at_call 18; with_reducible exact Calls.quiet_of (Q.out _)))
          go_wp2
          go_roundw
          case rel => exact ⟨j + 1, by omega, by go_num, (by obtain ⟨q, e⟩ := hw.out; exact ⟨_, by rw [e, World.drewN_drewN]⟩ : ∃ q, _ = w.drewN q), hh2⟩
          case measure => simp [intOf]; omega
        · obtain rfl : r = false := HR.out.symm.trans (decide_eq_false fun e => he (by rw [e]))
          rw [decide_eq_false he] at Q
          clear he hh
          generalize (L.getD j []).length = l1 at *
          generalize (M.getD j []).length = l2 at *
          go_wp2
          go_quiet ((go_at_call 18; with_reducible exact Calls.quiet_of (Q.out _)))
          go_wp2
          go_ret
          exact ⟨rfl, by obtain ⟨q, e⟩ := hw.out; exact ⟨_, by rw [e, World.drewN_drewN]⟩⟩
      · obtain rfl : j = n := by omega
        have hd : decide ((j : Int) < (j : Int)) = false := decide_eq_false (by omega)
        obtain rfl : r = true := HR.out.symm.trans (decide_eq_true (eq_of_getL (HN.out.symm.trans HM.out) (fun k hk => hh.out k (HN.out.symm ▸ hk))))
        go_wp2
        go_ret
        exact ⟨rfl, hw.out⟩
  · have hne : decide (L = M) = false := decide_eq_false fun e => hnm (by rw [hn, hm, e])
    rw [hne]
    clear hA hB hn hm
    have hb : ((n : Int) != (m : Int)) = true := by simp; omega
    go_enter Try.func12, Try.ntmps12
    go_wp2
    go_ret
    exact ⟨rfl, 0, rfl⟩

end Go.Proofs.Ytpakcajdbibbbaa.Ints
