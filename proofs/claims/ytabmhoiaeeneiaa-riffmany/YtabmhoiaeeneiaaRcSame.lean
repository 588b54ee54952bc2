/-
  The contract of the statements' own SameChunks. Conditions: the chunks are there.
-/
import Derived.Test.YtabmhoiaeeneiaaRcRows
namespace Go.Proofs.Ytabmhoiaeeneiaa.Chk
open Go.RowKit Go.Proofs.Ytabmhoiaeeneiaa.Mod Go.Proofs.Ytabmhoiaeeneiaa.Num
set_option linter.unusedVariables false

theorem eq_of_getC {L M : List Ch} (hl : L.length = M.length) (h : ∀ k, k < L.length → L.getD k ch0 = M.getD k ch0) : L = M := by
  refine List.ext_getElem hl fun k a b => ?_
  have := h k a
  rwa [List.getD_eq_getElem?_getD, List.getD_eq_getElem?_getD, List.getElem?_eq_getElem a, List.getElem?_eq_getElem b] at this

theorem eq_cv (c d : Ch) (w : World) : (Op.equalIn 10000 34 (.agg #[.string (tx c.1), .int .i64 (c.2.1 : Int), .int .i64 (c.2.2 : Int)]) (.agg #[.string (tx d.1), .int .i64 (d.2.1 : Int), .int .i64 (d.2.2 : Int)])).run Try.prog w = .ok (decide (c = d)) w := by
  rw [eq_in, eq_ch]

set_option maxHeartbeats 1000000 in
theorem same_ok (ao bo : Option Addr) (L M : List Ch) (n m ca cb : Nat) (hn : n = L.length) (hm : m = M.length) (hx : n ≤ maxLen) (hy : m ≤ maxLen) (w : World) (hA : Slk w ao L) (hB : Slk w bo M) :
    Calls Try.prog 10 #[.slice ao n ca, .slice bo m cb] w fun e w' => e = .returned (.bool (decide (L = M))) ∧ ∃ q, w' = w.drewN q := by
  unfold maxLen at hx hy
  by_cases hnm : n = m
  · subst hnm
    have HA : Hid (Slk w ao L) := hA
    have HB : Hid (Slk w bo M) := hB
    have HN : Hid (n = L.length) := hn
    have HM : Hid (n = M.length) := hm
    clear hA hB hn hm
    obtain ⟨r, hr⟩ : ∃ r, decide (L = M) = r := ⟨_, rfl⟩
    rw [hr]
    have HR : Hid (decide (L = M) = r) := hr
    clear hr
    go_enter Try.func10, Try.ntmps10
    go_wp2
    go_loopw [5] (fun i wr => ∃ j : Nat, j ≤ n ∧ i = .int .i64 j ∧ Hid (∃ q, wr = w.drewN q) ∧ Hid (∀ k, k < j → L.getD k ch0 = M.getD k ch0)) (fun i _ => n - (intOf i).toNat)
    case atStart => exact ⟨0, Nat.zero_le _, rfl, ⟨0, rfl⟩, fun k hk => by omega⟩
    case round =>
      obtain ⟨j, hj, rfl, hw, hh⟩ := hrel
      by_cases hlt : j < n
      · obtain ⟨x, rfl, h0, h1, h2⟩ := HA.out j (HN.out ▸ hlt)
        obtain ⟨y, rfl, k0, k1, k2⟩ := HB.out j (HM.out ▸ hlt)
        have hd : decide ((j : Int) < (n : Int)) = true := decide_eq_true (by omega)
        have f0 : wr.cell? ⟨x, j * 3, none⟩ = some (.string (tx (L.getD j ch0).1)) := by obtain ⟨q, rfl⟩ := hw.out; exact h0
        have f1 : wr.cell? ⟨x, j * 3 + 1, none⟩ = some (.int .i64 ((L.getD j ch0).2.1 : Int)) := by obtain ⟨q, rfl⟩ := hw.out; exact h1
        have f2 : wr.cell? ⟨x, j * 3 + 2, none⟩ = some (.int .i64 ((L.getD j ch0).2.2 : Int)) := by obtain ⟨q, rfl⟩ := hw.out; exact h2
        have g0 : wr.cell? ⟨y, j * 3, none⟩ = some (.string (tx (M.getD j ch0).1)) := by obtain ⟨q, rfl⟩ := hw.out; exact k0
        have g1 : wr.cell? ⟨y, j * 3 + 1, none⟩ = some (.int .i64 ((M.getD j ch0).2.1 : Int)) := by obtain ⟨q, rfl⟩ := hw.out; exact k1
        have g2 : wr.cell? ⟨y, j * 3 + 2, none⟩ = some (.int .i64 ((M.getD j ch0).2.2 : Int)) := by obtain ⟨q, rfl⟩ := hw.out; exact k2
        clear h0 h1 h2 k0 k1 k2
        have E := eq_cv (L.getD j ch0) (M.getD j ch0)
        by_cases he : L.getD j ch0 = M.getD j ch0
        · have hh2 : Hid (∀ k, k < j + 1 → L.getD k ch0 = M.getD k ch0) := fun k hk => by
            rcases Nat.lt_or_ge k j with h | h
            · exact hh.out k h
            · obtain rfl : k = j := by omega
              exact he
          rw [decide_eq_true he] at E
          clear he hh
          generalize L.getD j ch0 = c at *
          generalize M.getD j ch0 = d at *
          go_wp2
          go_quiet (fail)
          trace_state
          go_wp2
          go_roundw
          case rel => exact ⟨j + 1, by omega, by go_num, (by obtain ⟨q, e⟩ := hw.out; exact ⟨_, by rw [e, World.drewN_drewN]⟩ : ∃ q, _ = w.drewN q), hh2⟩
          case measure => simp [intOf]; omega
        · obtain rfl : r = false := HR.out.symm.trans (decide_eq_false fun e => he (by rw [e]))
          rw [decide_eq_false he] at E
          clear he hh
          generalize L.getD j ch0 = c at *
          generalize M.getD j ch0 = d at *
          go_wp2
          go_quiet (fail)
          go_wp2
          go_ret
          exact ⟨rfl, by obtain ⟨q, e⟩ := hw.out; exact ⟨_, by rw [e, World.drewN_drewN]⟩⟩
      · obtain rfl : j = n := by omega
        have hd : decide ((j : Int) < (j : Int)) = false := decide_eq_false (by omega)
        obtain rfl : r = true := HR.out.symm.trans (decide_eq_true (eq_of_getC (HN.out.symm.trans HM.out) (fun k hk => hh.out k (HN.out.symm ▸ hk))))
        go_wp2
        go_ret
        exact ⟨rfl, hw.out⟩
  · have hne : decide (L = M) = false := decide_eq_false fun e => hnm (by rw [hn, hm, e])
    rw [hne]
    clear hA hB hn hm
    have hb : ((n : Int) != (m : Int)) = true := by simp; omega
    go_enter Try.func10, Try.ntmps10
    go_wp2
    go_ret
    exact ⟨rfl, 0, rfl⟩

end Go.Proofs.Ytabmhoiaeeneiaa.Chk
