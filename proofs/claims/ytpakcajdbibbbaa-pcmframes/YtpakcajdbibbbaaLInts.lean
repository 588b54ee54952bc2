/-
  The contracts of the statements' own functions on rows of ints: SameInts, CopyInts, LendInts, KeptInts. Conditions: the rows are there; a copied one is within the reach.
-/
import Derived.Test.YtpakcajdbibbbaaGRow
import Derived.Test.YtpakcajdbibbbaaNum
import Derived.Test.YtpakcajdbibbbaaRows
import Derived.ProofKit
import Derived.Deep.QuietTactic
import Derived.BigQuiet
import Derived.RegionTactic
namespace Go.Proofs.Ytpakcajdbibbbaa.Ints
open Go.RowKit Go.Proofs.Ytpakcajdbibbbaa.Mod
set_option linter.unusedVariables false

theorem eq_of_getD {L M : List Int} (hl : L.length = M.length) (h : ∀ k, k < L.length → L.getD k 0 = M.getD k 0) : L = M := by
  refine List.ext_getElem hl fun k a b => ?_
  have := h k a
  rwa [List.getD_eq_getElem?_getD, List.getD_eq_getElem?_getD, List.getElem?_eq_getElem a, List.getElem?_eq_getElem b] at this

set_option maxHeartbeats 1000000 in
theorem same_ok (ao bo : Option Addr) (L M : List Int) (n m ca cb : Nat) (hn : n = L.length) (hm : m = M.length) (hx : n ≤ maxLen) (hy : m ≤ maxLen) (w : World) (hA : Slc w ao L) (hB : Slc w bo M) :
    Calls Try.prog 18 #[.slice ao n ca, .slice bo m cb] w fun e w' => e = .returned (.bool (decide (L = M))) ∧ ∃ q, w' = w.drewN q := by
  unfold maxLen at hx hy
  by_cases hnm : n = m
  · subst hnm
    have HA : Hid (Slc w ao L) := hA
    have HB : Hid (Slc w bo M) := hB
    have HN : Hid (n = L.length) := hn
    have HM : Hid (n = M.length) := hm
    clear hA hB hn hm
    obtain ⟨r, hr⟩ : ∃ r, decide (L = M) = r := ⟨_, rfl⟩
    rw [hr]
    have HR : Hid (decide (L = M) = r) := hr
    clear hr
    go_enter Try.func18, Try.ntmps18
    go_wp2
    go_loopw [5] (fun i wr => ∃ j q : Nat, j ≤ n ∧ i = .int .i64 j ∧ wr = w.drewN q ∧ Hid (∀ k, k < j → L.getD k 0 = M.getD k 0)) (fun i _ => n - (intOf i).toNat)
    case atStart => exact ⟨0, 0, Nat.zero_le _, rfl, rfl, fun k hk => by omega⟩
    case round =>
      obtain ⟨j, q, hj, rfl, rfl, hh⟩ := hrel
      by_cases hlt : j < n
      · obtain ⟨x, rfl, hc⟩ := HA.out j (HN.out ▸ hlt)
        obtain ⟨y, rfl, hd⟩ := HB.out j (HM.out ▸ hlt)
        by_cases he : L.getD j 0 = M.getD j 0
        · have hh2 : Hid (∀ k, k < j + 1 → L.getD k 0 = M.getD k 0) := fun k hk => by
            rcases Nat.lt_or_ge k j with h | h
            · exact hh.out k h
            · obtain rfl : k = j := by omega
              exact he
          rw [← he] at hd
          clear he hh
          generalize L.getD j 0 = p at *
          have hb : (p != p) = false := by simp
          go_wp2
          go_quiet (fail)
          go_wp2
          go_roundw
          case rel => exact ⟨j + 1, _, by omega, by go_num, by first | rfl | (simp; rfl), hh2⟩
          case measure => simp [intOf]; omega
        · obtain rfl : r = false := HR.out.symm.trans (decide_eq_false fun e => he (by rw [e]))
          generalize L.getD j 0 = p at *
          generalize M.getD j 0 = p' at *
          have hb : (p != p') = true := by simpa using he
          go_wp2
          go_quiet (fail)
          go_wp2
          go_ret
          exact ⟨rfl, _, World.drewN_drewN ..⟩
      · obtain rfl : j = n := by omega
        obtain rfl : r = true := HR.out.symm.trans (decide_eq_true (eq_of_getD (HN.out.symm.trans HM.out) (fun k hk => hh.out k (HN.out.symm ▸ hk))))
        go_wp2
        go_ret
        exact ⟨rfl, _, rfl⟩
  · have hne : decide (L = M) = false := decide_eq_false fun e => hnm (by rw [hn, hm, e])
    rw [hne]
    clear hA hB hn hm
    have hb : ((n : Int) != (m : Int)) = true := by simp; omega
    go_enter Try.func18, Try.ntmps18
    go_wp2
    go_ret
    exact ⟨rfl, 0, rfl⟩

theorem info_int : (Try.prog.info? 3).map (fun i => (i.zero, i.size, i.bytes)) = some (some (.int .i64 0), 1, 8) := by kernel_rfl

theorem holds_front {w : World} {g : Nat} {L M : List Int} (h : Holds w g (L ++ M)) : Holds w g L := by
  have := h.take L.length
  rwa [List.take_left] at this

end Go.Proofs.Ytpakcajdbibbbaa.Ints
