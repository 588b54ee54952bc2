/-
  The contract of side.may. Conditions: the rows are there.
-/
import Derived.Test.YtkkdlnolpjbjeaaSdNum
import Derived.Test.YtkkdlnolpjbjeaaGHas
import Derived.Test.YtkkdlnolpjbjeaaGList
namespace Go.Proofs.Ytkkdlnolpjbjeaa.Sid
open Go.RowKit Go.Proofs.Ytkkdlnolpjbjeaa.Mod Go.Proofs.Ytkkdlnolpjbjeaa.Lin
set_option linter.unusedVariables false

theorem has_ok (ao : Option Addr) (L : List Int) (cap : Nat) (hx : L.length ≤ maxLen) (w : World) (hA : Slc w ao L) :
    Calls Try.prog 24 #[.slice ao L.length cap, .func (.func 25) #[.int .i64 131072] #[]] w fun e w' => e = .returned (.bool (!okRow L)) ∧ w' = w := by
  have := Has.contains_slc 131072 (by decide) (by decide) ao L L.length cap rfl hx w hA
  unfold okRow
  rwa [Bool.not_not]

set_option maxHeartbeats 1000000 in
theorem may_ok (ao : Option Addr) (Ls : List (List Int)) (n cap : Nat) (hn : n = Ls.length) (hx : n ≤ maxLen) (w : World) (hA : Lls w ao Ls) :
    Calls Try.prog 22 #[.slice ao n cap] w fun e w' => e = .returned (.bool (chsMay Ls)) ∧ w' = w := by
  unfold maxLen at hx
  by_cases h1 : n < 1
  · rw [chsMay_none (by omega)]
    have hd : decide ((n : Int) < 1) = true := decide_eq_true (by omega)
    clear hA hn
    go_enter Try.func22, Try.ntmps22
    go_wp2
    go_ret
    exact ⟨rfl, rfl⟩
  by_cases h2 : 2 < n
  · rw [chsMay_many (by omega)]
    have hd : decide ((n : Int) < 1) = false := decide_eq_false (by omega)
    have he : decide ((2 : Int) < (n : Int)) = true := decide_eq_true (by omega)
    clear hA hn
    go_enter Try.func22, Try.ntmps22
    go_wp2
    go_ret
    exact ⟨rfl, rfl⟩
  rw [chsMay_some (by omega) (by omega)]
  obtain ⟨r, hr⟩ : ∃ r, rowsMay Ls = r := ⟨_, rfl⟩
  rw [hr]
  have HR : Hid (rowsMay Ls = r) := hr
  have hmf : ∀ (fn : Fn) (first cap : Array Value) (w : World), (Instr.makeFunc fn first cap).run Try.prog w = .ok (.func fn first cap) w := fun _ _ _ _ => rfl
  have hd : decide ((n : Int) < 1) = false := decide_eq_false (by omega)
  have he : decide ((2 : Int) < (n : Int)) = false := decide_eq_false (by omega)
  obtain ⟨x, rfl, b0, c0, p0, s0, z0, t0⟩ := hA 0 (by omega)
  have HN : Hid (n = Ls.length) := hn
  have HA : Hid (Lls w (some x) Ls) := hA
  have S0 : Hid ((Ls.getD 0 []).length * 8 ≤ 140737488351232) := s0
  clear hr hA hn t0 z0 s0
  obtain ⟨l0, hl0⟩ : ∃ l0, (Ls.getD 0 []).length = l0 := ⟨_, rfl⟩
  rw [hl0] at p0 S0
  replace p0 : w.cell? x = some (.slice b0 l0 c0) := by rw [Addr.add_zero'] at p0; exact p0
  have L0 : Hid ((Ls.getD 0 []).length = l0) := hl0
  clear hl0
  go_enter Try.func22, Try.ntmps22
  go_wp2
  go_loopw [15] (fun i wr => ∃ j : Nat, j ≤ n ∧ i = .int .i64 j ∧ Hid (∀ k, k < j → (Ls.getD k []).length = (Ls.getD 0 []).length ∧ okRow (Ls.getD k []) = true) ∧ wr = w) (fun i _ => n - (intOf i).toNat)
  case atStart => exact ⟨0, Nat.zero_le _, rfl, fun k hk => by omega, rfl⟩
  case round =>
    obtain ⟨j, hj, rfl, hh, rfl⟩ := hrel
    by_cases hlt : j < n
    · obtain ⟨y, hy, b1, c1, p1, s1, z1, t1⟩ := HA.out j (HN.out ▸ hlt)
      cases hy
      have hj2 : decide ((j : Int) < (n : Int)) = true := decide_eq_true (by omega)
      have C : Hid (Calls Try.prog 24 #[.slice b1 (Ls.getD j []).length c1, .func (.func 25) #[.int .i64 131072] #[]] wr fun e w' => e = .returned (.bool (!okRow (Ls.getD j []))) ∧ w' = wr) := has_ok b1 (Ls.getD j []) c1 (by unfold maxLen; omega) wr t1
      clear t1 z1 s1
      obtain ⟨l1, hl1⟩ : ∃ l1, (Ls.getD j []).length = l1 := ⟨_, rfl⟩
      obtain ⟨o, ho⟩ : ∃ o, okRow (Ls.getD j []) = o := ⟨_, rfl⟩
      rw [hl1] at p1 C
      rw [ho] at C
      have L1 : Hid ((Ls.getD j []).length = l1) := hl1
      have O1 : Hid (okRow (Ls.getD j []) = o) := ho
      clear hl1 ho
      by_cases hl : l1 = l0
      · subst hl
        have hb : ((l1 : Int) != (l1 : Int)) = false := by simp
        cases o
        · obtain rfl : r = false := HR.out.symm.trans (rowsMay_no j (HN.out ▸ hlt) (.inr O1.out))
          go_wp2_with fail
          refine C.out.mono ?_
          rintro e w1 ⟨rfl, rfl⟩
          go_wp2
          go_ret
          exact ⟨rfl, rfl⟩
        · have hh2 : Hid (∀ k, k < j + 1 → (Ls.getD k []).length = (Ls.getD 0 []).length ∧ okRow (Ls.getD k []) = true) := fun k hk => by
            rcases Nat.lt_or_ge k j with h | h
            · exact hh.out k h
            · obtain rfl : k = j := by omega
              exact ⟨L1.out.trans L0.out.symm, O1.out⟩
          clear hh
          go_wp2_with fail
          refine C.out.mono ?_
          rintro e w1 ⟨rfl, rfl⟩
          go_wp2
          go_roundw
          case rel => exact ⟨j + 1, by omega, by go_num, hh2, by trivial⟩
          case measure => simp [intOf]; omega
      · obtain rfl : r = false := HR.out.symm.trans (rowsMay_no j (HN.out ▸ hlt) (.inl (by rw [L1.out, L0.out]; exact hl)))
        have hb : ((l1 : Int) != (l0 : Int)) = true := by simp; omega
        clear C
        go_wp2
        go_ret
        exact ⟨rfl, rfl⟩
    · obtain rfl : j = n := by omega
      have hj2 : decide ((j : Int) < (j : Int)) = false := decide_eq_false (by omega)
      obtain rfl : r = true := HR.out.symm.trans (rowsMay_yes (fun k hk => hh.out k (HN.out.symm ▸ hk)))
      go_wp2
      go_ret
      exact ⟨rfl, rfl⟩

end Go.Proofs.Ytkkdlnolpjbjeaa.Sid
