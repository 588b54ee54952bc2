/-
  The contract of the reference's samplesMay. Condition: the row is there.
-/
import Derived.Test.YtlgknbcdmiecdaaDoorGUp
namespace Go.Proofs.YtlgknbcdmiecdaaDoor.Has
open Go.RowKit Go.Sort Go.Proofs.YtlgknbcdmiecdaaDoor.Mod Go.Proofs.YtlgknbcdmiecdaaDoor.Lin
set_option linter.unusedVariables false

set_option maxHeartbeats 1000000 in
theorem samples_ok (ao : Option Addr) (L : List Int) (n cap : Nat) (hn : n = L.length) (hx : n ≤ maxLen) (w : World) (hA : Slc w ao L) :
    Calls Tryd.prog 25 #[.slice ao n cap] w fun e w' => e = .returned (.bool (!anyOf (passed 131072) (fun j => L.getD j 0) n)) ∧ w' = w := by
  unfold maxLen at hx
  have P : Hid (∀ x w, Calls Tryd.prog 32 #[.int .i64 x] w fun e w' => e = .returned (.bool (!passed 131072 x)) ∧ w' = w) := fun x w => sample_ok x w
  have CS : Hid (∀ j, j < n → ∃ x, ao = some x ∧ w.cell? (x.add j) = some (.int .i64 (L.getD j 0))) := fun j hj => hA j (hn ▸ hj)
  clear hA hn
  generalize hf : (fun j => L.getD j 0) = f at *
  have FE : ∀ j, L.getD j 0 = f j := fun j => by rw [← hf]
  clear hf
  simp only [FE] at CS
  clear FE
  obtain ⟨r, hr⟩ : ∃ r, (!anyOf (passed 131072) f n) = r := ⟨_, rfl⟩
  rw [hr]
  have HR : Hid ((!anyOf (passed 131072) f n) = r) := hr
  clear hr
  go_enter Tryd.func25, Tryd.ntmps25
  go_wp2
  go_loopw [3] (fun i wr => ∃ j : Nat, j ≤ n ∧ i = .int .i64 (j : Int) ∧ Hid (∀ i, i < j → passed 131072 (f i) = false) ∧ wr = w) (fun i _ => n - (intOf i).toNat)
  case atStart => exact ⟨0, by omega, rfl, (fun i hi => by omega : ∀ i, i < 0 → passed 131072 (f i) = false), rfl⟩
  case round =>
    obtain ⟨j, hj, rfl, HN, rfl⟩ := hrel
    by_cases hlt : j < n
    · obtain ⟨a, rfl, hc⟩ := CS.out j hlt
      have hd : decide ((j : Int) < (n : Int)) = true := decide_eq_true (by omega)
      obtain ⟨x, hx⟩ : ∃ x, f j = x := ⟨_, rfl⟩
      rw [hx] at hc
      cases hp : passed 131072 x
      · have HN2 : Hid (∀ i, i < j + 1 → passed 131072 (f i) = false) := fun i hi => by
          rcases Nat.lt_or_ge i j with h | h
          · exact HN.out i h
          · obtain rfl : i = j := by omega
            rw [hx]; exact hp
        have PP := P.out x
        rw [hp] at PP
        have PQ : Hid (∀ w, Calls Tryd.prog 32 #[.int .i64 x] w fun e w' => e = .returned (.bool true) ∧ w' = w) := PP
        clear PP hx hp HN
        go_wp2_with fail
        refine (PQ.out _).mono ?_
        rintro e w1 ⟨rfl, rfl⟩
        go_wp2
        go_roundw
        case rel => exact ⟨j + 1, by omega, by go_num, HN2, by trivial⟩
        case measure => simp [intOf]; omega
      · have HA : Hid (r = false) := HR.out.symm.trans (by rw [anyOf_yes j hlt (by rw [hx]; exact hp)]; rfl)
        have PP := P.out x
        rw [hp] at PP
        have PQ : Hid (∀ w, Calls Tryd.prog 32 #[.int .i64 x] w fun e w' => e = .returned (.bool false) ∧ w' = w) := PP
        clear PP hx hp HN
        go_wp2_with fail
        refine (PQ.out _).mono ?_
        rintro e w1 ⟨rfl, rfl⟩
        go_wp2
        go_ret
        exact ⟨by rw [HA.out]; rfl, rfl⟩
    · have hd : decide ((j : Int) < (n : Int)) = false := decide_eq_false (by omega)
      have HA : Hid (r = true) := HR.out.symm.trans (by rw [anyOf_no fun i hi => HN.out i (by omega)]; rfl)
      clear HN
      go_wp2
      go_ret
      exact ⟨by rw [HA.out]; rfl, rfl⟩

end Go.Proofs.YtlgknbcdmiecdaaDoor.Has
