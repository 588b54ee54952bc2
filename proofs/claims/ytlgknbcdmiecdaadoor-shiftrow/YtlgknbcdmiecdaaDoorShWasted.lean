/-
  The contract of Wasted. Conditions: the row is there; the library's table is laid as its text lays it.
-/
import Derived.Test.YtlgknbcdmiecdaaDoorShTz
import Derived.Test.YtlgknbcdmiecdaaDoorGHas
namespace Go.Proofs.YtlgknbcdmiecdaaDoor.Shf
open Go.RowKit Go.Sort Go.Proofs.YtlgknbcdmiecdaaDoor.Mod Go.Proofs.YtlgknbcdmiecdaaDoor.Lin Go.Proofs.YtlgknbcdmiecdaaDoor.Has
set_option linter.unusedVariables false
set_option linter.unusedSimpArgs false

theorem min15 (c k : Nat) (h : min c 15 = k) (ts : Array TypeId) (t : TypeId) (w : World) : (Builtin.min_ ts t #[.int .i64 (c : Int), .int .i64 15]).run Tryd.prog w = .ok (.int .i64 (k : Int)) w := by
  rw [run_min_int2]
  have e : (if (15 : Int) < (c : Int) then (15 : Int) else (c : Int)) = (k : Int) := by split <;> omega
  rw [e]

set_option maxHeartbeats 1000000 in
theorem wasted_ok (ao : Option Addr) (L : List Int) (n cap : Nat) (hn : n = L.length) (hx : n ≤ maxLen) (w : World) (T : Tab w) (hA : Slc w ao L) :
    Calls Tryd.prog 10 #[.slice ao n cap] w fun e w' => e = .returned (.tuple #[.int .i64 (wstV L), .int .i64 (wstE L)]) ∧ w' = w := by
  have C := contains_slc 131072 (by decide) (by decide) ao L n cap hn hx w hA
  have hmf : ∀ (fn : Fn) (first cap : Array Value) (w : World), (Instr.makeFunc fn first cap).run Tryd.prog w = .ok (.func fn first cap) w := fun _ _ _ _ => rfl
  unfold maxLen at hx
  cases ho : okRow L
  · have hc : anyOf (passed 131072) (fun j => L.getD j 0) n = true := by
      unfold okRow at ho
      rw [hn]
      simpa using ho
    rw [hc] at C
    have CC : Hid (Calls Tryd.prog 22 #[.slice ao n cap, .func (.func 23) #[.int .i64 131072] #[]] w fun e w' => e = .returned (.bool true) ∧ w' = w) := C
    have e1 : wstV L = 0 := by unfold wstV; rw [ho]; rfl
    have e2 : wstE L = 1800 := by unfold wstE; rw [ho]; rfl
    rw [e1, e2]
    clear C hc ho e1 e2 hA hn
    go_enter Tryd.func10, Tryd.ntmps10
    go_wp2_with fail
    refine (CC.out).mono ?_
    rintro e w1 ⟨rfl, rfl⟩
    go_wp2
    go_ret2
    exact ⟨rfl, rfl⟩
  · have hc : anyOf (passed 131072) (fun j => L.getD j 0) n = false := by
      unfold okRow at ho
      rw [hn]
      simpa using ho
    rw [hc] at C
    have CC : Hid (Calls Tryd.prog 22 #[.slice ao n cap, .func (.func 23) #[.int .i64 131072] #[]] w fun e w' => e = .returned (.bool false) ∧ w' = w) := C
    have e1 : wstV L = (wstL L : Int) := by unfold wstV; rw [ho]; rfl
    have e2 : wstE L = 0 := by unfold wstE; rw [ho]; rfl
    rw [e1, e2]
    have HA : Hid (∀ j, j < n → ∃ x, ao = some x ∧ w.cell? (x.add j) = some (.int .i64 (L.getD j 0))) := fun j hj => hA j (hn ▸ hj)
    have EW : wstL L = wst (laidTo (fun j => L.getD j 0) n) := by unfold wstL; rw [hn]
    rw [EW]
    generalize hf : (fun j => L.getD j 0) = f at *
    have FE : Hid (∀ j, L.getD j 0 = f j) := fun j => by rw [← hf]
    have TT : Hid (Tab w) := T
    have IN : Hid (In64 (laidTo f n)) := laid_in f n
    obtain ⟨k, hk⟩ : ∃ k, wst (laidTo f n) = k := ⟨_, rfl⟩
    rw [hk]
    have HK : Hid (wst (laidTo f n) = k) := hk
    clear C hc ho e1 e2 hA hn EW hf T hk
    go_enter Tryd.func10, Tryd.ntmps10
    go_wp2_with fail
    refine (CC.out).mono ?_
    rintro e w1 ⟨rfl, rfl⟩
    go_wp2
    go_loopw [4, 12] (fun o i wr => ∃ j : Nat, j ≤ n ∧ i = .int .i64 (j : Int) ∧ o = .int .i64 (laidTo f j) ∧ wr = w1) (fun _ i _ => n - (intOf i).toNat)
    case atStart => exact ⟨0, Nat.zero_le _, rfl, rfl, rfl⟩
    case round =>
      obtain ⟨j, hj, rfl, rfl, rfl⟩ := hrel
      by_cases hlt : j < n
      · obtain ⟨x, rfl, c⟩ := HA.out j hlt
        have hd : decide ((j : Int) < (n : Int)) = true := decide_eq_true (by omega)
        rw [FE.out] at c
        have E : Hid (laidTo f (j + 1) = bits .or .i64 (laidTo f j) (f j)) := rfl
        generalize laidTo f j = a at *
        generalize f j = y at *
        go_wp2
        go_roundw
        case rel => exact ⟨j + 1, by omega, by go_num, by rw [E.out], by trivial⟩
        case measure => simp [intOf]; omega
      · have hjn : n = j := by omega
        subst hjn
        have hd : decide ((n : Int) < (n : Int)) = false := decide_eq_false (by omega)
        generalize laidTo f n = a at *
        by_cases h0 : a = 0
        · subst h0
          obtain rfl : k = 0 := HK.out.symm.trans wst_zero
          clear HK
          go_wp2
          go_ret2
          exact ⟨rfl, rfl⟩
        · have hb : (a == 0) = false := by simpa using h0
          have Z : Hid (Calls Tryd.prog 24 #[.int .u64 (IntKind.u64.wrap a)] wr fun e w' => e = .returned (.int .i64 ((Lib.ctz 64 (a % 18446744073709551616).toNat : Nat) : Int)) ∧ w' = wr) := tz_ok a IN.out h0 wr TT.out
          have M : ∀ (ts : Array TypeId) (t : TypeId) (w : World), (Builtin.min_ ts t #[.int .i64 ((Lib.ctz 64 (a % 18446744073709551616).toNat : Nat) : Int), .int .i64 15]).run Tryd.prog w = .ok (.int .i64 (k : Int)) w := fun ts t w => min15 _ _ (by rw [← HK.out]; unfold wst; rw [if_neg h0]) ts t w
          clear IN h0 HA FE HK
          generalize Lib.ctz 64 (a % 18446744073709551616).toNat = c at *
          go_wp2_with fail
          refine (Z.out).mono ?_
          rintro e w2 ⟨rfl, rfl⟩
          go_wp2
          go_ret2
          exact ⟨rfl, rfl⟩

end Go.Proofs.YtlgknbcdmiecdaaDoor.Shf
