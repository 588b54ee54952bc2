/-
  ModelEven answers true for every four ints. Condition: the package's table is laid as its text lays it.
-/
import Derived.Test.YtnldnkcfeclmpaaDoorNTrace
namespace Go.Proofs.YtnldnkcfeclmpaaDoor.Mod
open Go.RowKit Go.Sort
set_option linter.unusedVariables false
set_option linter.unusedSimpArgs false

theorem mask (x : Int) : ∃ a : Nat, a < 64 ∧ bits .and .i64 x 63 = (a : Int) := ⟨(x % 64).toNat, by omega, by rw [and63]; omega⟩

set_option maxRecDepth 20000 in
set_option maxHeartbeats 4000000 in
theorem even_walk (x y z many : Int) (w : World) (T : Str.Tab w) :
    Calls Tryd.prog 7 #[.agg #[.int .i64 x, .int .i64 y, .int .i64 z], .int .i64 many] w fun e w' => e = .returned (.bool true) ∧ Bel w w' := by
  have TT : Hid (Str.Tab w) := T
  obtain ⟨a, ha, m0⟩ := mask x
  obtain ⟨b, hb, m1⟩ := mask y
  obtain ⟨c, hc, m2⟩ := mask z
  obtain ⟨n, hn, mn⟩ := mask many
  have wk := walkF_ok _ _ 126 0 turns
  have gd : ∀ k, k ≤ 126 → goodF (runF (fun k => ((k % 2 : Nat) : Int)) k) = true := fun k hk => by
    have := wk k (by omega) (by omega)
    rw [Bool.and_eq_true] at this
    exact this.1
  have pp : 1024 < tellF (runF (fun k => ((k % 2 : Nat) : Int)) (2 * n)) ∧ tellF (runF (fun k => ((k % 2 : Nat) : Int)) (2 * n)) < 3072 := by
    have := wk (2 * n) (by omega) (by omega)
    rw [Bool.and_eq_true] at this
    have h2 := this.2
    rw [show 2 * n % 2 = 0 by omega] at h2
    simpa using h2
  have zz := zero26
  have ZL : Hid (zeros.length = 195) := zeros_len
  have NW : Hid (∀ w, Calls Tryd.prog 15 #[] w fun e w' => e = .returned (mdl (runM a b c (fun k => ((k % 2 : Nat) : Int)) 0)) ∧ Bel w w') := show ∀ w, Calls Tryd.prog 15 #[] w fun e w' => e = .returned (mdl (runM a b c (fun k => ((k % 2 : Nat) : Int)) 0)) ∧ Bel w w' by rw [run_zero ha hb hc]; exact new_ok
  have RL : Hid (∀ k, (runM a b c (fun k => ((k % 2 : Nat) : Int)) k).length = 195) := fun k => run_len ha hb hc _ k
  have LE : Hid (∀ k, k < 126 → ∀ w, Str.Tab w → Calls Tryd.prog 10 #[mdl (runM a b c (fun k => ((k % 2 : Nat) : Int)) k), .agg #[.int .i64 (a : Int), .int .i64 (b : Int), .int .i64 (c : Int)], .int .i64 ((k % 2 : Nat) : Int)] w fun e w' => e = .returned (.tuple #[mdl (runM a b c (fun k => ((k % 2 : Nat) : Int)) (k + 1)), .int .i64 0]) ∧ Bel w w') := fun k hk w T => by
    have g := gd k (by omega)
    have := learn_yes _ (run_len ha hb hc _ k) a b c ha hb hc ((k % 2 : Nat) : Int) (decide_eq_true (by omega)) (run_may ha hb hc _ k g) w T
    rwa [run_next ha hb hc _ k g] at this
  have PE : Hid (∀ w, Str.Tab w → Calls Tryd.prog 8 #[mdl (runM a b c (fun k => ((k % 2 : Nat) : Int)) (2 * n)), .agg #[.int .i64 (a : Int), .int .i64 (b : Int), .int .i64 (c : Int)]] w fun e w' => e = .returned (.tuple #[.int .i64 (tellF (runF (fun k => ((k % 2 : Nat) : Int)) (2 * n))), .int .i64 0]) ∧ Bel w w') := fun w T => by
    have g := gd (2 * n) (by omega)
    have := p_yes _ (run_len ha hb hc _ (2 * n)) a b c ha hb hc (run_may ha hb hc _ (2 * n) g) w T
    rwa [run_tell ha hb hc _ (2 * n) g] at this
  have ne : ∀ k, runM a b c (fun k => ((k % 2 : Nat) : Int)) k ≠ zeros := fun k e => by
    have g := sameM_get a b c (runF (fun k => ((k % 2 : Nat) : Int)) k).1 (runF (fun k => ((k % 2 : Nat) : Int)) k).2 (if a = 0 then 1 else 0) (by split <;> omega)
    have h : (runM a b c (fun k => ((k % 2 : Nat) : Int)) k).getD (if a = 0 then 1 else 0) 0 = 0 := by rw [e]; split <;> decide +kernel
    unfold runM at h
    rw [h, sameF, if_neg (by split <;> omega), if_pos (by split <;> omega)] at g
    omega
  have EN : ∀ w, (Op.equalIn 10000 26 (mdl (runM a b c (fun k => ((k % 2 : Nat) : Int)) (2 * n))) (mdl zeros)).run Tryd.prog w = .ok false w := fun w => by rw [eq_in26 _ _ (run_len ha hb hc _ _) zeros_len, decide_eq_false (ne _)]
  clear wk gd T ha hb hc ne
  generalize tellF (runF (fun k => ((k % 2 : Nat) : Int)) (2 * n)) = p at *
  generalize runM a b c (fun k => ((k % 2 : Nat) : Int)) = R at *
  have hp : decide (p > 1024) = true := decide_eq_true pp.1
  have hq : decide (p < 3072) = true := decide_eq_true pp.2
  clear pp
  go_enter Tryd.func7, Tryd.ntmps7
  go_wp2_with fail
  refine (awake_true _ (tab_bel TT.out ((Bel.refl _).alloc _))).mono ?_
  rintro e w1 ⟨rfl, b1⟩
  have k0 : w1.cell? ⟨w.heap.size, 0, none⟩ = some (.int .i64 x) := b1.keep (by simp)
  have k1 : w1.cell? ⟨w.heap.size, 1, none⟩ = some (.int .i64 y) := b1.keep (by simp)
  have k2 : w1.cell? ⟨w.heap.size, 2, none⟩ = some (.int .i64 z) := b1.keep (by simp)
  have B1 : Hid (Bel w w1) := ((Bel.refl w).alloc _).trans b1
  clear b1
  go_wp2_with fail
  clear k0 k1 k2 m0 m1 m2
  refine (NW.out _).mono ?_
  rintro e w2 ⟨rfl, b2⟩
  have C2 : Hid (Holds (w2.alloc (.cells (vals (R 0)).toArray 26)) w1.heap.size [(a : Int), (b : Int), (c : Int)]) := ((holds_at rfl [(a : Int), (b : Int), (c : Int)] 24).bel b2).bel ((Bel.refl _).alloc _)
  have M2 : Hid (Holds (w2.alloc (.cells (vals (R 0)).toArray 26)) w2.heap.size (R 0)) := holds_new _ _ _
  have B2 : Hid (Bel w (w2.alloc (.cells (vals (R 0)).toArray 26))) := Bel.alloc ((B1.out.alloc _).trans b2) _
  have B2size : Hid (w.heap.size ≤ w2.heap.size) := Below.size ((B1.out.alloc _).trans b2)
  have L2 : Hid (w1.heap.size < w2.heap.size) := show w1.heap.size < w2.heap.size from by
    have := b2.size
    simp at this
    omega
  clear b2 B1 NW
  go_wp2_with (first | (with_reducible refine wpl_store26n ZL.out (RL.out 0) rfl rfl ?_))
  go_loopw [7] (fun i wr => ∃ j : Nat, j ≤ 2 * n ∧ i = .int .i64 (j : Int) ∧ Holds wr w2.heap.size (R j) ∧ Holds wr w1.heap.size [(a : Int), (b : Int), (c : Int)] ∧ Bel w wr) (fun i _ => 2 * n - (intOf i).toNat)
  case atStart => exact ⟨0, by omega, rfl, M2.out, C2.out, B2.out⟩
  case round =>
    obtain ⟨j, hj, rfl, hm, hcx, hb⟩ := hrel
    have M3 : Hid (Holds wr w2.heap.size (R j)) := hm
    have C3 : Hid (Holds wr w1.heap.size [(a : Int), (b : Int), (c : Int)]) := hcx
    have B3 : Hid (Bel w wr) := hb
    have k0 : wr.cell? ⟨w1.heap.size, 0, none⟩ = some (.int .i64 (a : Int)) := hcx.cell 0 (by simp)
    have k1 : wr.cell? ⟨w1.heap.size, 1, none⟩ = some (.int .i64 (b : Int)) := hcx.cell 1 (by simp)
    have k2 : wr.cell? ⟨w1.heap.size, 2, none⟩ = some (.int .i64 (c : Int)) := hcx.cell 2 (by simp)
    clear hm hcx hb M2 C2 B2
    by_cases hlt : j < 2 * n
    · have hd : decide ((j : Int) < 2 * (n : Int)) = true := decide_eq_true (by omega)
      have mb : bits .and .i64 (j : Int) 1 = ((j % 2 : Nat) : Int) := by rw [and1]; omega
      go_wp2_with (first | (with_reducible refine wpl_load26' M3.out (RL.out j) rfl ?_))
      refine (LE.out j (by omega) _ (tab_bel TT.out B3.out)).mono ?_
      rintro e w3 ⟨rfl, b3⟩
      have m4 := (M3.out.bel b3).bel ((Bel.refl _).alloc (.cells (vals (R (j + 1))).toArray 26))
      have c4 := (C3.out.bel b3).bel ((Bel.refl _).alloc (.cells (vals (R (j + 1))).toArray 26))
      have n4 := holds_new w3 (R (j + 1)) 26
      have l4 : w2.heap.size < w3.heap.size := block_lt_of_cell ((M3.out.bel b3).cell 0 (by rw [RL.out]; decide))
      have b4 : Bel w (w3.alloc (.cells (vals (R (j + 1))).toArray 26)) := Bel.alloc (B3.out.trans b3) _
      go_wp2_with (first | (with_reducible refine wpl_store26n ZL.out (RL.out (j + 1)) rfl rfl ?_))
      generalize w3.alloc (.cells (vals (R (j + 1))).toArray 26) = W at *
      refine (Cnt.num_ok _ _).mono ?_
      rintro e W1 ⟨rfl, rfl⟩
      have M4 : Hid (Holds W1 w2.heap.size (R j)) := m4
      have C4 : Hid (Holds W1 w1.heap.size [(a : Int), (b : Int), (c : Int)]) := c4
      have N4 : Hid (Holds W1 w3.heap.size (R (j + 1))) := n4
      have B4 : Hid (Bel w W1) := b4
      have L4 : Hid (w2.heap.size < w3.heap.size) := l4
      clear m4 c4 n4 b4 l4 b3 k0 k1 k2 M3 C3 B3
      have B5 : Hid (Bel w (W1.setCells w2.heap.size 0 (vals (R (j + 1))))) := Bel.setCells (by
        have h1 := B2size.out
        omega) _ _ B4.out
      go_wp2_with (first
        | (with_reducible refine wpl_load26' N4.out (RL.out (j + 1)) rfl ?_)
        | (with_reducible refine wpl_store26 M4.out (RL.out j) (RL.out (j + 1)) rfl rfl ?_))
      go_roundw
      case rel =>
        have h1 := L2.out
        exact ⟨j + 1, by omega, by go_num, holds_all M4.out _ (by rw [RL.out, RL.out]), Holds.others (by omega) _ _ C4.out, B5.out⟩
      case measure => simp [intOf]; omega
    · obtain rfl : j = 2 * n := by omega
      have hd : decide (((2 * n : Nat) : Int) < 2 * (n : Int)) = false := decide_eq_false (by omega)
      go_wp2_with (first | (with_reducible refine wpl_load26' M3.out (RL.out (2 * n)) rfl ?_))
      refine (PE.out _ (tab_bel TT.out B3.out)).mono ?_
      rintro e w3 ⟨rfl, b3⟩
      have B4 : Hid (Bel w w3) := B3.out.trans b3
      have M4 : Hid (Holds w3 w2.heap.size (R (2 * n))) := M3.out.bel b3
      clear b3 k0 k1 k2 M3 C3 B3
      go_wp2_with fail
      refine (Cnt.num_ok _ _).mono ?_
      rintro e w4 ⟨rfl, rfl⟩
      go_wp2_with (first
        | ((with_reducible refine wpl_load26h ?_ M4.out (RL.out (2 * n)) rfl ?_); · rfl)
        | ((with_reducible refine wpl_build26h ?_ ?_); · rfl))
      go_ret
      exact ⟨rfl, B4.out⟩

end Go.Proofs.YtnldnkcfeclmpaaDoor.Mod
