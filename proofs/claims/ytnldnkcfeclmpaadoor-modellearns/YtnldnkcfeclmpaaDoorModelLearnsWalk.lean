/-
  ModelLearns answers true for every three ints and either bool. Condition: the package's table is laid as its text lays it.
-/
import Derived.Test.YtnldnkcfeclmpaaDoorNTrace
namespace Go.Proofs.YtnldnkcfeclmpaaDoor.Mod
open Go.RowKit Go.Sort
set_option linter.unusedVariables false
set_option linter.unusedSimpArgs false

theorem mask (x : Int) : ∃ a : Nat, a < 64 ∧ bits .and .i64 x 63 = (a : Int) := ⟨(x % 64).toNat, by omega, by rw [and63]; omega⟩

set_option maxRecDepth 20000 in
set_option maxHeartbeats 4000000 in
theorem learns_one (x y z : Int) (w : World) (T : Str.Tab w) :
    Calls Tryd.prog 6 #[.agg #[.int .i64 x, .int .i64 y, .int .i64 z], .bool true] w fun e w' => e = .returned (.bool true) ∧ Bel w w' := by
  have TT : Hid (Str.Tab w) := T
  obtain ⟨a, ha, m0⟩ := mask x
  obtain ⟨b, hb, m1⟩ := mask y
  obtain ⟨c, hc, m2⟩ := mask z
  have wk := walkF_ok _ _ 60 0 ones
  have gd : ∀ k, k ≤ 60 → goodF (runF (fun _ => 1) k) = true := fun k hk => by
    have := wk k (by omega) (by omega)
    rw [Bool.and_eq_true] at this
    exact this.1
  have pp : 3500 < tellF (runF (fun _ => 1) 60) := by
    have := wk 60 (by omega) (by omega)
    rw [Bool.and_eq_true] at this
    simpa using this.2
  have zz := zero26
  have ZL : Hid (zeros.length = 195) := zeros_len
  have NW : Hid (∀ w, Calls Tryd.prog 15 #[] w fun e w' => e = .returned (mdl (runM a b c (fun _ => 1) 0)) ∧ Bel w w') := show ∀ w, Calls Tryd.prog 15 #[] w fun e w' => e = .returned (mdl (runM a b c (fun _ => 1) 0)) ∧ Bel w w' by rw [run_zero ha hb hc]; exact new_ok
  have RL : Hid (∀ k, (runM a b c (fun _ => 1) k).length = 195) := fun k => run_len ha hb hc _ k
  have LE : Hid (∀ k, k < 60 → ∀ w, Str.Tab w → Calls Tryd.prog 10 #[mdl (runM a b c (fun _ => 1) k), .agg #[.int .i64 (a : Int), .int .i64 (b : Int), .int .i64 (c : Int)], .int .i64 1] w fun e w' => e = .returned (.tuple #[mdl (runM a b c (fun _ => 1) (k + 1)), .int .i64 0]) ∧ Bel w w') := fun k hk w T => by
    have g := gd k (by omega)
    have := learn_yes _ (run_len ha hb hc _ k) a b c ha hb hc 1 (by decide) (run_may ha hb hc _ k g) w T
    rwa [run_next ha hb hc _ k g] at this
  have PE : Hid (∀ w, Str.Tab w → Calls Tryd.prog 8 #[mdl (runM a b c (fun _ => 1) 60), .agg #[.int .i64 (a : Int), .int .i64 (b : Int), .int .i64 (c : Int)]] w fun e w' => e = .returned (.tuple #[.int .i64 (tellF (runF (fun _ => 1) 60)), .int .i64 0]) ∧ Bel w w') := fun w T => by
    have g := gd 60 (by omega)
    have := p_yes _ (run_len ha hb hc _ 60) a b c ha hb hc (run_may ha hb hc _ 60 g) w T
    rwa [run_tell ha hb hc _ 60 g] at this
  clear wk gd T ha hb hc
  generalize tellF (runF (fun _ => 1) 60) = p at *
  generalize runM a b c (fun _ => 1) = R at *
  generalize zeros = Z at *
  have hp : decide (p > 3500) = true := decide_eq_true pp
  clear pp
  go_enter Tryd.func6, Tryd.ntmps6
  go_wp2_with fail
  refine (awake_true _ (tab_bel TT.out ((Bel.refl _).alloc _))).mono ?_
  rintro e w1 ⟨rfl, b1⟩
  have k0 : w1.cell? ⟨w.heap.size, 0, none⟩ = some (.int .i64 x) := b1.keep (by simp)
  have k1 : w1.cell? ⟨w.heap.size, 1, none⟩ = some (.int .i64 y) := b1.keep (by simp)
  have k2 : w1.cell? ⟨w.heap.size, 2, none⟩ = some (.int .i64 z) := b1.keep (by simp)
  have B1 : Hid (Bel w w1) := ((Bel.refl w).alloc _).trans b1
  clear b1
  go_wp2_with fail
  clear k0 k1 k2 m0 m1 m2
  refine (NW.out _).mono ?_
  rintro e w2 ⟨rfl, b2⟩
  have C2 : Hid (Holds (w2.alloc (.cells (vals (R 0)).toArray 26)) w1.heap.size [(a : Int), (b : Int), (c : Int)]) := ((holds_at rfl [(a : Int), (b : Int), (c : Int)] 24).bel b2).bel ((Bel.refl _).alloc _)
  have M2 : Hid (Holds (w2.alloc (.cells (vals (R 0)).toArray 26)) w2.heap.size (R 0)) := holds_new _ _ _
  have B2 : Hid (Bel w (w2.alloc (.cells (vals (R 0)).toArray 26))) := Bel.alloc ((B1.out.alloc _).trans b2) _
  have B2size : Hid (w.heap.size ≤ w2.heap.size) := Below.size ((B1.out.alloc _).trans b2)
  have L2 : Hid (w1.heap.size < w2.heap.size) := show w1.heap.size < w2.heap.size from by
    have := b2.size
    simp at this
    omega
  clear b2 B1 NW
  go_wp2_with (first | (with_reducible refine wpl_store26n ZL.out (RL.out 0) rfl rfl ?_))
  go_loopw [8] (fun i wr => ∃ j : Nat, j ≤ 60 ∧ i = .int .i64 (j : Int) ∧ Holds wr w2.heap.size (R j) ∧ Holds wr w1.heap.size [(a : Int), (b : Int), (c : Int)] ∧ Bel w wr) (fun i _ => 60 - (intOf i).toNat)
  case atStart => exact ⟨0, by omega, rfl, M2.out, C2.out, B2.out⟩
  case round =>
    obtain ⟨j, hj, rfl, hm, hcx, hb⟩ := hrel
    have M3 : Hid (Holds wr w2.heap.size (R j)) := hm
    have C3 : Hid (Holds wr w1.heap.size [(a : Int), (b : Int), (c : Int)]) := hcx
    have B3 : Hid (Bel w wr) := hb
    have k0 : wr.cell? ⟨w1.heap.size, 0, none⟩ = some (.int .i64 (a : Int)) := hcx.cell 0 (by simp)
    have k1 : wr.cell? ⟨w1.heap.size, 1, none⟩ = some (.int .i64 (b : Int)) := hcx.cell 1 (by simp)
    have k2 : wr.cell? ⟨w1.heap.size, 2, none⟩ = some (.int .i64 (c : Int)) := hcx.cell 2 (by simp)
    clear hm hcx hb M2 C2 B2
    by_cases hlt : j < 60
    · have hd : decide ((j : Int) < 60) = true := decide_eq_true (by omega)
      go_wp2_with (first | (with_reducible refine wpl_load26' M3.out (RL.out j) rfl ?_))
      refine (LE.out j hlt _ (tab_bel TT.out B3.out)).mono ?_
      rintro e w3 ⟨rfl, b3⟩
      have m4 := (M3.out.bel b3).bel ((Bel.refl _).alloc (.cells (vals (R (j + 1))).toArray 26))
      have c4 := (C3.out.bel b3).bel ((Bel.refl _).alloc (.cells (vals (R (j + 1))).toArray 26))
      have n4 := holds_new w3 (R (j + 1)) 26
      have l4 : w2.heap.size < w3.heap.size := block_lt_of_cell ((M3.out.bel b3).cell 0 (by rw [RL.out]; decide))
      have b4 : Bel w (w3.alloc (.cells (vals (R (j + 1))).toArray 26)) := Bel.alloc (B3.out.trans b3) _
      go_wp2_with (first | (with_reducible refine wpl_store26n ZL.out (RL.out (j + 1)) rfl rfl ?_))
      generalize w3.alloc (.cells (vals (R (j + 1))).toArray 26) = W at *
      refine (Cnt.num_ok _ _).mono ?_
      rintro e W1 ⟨rfl, rfl⟩
      have M4 : Hid (Holds W1 w2.heap.size (R j)) := m4
      have C4 : Hid (Holds W1 w1.heap.size [(a : Int), (b : Int), (c : Int)]) := c4
      have N4 : Hid (Holds W1 w3.heap.size (R (j + 1))) := n4
      have B4 : Hid (Bel w W1) := b4
      have L4 : Hid (w2.heap.size < w3.heap.size) := l4
      clear m4 c4 n4 b4 l4 b3 k0 k1 k2 M3 C3 B3
      have B5 : Hid (Bel w (W1.setCells w2.heap.size 0 (vals (R (j + 1))))) := Bel.setCells (by
        have h1 := B2size.out
        omega) _ _ B4.out
      go_wp2_with (first
        | (with_reducible refine wpl_load26' N4.out (RL.out (j + 1)) rfl ?_)
        | (with_reducible refine wpl_store26 M4.out (RL.out j) (RL.out (j + 1)) rfl rfl ?_))
      go_roundw
      case rel =>
        have h1 := L2.out
        exact ⟨j + 1, by omega, by go_num, holds_all M4.out _ (by rw [RL.out, RL.out]), Holds.others (by omega) _ _ C4.out, B5.out⟩
      case measure => simp [intOf]; omega
    · obtain rfl : j = 60 := by omega
      go_wp2_with (first | (with_reducible refine wpl_load26' M3.out (RL.out 60) rfl ?_))
      refine (PE.out _ (tab_bel TT.out B3.out)).mono ?_
      rintro e w3 ⟨rfl, b3⟩
      have B4 : Hid (Bel w w3) := B3.out.trans b3
      clear b3 k0 k1 k2 M3 C3 B3
      go_wp2_with fail
      refine (Cnt.num_ok _ _).mono ?_
      rintro e w4 ⟨rfl, rfl⟩
      go_wp2
      go_ret
      exact ⟨rfl, B4.out⟩

set_option maxRecDepth 20000 in
set_option maxHeartbeats 4000000 in
theorem learns_nought (x y z : Int) (w : World) (T : Str.Tab w) :
    Calls Tryd.prog 6 #[.agg #[.int .i64 x, .int .i64 y, .int .i64 z], .bool false] w fun e w' => e = .returned (.bool true) ∧ Bel w w' := by
  have TT : Hid (Str.Tab w) := T
  obtain ⟨a, ha, m0⟩ := mask x
  obtain ⟨b, hb, m1⟩ := mask y
  obtain ⟨c, hc, m2⟩ := mask z
  have wk := walkF_ok _ _ 60 0 noughts
  have gd : ∀ k, k ≤ 60 → goodF (runF (fun _ => 0) k) = true := fun k hk => by
    have := wk k (by omega) (by omega)
    rw [Bool.and_eq_true] at this
    exact this.1
  have pp : tellF (runF (fun _ => 0) 60) < 600 := by
    have := wk 60 (by omega) (by omega)
    rw [Bool.and_eq_true] at this
    simpa using this.2
  have zz := zero26
  have ZL : Hid (zeros.length = 195) := zeros_len
  have NW : Hid (∀ w, Calls Tryd.prog 15 #[] w fun e w' => e = .returned (mdl (runM a b c (fun _ => 0) 0)) ∧ Bel w w') := show ∀ w, Calls Tryd.prog 15 #[] w fun e w' => e = .returned (mdl (runM a b c (fun _ => 0) 0)) ∧ Bel w w' by rw [run_zero ha hb hc]; exact new_ok
  have RL : Hid (∀ k, (runM a b c (fun _ => 0) k).length = 195) := fun k => run_len ha hb hc _ k
  have LE : Hid (∀ k, k < 60 → ∀ w, Str.Tab w → Calls Tryd.prog 10 #[mdl (runM a b c (fun _ => 0) k), .agg #[.int .i64 (a : Int), .int .i64 (b : Int), .int .i64 (c : Int)], .int .i64 0] w fun e w' => e = .returned (.tuple #[mdl (runM a b c (fun _ => 0) (k + 1)), .int .i64 0]) ∧ Bel w w') := fun k hk w T => by
    have g := gd k (by omega)
    have := learn_yes _ (run_len ha hb hc _ k) a b c ha hb hc 0 (by decide) (run_may ha hb hc _ k g) w T
    rwa [run_next ha hb hc _ k g] at this
  have PE : Hid (∀ w, Str.Tab w → Calls Tryd.prog 8 #[mdl (runM a b c (fun _ => 0) 60), .agg #[.int .i64 (a : Int), .int .i64 (b : Int), .int .i64 (c : Int)]] w fun e w' => e = .returned (.tuple #[.int .i64 (tellF (runF (fun _ => 0) 60)), .int .i64 0]) ∧ Bel w w') := fun w T => by
    have g := gd 60 (by omega)
    have := p_yes _ (run_len ha hb hc _ 60) a b c ha hb hc (run_may ha hb hc _ 60 g) w T
    rwa [run_tell ha hb hc _ 60 g] at this
  clear wk gd T ha hb hc
  generalize tellF (runF (fun _ => 0) 60) = p at *
  generalize runM a b c (fun _ => 0) = R at *
  generalize zeros = Z at *
  have hp : decide (p < 600) = true := decide_eq_true pp
  clear pp
  go_enter Tryd.func6, Tryd.ntmps6
  go_wp2_with fail
  refine (awake_true _ (tab_bel TT.out ((Bel.refl _).alloc _))).mono ?_
  rintro e w1 ⟨rfl, b1⟩
  have k0 : w1.cell? ⟨w.heap.size, 0, none⟩ = some (.int .i64 x) := b1.keep (by simp)
  have k1 : w1.cell? ⟨w.heap.size, 1, none⟩ = some (.int .i64 y) := b1.keep (by simp)
  have k2 : w1.cell? ⟨w.heap.size, 2, none⟩ = some (.int .i64 z) := b1.keep (by simp)
  have B1 : Hid (Bel w w1) := ((Bel.refl w).alloc _).trans b1
  clear b1
  go_wp2_with fail
  clear k0 k1 k2 m0 m1 m2
  refine (NW.out _).mono ?_
  rintro e w2 ⟨rfl, b2⟩
  have C2 : Hid (Holds (w2.alloc (.cells (vals (R 0)).toArray 26)) w1.heap.size [(a : Int), (b : Int), (c : Int)]) := ((holds_at rfl [(a : Int), (b : Int), (c : Int)] 24).bel b2).bel ((Bel.refl _).alloc _)
  have M2 : Hid (Holds (w2.alloc (.cells (vals (R 0)).toArray 26)) w2.heap.size (R 0)) := holds_new _ _ _
  have B2 : Hid (Bel w (w2.alloc (.cells (vals (R 0)).toArray 26))) := Bel.alloc ((B1.out.alloc _).trans b2) _
  have B2size : Hid (w.heap.size ≤ w2.heap.size) := Below.size ((B1.out.alloc _).trans b2)
  have L2 : Hid (w1.heap.size < w2.heap.size) := show w1.heap.size < w2.heap.size from by
    have := b2.size
    simp at this
    omega
  clear b2 B1 NW
  go_wp2_with (first | (with_reducible refine wpl_store26n ZL.out (RL.out 0) rfl rfl ?_))
  go_loopw [8] (fun i wr => ∃ j : Nat, j ≤ 60 ∧ i = .int .i64 (j : Int) ∧ Holds wr w2.heap.size (R j) ∧ Holds wr w1.heap.size [(a : Int), (b : Int), (c : Int)] ∧ Bel w wr) (fun i _ => 60 - (intOf i).toNat)
  case atStart => exact ⟨0, by omega, rfl, M2.out, C2.out, B2.out⟩
  case round =>
    obtain ⟨j, hj, rfl, hm, hcx, hb⟩ := hrel
    have M3 : Hid (Holds wr w2.heap.size (R j)) := hm
    have C3 : Hid (Holds wr w1.heap.size [(a : Int), (b : Int), (c : Int)]) := hcx
    have B3 : Hid (Bel w wr) := hb
    have k0 : wr.cell? ⟨w1.heap.size, 0, none⟩ = some (.int .i64 (a : Int)) := hcx.cell 0 (by simp)
    have k1 : wr.cell? ⟨w1.heap.size, 1, none⟩ = some (.int .i64 (b : Int)) := hcx.cell 1 (by simp)
    have k2 : wr.cell? ⟨w1.heap.size, 2, none⟩ = some (.int .i64 (c : Int)) := hcx.cell 2 (by simp)
    clear hm hcx hb M2 C2 B2
    by_cases hlt : j < 60
    · have hd : decide ((j : Int) < 60) = true := decide_eq_true (by omega)
      go_wp2_with (first | (with_reducible refine wpl_load26' M3.out (RL.out j) rfl ?_))
      refine (LE.out j hlt _ (tab_bel TT.out B3.out)).mono ?_
      rintro e w3 ⟨rfl, b3⟩
      have m4 := (M3.out.bel b3).bel ((Bel.refl _).alloc (.cells (vals (R (j + 1))).toArray 26))
      have c4 := (C3.out.bel b3).bel ((Bel.refl _).alloc (.cells (vals (R (j + 1))).toArray 26))
      have n4 := holds_new w3 (R (j + 1)) 26
      have l4 : w2.heap.size < w3.heap.size := block_lt_of_cell ((M3.out.bel b3).cell 0 (by rw [RL.out]; decide))
      have b4 : Bel w (w3.alloc (.cells (vals (R (j + 1))).toArray 26)) := Bel.alloc (B3.out.trans b3) _
      go_wp2_with (first | (with_reducible refine wpl_store26n ZL.out (RL.out (j + 1)) rfl rfl ?_))
      generalize w3.alloc (.cells (vals (R (j + 1))).toArray 26) = W at *
      refine (Cnt.num_ok _ _).mono ?_
      rintro e W1 ⟨rfl, rfl⟩
      have M4 : Hid (Holds W1 w2.heap.size (R j)) := m4
      have C4 : Hid (Holds W1 w1.heap.size [(a : Int), (b : Int), (c : Int)]) := c4
      have N4 : Hid (Holds W1 w3.heap.size (R (j + 1))) := n4
      have B4 : Hid (Bel w W1) := b4
      have L4 : Hid (w2.heap.size < w3.heap.size) := l4
      clear m4 c4 n4 b4 l4 b3 k0 k1 k2 M3 C3 B3
      have B5 : Hid (Bel w (W1.setCells w2.heap.size 0 (vals (R (j + 1))))) := Bel.setCells (by
        have h1 := B2size.out
        omega) _ _ B4.out
      go_wp2_with (first
        | (with_reducible refine wpl_load26' N4.out (RL.out (j + 1)) rfl ?_)
        | (with_reducible refine wpl_store26 M4.out (RL.out j) (RL.out (j + 1)) rfl rfl ?_))
      go_roundw
      case rel =>
        have h1 := L2.out
        exact ⟨j + 1, by omega, by go_num, holds_all M4.out _ (by rw [RL.out, RL.out]), Holds.others (by omega) _ _ C4.out, B5.out⟩
      case measure => simp [intOf]; omega
    · obtain rfl : j = 60 := by omega
      go_wp2_with (first | (with_reducible refine wpl_load26' M3.out (RL.out 60) rfl ?_))
      refine (PE.out _ (tab_bel TT.out B3.out)).mono ?_
      rintro e w3 ⟨rfl, b3⟩
      have B4 : Hid (Bel w w3) := B3.out.trans b3
      clear b3 k0 k1 k2 M3 C3 B3
      go_wp2_with fail
      refine (Cnt.num_ok _ _).mono ?_
      rintro e w4 ⟨rfl, rfl⟩
      go_wp2
      go_ret
      exact ⟨rfl, B4.out⟩

theorem learns_walk (x y z : Int) (one : Bool) (w : World) (T : Str.Tab w) :
    Calls Tryd.prog 6 #[.agg #[.int .i64 x, .int .i64 y, .int .i64 z], .bool one] w fun e w' => e = .returned (.bool true) ∧ Bel w w' := by
  cases one
  · exact learns_nought x y z w T
  · exact learns_one x y z w T

end Go.Proofs.YtnldnkcfeclmpaaDoor.Mod
