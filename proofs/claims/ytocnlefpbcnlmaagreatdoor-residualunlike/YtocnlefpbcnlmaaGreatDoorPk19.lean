/-
  The contracts of the reference's functions for layer 10: they answer as package fold's do. No condition.
  The contracts of the reference's upTo, bitMay, Ones and Context, of any int and any row of ints: what context.Of tells. Condition: the row is there.
  The contract of the reference's Context, of any int and any row of ints: what context.Of tells. Condition: the row is there.
-/
import Derived.Test.YtocnlefpbcnlmaaGreatDoorPk11

namespace Go.Proofs.YtocnlefpbcnlmaaGreatDoor.Fld
open Go.RowKit Go.Proofs.YtocnlefpbcnlmaaGreatDoor.Num
set_option linter.unusedVariables false

set_option maxHeartbeats 400000 in
theorem upTo_yes (c a b : Int) (h0 : a ≤ c) (h1 : c ≤ b) (w : World) :
    Calls Tryz.prog 51 #[.int .i64 c, .int .i64 a, .int .i64 b] w fun e w' => e = .returned (.bool true) ∧ w' = w := by
  go_enter Tryz.func51, Tryz.ntmps51
  go_wp2
  go_ret
  exact ⟨rfl, rfl⟩

set_option maxHeartbeats 400000 in
theorem upTo_no (c a b : Int) (h : c < a ∨ b < c) (w : World) :
    Calls Tryz.prog 51 #[.int .i64 c, .int .i64 a, .int .i64 b] w fun e w' => e = .returned (.bool false) ∧ w' = w := by
  by_cases h0 : a ≤ c
  · have h1 : decide (c ≤ b) = false := decide_eq_false (by omega)
    clear h
    go_enter Tryz.func51, Tryz.ntmps51
    go_wp2
    go_ret
    exact ⟨rfl, rfl⟩
  · have h3 : decide (a ≤ c) = false := decide_eq_false h0
    clear h
    go_enter Tryz.func51, Tryz.ntmps51
    go_wp2
    go_ret
    exact ⟨rfl, rfl⟩

set_option maxHeartbeats 400000 in
theorem rput_neg (x y : Int) (h0 : x < 0) (h1 : -16777216 ≤ x) (hy : 2 * -x - 1 = y) (w : World) :
    Calls Tryz.prog 27 #[.int .i64 x] w fun e w' => e = .returned (.tuple #[.int .i64 y, .int .i64 0]) ∧ w' = w := by
  have hz : -2 * x - 1 = y := by omega
  clear hy
  subst hz
  go_enter Tryz.func27, Tryz.ntmps27
  go_wp2_with fail
  refine (upTo_yes _ _ _ (by omega) (by omega) _).mono ?_
  rintro e w1 ⟨rfl, rfl⟩
  go_wp2
  go_ret2
  exact ⟨rfl, rfl⟩

set_option maxHeartbeats 400000 in
theorem rput_pos (x y : Int) (h0 : 0 ≤ x) (h1 : x ≤ 16777216) (hy : 2 * x = y) (w : World) :
    Calls Tryz.prog 27 #[.int .i64 x] w fun e w' => e = .returned (.tuple #[.int .i64 y, .int .i64 0]) ∧ w' = w := by
  subst hy
  go_enter Tryz.func27, Tryz.ntmps27
  go_wp2_with fail
  refine (upTo_yes _ _ _ (by omega) (by omega) _).mono ?_
  rintro e w1 ⟨rfl, rfl⟩
  go_wp2
  go_ret2
  exact ⟨rfl, rfl⟩

set_option maxHeartbeats 400000 in
theorem rput_no (x : Int) (h : x < -16777216 ∨ 16777216 < x) (w : World) :
    Calls Tryz.prog 27 #[.int .i64 x] w fun e w' => e = .returned (.tuple #[.int .i64 0, .int .i64 1000]) ∧ w' = w := by
  go_enter Tryz.func27, Tryz.ntmps27
  go_wp2_with fail
  refine (upTo_no _ _ _ h _).mono ?_
  rintro e w1 ⟨rfl, rfl⟩
  go_wp2
  go_ret2
  exact ⟨rfl, rfl⟩

theorem and1 (n : Int) : bits .and .i64 n 1 = n % 2 := and_mask 1 1 (by decide) (by decide) n

set_option maxHeartbeats 400000 in
theorem rget_odd (u y : Int) (h0 : 0 ≤ u) (h1 : u ≤ 33554432) (hy : u = 2 * -y - 1) (w : World) :
    Calls Tryz.prog 40 #[.int .i64 u] w fun e w' => e = .returned (.tuple #[.int .i64 y, .int .i64 0]) ∧ w' = w := by
  have m : bits .and .i64 u 1 = 1 := by rw [and1]; omega
  have q : (-(u + 1)).tdiv 2 = y := by
    have e : -(u + 1) = y * 2 := by omega
    rw [e]; exact Int.mul_tdiv_cancel y (by decide)
  have y0 : -33554432 ≤ y := by omega
  have y1 : y ≤ 33554432 := by omega
  clear hy
  go_enter Tryz.func40, Tryz.ntmps40
  go_wp2_with fail
  refine (upTo_yes _ _ _ (by omega) (by omega) _).mono ?_
  rintro e w1 ⟨rfl, rfl⟩
  go_wp2
  go_ret2
  exact ⟨rfl, rfl⟩

set_option maxHeartbeats 400000 in
theorem rget_even (u y : Int) (h0 : 0 ≤ u) (h1 : u ≤ 33554432) (hy : u = 2 * y) (w : World) :
    Calls Tryz.prog 40 #[.int .i64 u] w fun e w' => e = .returned (.tuple #[.int .i64 y, .int .i64 0]) ∧ w' = w := by
  have m : bits .and .i64 u 1 = 0 := by rw [and1]; omega
  have q : u.tdiv 2 = y := by
    have e : u = y * 2 := by omega
    rw [e]; exact Int.mul_tdiv_cancel y (by decide)
  have y0 : -33554432 ≤ y := by omega
  have y1 : y ≤ 33554432 := by omega
  clear hy
  go_enter Tryz.func40, Tryz.ntmps40
  go_wp2_with fail
  refine (upTo_yes _ _ _ (by omega) (by omega) _).mono ?_
  rintro e w1 ⟨rfl, rfl⟩
  go_wp2
  go_ret2
  exact ⟨rfl, rfl⟩

set_option maxHeartbeats 400000 in
theorem rget_no (u : Int) (h : u < 0 ∨ 33554432 < u) (w : World) :
    Calls Tryz.prog 40 #[.int .i64 u] w fun e w' => e = .returned (.tuple #[.int .i64 0, .int .i64 1000]) ∧ w' = w := by
  go_enter Tryz.func40, Tryz.ntmps40
  go_wp2_with fail
  refine (upTo_no _ _ _ h _).mono ?_
  rintro e w1 ⟨rfl, rfl⟩
  go_wp2
  go_ret2
  exact ⟨rfl, rfl⟩

end Go.Proofs.YtocnlefpbcnlmaaGreatDoor.Fld

namespace Go.Proofs.YtocnlefpbcnlmaaGreatDoor.Ctx
open Go.RowKit Go.Proofs.YtocnlefpbcnlmaaGreatDoor.Mod Go.Proofs.YtocnlefpbcnlmaaGreatDoor.Ints Go.Proofs.YtocnlefpbcnlmaaGreatDoor.Num Go.Proofs.YtocnlefpbcnlmaaGreatDoor.Gam
set_option linter.unusedVariables false

theorem upto_ok (x lo hi : Int) (r : Bool) (h : decide (lo ≤ x ∧ x ≤ hi) = r) (w : World) :
    Calls Tryz.prog 51 #[.int .i64 x, .int .i64 lo, .int .i64 hi] w fun e w' => e = .returned (.bool r) ∧ w' = w := by
  subst h
  by_cases a : lo ≤ x
  · have hb : decide (lo ≤ x) = true := decide_eq_true a
    have hr : decide (lo ≤ x ∧ x ≤ hi) = decide (x ≤ hi) := by simp [a]
    rw [hr]
    clear hr
    go_enter Tryz.func51, Tryz.ntmps51
    go_wp2
    go_ret
    exact ⟨rfl, rfl⟩
  · have hb : decide (lo ≤ x) = false := decide_eq_false a
    have hr : decide (lo ≤ x ∧ x ≤ hi) = false := by simp [a]
    rw [hr]
    clear hr
    go_enter Tryz.func51, Tryz.ntmps51
    go_wp2
    go_ret
    exact ⟨rfl, rfl⟩

set_option maxHeartbeats 1000000 in
theorem ones_ok (ao : Option Addr) (L : List Int) (n cap : Nat) (hn : n = L.length) (hx : n ≤ maxLen) (w : World) (hA : Slc w ao L) :
    Calls Tryz.prog 33 #[.slice ao n cap] w fun e w' => e = .returned (.int .i64 ((ones L : Nat) : Int)) ∧ w' = w := by
  unfold maxLen at hx
  have HA : Hid (Slc w ao L) := hA
  have HN : Hid (n = L.length) := hn
  obtain ⟨r, hr⟩ : ∃ r, ones L = r := ⟨_, rfl⟩
  rw [hr]
  have HR : Hid (ones L = r) := hr
  clear hA hn hr
  go_enter Tryz.func33, Tryz.ntmps33
  go_wp2
  go_loopw [3] (fun i wr => ∃ j : Nat, j ≤ n ∧ i = .int .i64 j ∧ wr = w ∧ Hid (∀ t, t < j → L.getD t 0 = 1)) (fun i _ => n - (intOf i).toNat)
  case atStart => exact ⟨0, Nat.zero_le _, rfl, rfl, fun t ht => by omega⟩
  case round =>
    obtain ⟨j, hj, rfl, hw, hh⟩ := hrel
    replace hw := hw.symm
    subst hw
    by_cases hlt : j < n
    · obtain ⟨x, rfl, hc⟩ := HA.out j (HN.out ▸ hlt)
      have hd : decide ((j : Int) < (n : Int)) = true := decide_eq_true (by omega)
      by_cases he : L.getD j 0 = 1
      · have h2 : Hid (∀ t, t < j + 1 → L.getD t 0 = 1) := fun t ht => by
          rcases Nat.lt_or_ge t j with h | h
          · exact hh.out t h
          · obtain rfl : t = j := by omega
            exact he
        rw [he] at hc
        clear he hh
        go_wp2
        go_roundw
        case rel => exact ⟨j + 1, by omega, by go_num, by first | rfl | trivial, h2⟩
        case measure => simp [intOf]; omega
      · obtain rfl : j = r := (ones_is L j (by have := HN.out; omega) hh.out (.inr he)).symm.trans HR.out
        generalize L.getD j 0 = p at *
        have hb : (p == 1) = false := by simpa using he
        go_wp2
        go_ret
        exact ⟨rfl, rfl⟩
    · obtain rfl : j = n := by omega
      obtain rfl : j = r := (ones_is L j (by have := HN.out; omega) hh.out (.inl HN.out)).symm.trans HR.out
      go_wp2
      go_ret
      exact ⟨rfl, rfl⟩

theorem bitMay_ok (b : Int) (r : Bool) (h : decide (b = 0 ∨ b = 1) = r) (w : World) :
    Calls Tryz.prog 52 #[.int .i64 b] w fun e w' => e = .returned (.bool r) ∧ w' = w := by
  subst h
  by_cases a : b = 0
  · subst a
    go_enter Tryz.func52, Tryz.ntmps52
    go_wp2
    go_ret
    exact ⟨rfl, rfl⟩
  · have hb : (b == 0) = false := by simpa using a
    have hr : decide (b = 0 ∨ b = 1) = (b == 1) := by
      by_cases q : b = 1
      · simp [q]
      · simp [a, q]
    rw [hr]
    clear hr a
    go_enter Tryz.func52, Tryz.ntmps52
    go_wp2
    go_ret
    exact ⟨rfl, rfl⟩

end Go.Proofs.YtocnlefpbcnlmaaGreatDoor.Ctx

namespace Go.Proofs.YtocnlefpbcnlmaaGreatDoor.Ctx
open Go.RowKit Go.Proofs.YtocnlefpbcnlmaaGreatDoor.Mod Go.Proofs.YtocnlefpbcnlmaaGreatDoor.Ints Go.Proofs.YtocnlefpbcnlmaaGreatDoor.Num Go.Proofs.YtocnlefpbcnlmaaGreatDoor.Gam
set_option linter.unusedVariables false

theorem min_is (x y : Int) (h : upto31 x = y) (ts : Array TypeId) (t : TypeId) (w : World) : (Builtin.min_ ts t #[.int .i64 31, .int .i64 x]).run Tryz.prog w = .ok (.int .i64 y) w := by
  rw [run_min_int2]
  have e : (if x < 31 then x else 31) = y := by
    subst h
    unfold upto31
    split <;> split <;> omega
  rw [e]

set_option maxRecDepth 20000 in
set_option maxHeartbeats 1000000 in
theorem rctx_nil (b : Int) (ao : Option Addr) (L : List Int) (n cap k : Nat) (y0 y1 y2 : Int) (hn : n = L.length) (n63 : n ≤ 63) (b0 : 0 ≤ b) (b63 : b ≤ 63) (hb : Bits01 L) (hk : ones L = k) (h0 : upto31 k = y0) (h1 : upto31 b = y1) (h2 : upto31 n = y2)
    (hy0 : 0 ≤ y0) (hy0' : y0 ≤ 31) (hy1 : 0 ≤ y1) (hy1' : y1 ≤ 31) (hy2 : 0 ≤ y2) (hy2' : y2 ≤ 31) (hz : n = 0) (hkn : k = n) (w : World) (hA : Slc w ao L) :
    Calls Tryz.prog 29 #[.int .i64 b, .slice ao n cap] w fun e w' => e = .returned (.tuple #[.agg #[.int .i64 y0, .int .i64 (2 * y1), .int .i64 y2], .int .i64 0]) ∧ Bel w w' := by
  have U := upto_ok b 0 63 true (decide_eq_true ⟨b0, b63⟩)
  have m0 := min_is _ _ h0
  have m1 := min_is _ _ h1
  have m2 := min_is _ _ h2
  have O : ∀ w', Bel w w' → Calls Tryz.prog 33 #[.slice ao n cap] w' fun e w'' => e = .returned (.int .i64 (k : Int)) ∧ w'' = w' := fun w' q => by
    have := ones_ok ao L n cap hn (by unfold maxLen; omega) w' (hA.bel q)
    rwa [hk] at this
  have HO : Hid (∀ w', Bel w w' → _) := O
  have HU : Hid (∀ w, Calls Tryz.prog 51 _ w _) := U
  have HA : Hid (∀ w', Bel w w' → Slc w' ao L) := fun w' q => hA.bel q
  have HN : Hid (n = L.length) := hn
  have HT : Hid (Bits01 L) := hb
  subst hz
  subst hkn
  obtain rfl : y0 = 0 := h0.symm.trans (by decide)
  obtain rfl : y2 = 0 := h2.symm.trans (by decide)
  clear O U h0 h1 h2 hk hA hn hb
  go_enter Tryz.func29, Tryz.ntmps29
  go_wp2_with fail
  refine (HU.out _).mono ?_
  rintro e w1 ⟨rfl, h2⟩
  replace h2 := h2.symm
  subst h2
  clear HU
  obtain ⟨W, hW⟩ : ∃ W, W = w.alloc (.cells #[.int .i64 0, .int .i64 0, .int .i64 0] 44) := ⟨_, rfl⟩
  have HB : Hid (Bel w W) := (by rw [hW]; exact (Bel.refl w).alloc _ : Bel w W)
  have HW : Hid (W = w.alloc (.cells #[.int .i64 0, .int .i64 0, .int .i64 0] 44)) := hW
  rw [← hW]
  clear hW
  go_wp2_with fail
  go_loopw [6] (fun i wr => ∃ j : Nat, j ≤ 0 ∧ i = .int .i64 j ∧ wr = W) (fun i _ => 0 - (intOf i).toNat)
  case atStart => exact ⟨0, Nat.zero_le _, rfl, rfl⟩
  case round =>
    obtain ⟨j, hj, rfl, hw⟩ := hrel
    replace hw := hw.symm
    subst hw
    · obtain rfl : j = 0 := by omega
      have hcl := HB
      go_wp2_with fail
      refine (HO.out _ HB.out).mono ?_
      rintro e w1 ⟨rfl, h2⟩
      replace h2 := h2.symm
      subst h2
      have HW2 := HW.out
      have HB2 := HB
      subst HW2
      clear HO HA HT HB HW
      go_wp2
      refine bodyPost_ret (results_arr2 Tryz.results29 rfl rfl (by simp) (by simp) (by simp)) rfl ⟨rfl, ?_⟩
      exact (((Bel.refl w).alloc _).alloc _)

set_option maxRecDepth 20000 in
set_option maxHeartbeats 1000000 in
theorem rctx_has1 (b : Int) (ao : Option Addr) (L : List Int) (n cap k : Nat) (y0 y1 y2 : Int) (hn : n = L.length) (n63 : n ≤ 63) (b0 : 0 ≤ b) (b63 : b ≤ 63) (hb : Bits01 L) (hk : ones L = k) (h0 : upto31 k = y0) (h1 : upto31 b = y1) (h2 : upto31 n = y2)
    (hy0 : 0 ≤ y0) (hy0' : y0 ≤ 31) (hy1 : 0 ≤ y1) (hy1' : y1 ≤ 31) (hy2 : 0 ≤ y2) (hy2' : y2 ≤ 31) (hz : 0 < n) (hkn : k < n) (hp : L.getD (n - 1) 0 = 1) (w : World) (hA : Slc w ao L) :
    Calls Tryz.prog 29 #[.int .i64 b, .slice ao n cap] w fun e w' => e = .returned (.tuple #[.agg #[.int .i64 (y0 + 32), .int .i64 (2 * y1 + 1), .int .i64 (y2 + 32)], .int .i64 0]) ∧ Bel w w' := by
  have U := upto_ok b 0 63 true (decide_eq_true ⟨b0, b63⟩)
  have m0 := min_is _ _ h0
  have m1 := min_is _ _ h1
  have m2 := min_is _ _ h2
  have O : ∀ w', Bel w w' → Calls Tryz.prog 33 #[.slice ao n cap] w' fun e w'' => e = .returned (.int .i64 (k : Int)) ∧ w'' = w' := fun w' q => by
    have := ones_ok ao L n cap hn (by unfold maxLen; omega) w' (hA.bel q)
    rwa [hk] at this
  have HO : Hid (∀ w', Bel w w' → _) := O
  have HU : Hid (∀ w, Calls Tryz.prog 51 _ w _) := U
  have HA : Hid (∀ w', Bel w w' → Slc w' ao L) := fun w' q => hA.bel q
  have HN : Hid (n = L.length) := hn
  have HT : Hid (Bits01 L) := hb
  obtain ⟨x, hx, hc⟩ := hA (n - 1) (by omega)
  subst hx
  rw [hp] at hc
  have HC : Hid (∀ w', Bel w w' → w'.cell? (x.add (n - 1)) = some (.int .i64 1)) := fun w' q => q.keep hc
  clear hp hc
  have hd : decide ((k : Int) < (n : Int)) = true := decide_eq_true (by omega)
  clear O U h0 h1 h2 hk hA hn hb
  go_enter Tryz.func29, Tryz.ntmps29
  go_wp2_with fail
  refine (HU.out _).mono ?_
  rintro e w1 ⟨rfl, h2⟩
  replace h2 := h2.symm
  subst h2
  clear HU
  obtain ⟨W, hW⟩ : ∃ W, W = w.alloc (.cells #[.int .i64 0, .int .i64 0, .int .i64 0] 44) := ⟨_, rfl⟩
  have HB : Hid (Bel w W) := (by rw [hW]; exact (Bel.refl w).alloc _ : Bel w W)
  have HW : Hid (W = w.alloc (.cells #[.int .i64 0, .int .i64 0, .int .i64 0] 44)) := hW
  rw [← hW]
  clear hW
  go_wp2_with fail
  go_loopw [6] (fun i wr => ∃ j : Nat, j ≤ n ∧ i = .int .i64 j ∧ wr = W) (fun i _ => n - (intOf i).toNat)
  case atStart => exact ⟨0, Nat.zero_le _, rfl, rfl⟩
  case round =>
    obtain ⟨j, hj, rfl, hw⟩ := hrel
    replace hw := hw.symm
    subst hw
    by_cases hlt : j < n
    · obtain ⟨y, hy, hcj⟩ := HA.out _ HB.out j (HN.out ▸ hlt)
      injection hy with hy
      subst hy
      have hj2 := HT.out j (HN.out ▸ hlt)
      generalize L.getD j 0 = p at *
      have BM := bitMay_ok p true (decide_eq_true hj2) W
      clear hj2
      go_wp2_with fail
      refine BM.mono ?_
      rintro e w1 ⟨rfl, h2⟩
      replace h2 := h2.symm
      subst h2
      clear BM
      go_wp2
      go_roundw
      case rel => exact ⟨j + 1, by omega, by go_num, by first | rfl | trivial⟩
      case measure => simp [intOf]; omega
    · obtain rfl : j = n := by omega
      have hcl := HC.out _ ((((Bel.refl w).alloc (.cells #[.int .i64 0, .int .i64 0, .int .i64 0] 44)).alloc (.cells #[.int .i64 (y0 + 32), .int .i64 (2 * y1 + 1), .int .i64 y2] 44)))
      go_wp2_with fail
      refine (HO.out _ HB.out).mono ?_
      rintro e w1 ⟨rfl, h2⟩
      replace h2 := h2.symm
      subst h2
      have HW2 := HW.out
      have HB2 := HB
      subst HW2
      clear HO HA HT HB HW HC
      go_wp2
      refine bodyPost_ret (results_arr2 Tryz.results29 rfl rfl (by simp) (by simp) (by simp)) rfl ⟨rfl, ?_⟩
      exact (((Bel.refl w).alloc _).alloc _)

set_option maxRecDepth 20000 in
set_option maxHeartbeats 1000000 in
theorem rctx_has0 (b : Int) (ao : Option Addr) (L : List Int) (n cap k : Nat) (y0 y1 y2 : Int) (hn : n = L.length) (n63 : n ≤ 63) (b0 : 0 ≤ b) (b63 : b ≤ 63) (hb : Bits01 L) (hk : ones L = k) (h0 : upto31 k = y0) (h1 : upto31 b = y1) (h2 : upto31 n = y2)
    (hy0 : 0 ≤ y0) (hy0' : y0 ≤ 31) (hy1 : 0 ≤ y1) (hy1' : y1 ≤ 31) (hy2 : 0 ≤ y2) (hy2' : y2 ≤ 31) (hz : 0 < n) (hkn : k < n) (hp : L.getD (n - 1) 0 = 0) (w : World) (hA : Slc w ao L) :
    Calls Tryz.prog 29 #[.int .i64 b, .slice ao n cap] w fun e w' => e = .returned (.tuple #[.agg #[.int .i64 (y0 + 32), .int .i64 (2 * y1 + 1), .int .i64 y2], .int .i64 0]) ∧ Bel w w' := by
  have U := upto_ok b 0 63 true (decide_eq_true ⟨b0, b63⟩)
  have m0 := min_is _ _ h0
  have m1 := min_is _ _ h1
  have m2 := min_is _ _ h2
  have O : ∀ w', Bel w w' → Calls Tryz.prog 33 #[.slice ao n cap] w' fun e w'' => e = .returned (.int .i64 (k : Int)) ∧ w'' = w' := fun w' q => by
    have := ones_ok ao L n cap hn (by unfold maxLen; omega) w' (hA.bel q)
    rwa [hk] at this
  have HO : Hid (∀ w', Bel w w' → _) := O
  have HU : Hid (∀ w, Calls Tryz.prog 51 _ w _) := U
  have HA : Hid (∀ w', Bel w w' → Slc w' ao L) := fun w' q => hA.bel q
  have HN : Hid (n = L.length) := hn
  have HT : Hid (Bits01 L) := hb
  obtain ⟨x, hx, hc⟩ := hA (n - 1) (by omega)
  subst hx
  rw [hp] at hc
  have HC : Hid (∀ w', Bel w w' → w'.cell? (x.add (n - 1)) = some (.int .i64 0)) := fun w' q => q.keep hc
  clear hp hc
  have hd : decide ((k : Int) < (n : Int)) = true := decide_eq_true (by omega)
  clear O U h0 h1 h2 hk hA hn hb
  go_enter Tryz.func29, Tryz.ntmps29
  go_wp2_with fail
  refine (HU.out _).mono ?_
  rintro e w1 ⟨rfl, h2⟩
  replace h2 := h2.symm
  subst h2
  clear HU
  obtain ⟨W, hW⟩ : ∃ W, W = w.alloc (.cells #[.int .i64 0, .int .i64 0, .int .i64 0] 44) := ⟨_, rfl⟩
  have HB : Hid (Bel w W) := (by rw [hW]; exact (Bel.refl w).alloc _ : Bel w W)
  have HW : Hid (W = w.alloc (.cells #[.int .i64 0, .int .i64 0, .int .i64 0] 44)) := hW
  rw [← hW]
  clear hW
  go_wp2_with fail
  go_loopw [6] (fun i wr => ∃ j : Nat, j ≤ n ∧ i = .int .i64 j ∧ wr = W) (fun i _ => n - (intOf i).toNat)
  case atStart => exact ⟨0, Nat.zero_le _, rfl, rfl⟩
  case round =>
    obtain ⟨j, hj, rfl, hw⟩ := hrel
    replace hw := hw.symm
    subst hw
    by_cases hlt : j < n
    · obtain ⟨y, hy, hcj⟩ := HA.out _ HB.out j (HN.out ▸ hlt)
      injection hy with hy
      subst hy
      have hj2 := HT.out j (HN.out ▸ hlt)
      generalize L.getD j 0 = p at *
      have BM := bitMay_ok p true (decide_eq_true hj2) W
      clear hj2
      go_wp2_with fail
      refine BM.mono ?_
      rintro e w1 ⟨rfl, h2⟩
      replace h2 := h2.symm
      subst h2
      clear BM
      go_wp2
      go_roundw
      case rel => exact ⟨j + 1, by omega, by go_num, by first | rfl | trivial⟩
      case measure => simp [intOf]; omega
    · obtain rfl : j = n := by omega
      have hcl := HC.out _ ((((Bel.refl w).alloc (.cells #[.int .i64 0, .int .i64 0, .int .i64 0] 44)).alloc (.cells #[.int .i64 (y0 + 32), .int .i64 (2 * y1 + 1), .int .i64 y2] 44)))
      go_wp2_with fail
      refine (HO.out _ HB.out).mono ?_
      rintro e w1 ⟨rfl, h2⟩
      replace h2 := h2.symm
      subst h2
      have HW2 := HW.out
      have HB2 := HB
      subst HW2
      clear HO HA HT HB HW HC
      go_wp2
      refine bodyPost_ret (results_arr2 Tryz.results29 rfl rfl (by simp) (by simp) (by simp)) rfl ⟨rfl, ?_⟩
      exact (((Bel.refl w).alloc _).alloc _)

set_option maxRecDepth 20000 in
set_option maxHeartbeats 1000000 in
theorem rctx_none (b : Int) (ao : Option Addr) (L : List Int) (n cap k : Nat) (y0 y1 y2 : Int) (hn : n = L.length) (n63 : n ≤ 63) (b0 : 0 ≤ b) (b63 : b ≤ 63) (hb : Bits01 L) (hk : ones L = k) (h0 : upto31 k = y0) (h1 : upto31 b = y1) (h2 : upto31 n = y2)
    (hy0 : 0 ≤ y0) (hy0' : y0 ≤ 31) (hy1 : 0 ≤ y1) (hy1' : y1 ≤ 31) (hy2 : 0 ≤ y2) (hy2' : y2 ≤ 31) (hz : 0 < n) (hkn : k = n) (hp : L.getD (n - 1) 0 = 1) (w : World) (hA : Slc w ao L) :
    Calls Tryz.prog 29 #[.int .i64 b, .slice ao n cap] w fun e w' => e = .returned (.tuple #[.agg #[.int .i64 y0, .int .i64 (2 * y1), .int .i64 (y2 + 32)], .int .i64 0]) ∧ Bel w w' := by
  have U := upto_ok b 0 63 true (decide_eq_true ⟨b0, b63⟩)
  have m0 := min_is _ _ h0
  have m1 := min_is _ _ h1
  have m2 := min_is _ _ h2
  have O : ∀ w', Bel w w' → Calls Tryz.prog 33 #[.slice ao n cap] w' fun e w'' => e = .returned (.int .i64 (k : Int)) ∧ w'' = w' := fun w' q => by
    have := ones_ok ao L n cap hn (by unfold maxLen; omega) w' (hA.bel q)
    rwa [hk] at this
  have HO : Hid (∀ w', Bel w w' → _) := O
  have HU : Hid (∀ w, Calls Tryz.prog 51 _ w _) := U
  have HA : Hid (∀ w', Bel w w' → Slc w' ao L) := fun w' q => hA.bel q
  have HN : Hid (n = L.length) := hn
  have HT : Hid (Bits01 L) := hb
  obtain ⟨x, hx, hc⟩ := hA (n - 1) (by omega)
  subst hx
  rw [hp] at hc
  have HC : Hid (∀ w', Bel w w' → w'.cell? (x.add (n - 1)) = some (.int .i64 1)) := fun w' q => q.keep hc
  clear hp hc
  subst hkn
  have hyy : y0 = y2 := h0.symm.trans h2
  subst hyy
  clear O U h0 h1 h2 hk hA hn hb
  go_enter Tryz.func29, Tryz.ntmps29
  go_wp2_with fail
  refine (HU.out _).mono ?_
  rintro e w1 ⟨rfl, h2⟩
  replace h2 := h2.symm
  subst h2
  clear HU
  obtain ⟨W, hW⟩ : ∃ W, W = w.alloc (.cells #[.int .i64 0, .int .i64 0, .int .i64 0] 44) := ⟨_, rfl⟩
  have HB : Hid (Bel w W) := (by rw [hW]; exact (Bel.refl w).alloc _ : Bel w W)
  have HW : Hid (W = w.alloc (.cells #[.int .i64 0, .int .i64 0, .int .i64 0] 44)) := hW
  rw [← hW]
  clear hW
  go_wp2_with fail
  go_loopw [6] (fun i wr => ∃ j : Nat, j ≤ k ∧ i = .int .i64 j ∧ wr = W) (fun i _ => k - (intOf i).toNat)
  case atStart => exact ⟨0, Nat.zero_le _, rfl, rfl⟩
  case round =>
    obtain ⟨j, hj, rfl, hw⟩ := hrel
    replace hw := hw.symm
    subst hw
    by_cases hlt : j < k
    · obtain ⟨y, hy, hcj⟩ := HA.out _ HB.out j (HN.out ▸ hlt)
      injection hy with hy
      subst hy
      have hj2 := HT.out j (HN.out ▸ hlt)
      generalize L.getD j 0 = p at *
      have BM := bitMay_ok p true (decide_eq_true hj2) W
      clear hj2
      go_wp2_with fail
      refine BM.mono ?_
      rintro e w1 ⟨rfl, h2⟩
      replace h2 := h2.symm
      subst h2
      clear BM
      go_wp2
      go_roundw
      case rel => exact ⟨j + 1, by omega, by go_num, by first | rfl | trivial⟩
      case measure => simp [intOf]; omega
    · obtain rfl : j = k := by omega
      have hcl := HC.out _ ((((Bel.refl w).alloc (.cells #[.int .i64 0, .int .i64 0, .int .i64 0] 44)).alloc (.cells #[.int .i64 y0, .int .i64 (2 * y1), .int .i64 y0] 44)))
      go_wp2_with fail
      refine (HO.out _ HB.out).mono ?_
      rintro e w1 ⟨rfl, h2⟩
      replace h2 := h2.symm
      subst h2
      have HW2 := HW.out
      have HB2 := HB
      subst HW2
      clear HO HA HT HB HW HC
      go_wp2
      refine bodyPost_ret (results_arr2 Tryz.results29 rfl rfl (by simp) (by simp) (by simp)) rfl ⟨rfl, ?_⟩
      exact (((Bel.refl w).alloc _).alloc _)

/-- Of what may be asked. -/
theorem rctx_yes (b : Int) (ao : Option Addr) (L : List Int) (n cap : Nat) (hn : n = L.length) (hm : May b L) (w : World) (hA : Slc w ao L) :
    Calls Tryz.prog 29 #[.int .i64 b, .slice ao n cap] w fun e w' => e = .returned (.tuple #[ctxV b L, .int .i64 0]) ∧ Bel w w' := by
  obtain ⟨b0, b63, l63, hb⟩ := hm
  have n63 : n ≤ 63 := by omega
  have r0 := upto31_range (ones L) (by omega)
  have r1 := upto31_range b b0
  have r2 := upto31_range L.length (by omega)
  rcases Nat.eq_zero_or_pos n with h0 | h0
  · obtain rfl : L = [] := List.eq_nil_of_length_eq_zero (hn.symm.trans h0)
    have := rctx_nil b ao [] n cap 0 _ _ _ hn n63 b0 b63 hb rfl rfl rfl (by rw [h0]; rfl) r0.1 r0.2 r1.1 r1.2 r2.1 r2.2 h0 h0.symm w hA
    refine this.mono fun e w' q => ⟨q.1.trans ?_, q.2⟩
    have e0 : c1 b [] = 2 * upto31 b := by unfold c1; rw [(by decide : oneB (has0 []) = 0)]; omega
    show _ = Ending.returned (.tuple #[.agg #[.int .i64 (c0 []), .int .i64 (c1 b []), .int .i64 (c2 [])], .int .i64 0])
    rw [e0]
    rfl
  · have rl : last1 L = (L.getD (n - 1) 0 == 1) := by rw [last_is (by omega), hn]
    by_cases hz : ones L < L.length
    · have e : has0 L = true := decide_eq_true hz
      rcases hb (n - 1) (by omega) with hp | hp
      · rw [hp] at rl
        have := rctx_has0 b ao L n cap _ _ _ _ hn n63 b0 b63 hb rfl rfl rfl (by rw [hn]) r0.1 r0.2 r1.1 r1.2 r2.1 r2.2 h0 (by omega) hp w hA
        refine this.mono fun e' w' q => ⟨q.1.trans ?_, q.2⟩
        show _ = Ending.returned (.tuple #[.agg #[.int .i64 (upto31 (ones L) + 32 * oneB (has0 L)), .int .i64 (2 * upto31 b + oneB (has0 L)), .int .i64 (upto31 L.length + 32 * oneB (last1 L))], .int .i64 0])
        rw [e, rl]
        have e3 : upto31 L.length + 32 * oneB ((0 : Int) == 1) = upto31 L.length := by rw [(by decide : oneB ((0 : Int) == 1) = 0)]; omega
        rw [e3]
        rfl
      · rw [hp] at rl
        have := rctx_has1 b ao L n cap _ _ _ _ hn n63 b0 b63 hb rfl rfl rfl (by rw [hn]) r0.1 r0.2 r1.1 r1.2 r2.1 r2.2 h0 (by omega) hp w hA
        refine this.mono fun e' w' q => ⟨q.1.trans ?_, q.2⟩
        show _ = Ending.returned (.tuple #[.agg #[.int .i64 (upto31 (ones L) + 32 * oneB (has0 L)), .int .i64 (2 * upto31 b + oneB (has0 L)), .int .i64 (upto31 L.length + 32 * oneB (last1 L))], .int .i64 0])
        rw [e, rl]
        rfl
    · have e : has0 L = false := decide_eq_false hz
      have e2 : ones L = n := by have := ones_le L; omega
      have hp : L.getD (n - 1) 0 = 1 := ones_one L (n - 1) (by omega)
      rw [hp] at rl
      have := rctx_none b ao L n cap _ _ _ _ hn n63 b0 b63 hb rfl rfl rfl (by rw [hn]) r0.1 r0.2 r1.1 r1.2 r2.1 r2.2 h0 e2 hp w hA
      refine this.mono fun e' w' q => ⟨q.1.trans ?_, q.2⟩
      show _ = Ending.returned (.tuple #[.agg #[.int .i64 (upto31 (ones L) + 32 * oneB (has0 L)), .int .i64 (2 * upto31 b + oneB (has0 L)), .int .i64 (upto31 L.length + 32 * oneB (last1 L))], .int .i64 0])
      rw [e, rl]
      have e3 : upto31 (ones L) + 32 * oneB false = upto31 (ones L) := by rw [(by decide : oneB false = 0)]; omega
      have e4 : 2 * upto31 b + oneB false = 2 * upto31 b := by rw [(by decide : oneB false = 0)]; omega
      rw [e3, e4]
      rfl

set_option maxRecDepth 20000 in
set_option maxHeartbeats 1000000 in
/-- Of what may not be asked. -/
theorem rctx_no (b : Int) (ao : Option Addr) (L : List Int) (n cap : Nat) (hn : n = L.length) (hx : n ≤ maxLen) (hm : ¬ May b L) (w : World) (hA : Slc w ao L) :
    Calls Tryz.prog 29 #[.int .i64 b, .slice ao n cap] w fun e w' => e = .returned (.tuple #[.agg #[.int .i64 0, .int .i64 0, .int .i64 0], .int .i64 1200]) ∧ Bel w w' := by
  unfold maxLen at hx
  by_cases h1 : 0 ≤ b ∧ b ≤ 63
  · have U := upto_ok b 0 63 true (decide_eq_true h1)
    by_cases h3 : 63 < n
    · clear hm hA hn
      have hb : decide (63 < (n : Int)) = true := decide_eq_true (by omega)
      go_enter Tryz.func29, Tryz.ntmps29
      go_wp2_with fail
      refine (U _).mono ?_
      rintro e w1 ⟨rfl, h2⟩
      replace h2 := h2.symm
      subst h2
      go_wp2
      refine bodyPost_ret (results_arr2 Tryz.results29 rfl rfl (by simp) (by simp) (by simp)) rfl ⟨rfl, ?_⟩
      exact (Bel.refl w).alloc _
    · have n63 : n ≤ 63 := by omega
      have HU : Hid (∀ w, Calls Tryz.prog 51 _ w _) := U
      have HT : Hid (¬ Bits01 L) := fun h => hm ⟨h1.1, h1.2, by omega, h⟩
      have HA : Hid (∀ w', Bel w w' → Slc w' ao L) := fun w' q => hA.bel q
      have HN : Hid (n = L.length) := hn
      clear hm hA hn U
      go_enter Tryz.func29, Tryz.ntmps29
      go_wp2_with fail
      refine (HU.out _).mono ?_
      rintro e w1 ⟨rfl, h2⟩
      replace h2 := h2.symm
      subst h2
      clear HU
      go_wp2_with fail
      go_loopw [6] (fun i wr => ∃ j : Nat, j ≤ n ∧ i = .int .i64 j ∧ Hid (∀ t, t < j → L.getD t 0 = 0 ∨ L.getD t 0 = 1) ∧ wr = w.alloc (.cells #[.int .i64 0, .int .i64 0, .int .i64 0] 44)) (fun i _ => n - (intOf i).toNat)
      case atStart => exact ⟨0, Nat.zero_le _, rfl, fun t ht => by omega, rfl⟩
      case round =>
        obtain ⟨j, hj, rfl, HB, hw⟩ := hrel
        by_cases hlt : j < n
        · obtain ⟨x, rfl, hcj⟩ := HA.out _ ((Bel.refl w).alloc (.cells #[.int .i64 0, .int .i64 0, .int .i64 0] 44)) j (HN.out ▸ hlt)
          obtain ⟨p, hp⟩ : ∃ p, L.getD j 0 = p := ⟨_, rfl⟩
          rw [hp] at hcj
          by_cases hq : p = 0 ∨ p = 1
          · have HB2 : Hid (∀ t, t < j + 1 → L.getD t 0 = 0 ∨ L.getD t 0 = 1) := fun t ht => by
              rcases Nat.lt_or_ge t j with h | h
              · exact HB.out t h
              · obtain rfl : t = j := by omega
                rw [hp]; exact hq
            have BM := bitMay_ok p true (decide_eq_true hq) wr
            subst hw
            clear hp hq HB
            go_wp2_with fail
            refine BM.mono ?_
            rintro e w1 ⟨rfl, h2⟩
            replace h2 := h2.symm
            subst h2
            clear BM
            go_wp2
            go_roundw
            case rel => exact ⟨j + 1, by omega, by go_num, HB2, by first | rfl | trivial⟩
            case measure => simp [intOf]; omega
          · have BM := bitMay_ok p false (decide_eq_false hq) wr
            subst hw
            clear hp hq HB
            go_wp2_with fail
            refine BM.mono ?_
            rintro e w1 ⟨rfl, h2⟩
            replace h2 := h2.symm
            subst h2
            clear BM
            go_wp2
            refine bodyPost_ret (results_arr2 Tryz.results29 rfl rfl (by simp) (by simp) (by simp)) rfl ⟨rfl, ?_⟩
            exact (Bel.refl w).alloc _
        · exact absurd (fun t ht => HB.out t (by have := HN.out; omega)) HT.out
  · have U := upto_ok b 0 63 false (decide_eq_false h1)
    clear hm hA hn
    go_enter Tryz.func29, Tryz.ntmps29
    go_wp2_with fail
    refine (U _).mono ?_
    rintro e w1 ⟨rfl, h2⟩
    replace h2 := h2.symm
    subst h2
    go_wp2
    refine bodyPost_ret (results_arr2 Tryz.results29 rfl rfl (by simp) (by simp) (by simp)) rfl ⟨rfl, ?_⟩
    exact (Bel.refl w).alloc _

end Go.Proofs.YtocnlefpbcnlmaaGreatDoor.Ctx
