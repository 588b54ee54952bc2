/-
  The contract of Up. Conditions: the row is there, within the reach.
-/
import Derived.Test.YtlgknbcdmiecdaaDoorShDown
namespace Go.Proofs.YtlgknbcdmiecdaaDoor.Shf
open Go.RowKit Go.Sort Go.Proofs.YtlgknbcdmiecdaaDoor.Mod Go.Proofs.YtlgknbcdmiecdaaDoor.Lin Go.Proofs.YtlgknbcdmiecdaaDoor.Has
set_option linter.unusedVariables false
set_option linter.unusedSimpArgs false

set_option maxHeartbeats 1000000 in
theorem rise_no (ao : Option Addr) (L : List Int) (n cap : Nat) (b : Int) (hb : inB b = false) (w : World) :
    Calls Tryd.prog 14 #[.slice ao n cap, .int .i64 b] w fun e w' => e = .returned (.tuple #[.slice none 0 0, .int .i64 1800]) ∧ w' = w := by
  have G : Hid (Calls Tryd.prog 26 #[.int .i64 b] w fun e w' => e = .returned (.bool false) ∧ w' = w) := hb ▸ go_ok b w
  go_enter Tryd.func14, Tryd.ntmps14
  go_wp2_with fail
  refine (G.out).mono ?_
  rintro e w1 ⟨rfl, rfl⟩
  go_wp2
  go_ret2
  exact ⟨rfl, rfl⟩

set_option maxHeartbeats 1000000 in
theorem rise_bad (ao : Option Addr) (L : List Int) (n cap : Nat) (hn : n = L.length) (hx : n ≤ maxLen) (b p q : Int) (hb : inB b = true) (hp : pw b = p) (hq : 131072 / p = q) (ha : anyOf (passed q) (fun j => L.getD j 0) n = true) (w : World) (hA : Slc w ao L) :
    Calls Tryd.prog 14 #[.slice ao n cap, .int .i64 b] w fun e w' => e = .returned (.tuple #[.slice none 0 0, .int .i64 1800]) ∧ w' = w := by
  have G : Hid (Calls Tryd.prog 26 #[.int .i64 b] w fun e w' => e = .returned (.bool true) ∧ w' = w) := hb ▸ go_ok b w
  obtain ⟨b0, b1⟩ := inB_iff.1 hb
  obtain ⟨p1, p2, p3⟩ := pw_range hb
  rw [hp] at p1 p2 p3
  have hqp : q * p = 131072 := by rw [← hq]; exact Int.ediv_mul_cancel (Int.dvd_of_emod_eq_zero p3)
  obtain ⟨q0, q1⟩ := le_up (x := q) p1 (by omega)
  have q2 : 0 ≤ q := by rw [← hq]; exact Int.ediv_nonneg (by decide) (by omega)
  have hmf : ∀ (fn : Fn) (first cap : Array Value) (w : World), (Instr.makeFunc fn first cap).run Tryd.prog w = .ok (.func fn first cap) w := fun _ _ _ _ => rfl
  have ep : (2 : Int) ^ b.toNat = p := hp
  have C : Hid (Calls Tryd.prog 22 #[.slice ao n cap, .func (.func 23) #[.int .i64 q] #[]] w fun e w' => e = .returned (.bool true) ∧ w' = w) :=
    ha ▸ contains_slc q q2 (by omega) ao L n cap hn hx w hA
  clear ha hA hn hb hp hx hqp p3
  go_enter Tryd.func14, Tryd.ntmps14
  go_wp2_with fail
  refine (G.out).mono ?_
  rintro e w1 ⟨rfl, rfl⟩
  go_wp2_with fail
  refine (C.out).mono ?_
  rintro e w2 ⟨rfl, rfl⟩
  go_wp2
  go_ret2
  exact ⟨rfl, rfl⟩

set_option maxHeartbeats 1000000 in
theorem rise_yes (ao : Option Addr) (L : List Int) (n cap : Nat) (hn : n = L.length) (h8 : n * 8 ≤ 140737488351232) (b p q : Int) (hb : inB b = true) (hp : pw b = p) (hq : 131072 / p = q) (ha : anyOf (passed q) (fun j => L.getD j 0) n = false) (w : World) (hA : Slc w ao L) :
    Calls Tryd.prog 14 #[.slice ao n cap, .int .i64 b] w fun e w' => (∃ g, e = .returned (.tuple #[.slice (some ⟨g, 0, none⟩) n n, .int .i64 0]) ∧ w.heap.size ≤ g ∧ g < w'.heap.size ∧ Holds w' g (L.map (· * p))) ∧ Bel w w' := by
  have hx : n ≤ maxLen := by unfold maxLen; omega
  have G : Hid (Calls Tryd.prog 26 #[.int .i64 b] w fun e w' => e = .returned (.bool true) ∧ w' = w) := hb ▸ go_ok b w
  obtain ⟨b0, b1⟩ := inB_iff.1 hb
  obtain ⟨p1, p2, p3⟩ := pw_range hb
  rw [hp] at p1 p2 p3
  have hqp : q * p = 131072 := by rw [← hq]; exact Int.ediv_mul_cancel (Int.dvd_of_emod_eq_zero p3)
  obtain ⟨q0, q1⟩ := le_up (x := q) p1 (by omega)
  have q2 : 0 ≤ q := by rw [← hq]; exact Int.ediv_nonneg (by decide) (by omega)
  have hmf : ∀ (fn : Fn) (first cap : Array Value) (w : World), (Instr.makeFunc fn first cap).run Tryd.prog w = .ok (.func fn first cap) w := fun _ _ _ _ => rfl
  have ep : (2 : Int) ^ b.toNat = p := hp
  have C : Hid (Calls Tryd.prog 22 #[.slice ao n cap, .func (.func 23) #[.int .i64 q] #[]] w fun e w' => e = .returned (.bool false) ∧ w' = w) :=
    ha ▸ contains_slc q q2 (by omega) ao L n cap hn hx w hA
  have HA : Hid (∀ j, j < n → ∃ x, ao = some x ∧ w.cell? (x.add j) = some (.int .i64 (L.getD j 0))) := fun j hj => hA j (hn ▸ hj)
  have HN : Hid (n = L.length) := hn
  have HB : Hid (∀ j, j < n → -131072 ≤ L.getD j 0 * p ∧ L.getD j 0 * p ≤ 131072) := fun j hj => (up_no p1 p3).1 (by rw [hq]; exact anyOf_false ha j hj)
  have mk := mk_row n h8
  clear ha hA hn hb hp hx hqp p3
  go_enter Tryd.func14, Tryd.ntmps14
  go_wp2_with fail
  refine (G.out).mono ?_
  rintro e w1 ⟨rfl, rfl⟩
  go_wp2_with fail
  refine (C.out).mono ?_
  rintro e w2 ⟨rfl, rfl⟩
  go_wp2
  obtain ⟨B, hB⟩ : ∃ B, B = w2.heap.size := ⟨_, rfl⟩
  obtain ⟨W, hW⟩ : ∃ W, W = w2.alloc (.cells (vals (List.replicate n 0)).toArray 3) := ⟨_, rfl⟩
  have S0 : Hid (W.heap.size = B + 1 ∧ Bel w2 W ∧ Holds W B (upto (· * p) L 0)) := by
    rw [hW, hB]
    refine ⟨by simp, (Bel.refl _).alloc _, ?_⟩
    rw [upto_zero, ← HN.out]
    exact holds_new _ _ _
  rw [← hW, ← hB]
  have SB : Hid (w2.heap.size = B) := hB.symm
  clear hW hB mk C G hq q0 q1 q2
  go_loopw [24] (fun i wr => ∃ j : Nat, j ≤ n ∧ i = .int .i64 (j : Int) ∧ Hid (wr.heap.size = B + 1 ∧ Bel w2 wr ∧ Holds wr B (upto (· * p) L j))) (fun i _ => n - (intOf i).toNat)
  case atStart => exact ⟨0, Nat.zero_le _, rfl, S0⟩
  case round =>
    obtain ⟨j, hj, rfl, S⟩ := hrel
    by_cases hlt : j < n
    · obtain ⟨x, rfl, cx⟩ := HA.out j hlt
      have hd : decide ((j : Int) < (n : Int)) = true := decide_eq_true (by omega)
      have j0 : (0 : Int) ≤ (j : Int) := by omega
      have jn : (j : Int) < (n : Int) := by omega
      have c1 : wr.cell? (x.add j) = some (.int .i64 (L.getD j 0)) := S.out.2.1.keep cx
      have hl : j < (upto (· * p) L j).length := by rw [upto_length, ← HN.out]; exact hlt
      have c3 := S.out.2.2.cell j hl
      have f3 := S.out.2.2.free j hl
      rw [upto_get _ _ _ _ (HN.out ▸ hlt), if_neg (Nat.lt_irrefl j)] at c3
      obtain ⟨v0, v1⟩ := HB.out j hlt
      have S1 : Hid (∀ q, L.getD j 0 * p = q → (wr.setCell ⟨B, j, none⟩ (.int .i64 q)).heap.size = B + 1 ∧ Bel w2 (wr.setCell ⟨B, j, none⟩ (.int .i64 q)) ∧ Holds (wr.setCell ⟨B, j, none⟩ (.int .i64 q)) B (upto (· * p) L (j + 1))) := (fun q hq => by
        refine ⟨by simpa [World.setCell] using S.out.1, S.out.2.1.setCell (a := ⟨B, j, none⟩) (by show w2.heap.size ≤ B; have := SB.out; omega) _, ?_⟩
        rw [← upto_next _ _ _ (HN.out ▸ hlt)]
        rw [← hq]
        exact S.out.2.2.set j hl _)
      clear cx hl S
      generalize L.getD j 0 = v at *
      obtain ⟨u, hu⟩ : ∃ u, v * p = u := ⟨_, rfl⟩
      rw [hu] at v0 v1
      have S2 : Hid ((wr.setCell ⟨B, j, none⟩ (.int .i64 u)).heap.size = B + 1 ∧ Bel w2 (wr.setCell ⟨B, j, none⟩ (.int .i64 u)) ∧ Holds (wr.setCell ⟨B, j, none⟩ (.int .i64 u)) B (upto (· * p) L (j + 1))) := S1.out u hu
      clear S1
      go_wp2
      go_roundw
      case rel => exact ⟨j + 1, by omega, by go_num, S2⟩
      case measure => simp [intOf]; omega
    · obtain rfl : j = n := by omega
      have hd : decide ((j : Int) < (j : Int)) = false := decide_eq_false (by omega)
      have SL : Hid (w2.heap.size ≤ B ∧ B < wr.heap.size ∧ Holds wr B (L.map (· * p)) ∧ Bel w2 wr) := by
        have h := S.out.2.2
        rw [HN.out, upto_all] at h
        exact ⟨by have := SB.out; omega, by have := S.out.1; omega, h, S.out.2.1⟩
      clear S HN
      go_wp2
      go_ret2
      exact ⟨⟨_, rfl, SL.out.1, SL.out.2.1, SL.out.2.2.1⟩, SL.out.2.2.2⟩

theorem rise_ok (ao : Option Addr) (L : List Int) (n cap : Nat) (hn : n = L.length) (h8 : n * 8 ≤ 140737488351232) (b : Int) (w : World) (hA : Slc w ao L) :
    Calls Tryd.prog 14 #[.slice ao n cap, .int .i64 b] w fun e w' => ∃ bo k c, e = .returned (.tuple #[.slice bo k c, .int .i64 (upE L b)]) ∧ Own w w' bo k c (upL L b) (upE L b) ∧ Bel w w' := by
  have hx : n ≤ maxLen := by unfold maxLen; omega
  unfold upE upL
  cases hb : inB b
  · have o : okU L b = false := by unfold okU; rw [hb]; rfl
    rw [o]
    refine (rise_no ao L n cap b hb w).mono ?_
    rintro e w' ⟨rfl, rfl⟩
    exact ⟨none, 0, 0, rfl, own_none _ _, Bel.refl _⟩
  · cases ha : anyOf (passed (131072 / pw b)) (fun j => L.getD j 0) n
    · have o : okU L b = true := by unfold okU; rw [hb, ← hn, ha]; rfl
      rw [o]
      refine (rise_yes ao L n cap hn h8 b _ _ hb rfl rfl ha w hA).mono ?_
      rintro e w' ⟨⟨g, rfl, h1, h2, h3⟩, hB⟩
      exact ⟨_, n, n, rfl, ⟨by rw [if_pos rfl, List.length_map, hn], Nat.le_refl _, hx, h3.slc, .inr ⟨rfl, g, rfl, h1, h2, h3⟩⟩, hB⟩
    · have o : okU L b = false := by unfold okU; rw [hb, ← hn, ha]; rfl
      rw [o]
      refine (rise_bad ao L n cap hn hx b _ _ hb rfl rfl ha w hA).mono ?_
      rintro e w' ⟨rfl, rfl⟩
      exact ⟨none, 0, 0, rfl, own_none _ _, Bel.refl _⟩

end Go.Proofs.YtlgknbcdmiecdaaDoor.Shf
