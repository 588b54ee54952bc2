/-
  The contracts of Down and Up. Conditions: the row is there, within the reach.
-/
import Derived.Test.YtlgknbcdmiecdaaDoorShHas
import Derived.Test.YtlgknbcdmiecdaaDoorGExc
import Derived.Deep.OwnRows
namespace Go.Proofs.YtlgknbcdmiecdaaDoor.Shf
open Go.RowKit Go.Sort Go.Proofs.YtlgknbcdmiecdaaDoor.Mod Go.Proofs.YtlgknbcdmiecdaaDoor.Lin Go.Proofs.YtlgknbcdmiecdaaDoor.Has
set_option linter.unusedVariables false
set_option linter.unusedSimpArgs false

theorem infoI : (Tryd.prog.info? 3).map (fun i => (i.zero, i.size, i.bytes)) = some (some (.int .i64 0), 1, 8) := by kernel_rfl
theorem made_ints (m : Nat) : madeCells #[.int .i64 0] m = (vals (List.replicate m 0)).toArray := by
  refine Array.toList_inj.1 (List.ext_getElem (by simp [madeCells, vals]) fun i a b => ?_)
  simp [madeCells, vals, Nat.mod_one]
theorem mk_row (m : Nat) (h1 : m * 8 ≤ 140737488351232) (w : World) :
    (Instr.makeSlice 22 (.int .i64 (m : Int)) (.int .i64 (m : Int))).run Tryd.prog w = .ok (.slice (some ⟨w.heap.size, 0, none⟩) m m) (w.alloc (.cells (vals (List.replicate m 0)).toArray 3)) := by
  rw [← made_ints]
  exact run_make_row' (P := Tryd.prog) 22 3 (.int .i64 0) 8 Tryd.underlying22 infoI rfl .i64 .i64 m (by omega) (by omega) w

set_option maxHeartbeats 400000 in
theorem go_ok (b : Int) (w : World) :
    Calls Tryd.prog 26 #[.int .i64 b] w fun e w' => e = .returned (.bool (inB b)) ∧ w' = w := by
  unfold inB
  by_cases h : b < 0
  · have h2 : decide (0 ≤ b) = false := decide_eq_false (by omega)
    rw [h2, Bool.false_and]
    go_enter Tryd.func26, Tryd.ntmps26
    go_wp2
    go_ret
    exact ⟨rfl, rfl⟩
  · have h2 : decide (0 ≤ b) = true := decide_eq_true (by omega)
    rw [h2, Bool.true_and]
    go_enter Tryd.func26, Tryd.ntmps26
    go_wp2
    go_ret
    exact ⟨rfl, rfl⟩

/-- What a call answers that makes a row: a row in a block of its own, or none. -/
def Own (w w' : World) (bo : Option Addr) (n c : Nat) (L : List Int) (E : Int) : Prop :=
  n = L.length ∧ n ≤ c ∧ c ≤ maxLen ∧ Slc w' bo L ∧ ((E = 1800 ∧ bo = none ∧ n = 0 ∧ c = 0) ∨ (E = 0 ∧ ∃ g, bo = some ⟨g, 0, none⟩ ∧ w.heap.size ≤ g ∧ g < w'.heap.size ∧ Holds w' g L))
theorem own_none (w w' : World) : Own w w' none 0 0 [] 1800 := ⟨rfl, Nat.le_refl _, Nat.zero_le _, slc_nil _ _, .inl ⟨rfl, rfl, rfl, rfl⟩⟩

/-- The first j are written: by f. -/
def upto (f : Int → Int) (L : List Int) (j : Nat) : List Int := (List.range L.length).map fun k => if k < j then f (L.getD k 0) else 0
theorem upto_length (f : Int → Int) (L : List Int) (j : Nat) : (upto f L j).length = L.length := by simp [upto]
theorem upto_get (f : Int → Int) (L : List Int) (j k : Nat) (h : k < L.length) : (upto f L j).getD k 0 = if k < j then f (L.getD k 0) else 0 := by
  unfold upto
  rw [List.getD_eq_getElem?_getD, List.getElem?_map, List.getElem?_range h]
  rfl
theorem upto_zero (f : Int → Int) (L : List Int) : upto f L 0 = List.replicate L.length 0 := by
  refine Mod.ext_getD _ _ (by rw [upto_length, List.length_replicate]) fun k hk => ?_
  rw [upto_length] at hk
  rw [upto_get _ _ _ _ hk, if_neg (by omega)]
  simp [List.getD_eq_getElem?_getD, hk]
theorem upto_next (f : Int → Int) (L : List Int) (j : Nat) (h : j < L.length) : (upto f L j).set j (f (L.getD j 0)) = upto f L (j + 1) := by
  refine Mod.ext_getD _ _ (by rw [List.length_set, upto_length, upto_length]) fun k hk => ?_
  rw [List.length_set, upto_length] at hk
  rw [upto_get _ _ _ _ hk]
  by_cases e : j = k
  · subst e
    rw [Mod.getD_set_eq _ _ _ (by rw [upto_length]; exact hk), if_pos (by omega)]
  · rw [Mod.getD_set_ne _ _ _ _ e, upto_get _ _ _ _ hk]
    by_cases g : k < j
    · rw [if_pos g, if_pos (by omega)]
    · rw [if_neg g, if_neg (by omega)]
theorem upto_all (f : Int → Int) (L : List Int) : upto f L L.length = L.map f := by
  refine Mod.ext_getD _ _ (by rw [upto_length, List.length_map]) fun k hk => ?_
  rw [upto_length] at hk
  rw [upto_get _ _ _ _ hk, if_pos hk, getD_map _ _ _ hk]

set_option maxHeartbeats 1000000 in
theorem down_no (ao : Option Addr) (L : List Int) (n cap : Nat) (b : Int) (hb : inB b = false) (w : World) :
    Calls Tryd.prog 12 #[.slice ao n cap, .int .i64 b] w fun e w' => e = .returned (.tuple #[.slice none 0 0, .int .i64 1800]) ∧ w' = w := by
  have G : Hid (Calls Tryd.prog 26 #[.int .i64 b] w fun e w' => e = .returned (.bool false) ∧ w' = w) := hb ▸ go_ok b w
  go_enter Tryd.func12, Tryd.ntmps12
  go_wp2_with fail
  refine (G.out).mono ?_
  rintro e w1 ⟨rfl, rfl⟩
  go_wp2
  go_ret2
  exact ⟨rfl, rfl⟩

set_option maxHeartbeats 1000000 in
theorem down_bad (ao : Option Addr) (L : List Int) (n cap : Nat) (hn : n = L.length) (hx : n ≤ maxLen) (b p : Int) (hb : inB b = true) (hp : pw b = p) (ha : anyOf (bad p) (fun j => L.getD j 0) n = true) (w : World) (hA : Slc w ao L) :
    Calls Tryd.prog 12 #[.slice ao n cap, .int .i64 b] w fun e w' => e = .returned (.tuple #[.slice none 0 0, .int .i64 1800]) ∧ Bel w w' := by
  have G : Hid (Calls Tryd.prog 26 #[.int .i64 b] w fun e w' => e = .returned (.bool true) ∧ w' = w) := hb ▸ go_ok b w
  obtain ⟨b0, b1⟩ := inB_iff.1 hb
  obtain ⟨p1, p2, _⟩ := pw_range hb
  rw [hp] at p1 p2
  have hmf : ∀ (fn : Fn) (first cap : Array Value) (w : World), (Instr.makeFunc fn first cap).run Tryd.prog w = .ok (.func fn first cap) w := fun _ _ _ _ => rfl
  have ep : (2 : Int) ^ b.toNat = p := hp
  have C : Hid (Calls Tryd.prog 22 #[.slice ao n cap, .func (.func 27) #[] #[.pointer (some ⟨w.heap.size, 0, none⟩)]] (w.alloc (.cells #[.int .i64 p] 3)) fun e w' => e = .returned (.bool true) ∧ w' = w.alloc (.cells #[.int .i64 p] 3)) :=
    ha ▸ contains_not w.heap.size p p1 p2 ao L n cap hn hx (w.alloc (.cells #[.int .i64 p] 3)) (by go_simp) (hA.bel ((Bel.refl _).alloc _))
  clear ha hA hn hb hp hx
  go_enter Tryd.func12, Tryd.ntmps12
  go_wp2_with fail
  refine (G.out).mono ?_
  rintro e w1 ⟨rfl, rfl⟩
  go_wp2_with fail
  refine (C.out).mono ?_
  rintro e w2 ⟨rfl, rfl⟩
  go_wp2
  go_ret2
  exact ⟨rfl, (Bel.refl _).alloc _⟩

set_option maxHeartbeats 1000000 in
theorem down_yes (ao : Option Addr) (L : List Int) (n cap : Nat) (hn : n = L.length) (h8 : n * 8 ≤ 140737488351232) (b p : Int) (hb : inB b = true) (hp : pw b = p) (ha : anyOf (bad p) (fun j => L.getD j 0) n = false) (w : World) (hA : Slc w ao L) :
    Calls Tryd.prog 12 #[.slice ao n cap, .int .i64 b] w fun e w' => (∃ g, e = .returned (.tuple #[.slice (some ⟨g, 0, none⟩) n n, .int .i64 0]) ∧ w.heap.size ≤ g ∧ g < w'.heap.size ∧ Holds w' g (L.map (· / p))) ∧ Bel w w' := by
  have hx : n ≤ maxLen := by unfold maxLen; omega
  have G : Hid (Calls Tryd.prog 26 #[.int .i64 b] w fun e w' => e = .returned (.bool true) ∧ w' = w) := hb ▸ go_ok b w
  obtain ⟨b0, b1⟩ := inB_iff.1 hb
  obtain ⟨p1, p2, _⟩ := pw_range hb
  rw [hp] at p1 p2
  have hmf : ∀ (fn : Fn) (first cap : Array Value) (w : World), (Instr.makeFunc fn first cap).run Tryd.prog w = .ok (.func fn first cap) w := fun _ _ _ _ => rfl
  have ep : (2 : Int) ^ b.toNat = p := hp
  have C : Hid (Calls Tryd.prog 22 #[.slice ao n cap, .func (.func 27) #[] #[.pointer (some ⟨w.heap.size, 0, none⟩)]] (w.alloc (.cells #[.int .i64 p] 3)) fun e w' => e = .returned (.bool false) ∧ w' = w.alloc (.cells #[.int .i64 p] 3)) :=
    ha ▸ contains_not w.heap.size p p1 p2 ao L n cap hn hx (w.alloc (.cells #[.int .i64 p] 3)) (by go_simp) (hA.bel ((Bel.refl _).alloc _))
  have HA : Hid (∀ j, j < n → ∃ x, ao = some x ∧ w.cell? (x.add j) = some (.int .i64 (L.getD j 0))) := fun j hj => hA j (hn ▸ hj)
  have HN : Hid (n = L.length) := hn
  have HB : Hid (∀ j, j < n → (-131072 ≤ L.getD j 0 ∧ L.getD j 0 ≤ 131072) ∧ p ∣ L.getD j 0) := fun j hj => bad_no.1 (anyOf_false ha j hj)
  have mk := mk_row n h8
  clear ha hA hn hb hp hx
  go_enter Tryd.func12, Tryd.ntmps12
  go_wp2_with fail
  refine (G.out).mono ?_
  rintro e w1 ⟨rfl, rfl⟩
  go_wp2_with fail
  refine (C.out).mono ?_
  rintro e w2 ⟨rfl, rfl⟩
  go_wp2
  obtain ⟨B, hB⟩ : ∃ B, B = w1.heap.size := ⟨_, rfl⟩
  obtain ⟨W, hW⟩ : ∃ W, W = (w1.alloc (.cells #[.int .i64 p] 3)).alloc (.cells (vals (List.replicate n 0)).toArray 3) := ⟨_, rfl⟩
  have S0 : Hid (W.heap.size = B + 2 ∧ W.cell? ⟨B, 0, none⟩ = some (.int .i64 p) ∧ Bel w1 W ∧ Holds W (B + 1) (upto (· / p) L 0)) := by
    rw [hW, hB]
    refine ⟨by simp, by go_simp, ((Bel.refl _).alloc _).alloc _, ?_⟩
    rw [upto_zero, ← HN.out]
    exact holds_at (by simp) _ _
  rw [← hW, ← hB]
  have SB : Hid (w1.heap.size = B) := hB.symm
  clear hW hB mk C G
  go_loopw [25] (fun i wr => ∃ j : Nat, j ≤ n ∧ i = .int .i64 (j : Int) ∧ Hid (wr.heap.size = B + 2 ∧ wr.cell? ⟨B, 0, none⟩ = some (.int .i64 p) ∧ Bel w1 wr ∧ Holds wr (B + 1) (upto (· / p) L j))) (fun i _ => n - (intOf i).toNat)
  case atStart => exact ⟨0, Nat.zero_le _, rfl, S0⟩
  case round =>
    obtain ⟨j, hj, rfl, S⟩ := hrel
    by_cases hlt : j < n
    · obtain ⟨x, rfl, cx⟩ := HA.out j hlt
      have hd : decide ((j : Int) < (n : Int)) = true := decide_eq_true (by omega)
      have j0 : (0 : Int) ≤ (j : Int) := by omega
      have jn : (j : Int) < (n : Int) := by omega
      have c1 : wr.cell? (x.add j) = some (.int .i64 (L.getD j 0)) := S.out.2.2.1.keep cx
      have c2 := S.out.2.1
      have hl : j < (upto (· / p) L j).length := by rw [upto_length, ← HN.out]; exact hlt
      have c3 := S.out.2.2.2.cell j hl
      have f3 := S.out.2.2.2.free j hl
      rw [upto_get _ _ _ _ (HN.out ▸ hlt), if_neg (Nat.lt_irrefl j)] at c3
      obtain ⟨⟨v0, v1⟩, vd⟩ := HB.out j hlt
      have S1 : Hid (∀ q, L.getD j 0 / p = q → (wr.setCell ⟨B + 1, j, none⟩ (.int .i64 q)).heap.size = B + 2 ∧ (wr.setCell ⟨B + 1, j, none⟩ (.int .i64 q)).cell? ⟨B, 0, none⟩ = some (.int .i64 p) ∧ Bel w1 (wr.setCell ⟨B + 1, j, none⟩ (.int .i64 q)) ∧ Holds (wr.setCell ⟨B + 1, j, none⟩ (.int .i64 q)) (B + 1) (upto (· / p) L (j + 1))) := (fun q hq => by
        refine ⟨by simpa [World.setCell] using S.out.1, ?_, S.out.2.2.1.setCell (a := ⟨B + 1, j, none⟩) (by show w1.heap.size ≤ B + 1; have := SB.out; omega) _, ?_⟩
        · rw [World.cell?_setCell_other (h := by intro q; injection q with q1; omega)]
          exact S.out.2.1
        · rw [← upto_next _ _ _ (HN.out ▸ hlt)]
          rw [← hq]
          exact S.out.2.2.2.set j hl _)
      clear cx hl S
      generalize L.getD j 0 = v at *
      have hz : (p == 0) = false := by simp; omega
      obtain ⟨q, hq⟩ : ∃ q, v / p = q := ⟨_, rfl⟩
      have ht : v.tdiv p = q := by rw [Int.tdiv_eq_ediv_of_dvd vd, hq]
      have hv : q * p = v := by rw [← hq]; exact Int.ediv_mul_cancel vd
      obtain ⟨q0, q1⟩ := le_up (x := q) p1 (by omega)
      have S2 : Hid ((wr.setCell ⟨B + 1, j, none⟩ (.int .i64 q)).heap.size = B + 2 ∧ (wr.setCell ⟨B + 1, j, none⟩ (.int .i64 q)).cell? ⟨B, 0, none⟩ = some (.int .i64 p) ∧ Bel w1 (wr.setCell ⟨B + 1, j, none⟩ (.int .i64 q)) ∧ Holds (wr.setCell ⟨B + 1, j, none⟩ (.int .i64 q)) (B + 1) (upto (· / p) L (j + 1))) := S1.out q hq
      clear S1 hq hv vd v0 v1
      go_wp2
      go_roundw
      case rel => exact ⟨j + 1, by omega, by go_num, S2⟩
      case measure => simp [intOf]; omega
    · obtain rfl : j = n := by omega
      have hd : decide ((j : Int) < (j : Int)) = false := decide_eq_false (by omega)
      have SL : Hid (w1.heap.size ≤ B + 1 ∧ B + 1 < wr.heap.size ∧ Holds wr (B + 1) (L.map (· / p)) ∧ Bel w1 wr) := by
        have h := S.out.2.2.2
        rw [HN.out, upto_all] at h
        exact ⟨by have := SB.out; omega, by have := S.out.1; omega, h, S.out.2.2.1⟩
      clear S HN
      go_wp2
      go_ret2
      exact ⟨⟨_, rfl, SL.out.1, SL.out.2.1, SL.out.2.2.1⟩, SL.out.2.2.2⟩

theorem down_ok (ao : Option Addr) (L : List Int) (n cap : Nat) (hn : n = L.length) (h8 : n * 8 ≤ 140737488351232) (b : Int) (w : World) (hA : Slc w ao L) :
    Calls Tryd.prog 12 #[.slice ao n cap, .int .i64 b] w fun e w' => ∃ bo k c, e = .returned (.tuple #[.slice bo k c, .int .i64 (downE L b)]) ∧ Own w w' bo k c (downL L b) (downE L b) ∧ Bel w w' := by
  have hx : n ≤ maxLen := by unfold maxLen; omega
  unfold downE downL
  cases hb : inB b
  · have o : okD L b = false := by unfold okD; rw [hb]; rfl
    rw [o]
    refine (down_no ao L n cap b hb w).mono ?_
    rintro e w' ⟨rfl, rfl⟩
    exact ⟨none, 0, 0, rfl, own_none _ _, Bel.refl _⟩
  · cases ha : anyOf (bad (pw b)) (fun j => L.getD j 0) n
    · have o : okD L b = true := by unfold okD; rw [hb, ← hn, ha]; rfl
      rw [o]
      refine (down_yes ao L n cap hn h8 b _ hb rfl ha w hA).mono ?_
      rintro e w' ⟨⟨g, rfl, h1, h2, h3⟩, hB⟩
      exact ⟨_, n, n, rfl, ⟨by rw [if_pos rfl, List.length_map, hn], Nat.le_refl _, hx, h3.slc, .inr ⟨rfl, g, rfl, h1, h2, h3⟩⟩, hB⟩
    · have o : okD L b = false := by unfold okD; rw [hb, ← hn, ha]; rfl
      rw [o]
      refine (down_bad ao L n cap hn hx b _ hb rfl ha w hA).mono ?_
      rintro e w' ⟨rfl, hB⟩
      exact ⟨none, 0, 0, rfl, own_none _ _, hB⟩

end Go.Proofs.YtlgknbcdmiecdaaDoor.Shf
