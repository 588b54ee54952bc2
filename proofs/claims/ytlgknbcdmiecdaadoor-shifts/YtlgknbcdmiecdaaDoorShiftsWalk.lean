/-
  Shifts, walked: it answers true for every row of ints and every int: program and reference answer alike; what was handed in stays. Conditions: the row is there, within the reach; the library's table is laid as its text lays it.
-/
import Derived.Test.YtlgknbcdmiecdaaDoorShAwake
import Derived.Test.YtlgknbcdmiecdaaDoorShRefUp
import Derived.Test.YtlgknbcdmiecdaaDoorGSpoilAny
namespace Go.Proofs.YtlgknbcdmiecdaaDoor.Shf
open Go.RowKit Go.Sort Go.Proofs.YtlgknbcdmiecdaaDoor.Mod Go.Proofs.YtlgknbcdmiecdaaDoor.Lin Go.Proofs.YtlgknbcdmiecdaaDoor.Ints
set_option linter.unusedVariables false
set_option linter.unusedSimpArgs false

/-- What may be spoilt of an answer, in a later world. -/
theorem own_spoil {w w' v : World} {bo : Option Addr} {n c : Nat} {L : List Int} {E : Int} (h : Own w w' bo n c L E) (b : Bel w' v) : (bo = none ∧ n = 0 ∧ c = 0) ∨ ∃ g, bo = some ⟨g, 0, none⟩ ∧ Holds v g L := by
  rcases h.2.2.2.2 with ⟨_, h1, h2, h3⟩ | ⟨_, g, h1, _, _, h4⟩
  · exact .inl ⟨h1, h2, h3⟩
  · exact .inr ⟨g, h1, h4.bel b⟩
theorem own_block {w w' : World} {bo : Option Addr} {n c : Nat} {L : List Int} {E : Int} (h : Own w w' bo n c L E) {k : Nat} (e : bo = some ⟨k, 0, none⟩) : w.heap.size ≤ k ∧ k < w'.heap.size := by
  rcases h.2.2.2.2 with ⟨_, h1, _, _⟩ | ⟨_, g, h1, h2, h3, _⟩
  · rw [h1] at e; cases e
  · rw [h1] at e
    injection e with e
    injection e with e
    subst e
    exact ⟨h2, h3⟩

set_option maxRecDepth 20000 in
set_option maxHeartbeats 2000000 in
theorem shifts_walk (ao : Option Addr) (xs : List Int) (n cap : Nat) (hn : n = xs.length) (hc : n ≤ cap) (h8 : cap * 8 ≤ 140737488351232) (hnil : ao = none → cap = 0) (b : Int) (w : World) (T : Tab w) (hA : Slc w ao xs) :
    Calls Tryd.prog 3 #[.slice ao n cap, .int .i64 b] w fun e w' => e = .returned (.bool true) ∧ Bel w w' := by
  have nm : n ≤ maxLen := by unfold maxLen; omega
  have n8 : n * 8 ≤ 140737488351232 := by omega
  have LA : Hid (Calls Tryd.prog 9 #[.slice ao n cap] w fun e w' => ∃ g c, e = .returned (.slice (some ⟨g, 0, none⟩) n c) ∧ n + 2 ≤ c ∧ c ≤ maxLen ∧ w.heap.size ≤ g ∧ g < w'.heap.size ∧ Holds w' g (xs ++ [-7777, -8888]) ∧ Bel w w') := lend_ok ao xs n cap hn (by omega) hnil w hA
  have HN : Hid (n = xs.length ∧ n ≤ maxLen ∧ n * 8 ≤ 140737488351232) := ⟨hn, nm, n8⟩
  have HA : Hid (Slc w ao xs) := hA
  have TT : Hid (Tab w) := T
  obtain ⟨V, hV⟩ : ∃ V, wstV xs = V := ⟨_, rfl⟩
  obtain ⟨E, hE⟩ : ∃ E, wstE xs = E := ⟨_, rfl⟩
  obtain ⟨A, hA2⟩ : ∃ A, downL xs b = A := ⟨_, rfl⟩
  obtain ⟨ea, hea⟩ : ∃ A, downE xs b = A := ⟨_, rfl⟩
  obtain ⟨C, hC2⟩ : ∃ A, upL xs b = A := ⟨_, rfl⟩
  obtain ⟨ec, hec⟩ : ∃ A, upE xs b = A := ⟨_, rfl⟩
  have WA : Hid (∀ (w' : World) (g c : Nat), Bel w w' → Holds w' g (xs ++ [-7777, -8888]) → Calls Tryd.prog 10 #[.slice (some ⟨g, 0, none⟩) n c] w' fun e w'' => e = .returned (.tuple #[.int .i64 V, .int .i64 E]) ∧ w'' = w') := fun w' g c q h => hV ▸ hE ▸ wasted_ok _ xs n c hn nm w' (T.bel q) (holds_front h).slc
  have RW : Hid (∀ w', Bel w w' → Calls Tryd.prog 11 #[.slice ao n cap] w' fun e w'' => e = .returned (.tuple #[.int .i64 V, .int .i64 E]) ∧ w'' = w') := fun w' q => hV ▸ hE ▸ rwasted_ok ao xs n cap hn nm w' (hA.bel q)
  have DA : Hid (∀ (w' : World) (g c : Nat), Holds w' g (xs ++ [-7777, -8888]) → Calls Tryd.prog 12 #[.slice (some ⟨g, 0, none⟩) n c, .int .i64 b] w' fun e w'' => ∃ bo k c, e = .returned (.tuple #[.slice bo k c, .int .i64 ea]) ∧ Own w' w'' bo k c A ea ∧ Bel w' w'') := fun w' g c h => hA2 ▸ hea ▸ down_ok _ xs n c hn n8 b w' (holds_front h).slc
  have RD : Hid (∀ w', Bel w w' → Calls Tryd.prog 13 #[.slice ao n cap, .int .i64 b] w' fun e w'' => ∃ bo k c, e = .returned (.tuple #[.slice bo k c, .int .i64 ea]) ∧ Row w'' bo k c A ∧ Bel w' w'') := fun w' q => hA2 ▸ hea ▸ rdown_ok ao xs n cap hn n8 b w' (hA.bel q)
  have UA : Hid (∀ (w' : World) (g c : Nat), Holds w' g (xs ++ [-7777, -8888]) → Calls Tryd.prog 14 #[.slice (some ⟨g, 0, none⟩) n c, .int .i64 b] w' fun e w'' => ∃ bo k c, e = .returned (.tuple #[.slice bo k c, .int .i64 ec]) ∧ Own w' w'' bo k c C ec ∧ Bel w' w'') := fun w' g c h => hC2 ▸ hec ▸ rise_ok _ xs n c hn n8 b w' (holds_front h).slc
  have RU : Hid (∀ w', Bel w w' → Calls Tryd.prog 15 #[.slice ao n cap, .int .i64 b] w' fun e w'' => ∃ bo k c, e = .returned (.tuple #[.slice bo k c, .int .i64 ec]) ∧ Row w'' bo k c C ∧ Bel w' w'') := fun w' q => hC2 ▸ hec ▸ rup_ok ao xs n cap hn n8 b w' (hA.bel q)
  clear hV hE hA2 hea hC2 hec hn nm n8 hA T hc h8 hnil
  go_enter Tryd.func3, Tryd.ntmps3
  go_wp2_with fail
  refine LA.out.mono ?_
  rintro e w1 ⟨g, c, rfl, p1, p2, p3, p4, h1, b1⟩
  have H1 : Hid (Holds w1 g (xs ++ [-7777, -8888]) ∧ Bel w w1) := ⟨h1, b1⟩
  have G1 : Hid (n + 2 ≤ c ∧ c ≤ maxLen ∧ g < w1.heap.size) := ⟨p1, p2, p4⟩
  clear h1 b1 p1 p2 p3 p4 LA
  go_wp2_with fail
  refine (WA.out _ g c H1.out.2 H1.out.1).mono ?_
  rintro e w99 ⟨rfl, hw⟩; replace hw := hw.symm; subst hw
  go_wp2_with fail
  refine (RW.out _ H1.out.2).mono ?_
  rintro e w99 ⟨rfl, hw⟩; replace hw := hw.symm; subst hw
  go_wp2_with fail
  refine (DA.out _ g c H1.out.1).mono ?_
  rintro e w2 ⟨ao1, k1, d1, rfl, o2, b2⟩
  have O1 : Hid (Own w1 w2 ao1 k1 d1 A ea) := o2
  have B2 : Hid (Bel w1 w2) := b2
  clear o2 b2
  go_wp2_with fail
  refine (RD.out _ (H1.out.2.trans B2.out)).mono ?_
  rintro e w3 ⟨bo1, k2, d2, rfl, o3, b3⟩
  have O2 : Hid (Row w3 bo1 k2 d2 A) := o3
  have B3 : Hid (Bel w1 w3 ∧ Bel w2 w3) := ⟨B2.out.trans b3, b3⟩
  clear o3 b3
  go_wp2_with fail
  refine (UA.out _ g c (H1.out.1.bel B3.out.1)).mono ?_
  rintro e w4 ⟨ao2, k3, d3, rfl, o4, b4⟩
  have O3 : Hid (Own w3 w4 ao2 k3 d3 C ec) := o4
  have B4 : Hid (Bel w1 w4 ∧ Bel w2 w4 ∧ Bel w3 w4) := ⟨B3.out.1.trans b4, B3.out.2.trans b4, b4⟩
  clear o4 b4
  go_wp2_with fail
  refine (RU.out _ (H1.out.2.trans B4.out.1)).mono ?_
  rintro e w5 ⟨bo2, k4, d4, rfl, o5, b5⟩
  have O4 : Hid (Row w5 bo2 k4 d4 C) := o5
  have B5 : Hid (Bel w1 w5 ∧ Bel w2 w5 ∧ Bel w3 w5 ∧ Bel w4 w5) := ⟨B4.out.1.trans b5, B4.out.2.1.trans b5, B4.out.2.2.trans b5, b5⟩
  clear o5 b5 WA RW DA RD UA RU
  have nv : (V != V) = false := by simp
  have ne : (E != E) = false := by simp
  have nea : (ea != ea) = false := by simp
  have nec : (ec != ec) = false := by simp
  go_wp2_with (go_at_call 16; refine (num_ok _ _).mono ?_; rintro e w99 ⟨rfl, hw⟩; replace hw := hw.symm; subst hw)
  refine (same_ok ao1 bo1 A A k1 k2 d1 d2 O1.out.1 O2.out.1 (Nat.le_trans O1.out.2.1 O1.out.2.2.1) (Nat.le_trans O2.out.2.1 O2.out.2.2.1) w5 (O1.out.2.2.2.1.bel B5.out.2.1) (O2.out.2.2.2.bel B5.out.2.2.1)).mono ?_
  rw [decide_eq_true rfl]
  rintro e w6 ⟨rfl, q6, hw⟩
  have B6 : Hid (Bel w1 w6 ∧ Bel w2 w6 ∧ Bel w4 w6 ∧ Bel w5 w6) := hw ▸ ⟨B5.out.1.drewN q6, B5.out.2.1.drewN q6, B5.out.2.2.2.drewN q6, (Bel.refl w5).drewN q6⟩
  clear hw
  go_wp2_with (go_at_call 16; refine (num_ok _ _).mono ?_; rintro e w99 ⟨rfl, hw⟩; replace hw := hw.symm; subst hw)
  refine (same_ok ao2 bo2 C C k3 k4 d3 d4 O3.out.1 O4.out.1 (Nat.le_trans O3.out.2.1 O3.out.2.2.1) (Nat.le_trans O4.out.2.1 O4.out.2.2.1) w6 (O3.out.2.2.2.1.bel B6.out.2.2.1) (O4.out.2.2.2.bel B6.out.2.2.2)).mono ?_
  rw [decide_eq_true rfl]
  rintro e w7 ⟨rfl, q7, hw⟩
  have B7 : Hid (Bel w1 w7 ∧ Bel w2 w7 ∧ Bel w4 w7) := hw ▸ ⟨B6.out.1.drewN q7, B6.out.2.1.drewN q7, B6.out.2.2.1.drewN q7⟩
  have SZ : Hid (w.heap.size ≤ w1.heap.size ∧ w1.heap.size ≤ w2.heap.size ∧ w2.heap.size ≤ w3.heap.size) := ⟨H1.out.2.size, B2.out.size, B3.out.2.size⟩
  clear hw B6 B5 B4 B3 B2 O2 O4
  go_wp2_with (go_at_call 16; refine (num_ok _ _).mono ?_; rintro e w99 ⟨rfl, hw⟩; replace hw := hw.symm; subst hw)
  refine (spoil_any ao1 A k1 d1 O1.out.1 (Nat.le_trans O1.out.2.1 O1.out.2.2.1) w7 (own_spoil O1.out B7.out.2.1)).mono ?_
  rintro e w8 ⟨rfl, x8⟩
  have X8 : Hid (Bel w w8 ∧ Holds w8 g (xs ++ [-7777, -8888]) ∧ ((ao2 = none ∧ k3 = 0 ∧ d3 = 0) ∨ ∃ g, ao2 = some ⟨g, 0, none⟩ ∧ Holds w8 g C)) := by
    refine ⟨x8.from (H1.out.2.trans B7.out.1) (fun i hi => ?_), x8.holds (H1.out.1.bel B7.out.1) (fun hi => ?_), ?_⟩
    · have := (own_block O1.out hi).1; have := SZ.out.1; omega
    · have := (own_block O1.out hi).1; have := G1.out.2.2; omega
    · rcases own_spoil O3.out B7.out.2.2 with h | ⟨g3, h, hh⟩
      · exact .inl h
      · refine .inr ⟨g3, h, x8.holds hh (fun hi => ?_)⟩
        have h1 := (own_block O1.out hi).2; have h2 := (own_block O3.out h).1; have := SZ.out; omega
  clear x8 B7
  go_wp2_with fail
  refine (spoil_any ao2 C k3 d3 O3.out.1 (Nat.le_trans O3.out.2.1 O3.out.2.2.1) w8 X8.out.2.2).mono ?_
  rintro e w9 ⟨rfl, x9⟩
  have X9 : Hid (Bel w w9 ∧ Holds w9 g (xs ++ [-7777, -8888])) := by
    refine ⟨x9.from X8.out.1 (fun i hi => ?_), x9.holds X8.out.2.1 (fun hi => ?_)⟩
    · have := (own_block O3.out hi).1; have := SZ.out; omega
    · have := (own_block O3.out hi).1; have := SZ.out; have := G1.out.2.2; omega
  clear x9 X8
  go_wp2_with fail
  refine (kept_ok ao xs n cap g c HN.out.1 G1.out.1 G1.out.2.1 w9 (HA.out.bel X9.out.1) X9.out.2).mono ?_
  rintro e w10 ⟨rfl, q10, hw⟩
  have X10 : Hid (Bel w w10) := hw ▸ X9.out.1.drewN q10
  clear hw X9
  go_wp2_with fail
  refine (awake_true _ (TT.out.bel X10.out)).mono ?_
  rintro e w11 ⟨rfl, b11⟩
  have X11 : Hid (Bel w w11) := X10.out.trans b11
  clear b11
  go_wp2
  go_ret
  exact ⟨rfl, X11.out⟩

end Go.Proofs.YtlgknbcdmiecdaaDoor.Shf
