/-
  The contracts of Stretch's function literal, of sort.Search over it, and of Stretch. Condition: the package's table is laid as its text lays it.
  The inputs that a view's counters make: the contracts of a view's input, of byRow over it. Condition: the package's table is laid as its text lays it; the view's counters and places may be.
  The contract of model.P. Condition: the package's table is laid as its text lays it.
  The contract of model.Learn. Condition: the package's table is laid as its text lays it.
-/
import Derived.Test.YtocnlefpbcnlmaaGreatDoorPk1
import Derived.Deep.LoopGhost
import Derived.Test.YtocnlefpbcnlmaaGreatDoorPk5
import Derived.Deep.RegionHeld3
import Derived.Deep.CutRange

namespace Go.Proofs.YtocnlefpbcnlmaaGreatDoor.Str
open Go.RowKit
set_option linter.unusedVariables false

set_option maxHeartbeats 1000000 in
theorem lit_ok (i p : Int) (B : Nat) (h0 : 0 ≤ i) (h1 : i ≤ 4094) (w : World) (T : Tab w) (hp : w.cell? ⟨B, 0, none⟩ = some (.int .i64 p)) :
    Calls Tryz.prog 121 #[.int .i64 i, .pointer (some ⟨B, 0, none⟩)] w fun e w' => e = .returned (.bool (decide (p ≤ sq (-2047 + i)))) ∧ ∃ m, w' = w.drewN m := by
  have q := fun n => squash_ok (-2047 + i) (w.drewN n) (T.drewN n)
  generalize sq (-2047 + i) = y at *
  have Q : Hid (∀ n, Calls Tryz.prog 106 #[.int .i64 (-2047 + i)] (w.drewN n) fun e w' => e = .returned (.int .i64 y) ∧ ∃ m, w' = (w.drewN n).drewN m) := q
  clear q T
  go_enter Tryz.func121, Tryz.ntmps121
  go_wp2
  go_quiet (first | (go_at_call 106; with_reducible exact Calls.quiet_of (Q.out _)))
  go_wp2
  go_ret
  exact ⟨rfl, _, rfl⟩

set_option maxHeartbeats 2000000 in
theorem search_any (N : Nat) (hN0 : N ≤ 4094) (hN : Hid (N = 4094)) (p : Int) (B : Nat) (w : World) (T : Tab w) (hp : w.cell? ⟨B, 0, none⟩ = some (.int .i64 p)) :
    Calls Tryz.prog 120 #[.int .i64 (N : Int), .func (.func 121) #[] #[.pointer (some ⟨B, 0, none⟩)]] w fun e w' => e = .returned (.int .i64 (st p + 2047)) ∧ ∃ m, w' = w.drewN m := by
  have hc : Hid (∀ (i : Int) (n : Nat), 0 ≤ i → i ≤ 4094 → Calls Tryz.prog 121 #[.int .i64 i, .pointer (some ⟨B, 0, none⟩)] (w.drewN n) fun e w' => e = .returned (.bool (decide (p ≤ sq (-2047 + i)))) ∧ ∃ m, w' = (w.drewN n).drewN m) :=
    fun i n a b => lit_ok i p B a b (w.drewN n) (T.drewN n) hp
  clear hp T
  generalize hz : st p + 2047 = z
  have Z : Hid (st p + 2047 = z) := hz
  clear hz
  go_enter Tryz.func120, Tryz.ntmps120
  go_wp2
  go_loopg [5, 6] N (fun kx s5 s6 wr => ∃ (lo hi q : Nat), s5 = .int .i64 lo ∧ s6 = .int .i64 hi ∧ lo ≤ hi ∧ hi ≤ N ∧ hi - lo ≤ kx ∧ wr = w.drewN q ∧
    Hid ((∀ t : Int, -2047 ≤ t → t < -2047 + (lo : Int) → sq t < p) ∧ (hi = N ∨ p ≤ sq (-2047 + (hi : Int)))))
  case atStart => exact ⟨0, N, 0, rfl, rfl, by omega, by omega, by omega, rfl, (⟨fun t a b => by omega, .inl rfl⟩ : (∀ t : Int, -2047 ≤ t → t < -2047 + ((0 : Nat) : Int) → sq t < p) ∧ (N = N ∨ p ≤ sq (-2047 + (N : Int))))⟩
  case round =>
    obtain ⟨lo, hi, q, rfl, rfl, hlh, hin, hg, rfl, I⟩ := hrel
    by_cases hlt : lo < hi
    · have hq := hc.out (((lo : Int) + (hi : Int)) / 2) q (by omega) (by omega)
      cases hd : decide (p ≤ sq (-2047 + ((lo : Int) + (hi : Int)) / 2)) <;> rw [hd] at hq
      · have HP : Hid (sq (-2047 + ((lo : Int) + (hi : Int)) / 2) < p) := show sq (-2047 + ((lo : Int) + (hi : Int)) / 2) < p from by have := of_decide_eq_false hd; omega
        clear hd
        go_wp2_with (go_at_call 121; refine hq.mono ?_; rintro e w' ⟨rfl, nq, rfl⟩)
        go_roundg (hi - ((lo + hi) / 2 + 1))
        case measure => omega
        case rel =>
          have I2 : Hid ((∀ t : Int, -2047 ≤ t → t < -2047 + (((lo + hi) / 2 + 1 : Nat) : Int) → sq t < p) ∧ (hi = N ∨ p ≤ sq (-2047 + (hi : Int)))) := ⟨fun t a b => (by
            have h1 := sq_mono t (-2047 + ((lo : Int) + (hi : Int)) / 2) (by omega) (by omega) (by omega)
            have h2 := HP.out
            omega), I.out.2⟩
          exact ⟨(lo + hi) / 2 + 1, hi, q + nq, by rw [show ((lo : Int) + (hi : Int)) / 2 + 1 = (((lo + hi) / 2 + 1 : Nat) : Int) by omega], rfl, by omega, hin, Nat.le_refl _, by simp, I2⟩
      · have HP : Hid (p ≤ sq (-2047 + ((lo : Int) + (hi : Int)) / 2)) := show p ≤ sq (-2047 + ((lo : Int) + (hi : Int)) / 2) from of_decide_eq_true hd
        clear hd
        go_wp2_with (go_at_call 121; refine hq.mono ?_; rintro e w' ⟨rfl, nq, rfl⟩)
        go_roundg ((lo + hi) / 2 - lo)
        case measure => omega
        case rel =>
          have I2 : Hid ((∀ t : Int, -2047 ≤ t → t < -2047 + (lo : Int) → sq t < p) ∧ ((lo + hi) / 2 = N ∨ p ≤ sq (-2047 + (((lo + hi) / 2 : Nat) : Int)))) := ⟨I.out.1, .inr (by
            rw [show (((lo + hi) / 2 : Nat) : Int) = ((lo : Int) + (hi : Int)) / 2 by omega]; exact HP.out)⟩
          exact ⟨lo, (lo + hi) / 2, q + nq, rfl, by rw [show ((lo : Int) + (hi : Int)) / 2 = (((lo + hi) / 2 : Nat) : Int) by omega], by omega, by omega, Nat.le_refl _, by simp, I2⟩
    · obtain rfl : hi = lo := by omega
      have E : z = (hi : Int) := by
        have h : Least p (-2047 + (hi : Int)) := ⟨by omega, by omega, I.out.1, by
          rcases I.out.2 with h | h
          · have h5 : N = 4094 := hN.out
            exact .inl (by omega)
          · exact .inr h⟩
        have h6 := st_is h
        have h7 := Z.out
        omega
      subst E
      clear I Z
      go_wp2
      go_ret
      exact ⟨rfl, q, rfl⟩

theorem search_ok (p : Int) (B : Nat) (w : World) (T : Tab w) (hp : w.cell? ⟨B, 0, none⟩ = some (.int .i64 p)) :
    Calls Tryz.prog 120 #[.int .i64 4094, .func (.func 121) #[] #[.pointer (some ⟨B, 0, none⟩)]] w fun e w' => e = .returned (.int .i64 (st p + 2047)) ∧ ∃ m, w' = w.drewN m :=
  search_any 4094 (Nat.le_refl _) (show (4094 : Nat) = 4094 from rfl) p B w T hp

theorem Tab.onto {w w' : World} (T : Tab w) (h : Onto w w') : Tab w' := fun d hd => h.cell_some (T d hd)

set_option maxHeartbeats 1000000 in
theorem stretch_ok (p : Int) (h0 : 0 ≤ p) (h1 : p ≤ 4095) (w : World) (T : Tab w) :
    Calls Tryz.prog 108 #[.int .i64 p] w fun e w' => e = .returned (.tuple #[.int .i64 (st p), .int .i64 0]) ∧ Onto w w' := by
  have TT : Hid (Tab w) := T
  have b1 : -2047 ≤ st p := (st_least p).1
  have b2 : st p ≤ 2047 := (st_least p).2.1
  have q := fun B W => search_ok p B W
  have Q : Hid (∀ B W, Tab W → W.cell? ⟨B, 0, none⟩ = some (.int .i64 p) → Calls Tryz.prog 120 #[.int .i64 4094, .func (.func 121) #[] #[.pointer (some ⟨B, 0, none⟩)]] W fun e w' => e = .returned (.int .i64 (st p + 2047)) ∧ ∃ m, w' = W.drewN m) := q
  clear q T
  have bz : -2047 + (st p + 2047) = st p := by omega
  generalize st p = z at *
  go_enter Tryz.func108, Tryz.ntmps108
  go_wp2_with fail
  refine (Q.out _ _ (TT.out.onto ((Onto.refl _).alloc _ _)) (by simp)).mono ?_
  rintro e w1 ⟨rfl, m, rfl⟩
  go_wp2
  go_ret2
  exact ⟨rfl, ((Onto.refl _).alloc _ _).drewN _⟩

set_option maxHeartbeats 1000000 in
theorem stretch_no (p : Int) (h : p < 0 ∨ 4095 < p) (w : World) :
    Calls Tryz.prog 108 #[.int .i64 p] w fun e w' => e = .returned (.tuple #[.int .i64 0, .int .i64 600]) ∧ Onto w w' := by
  by_cases h0 : p < 0
  · clear h
    go_enter Tryz.func108, Tryz.ntmps108
    go_wp2
    go_ret2
    exact ⟨rfl, (Onto.refl _).alloc _ _⟩
  · have h1 : 4095 < p := by omega
    clear h
    go_enter Tryz.func108, Tryz.ntmps108
    go_wp2
    go_ret2
    exact ⟨rfl, (Onto.refl _).alloc _ _⟩

end Go.Proofs.YtocnlefpbcnlmaaGreatDoor.Str

namespace Go.Proofs.YtocnlefpbcnlmaaGreatDoor.Mod
open Go.RowKit Go.Sort
set_option linter.unusedVariables false
set_option linter.unusedSimpArgs false

/-- A counter's input. -/
def inp (c : Int) : Int := Str.st (Cnt.chance c)
theorem inp_range (c : Int) : -2047 ≤ inp c ∧ inp c ≤ 2047 := ⟨(Str.st_least _).1, (Str.st_least _).2.1⟩
theorem chance_range (c : Int) (h0 : 0 ≤ c) (h1 : c ≤ 65535) : 0 ≤ Cnt.chance c ∧ Cnt.chance c ≤ 4095 := by
  unfold Cnt.chance
  split <;> omega

set_option maxHeartbeats 1000000 in
theorem input_0 (B i : Nat) (hi : i < 64) (c : Int) (hc0 : 0 ≤ c) (hc1 : c ≤ 65535) (w : World) (T : Str.Tab w) (h1 : w.cell? ⟨B, 195, none⟩ = some (.int .i64 (i : Int))) (h2 : w.cell? ⟨B, i, none⟩ = some (.int .i64 c)) :
    Calls Tryz.prog 78 #[.pointer (some ⟨B, 0, none⟩), .int .i64 0] w fun e w' => e = .returned (.int .i64 (inp c)) ∧ Bel w w' := by
  have TT : Hid (Str.Tab w) := T
  obtain ⟨y0, y1⟩ := chance_range c hc0 hc1
  have q := Cnt.p_ok c
  have e2 : Cnt.pAns c = .tuple #[.int .i64 (Cnt.chance c), .int .i64 0] := if_pos (decide_eq_true ⟨hc0, hc1⟩)
  rw [e2] at q
  have Q : Hid (∀ w, Calls Tryz.prog 107 #[.int .i64 c] w fun e w' => e = .returned (.tuple #[.int .i64 (Cnt.chance c), .int .i64 0]) ∧ w' = w) := q
  have S : Hid (∀ w, Str.Tab w → Calls Tryz.prog 108 #[.int .i64 (Cnt.chance c)] w fun e w' => e = .returned (.tuple #[.int .i64 (inp c), .int .i64 0]) ∧ Onto w w') := Str.stretch_ok (Cnt.chance c) y0 y1
  clear q e2 T y0 y1
  generalize inp c = x at *
  generalize Cnt.chance c = y at *
  go_enter Tryz.func78, Tryz.ntmps78
  go_wp2
  go_quiet (first | (go_at_call 107; with_reducible exact Calls.quiet_of_same (Q.out _)))
  go_wp2_with fail
  refine (S.out _ (TT.out.drewN _)).mono ?_
  rintro e w1 ⟨rfl, o⟩
  have B1 : Hid (Bel w w1) := ((Bel.refl w).drewN _).trans o.b
  clear o
  go_wp2
  go_ret
  exact ⟨rfl, B1.out⟩

set_option maxHeartbeats 1000000 in
theorem input_1 (B i : Nat) (hi : i < 64) (c : Int) (hc0 : 0 ≤ c) (hc1 : c ≤ 65535) (w : World) (T : Str.Tab w) (h1 : w.cell? ⟨B, 196, none⟩ = some (.int .i64 (i : Int))) (h2 : w.cell? ⟨B, 64 + i, none⟩ = some (.int .i64 c)) :
    Calls Tryz.prog 78 #[.pointer (some ⟨B, 0, none⟩), .int .i64 1] w fun e w' => e = .returned (.int .i64 (inp c)) ∧ Bel w w' := by
  have TT : Hid (Str.Tab w) := T
  obtain ⟨y0, y1⟩ := chance_range c hc0 hc1
  have q := Cnt.p_ok c
  have e2 : Cnt.pAns c = .tuple #[.int .i64 (Cnt.chance c), .int .i64 0] := if_pos (decide_eq_true ⟨hc0, hc1⟩)
  rw [e2] at q
  have Q : Hid (∀ w, Calls Tryz.prog 107 #[.int .i64 c] w fun e w' => e = .returned (.tuple #[.int .i64 (Cnt.chance c), .int .i64 0]) ∧ w' = w) := q
  have S : Hid (∀ w, Str.Tab w → Calls Tryz.prog 108 #[.int .i64 (Cnt.chance c)] w fun e w' => e = .returned (.tuple #[.int .i64 (inp c), .int .i64 0]) ∧ Onto w w') := Str.stretch_ok (Cnt.chance c) y0 y1
  clear q e2 T y0 y1
  generalize inp c = x at *
  generalize Cnt.chance c = y at *
  go_enter Tryz.func78, Tryz.ntmps78
  go_wp2
  go_quiet (first | (go_at_call 107; with_reducible exact Calls.quiet_of_same (Q.out _)))
  go_wp2_with fail
  refine (S.out _ (TT.out.drewN _)).mono ?_
  rintro e w1 ⟨rfl, o⟩
  have B1 : Hid (Bel w w1) := ((Bel.refl w).drewN _).trans o.b
  clear o
  go_wp2
  go_ret
  exact ⟨rfl, B1.out⟩

set_option maxHeartbeats 1000000 in
theorem input_2 (B i : Nat) (hi : i < 64) (c : Int) (hc0 : 0 ≤ c) (hc1 : c ≤ 65535) (w : World) (T : Str.Tab w) (h1 : w.cell? ⟨B, 197, none⟩ = some (.int .i64 (i : Int))) (h2 : w.cell? ⟨B, 128 + i, none⟩ = some (.int .i64 c)) :
    Calls Tryz.prog 78 #[.pointer (some ⟨B, 0, none⟩), .int .i64 2] w fun e w' => e = .returned (.int .i64 (inp c)) ∧ Bel w w' := by
  have TT : Hid (Str.Tab w) := T
  obtain ⟨y0, y1⟩ := chance_range c hc0 hc1
  have q := Cnt.p_ok c
  have e2 : Cnt.pAns c = .tuple #[.int .i64 (Cnt.chance c), .int .i64 0] := if_pos (decide_eq_true ⟨hc0, hc1⟩)
  rw [e2] at q
  have Q : Hid (∀ w, Calls Tryz.prog 107 #[.int .i64 c] w fun e w' => e = .returned (.tuple #[.int .i64 (Cnt.chance c), .int .i64 0]) ∧ w' = w) := q
  have S : Hid (∀ w, Str.Tab w → Calls Tryz.prog 108 #[.int .i64 (Cnt.chance c)] w fun e w' => e = .returned (.tuple #[.int .i64 (inp c), .int .i64 0]) ∧ Onto w w') := Str.stretch_ok (Cnt.chance c) y0 y1
  clear q e2 T y0 y1
  generalize inp c = x at *
  generalize Cnt.chance c = y at *
  go_enter Tryz.func78, Tryz.ntmps78
  go_wp2
  go_quiet (first | (go_at_call 107; with_reducible exact Calls.quiet_of_same (Q.out _)))
  go_wp2_with fail
  refine (S.out _ (TT.out.drewN _)).mono ?_
  rintro e w1 ⟨rfl, o⟩
  have B1 : Hid (Bel w w1) := ((Bel.refl w).drewN _).trans o.b
  clear o
  go_wp2
  go_ret
  exact ⟨rfl, B1.out⟩

theorem results_three {fn : Func} {t : Tmp} (hf : fn.results = #[.cell t 44]) {tmps : Array Value} {b : Nat} {w : World} {x y z : Int} (ht : tmps[t]?.getD undef = .pointer (some ⟨b, 0, none⟩))
    (h : Holds w b [x, y, z]) : (results fn tmps).run Tryz.prog w = .ok (.agg #[.int .i64 x, .int .i64 y, .int .i64 z]) w := by
  have c0 : w.cell? ⟨b, 0, none⟩ = some (.int .i64 x) := h.cell 0 (by simp)
  have c1 : w.cell? ⟨b, 1, none⟩ = some (.int .i64 y) := h.cell 1 (by simp)
  have c2 : w.cell? ⟨b, 2, none⟩ = some (.int .i64 z) := h.cell 2 (by simp)
  simp [results, hf, ht, go_sem, c0, c1, c2]

theorem all3 {w : World} {B : Nat} {x y z p q r : Int} (h : Holds w B [p, q, r]) : Holds (((w.setCell ⟨B, 0, none⟩ (.int .i64 x)).setCell ⟨B, 1, none⟩ (.int .i64 y)).setCell ⟨B, 2, none⟩ (.int .i64 z)) B [x, y, z] :=
  ((h.set 0 (by simp) x).set 1 (by simp) y).set 2 (by simp) z

set_option maxHeartbeats 2000000 in
/-- byRow over a view's input: the three inputs. -/
theorem byRow_ok (B : Nat) (x y z : Int) (w : World) (V : List Int) (T : Str.Tab w) (h : Holds w B V)
    (I0 : ∀ w, Str.Tab w → Holds w B V → Calls Tryz.prog 78 #[.pointer (some ⟨B, 0, none⟩), .int .i64 0] w fun e w' => e = .returned (.int .i64 x) ∧ Bel w w')
    (I1 : ∀ w, Str.Tab w → Holds w B V → Calls Tryz.prog 78 #[.pointer (some ⟨B, 0, none⟩), .int .i64 1] w fun e w' => e = .returned (.int .i64 y) ∧ Bel w w')
    (I2 : ∀ w, Str.Tab w → Holds w B V → Calls Tryz.prog 78 #[.pointer (some ⟨B, 0, none⟩), .int .i64 2] w fun e w' => e = .returned (.int .i64 z) ∧ Bel w w') :
    Calls Tryz.prog 77 #[.func (.func 78) #[.pointer (some ⟨B, 0, none⟩)] #[]] w fun e w' => e = .returned (.agg #[.int .i64 x, .int .i64 y, .int .i64 z]) ∧ Bel w w' := by
  have TT : Hid (Str.Tab w) := T
  have HV : Hid (Holds w B V) := h
  have J0 : Hid (∀ w, Str.Tab w → Holds w B V → Calls Tryz.prog 78 #[.pointer (some ⟨B, 0, none⟩), .int .i64 0] w fun e w' => e = .returned (.int .i64 x) ∧ Bel w w') := I0
  have J1 : Hid (∀ w, Str.Tab w → Holds w B V → Calls Tryz.prog 78 #[.pointer (some ⟨B, 0, none⟩), .int .i64 1] w fun e w' => e = .returned (.int .i64 y) ∧ Bel w w') := I1
  have J2 : Hid (∀ w, Str.Tab w → Holds w B V → Calls Tryz.prog 78 #[.pointer (some ⟨B, 0, none⟩), .int .i64 2] w fun e w' => e = .returned (.int .i64 z) ∧ Bel w w') := I2
  clear T h I0 I1 I2
  go_enter Tryz.func77, Tryz.ntmps77
  go_wp2_with fail
  have h0 : Holds ((w.alloc (.cells #[.int .i64 0, .int .i64 0, .int .i64 0] 44)).alloc (.cells #[.int .i64 0, .int .i64 0, .int .i64 0] 44)) w.heap.size [0, 0, 0] := (holds_at rfl [0, 0, 0] 44).bel ((Bel.refl _).alloc _)
  have h1 : Holds ((w.alloc (.cells #[.int .i64 0, .int .i64 0, .int .i64 0] 44)).alloc (.cells #[.int .i64 0, .int .i64 0, .int .i64 0] 44)) (w.heap.size + 1) [0, 0, 0] := holds_at (by simp) [0, 0, 0] 44
  have b0 : Bel w ((w.alloc (.cells #[.int .i64 0, .int .i64 0, .int .i64 0] 44)).alloc (.cells #[.int .i64 0, .int .i64 0, .int .i64 0] 44)) := ((Bel.refl _).alloc _).alloc _
  generalize (w.alloc (.cells #[.int .i64 0, .int .i64 0, .int .i64 0] 44)).alloc (.cells #[.int .i64 0, .int .i64 0, .int .i64 0] 44) = W at *
  have R0 : Hid (Holds W w.heap.size [0, 0, 0]) := h0
  have S0 : Hid (Holds W (w.heap.size + 1) [0, 0, 0]) := h1
  have B0 : Hid (Bel w W) := b0
  clear h0 h1 b0
  refine wp_loop_rounds 4 ?_
  rw [rounds_succ]
  go_wp2_with fail
  refine (J0.out _ (tab_bel TT.out B0.out) (HV.out.bel B0.out)).mono ?_
  rintro e w1 ⟨rfl, b⟩
  have B1 : Hid (Bel w w1) := Bel.trans B0.out b
  have R1 : Hid (Holds w1 w.heap.size [0, 0, 0]) := Holds.bel R0.out b
  have S1 : Hid (Holds w1 (w.heap.size + 1) [0, 0, 0]) := Holds.bel S0.out b
  have c : w1.cell? ⟨w.heap.size + 1, 0, none⟩ = some (.int .i64 0) := S1.out.cell 0 (by simp)
  have f : w1.frozen? ⟨w.heap.size + 1, 0, none⟩ = false := S1.out.free 0 (by simp)
  clear b
  go_wp2_with fail
  clear c f
  rw [rounds_succ]
  go_wp2_with fail
  refine (J1.out _ (tab_bel TT.out (B1.out.setCell (by simp) _)) (HV.out.bel (B1.out.setCell (by simp) _))).mono ?_
  rintro e w2 ⟨rfl, b⟩
  have B2 : Hid (Bel w w2) := Bel.trans (B1.out.setCell (by simp) _) b
  have R2 : Hid (Holds w2 w.heap.size [0, 0, 0]) := Holds.bel (R1.out.other _ _ (by omega) _) b
  have S2 : Hid (Holds w2 (w.heap.size + 1) [x, 0, 0]) := Holds.bel (S1.out.set 0 (by simp) x) b
  have c : w2.cell? ⟨w.heap.size + 1, 1, none⟩ = some (.int .i64 0) := S2.out.cell 1 (by simp)
  have f : w2.frozen? ⟨w.heap.size + 1, 1, none⟩ = false := S2.out.free 1 (by simp)
  clear b
  go_wp2_with fail
  clear c f
  rw [rounds_succ]
  go_wp2_with fail
  refine (J2.out _ (tab_bel TT.out (B2.out.setCell (by simp) _)) (HV.out.bel (B2.out.setCell (by simp) _))).mono ?_
  rintro e w3 ⟨rfl, b⟩
  have B3 : Hid (Bel w w3) := Bel.trans (B2.out.setCell (by simp) _) b
  have R3 : Hid (Holds w3 w.heap.size [0, 0, 0]) := Holds.bel (R2.out.other _ _ (by omega) _) b
  have S3 : Hid (Holds w3 (w.heap.size + 1) [x, y, 0]) := Holds.bel (S2.out.set 1 (by simp) y) b
  have c : w3.cell? ⟨w.heap.size + 1, 2, none⟩ = some (.int .i64 0) := S3.out.cell 2 (by simp)
  have f : w3.frozen? ⟨w.heap.size + 1, 2, none⟩ = false := S3.out.free 2 (by simp)
  clear b
  go_wp2_with fail
  have HS : Hid (Holds (w3.setCell ⟨w.heap.size + 1, 2, none⟩ (.int .i64 z)) (w.heap.size + 1) [x, y, z]) := S3.out.set 2 (by simp) z
  have HR : Hid (Holds (w3.setCell ⟨w.heap.size + 1, 2, none⟩ (.int .i64 z)) w.heap.size [0, 0, 0]) := R3.out.other _ _ (by omega) _
  have HB : Hid (Bel w (w3.setCell ⟨w.heap.size + 1, 2, none⟩ (.int .i64 z))) := B3.out.setCell (by simp) _
  clear c f S3 R3 B3 S2 R2 B2 S1 R1 B1 S0 R0 B0 J0 J1 J2
  generalize w3.setCell ⟨w.heap.size + 1, 2, none⟩ (.int .i64 z) = W3 at *
  have c0 : W3.cell? ⟨w.heap.size + 1, 0, none⟩ = some (.int .i64 x) := HS.out.cell 0 (by simp)
  have c1 : W3.cell? ⟨w.heap.size + 1, 1, none⟩ = some (.int .i64 y) := HS.out.cell 1 (by simp)
  have c2 : W3.cell? ⟨w.heap.size + 1, 2, none⟩ = some (.int .i64 z) := HS.out.cell 2 (by simp)
  have d0 : W3.cell? ⟨w.heap.size, 0, none⟩ = some (.int .i64 0) := HR.out.cell 0 (by simp)
  have d1 : W3.cell? ⟨w.heap.size, 1, none⟩ = some (.int .i64 0) := HR.out.cell 1 (by simp)
  have d2 : W3.cell? ⟨w.heap.size, 2, none⟩ = some (.int .i64 0) := HR.out.cell 2 (by simp)
  have f0 : W3.frozen? ⟨w.heap.size, 0, none⟩ = false := HR.out.free 0 (by simp)
  have f1 : W3.frozen? ⟨w.heap.size, 1, none⟩ = false := HR.out.free 1 (by simp)
  have f2 : W3.frozen? ⟨w.heap.size, 2, none⟩ = false := HR.out.free 2 (by simp)
  rw [rounds_succ]
  go_wp2
  refine bodyPost_ret (v := .agg #[.int .i64 x, .int .i64 y, .int .i64 z]) (results_three Tryz.results77 rfl (all3 HR.out)) rfl ⟨rfl, ?_⟩
  exact ((HB.out.setCell (Nat.le_refl _) _).setCell (Nat.le_refl _) _).setCell (Nat.le_refl _) _

end Go.Proofs.YtocnlefpbcnlmaaGreatDoor.Mod

namespace Go.Proofs.YtocnlefpbcnlmaaGreatDoor.Mod
open Go.RowKit Go.Sort
set_option linter.unusedVariables false
set_option linter.unusedSimpArgs false

/-- The chance that a model tells, in a context. -/
def tell (L : List Int) (a b c : Nat) : Int := Mix.dot (L.getD 192 0) (L.getD 193 0) (L.getD 194 0) (inp (L.getD a 0)) (inp (L.getD (64 + b) 0)) (inp (L.getD (128 + c) 0))

theorem view_len {L : List Int} (hL : L.length = 195) (a b c : Int) : (L ++ [a, b, c]).length = 198 := by simp [hL]
theorem view_get {L : List Int} (hL : L.length = 195) (a b c : Int) (k : Nat) (hk : k < 195) : (L ++ [a, b, c]).getD k 0 = L.getD k 0 := by
  simp [List.getD_eq_getElem?_getD, List.getElem?_append_left, hL, hk]
theorem view_at {L : List Int} (hL : L.length = 195) (a b c : Int) : (L ++ [a, b, c]).getD 195 0 = a ∧ (L ++ [a, b, c]).getD 196 0 = b ∧ (L ++ [a, b, c]).getD 197 0 = c := by
  refine ⟨?_, ?_, ?_⟩ <;> simp [List.getD_eq_getElem?_getD, List.getElem?_append_right, hL]

/-- Inputs may be, with weights that may be. -/
theorem may_in {x y z : Int} (h : Mix.May x y z 0 0 0) (p q r : Int) : Mix.May x y z (inp p) (inp q) (inp r) := ⟨h.1, h.2.1, h.2.2.1, inp_range p, inp_range q, inp_range r⟩

/-- What the three inputs of a view are. -/
theorem rows_ok (L : List Int) (hL : L.length = 195) (a b c : Nat) (ha : a < 64) (hb : b < 64) (hc : c < 64) (hm : mayM L = true) (B : Nat) (w : World) (T : Str.Tab w) (h : Holds w B (L ++ [(a : Int), (b : Int), (c : Int)])) :
    Calls Tryz.prog 77 #[.func (.func 78) #[.pointer (some ⟨B, 0, none⟩)] #[]] w fun e w' => e = .returned (.agg #[.int .i64 (inp (L.getD a 0)), .int .i64 (inp (L.getD (64 + b) 0)), .int .i64 (inp (L.getD (128 + c) 0))]) ∧ Bel w w' := by
  have vl := view_len hL (a : Int) (b : Int) (c : Int)
  obtain ⟨v0, v1, v2⟩ := view_at hL (a : Int) (b : Int) (c : Int)
  have r0 := mayM_row hm 0 (.inl rfl) a ha
  rw [Nat.zero_add] at r0
  have r1 := mayM_row hm 64 (.inr (.inl rfl)) b hb
  have r2 := mayM_row hm 128 (.inr (.inr rfl)) c hc
  refine byRow_ok B _ _ _ w _ T h (fun w T h => ?_) (fun w T h => ?_) (fun w T h => ?_)
  · have h1 := h.cell 195 (by omega)
    have h2 := h.cell a (by omega)
    rw [v0] at h1
    rw [view_get hL _ _ _ a (by omega)] at h2
    exact input_0 B a ha _ r0.1 r0.2 w T h1 h2
  · have h1 := h.cell 196 (by omega)
    have h2 := h.cell (64 + b) (by omega)
    rw [v1] at h1
    rw [view_get hL _ _ _ (64 + b) (by omega)] at h2
    exact input_1 B b hb _ r1.1 r1.2 w T h1 h2
  · have h1 := h.cell 197 (by omega)
    have h2 := h.cell (128 + c) (by omega)
    rw [v2] at h1
    rw [view_get hL _ _ _ (128 + c) (by omega)] at h2
    exact input_2 B c hc _ r2.1 r2.2 w T h1 h2

theorem ctx_yes {a b c : Nat} (ha : a < 64) (hb : b < 64) (hc : c < 64) : ctxB (a : Int) (b : Int) (c : Int) = true := by
  simp only [ctxB, noPlace, Bool.not_eq_true', Bool.or_eq_false_iff, decide_eq_false_iff_not]
  omega

set_option maxHeartbeats 1000000 in
theorem p_no (L : List Int) (hL : L.length = 195) (a b c : Int) (no : (ctxB a b c && mayM L) = false) (w : World) (T : Str.Tab w) :
    Calls Tryz.prog 47 #[mdl L, .agg #[.int .i64 a, .int .i64 b, .int .i64 c]] w fun e w' => e = .returned (.tuple #[.int .i64 0, .int .i64 900]) ∧ Bel w w' := by
  have TT : Hid (Str.Tab w) := T
  have NL : Hid (L.length = 195) := hL
  have NZ : Hid (zeros8.length = 198) := zeros8_len
  have z := zero47
  have VV : Hid (∀ (B : Nat) (w : World), Str.Tab w → Holds w B (L ++ [a, b, c]) → Calls Tryz.prog 75 #[.pointer (some ⟨B, 0, none⟩)] w fun e w' => e = .returned (.bool false) ∧ Bel w w') := fun B w T h => no ▸ view_ok L hL a b c B w T h
  have VL : Hid ((L ++ [a, b, c]).length = 198) := view_len hL _ _ _
  have H1 : Hid (Holds ((w.alloc (.cells (vals L).toArray 46)).alloc (.cells #[.int .i64 a, .int .i64 b, .int .i64 c] 44)) w.heap.size L) := (holds_new w L 46).bel ((Bel.refl _).alloc _)
  generalize zeros8 = Z at *
  clear T hL no
  go_enter Tryz.func47, Tryz.ntmps47
  go_wp2_with (first
    | (with_reducible refine wpl_load26' H1.out NL.out rfl ?_)
    | (with_reducible refine wpl_build47 NL.out rfl rfl ?_)
    | ((with_reducible refine wpl_store47 (B := w.heap.size + 2) (L := Z) ?hh NZ.out VL.out rfl rfl ?hk); (case hh => exact holds_at (by simp) Z 120)))
  have h2 : Holds ((((w.alloc (.cells (vals L).toArray 46)).alloc (.cells #[.int .i64 a, .int .i64 b, .int .i64 c] 44)).alloc (.cells (vals Z).toArray 120)).setCells (w.heap.size + 2) 0 (vals (L ++ [a, b, c]))) (w.heap.size + 2) (L ++ [a, b, c]) := holds_all (holds_at (by simp) Z 120) _ (NZ.out.trans VL.out.symm)
  have b2 : Bel w ((((w.alloc (.cells (vals L).toArray 46)).alloc (.cells #[.int .i64 a, .int .i64 b, .int .i64 c] 44)).alloc (.cells (vals Z).toArray 120)).setCells (w.heap.size + 2) 0 (vals (L ++ [a, b, c]))) := Bel.setCells (by omega) _ _ ((((Bel.refl _).alloc _).alloc _).alloc _)
  generalize (((w.alloc (.cells (vals L).toArray 46)).alloc (.cells #[.int .i64 a, .int .i64 b, .int .i64 c] 44)).alloc (.cells (vals Z).toArray 120)).setCells (w.heap.size + 2) 0 (vals (L ++ [a, b, c])) = W at *
  have H2 : Hid (Holds W (w.heap.size + 2) (L ++ [a, b, c])) := h2
  have B2 : Hid (Bel w W) := b2
  clear h2 b2 z
  refine (VV.out _ _ (tab_bel TT.out B2.out) H2.out).mono ?_
  rintro e w1 ⟨rfl, b1⟩
  have B1 : Hid (Bel w w1) := B2.out.trans b1
  have H3 : Hid (Holds w1 (w.heap.size + 2) (L ++ [a, b, c])) := H2.out.bel b1
  clear b1 B2 H2
  go_wp2
  go_ret2
  exact ⟨rfl, B1.out⟩

set_option maxHeartbeats 2000000 in
theorem p_yes (L : List Int) (hL : L.length = 195) (a b c : Nat) (ha : a < 64) (hb : b < 64) (hc : c < 64) (hm : mayM L = true) (w : World) (T : Str.Tab w) :
    Calls Tryz.prog 47 #[mdl L, .agg #[.int .i64 (a : Int), .int .i64 (b : Int), .int .i64 (c : Int)]] w fun e w' => e = .returned (.tuple #[.int .i64 (tell L a b c), .int .i64 0]) ∧ Bel w w' := by
  have TT : Hid (Str.Tab w) := T
  have NL : Hid (L.length = 195) := hL
  have NZ : Hid (zeros8.length = 198) := zeros8_len
  have z := zero47
  have VV : Hid (∀ (B : Nat) (w : World), Str.Tab w → Holds w B (L ++ [(a : Int), (b : Int), (c : Int)]) → Calls Tryz.prog 75 #[.pointer (some ⟨B, 0, none⟩)] w fun e w' => e = .returned (.bool true) ∧ Bel w w') := fun B w T h => by have := view_ok L hL (a : Int) (b : Int) (c : Int) B w T h; rwa [show (ctxB (a : Int) (b : Int) (c : Int) && mayM L) = true by rw [hm, ctx_yes ha hb hc]; rfl] at this
  have VL : Hid ((L ++ [(a : Int), (b : Int), (c : Int)]).length = 198) := view_len hL _ _ _
  have H1 : Hid (Holds ((w.alloc (.cells (vals L).toArray 46)).alloc (.cells #[.int .i64 (a : Int), .int .i64 (b : Int), .int .i64 (c : Int)] 44)) w.heap.size L) := (holds_new w L 46).bel ((Bel.refl _).alloc _)
  generalize zeros8 = Z at *
  have RR : Hid (∀ (B : Nat) (w : World), Str.Tab w → Holds w B (L ++ [(a : Int), (b : Int), (c : Int)]) → Calls Tryz.prog 77 #[.func (.func 78) #[.pointer (some ⟨B, 0, none⟩)] #[]] w fun e w' => e = .returned (.agg #[.int .i64 (inp (L.getD a 0)), .int .i64 (inp (L.getD (64 + b) 0)), .int .i64 (inp (L.getD (128 + c) 0))]) ∧ Bel w w') := rows_ok L hL a b c ha hb hc hm
  have DD : Hid (∀ (w : World), Str.Tab w → Calls Tryz.prog 76 #[.agg #[.int .i64 (L.getD 192 0), .int .i64 (L.getD 193 0), .int .i64 (L.getD 194 0)], .agg #[.int .i64 (inp (L.getD a 0)), .int .i64 (inp (L.getD (64 + b) 0)), .int .i64 (inp (L.getD (128 + c) 0))]] w fun e w' => e = .returned (.tuple #[.int .i64 (tell L a b c), .int .i64 0]) ∧ Onto w w') := Mix.dot_yes _ _ _ _ _ _ (may_in (mayM_wts hm) _ _ _)
  have W0 : Hid ((L ++ [(a : Int), (b : Int), (c : Int)]).getD 192 0 = L.getD 192 0 ∧ (L ++ [(a : Int), (b : Int), (c : Int)]).getD 193 0 = L.getD 193 0 ∧ (L ++ [(a : Int), (b : Int), (c : Int)]).getD 194 0 = L.getD 194 0) := ⟨view_get hL _ _ _ _ (by decide), view_get hL _ _ _ _ (by decide), view_get hL _ _ _ _ (by decide)⟩
  clear T hL hm ha hb hc
  generalize tell L a b c = p at *
  generalize inp (L.getD a 0) = x at *
  generalize inp (L.getD (64 + b) 0) = y at *
  generalize inp (L.getD (128 + c) 0) = u at *
  go_enter Tryz.func47, Tryz.ntmps47
  go_wp2_with (first
    | (with_reducible refine wpl_load26' H1.out NL.out rfl ?_)
    | (with_reducible refine wpl_build47 NL.out rfl rfl ?_)
    | ((with_reducible refine wpl_store47 (B := w.heap.size + 2) (L := Z) ?hh NZ.out VL.out rfl rfl ?hk); (case hh => exact holds_at (by simp) Z 120)))
  have h2 : Holds ((((w.alloc (.cells (vals L).toArray 46)).alloc (.cells #[.int .i64 (a : Int), .int .i64 (b : Int), .int .i64 (c : Int)] 44)).alloc (.cells (vals Z).toArray 120)).setCells (w.heap.size + 2) 0 (vals (L ++ [(a : Int), (b : Int), (c : Int)]))) (w.heap.size + 2) (L ++ [(a : Int), (b : Int), (c : Int)]) := holds_all (holds_at (by simp) Z 120) _ (NZ.out.trans VL.out.symm)
  have b2 : Bel w ((((w.alloc (.cells (vals L).toArray 46)).alloc (.cells #[.int .i64 (a : Int), .int .i64 (b : Int), .int .i64 (c : Int)] 44)).alloc (.cells (vals Z).toArray 120)).setCells (w.heap.size + 2) 0 (vals (L ++ [(a : Int), (b : Int), (c : Int)]))) := Bel.setCells (by omega) _ _ ((((Bel.refl _).alloc _).alloc _).alloc _)
  generalize (((w.alloc (.cells (vals L).toArray 46)).alloc (.cells #[.int .i64 (a : Int), .int .i64 (b : Int), .int .i64 (c : Int)] 44)).alloc (.cells (vals Z).toArray 120)).setCells (w.heap.size + 2) 0 (vals (L ++ [(a : Int), (b : Int), (c : Int)])) = W at *
  have H2 : Hid (Holds W (w.heap.size + 2) (L ++ [(a : Int), (b : Int), (c : Int)])) := h2
  have B2 : Hid (Bel w W) := b2
  clear h2 b2 z
  refine (VV.out _ _ (tab_bel TT.out B2.out) H2.out).mono ?_
  rintro e w1 ⟨rfl, b1⟩
  have B1 : Hid (Bel w w1) := B2.out.trans b1
  have H3 : Hid (Holds w1 (w.heap.size + 2) (L ++ [(a : Int), (b : Int), (c : Int)])) := H2.out.bel b1
  clear b1 B2 H2
  have k0 := H3.out.cell 192 (by rw [VL.out]; decide)
  have k1 := H3.out.cell 193 (by rw [VL.out]; decide)
  have k2 := H3.out.cell 194 (by rw [VL.out]; decide)
  rw [W0.out.1] at k0
  rw [W0.out.2.1] at k1
  rw [W0.out.2.2] at k2
  generalize L.getD 192 0 = x0 at *
  generalize L.getD 193 0 = x1 at *
  generalize L.getD 194 0 = x2 at *
  have SO : Hid (∀ wx, Bel w1 wx → wx.cell? ⟨w.heap.size + 2, 192, none⟩ = some (.int .i64 x0) ∧ wx.cell? ⟨w.heap.size + 2, 193, none⟩ = some (.int .i64 x1) ∧ wx.cell? ⟨w.heap.size + 2, 194, none⟩ = some (.int .i64 x2)) := fun wx o => ⟨o.keep k0, o.keep k1, o.keep k2⟩
  go_wp2_with fail
  go_region_held3 (fun wx => wx.cell? ⟨w.heap.size + 2, 192, none⟩ = some (.int .i64 x0) ∧ wx.cell? ⟨w.heap.size + 2, 193, none⟩ = some (.int .i64 x1) ∧ wx.cell? ⟨w.heap.size + 2, 194, none⟩ = some (.int .i64 x2))
    ((refine SO.out _ ?_; first | (with_reducible exact Bel.refl _) | (with_reducible exact (Bel.refl _).drew) | (with_reducible exact bq2) | (with_reducible exact bq3)))
    (first
      | (go_at_call 77; (with_reducible refine (RR.out _ _ (tab_bel TT.out B1.out.drew) (H3.out.drew)).mono ?_); rintro e w2 ⟨rfl, b⟩; have bq2 : Bel w1 w2 := (Bel.refl w1).drew.trans b; clear b)
      | (go_at_call 76; (with_reducible refine (DD.out _ (tab_bel TT.out (B1.out.trans bq2))).mono ?_); rintro e w3 ⟨rfl, b⟩; have bq3 : Bel w1 w3 := bq2.trans b.b; clear b))
  all_goals go_wp2
  all_goals go_ret2
  all_goals exact ⟨rfl, B1.out.trans bq3⟩

end Go.Proofs.YtocnlefpbcnlmaaGreatDoor.Mod

namespace Go.Proofs.YtocnlefpbcnlmaaGreatDoor.Mod
open Go.RowKit Go.Sort
set_option linter.unusedVariables false
set_option linter.unusedSimpArgs false

/-- A model whose weights are turned. -/
def setW (L : List Int) (x y z : Int) : List Int := ((L.set 192 x).set 193 y).set 194 z
/-- What becomes of the three weights. -/
def trnW (L : List Int) (a b c : Nat) (bit : Int) (k x : Int) : Int := Mix.trn k (inp x) (4096 * bit - tell L a b c)
/-- A model that has learned a bit. -/
def learn (L : List Int) (a b c : Nat) (bit : Int) : List Int :=
  (((setW L (trnW L a b c bit (L.getD 192 0) (L.getD a 0)) (trnW L a b c bit (L.getD 193 0) (L.getD (64 + b) 0)) (trnW L a b c bit (L.getD 194 0) (L.getD (128 + c) 0))).set a (Cnt.step (L.getD a 0) bit)).set (64 + b) (Cnt.step (L.getD (64 + b) 0) bit)).set (128 + c) (Cnt.step (L.getD (128 + c) 0) bit)
theorem setW_len (L : List Int) (x y z : Int) : (setW L x y z).length = L.length := by simp [setW]
theorem learn_len (L : List Int) (a b c : Nat) (bit : Int) : (learn L a b c bit).length = L.length := by simp [learn, setW_len]
theorem set_view {L : List Int} (hL : L.length = 195) (X : List Int) (k : Nat) (hk : k < 195) (x : Int) : (L ++ X).set k x = L.set k x ++ X :=
  List.set_append_left k x (by omega)

set_option maxHeartbeats 400000 in
theorem isBit_ok (b : Int) (w : World) :
    Calls Tryz.prog 79 #[.int .i64 b] w fun e w' => e = .returned (.bool (Cnt.bitB b)) ∧ w' = w := by
  by_cases h0 : b = 0
  · subst h0
    go_enter Tryz.func79, Tryz.ntmps79
    go_wp2
    go_ret
    exact ⟨rfl, rfl⟩
  · by_cases h1 : b = 1
    · subst h1
      go_enter Tryz.func79, Tryz.ntmps79
      go_wp2
      go_ret
      exact ⟨rfl, rfl⟩
    · have e0 : (b == 0) = false := by simpa using h0
      have e1 : (b == 1) = false := by simpa using h1
      have e : Cnt.bitB b = false := decide_eq_false fun k => k.elim h0 h1
      rw [e]
      clear h0 h1 e
      go_enter Tryz.func79, Tryz.ntmps79
      go_wp2
      go_ret
      exact ⟨rfl, rfl⟩

theorem wpl_load26v {ops : Array Oper} {rest : List Oper} {dst : Option Tmp} {a : Act} {w : World} {Q : Exit → Act → World → Prop} {ty : TypeId} {pos : String} {after : Array Edge} {x : Operand} {B : Nat} {M X : List Int}
    (h : Holds w B (M ++ X)) (hM : M.length = 195) (hx : a.eval x = .pointer (some ⟨B, 0, none⟩)) (k : wpList Tryz.prog ops Q rest (a.put dst (mdl M)) w) :
    wpList Tryz.prog ops Q ({ dst := dst, op := .load 46 x, type := ty, pos := pos, after := after, guard := none } :: rest) a w :=
  wpl_load26 h (by rw [List.length_append]; omega) hx (by rwa [show (M ++ X).take 195 = M by rw [← hM]; exact List.take_left])

theorem ix0 (p q r : Value) (w : World) : (Instr.index 44 (.agg #[p, q, r]) (.int .i64 0)).run Tryz.prog w = .ok p w := by kernel_rfl
theorem ix1 (p q r : Value) (w : World) : (Instr.index 44 (.agg #[p, q, r]) (.int .i64 1)).run Tryz.prog w = .ok q w := by kernel_rfl
theorem ix2 (p q r : Value) (w : World) : (Instr.index 44 (.agg #[p, q, r]) (.int .i64 2)).run Tryz.prog w = .ok r w := by kernel_rfl

theorem results_model2 {fn : Func} {t u : Tmp} (hf : fn.results = #[.cell t 46, .tmp u]) {tmps : Array Value} {b : Nat} {w : World} {L : List Int} {v : Value} (ht : tmps[t]?.getD undef = .pointer (some ⟨b, 0, none⟩)) (hv : tmps[u]?.getD undef = v)
    (h : Holds w b L) (hL : L.length = 195) : (results fn tmps).run Tryz.prog w = .ok (.tuple #[mdl L, v]) w := by
  have h3 := h.range
  have := run_loadVar_mid (P := Tryz.prog) w b 0 46 (vals L) _ h3 Tryz.underlying46 rfl (by rw [size26, vals_length, hL])
  simp [results, hf, ht, hv, this, Sem.run_bind, asAddr]

set_option maxHeartbeats 1000000 in
theorem learn_no (L : List Int) (hL : L.length = 195) (a b c bit : Int) (no : (ctxB a b c && mayM L) = false) (w : World) (T : Str.Tab w) :
    Calls Tryz.prog 48 #[mdl L, .agg #[.int .i64 a, .int .i64 b, .int .i64 c], .int .i64 bit] w fun e w' => e = .returned (.tuple #[mdl zeros, .int .i64 900]) ∧ Bel w w' := by
  have TT : Hid (Str.Tab w) := T
  have NL : Hid (L.length = 195) := hL
  have NZ : Hid (zeros8.length = 198) := zeros8_len
  have z := zero47
  have VV : Hid (∀ (B : Nat) (w : World), Str.Tab w → Holds w B (L ++ [a, b, c]) → Calls Tryz.prog 75 #[.pointer (some ⟨B, 0, none⟩)] w fun e w' => e = .returned (.bool false) ∧ Bel w w') := fun B w T h => no ▸ view_ok L hL a b c B w T h
  have VL : Hid ((L ++ [a, b, c]).length = 198) := view_len hL _ _ _
  have N6 : Hid (zeros.length = 195) := zeros_len
  have z6 := zero26
  have H1 : Hid (Holds (((w.alloc (.cells (vals L).toArray 46)).alloc (.cells #[.int .i64 a, .int .i64 b, .int .i64 c] 44)).alloc (.cells (vals zeros).toArray 46)) w.heap.size L) := (holds_new w L 46).bel (((Bel.refl _).alloc _).alloc _)
  generalize zeros8 = Z at *
  clear T hL no
  go_enter Tryz.func48, Tryz.ntmps48
  go_wp2_with (first
    | (with_reducible refine wpl_load26' H1.out NL.out rfl ?_)
    | (with_reducible refine wpl_build47 NL.out rfl rfl ?_)
    | ((with_reducible refine wpl_store47 (B := w.heap.size + 3) (L := Z) ?hh NZ.out VL.out rfl rfl ?hk); (case hh => exact holds_at (by simp) Z 120)))
  have h2 : Holds (((((w.alloc (.cells (vals L).toArray 46)).alloc (.cells #[.int .i64 a, .int .i64 b, .int .i64 c] 44)).alloc (.cells (vals zeros).toArray 46)).alloc (.cells (vals Z).toArray 120)).setCells (w.heap.size + 3) 0 (vals (L ++ [a, b, c]))) (w.heap.size + 3) (L ++ [a, b, c]) := holds_all (holds_at (by simp) Z 120) _ (NZ.out.trans VL.out.symm)
  have h6 : Holds (((((w.alloc (.cells (vals L).toArray 46)).alloc (.cells #[.int .i64 a, .int .i64 b, .int .i64 c] 44)).alloc (.cells (vals zeros).toArray 46)).alloc (.cells (vals Z).toArray 120)).setCells (w.heap.size + 3) 0 (vals (L ++ [a, b, c]))) (w.heap.size + 2) zeros := Holds.others (by omega) _ _ ((holds_at (by simp) zeros 46).bel ((Bel.refl _).alloc _))
  have b2 : Bel w (((((w.alloc (.cells (vals L).toArray 46)).alloc (.cells #[.int .i64 a, .int .i64 b, .int .i64 c] 44)).alloc (.cells (vals zeros).toArray 46)).alloc (.cells (vals Z).toArray 120)).setCells (w.heap.size + 3) 0 (vals (L ++ [a, b, c]))) := Bel.setCells (by omega) _ _ (((((Bel.refl _).alloc _).alloc _).alloc _).alloc _)
  generalize ((((w.alloc (.cells (vals L).toArray 46)).alloc (.cells #[.int .i64 a, .int .i64 b, .int .i64 c] 44)).alloc (.cells (vals zeros).toArray 46)).alloc (.cells (vals Z).toArray 120)).setCells (w.heap.size + 3) 0 (vals (L ++ [a, b, c])) = W at *
  have H2 : Hid (Holds W (w.heap.size + 3) (L ++ [a, b, c])) := h2
  have H6 : Hid (Holds W (w.heap.size + 2) zeros) := h6
  have B2 : Hid (Bel w W) := b2
  clear h2 b2 z h6
  refine (VV.out _ _ (tab_bel TT.out B2.out) H2.out).mono ?_
  rintro e w1 ⟨rfl, b1⟩
  have B1 : Hid (Bel w w1) := B2.out.trans b1
  have H3 : Hid (Holds w1 (w.heap.size + 3) (L ++ [a, b, c])) := H2.out.bel b1
  have R1 : Hid (Holds w1 (w.heap.size + 2) zeros) := H6.out.bel b1
  clear b1 B2 H2 H6
  go_wp2_with (first
    | (with_reducible refine wpl_build26 ?_)
    | (with_reducible refine wpl_store26 R1.out N6.out N6.out rfl rfl ?_))
  have R2 := holds_all R1.out zeros rfl
  exact bodyPost_ret (v := .tuple #[mdl zeros, .int .i64 900]) (results_model2 Tryz.results48 rfl rfl R2 N6.out) rfl ⟨rfl, Bel.setCells (by omega) _ _ B1.out⟩

set_option maxHeartbeats 1000000 in
theorem learn_bit (L : List Int) (hL : L.length = 195) (a b c bit : Int) (yes : (ctxB a b c && mayM L) = true) (hbit : Cnt.bitB bit = false) (w : World) (T : Str.Tab w) :
    Calls Tryz.prog 48 #[mdl L, .agg #[.int .i64 a, .int .i64 b, .int .i64 c], .int .i64 bit] w fun e w' => e = .returned (.tuple #[mdl zeros, .int .i64 900]) ∧ Bel w w' := by
  have TT : Hid (Str.Tab w) := T
  have NL : Hid (L.length = 195) := hL
  have NZ : Hid (zeros8.length = 198) := zeros8_len
  have z := zero47
  have VV : Hid (∀ (B : Nat) (w : World), Str.Tab w → Holds w B (L ++ [a, b, c]) → Calls Tryz.prog 75 #[.pointer (some ⟨B, 0, none⟩)] w fun e w' => e = .returned (.bool true) ∧ Bel w w') := fun B w T h => yes ▸ view_ok L hL a b c B w T h
  have VL : Hid ((L ++ [a, b, c]).length = 198) := view_len hL _ _ _
  have N6 : Hid (zeros.length = 195) := zeros_len
  have z6 := zero26
  have H1 : Hid (Holds (((w.alloc (.cells (vals L).toArray 46)).alloc (.cells #[.int .i64 a, .int .i64 b, .int .i64 c] 44)).alloc (.cells (vals zeros).toArray 46)) w.heap.size L) := (holds_new w L 46).bel (((Bel.refl _).alloc _).alloc _)
  generalize zeros8 = Z at *
  have BB : Hid (∀ w, Calls Tryz.prog 79 #[.int .i64 bit] w fun e w' => e = .returned (.bool false) ∧ w' = w) := hbit ▸ isBit_ok bit
  clear T hL yes hbit
  go_enter Tryz.func48, Tryz.ntmps48
  go_wp2_with (first
    | (with_reducible refine wpl_load26' H1.out NL.out rfl ?_)
    | (with_reducible refine wpl_build47 NL.out rfl rfl ?_)
    | ((with_reducible refine wpl_store47 (B := w.heap.size + 3) (L := Z) ?hh NZ.out VL.out rfl rfl ?hk); (case hh => exact holds_at (by simp) Z 120)))
  have h2 : Holds (((((w.alloc (.cells (vals L).toArray 46)).alloc (.cells #[.int .i64 a, .int .i64 b, .int .i64 c] 44)).alloc (.cells (vals zeros).toArray 46)).alloc (.cells (vals Z).toArray 120)).setCells (w.heap.size + 3) 0 (vals (L ++ [a, b, c]))) (w.heap.size + 3) (L ++ [a, b, c]) := holds_all (holds_at (by simp) Z 120) _ (NZ.out.trans VL.out.symm)
  have h6 : Holds (((((w.alloc (.cells (vals L).toArray 46)).alloc (.cells #[.int .i64 a, .int .i64 b, .int .i64 c] 44)).alloc (.cells (vals zeros).toArray 46)).alloc (.cells (vals Z).toArray 120)).setCells (w.heap.size + 3) 0 (vals (L ++ [a, b, c]))) (w.heap.size + 2) zeros := Holds.others (by omega) _ _ ((holds_at (by simp) zeros 46).bel ((Bel.refl _).alloc _))
  have b2 : Bel w (((((w.alloc (.cells (vals L).toArray 46)).alloc (.cells #[.int .i64 a, .int .i64 b, .int .i64 c] 44)).alloc (.cells (vals zeros).toArray 46)).alloc (.cells (vals Z).toArray 120)).setCells (w.heap.size + 3) 0 (vals (L ++ [a, b, c]))) := Bel.setCells (by omega) _ _ (((((Bel.refl _).alloc _).alloc _).alloc _).alloc _)
  generalize ((((w.alloc (.cells (vals L).toArray 46)).alloc (.cells #[.int .i64 a, .int .i64 b, .int .i64 c] 44)).alloc (.cells (vals zeros).toArray 46)).alloc (.cells (vals Z).toArray 120)).setCells (w.heap.size + 3) 0 (vals (L ++ [a, b, c])) = W at *
  have H2 : Hid (Holds W (w.heap.size + 3) (L ++ [a, b, c])) := h2
  have H6 : Hid (Holds W (w.heap.size + 2) zeros) := h6
  have B2 : Hid (Bel w W) := b2
  clear h2 b2 z h6
  refine (VV.out _ _ (tab_bel TT.out B2.out) H2.out).mono ?_
  rintro e w1 ⟨rfl, b1⟩
  have B1 : Hid (Bel w w1) := B2.out.trans b1
  have H3 : Hid (Holds w1 (w.heap.size + 3) (L ++ [a, b, c])) := H2.out.bel b1
  have R1 : Hid (Holds w1 (w.heap.size + 2) zeros) := H6.out.bel b1
  clear b1 B2 H2 H6
  go_wp2_with fail
  refine (BB.out _).mono ?_
  rintro e w9 ⟨rfl, rfl⟩
  go_wp2_with (first
    | (with_reducible refine wpl_build26 ?_)
    | (with_reducible refine wpl_store26 R1.out N6.out N6.out rfl rfl ?_))
  have R2 := holds_all R1.out zeros rfl
  exact bodyPost_ret (v := .tuple #[mdl zeros, .int .i64 900]) (results_model2 Tryz.results48 rfl rfl R2 N6.out) rfl ⟨rfl, Bel.setCells (by omega) _ _ B1.out⟩

end Go.Proofs.YtocnlefpbcnlmaaGreatDoor.Mod
