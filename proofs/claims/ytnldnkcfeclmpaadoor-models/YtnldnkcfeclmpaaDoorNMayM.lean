/-
  The contracts of model.May and of a view's may. Condition: the package's table is laid as its text lays it.
-/
import Derived.Test.YtnldnkcfeclmpaaDoorNMay
namespace Go.Proofs.YtnldnkcfeclmpaaDoor.Mod
open Go.RowKit Go.Sort
set_option linter.unusedVariables false
set_option linter.unusedSimpArgs false

/-- Is there one in the row from o on that is no counter? -/
def rowBad (L : List Int) (o : Nat) : Bool := anyOf noCnt (fun j => L.getD (o + j) 0) 64
def wtsB (L : List Int) : Bool := Mix.mayB (L.getD 192 0) (L.getD 193 0) (L.getD 194 0) 0 0 0
/-- May it be a model? -/
def mayM (L : List Int) : Bool := !rowBad L 0 && (!rowBad L 64 && (!rowBad L 128 && wtsB L))
/-- May it be a context? -/
def ctxB (a b c : Int) : Bool := !(noPlace a || noPlace b || noPlace c)

theorem mayM_row {L : List Int} (h : mayM L = true) (o : Nat) (ho : o = 0 ∨ o = 64 ∨ o = 128) (j : Nat) (hj : j < 64) : 0 ≤ L.getD (o + j) 0 ∧ L.getD (o + j) 0 ≤ 65535 := by
  have hb : rowBad L o = false := by
    simp only [mayM, Bool.and_eq_true, Bool.not_eq_true'] at h
    rcases ho with rfl | rfl | rfl
    · exact h.1
    · exact h.2.1
    · exact h.2.2.1
  have := anyOf_false hb j hj
  simp only [noCnt, Bool.not_eq_false'] at this
  exact Cnt.cntB_of this

theorem mayM_wts {L : List Int} (h : mayM L = true) : Mix.May (L.getD 192 0) (L.getD 193 0) (L.getD 194 0) 0 0 0 := by
  simp only [mayM, Bool.and_eq_true, Bool.not_eq_true'] at h
  exact (Mix.mayB_iff _ _ _ _ _ _).1 h.2.2.2

theorem ctxB_of {a b c : Int} (h : ctxB a b c = true) : (0 ≤ a ∧ a < 64) ∧ (0 ≤ b ∧ b < 64) ∧ 0 ≤ c ∧ c < 64 := by
  simp only [ctxB, noPlace, Bool.not_eq_true', Bool.or_eq_false_iff, decide_eq_false_iff_not] at h
  omega

theorem dot_any (a b c : Int) (w : World) (T : Str.Tab w) :
    Calls Tryd.prog 19 #[.agg #[.int .i64 a, .int .i64 b, .int .i64 c], .agg #[.int .i64 0, .int .i64 0, .int .i64 0]] w fun e w' => (∃ y n, e = .returned (.tuple #[.int .i64 y, .int .i64 n]) ∧ (n == 0) = Mix.mayB a b c 0 0 0) ∧ Bel w w' := by
  by_cases h : Mix.May a b c 0 0 0
  · exact (Mix.dot_yes a b c 0 0 0 h w T).mono fun _ _ k => ⟨⟨_, _, k.1, by rw [Mix.mayB_yes h]; rfl⟩, k.2.b⟩
  · exact (Mix.dot_no a b c 0 0 0 h w).mono fun _ _ k => ⟨⟨_, _, k.1, by rw [Mix.mayB_no h]; rfl⟩, k.2.b⟩

set_option maxHeartbeats 2000000 in
theorem may_ok (L : List Int) (hL : L.length = 195) (w : World) (T : Str.Tab w) :
    Calls Tryd.prog 13 #[mdl L] w fun e w' => e = .returned (.bool (mayM L)) ∧ Bel w w' := by
  have TT : Hid (Str.Tab w) := T
  have C : Hid (∀ (o B : Nat) (w : World), Holds w B L → (o = 0 ∨ o = 64 ∨ o = 128) → Calls Tryd.prog 31 #[.slice (some ⟨B, o, none⟩) 64 64, .func (.func 32) #[] #[]] w fun e w' => e = .returned (.bool (rowBad L o)) ∧ w' = w) :=
    fun o B w h ho => contains_noCnt 64 (Nat.le_refl _) o B (fun j => L.getD (o + j) 0) w (fun j hj => h.cell (o + j) (by omega))
  have NL : Hid (L.length = 195) := hL
  have D : Hid (∀ (w : World), Str.Tab w → Calls Tryd.prog 19 #[.agg #[.int .i64 (L.getD 192 0), .int .i64 (L.getD 193 0), .int .i64 (L.getD 194 0)], .agg #[.int .i64 0, .int .i64 0, .int .i64 0]] w fun e w' => (∃ y n, e = .returned (.tuple #[.int .i64 y, .int .i64 n]) ∧ (n == 0) = wtsB L) ∧ Bel w w') := dot_any _ _ _
  clear T hL
  unfold mayM
  cases hb0 : rowBad L 0
  · cases hb1 : rowBad L 64
    · cases hb2 : rowBad L 128
      · simp only [Bool.not_false, Bool.true_and]
        generalize wtsB L = q at *
        go_enter Tryd.func13, Tryd.ntmps13
        go_wp2_with fail
        have h0 := holds_new w L 26
        have b0 := (Bel.refl w).alloc (.cells (vals L).toArray 26)
        generalize w.alloc (.cells (vals L).toArray 26) = W at *
        have HW : Hid (Holds W w.heap.size L) := h0
        have BW : Hid (Bel w W) := b0
        have c0 := h0.cell 192 (by rw [NL.out]; decide)
        have c1 := h0.cell 193 (by rw [NL.out]; decide)
        have c2 := h0.cell 194 (by rw [NL.out]; decide)
        clear h0 b0
        have DD := D
        generalize L.getD 192 0 = x0 at *
        generalize L.getD 193 0 = x1 at *
        generalize L.getD 194 0 = x2 at *
        refine wp_loop_rounds 4 ?_
        rw [rounds_succ]
        go_wp2_with fail
        refine (C.out 0 w.heap.size _ HW.out (by decide)).mono ?_
        rw [hb0]
        rintro e w1 ⟨rfl, rfl⟩
        go_wp2_with fail
        rw [rounds_succ]
        go_wp2_with fail
        refine (C.out 64 w.heap.size _ HW.out (by decide)).mono ?_
        rw [hb1]
        rintro e w1 ⟨rfl, rfl⟩
        go_wp2_with fail
        rw [rounds_succ]
        go_wp2_with fail
        refine (C.out 128 w.heap.size _ HW.out (by decide)).mono ?_
        rw [hb2]
        rintro e w1 ⟨rfl, rfl⟩
        go_wp2_with fail
        rw [rounds_succ]
        go_wp2_with fail
        refine (DD.out _ (tab_bel TT.out BW.out)).mono ?_
        rintro e w1 ⟨⟨y, n, rfl, hn⟩, b⟩
        have B1 : Hid (Bel w w1) := BW.out.trans b
        clear b c0 c1 c2 DD D C HW BW
        subst hn
        go_wp2
        go_ret
        exact ⟨rfl, B1.out⟩
      · simp only [Bool.not_false, Bool.not_true, Bool.true_and, Bool.false_and]
        go_enter Tryd.func13, Tryd.ntmps13
        go_wp2_with fail
        have h0 := holds_new w L 26
        have b0 := (Bel.refl w).alloc (.cells (vals L).toArray 26)
        generalize w.alloc (.cells (vals L).toArray 26) = W at *
        have HW : Hid (Holds W w.heap.size L) := h0
        have BW : Hid (Bel w W) := b0
        clear h0 b0
        refine wp_loop_rounds 3 ?_
        rw [rounds_succ]
        go_wp2_with fail
        refine (C.out 0 w.heap.size _ HW.out (by decide)).mono ?_
        rw [hb0]
        rintro e w1 ⟨rfl, rfl⟩
        go_wp2_with fail
        rw [rounds_succ]
        go_wp2_with fail
        refine (C.out 64 w.heap.size _ HW.out (by decide)).mono ?_
        rw [hb1]
        rintro e w1 ⟨rfl, rfl⟩
        go_wp2_with fail
        rw [rounds_succ]
        go_wp2_with fail
        refine (C.out 128 w.heap.size _ HW.out (by decide)).mono ?_
        rw [hb2]
        rintro e w1 ⟨rfl, rfl⟩
        go_wp2_with fail
        go_ret
        exact ⟨rfl, BW.out⟩
    · simp only [Bool.not_false, Bool.not_true, Bool.true_and, Bool.false_and]
      go_enter Tryd.func13, Tryd.ntmps13
      go_wp2_with fail
      have h0 := holds_new w L 26
      have b0 := (Bel.refl w).alloc (.cells (vals L).toArray 26)
      generalize w.alloc (.cells (vals L).toArray 26) = W at *
      have HW : Hid (Holds W w.heap.size L) := h0
      have BW : Hid (Bel w W) := b0
      clear h0 b0
      refine wp_loop_rounds 2 ?_
      rw [rounds_succ]
      go_wp2_with fail
      refine (C.out 0 w.heap.size _ HW.out (by decide)).mono ?_
      rw [hb0]
      rintro e w1 ⟨rfl, rfl⟩
      go_wp2_with fail
      rw [rounds_succ]
      go_wp2_with fail
      refine (C.out 64 w.heap.size _ HW.out (by decide)).mono ?_
      rw [hb1]
      rintro e w1 ⟨rfl, rfl⟩
      go_wp2_with fail
      go_ret
      exact ⟨rfl, BW.out⟩
  · simp only [Bool.not_true, Bool.false_and]
    go_enter Tryd.func13, Tryd.ntmps13
    go_wp2_with fail
    have h0 := holds_new w L 26
    have b0 := (Bel.refl w).alloc (.cells (vals L).toArray 26)
    generalize w.alloc (.cells (vals L).toArray 26) = W at *
    have HW : Hid (Holds W w.heap.size L) := h0
    have BW : Hid (Bel w W) := b0
    clear h0 b0
    refine wp_loop_rounds 1 ?_
    rw [rounds_succ]
    go_wp2_with fail
    refine (C.out 0 w.heap.size _ HW.out (by decide)).mono ?_
    rw [hb0]
    rintro e w1 ⟨rfl, rfl⟩
    go_wp2_with fail
    go_ret
    exact ⟨rfl, BW.out⟩

theorem any3 (a b c : Int) (f : Nat → Int) (h0 : f 0 = a) (h1 : f 1 = b) (h2 : f 2 = c) : anyOf noPlace f 3 = (noPlace a || noPlace b || noPlace c) := by
  subst h0 h1 h2
  simp [anyOf, List.range_succ, Bool.or_assoc]

set_option maxHeartbeats 2000000 in
theorem view_ok (L : List Int) (hL : L.length = 195) (a b c : Int) (B : Nat) (w : World) (T : Str.Tab w) (h : Holds w B (L ++ [a, b, c])) :
    Calls Tryd.prog 18 #[.pointer (some ⟨B, 0, none⟩)] w fun e w' => e = .returned (.bool (ctxB a b c && mayM L)) ∧ Bel w w' := by
  have TT : Hid (Str.Tab w) := T
  have HH : Hid (Holds w B (L ++ [a, b, c])) := h
  have NV : Hid (195 ≤ (L ++ [a, b, c]).length) := show 195 ≤ (L ++ [a, b, c]).length by simp; omega
  have tk : (L ++ [a, b, c]).take 195 = L := by rw [← hL]; exact List.take_left
  have C : Calls Tryd.prog 31 #[.slice (some ⟨B, 195, none⟩) 3 3, .func (.func 36) #[] #[]] w fun e w' => e = .returned (.bool (noPlace a || noPlace b || noPlace c)) ∧ w' = w := by
    have g := contains_noPlace 3 (by decide) 195 B (fun j => (L ++ [a, b, c]).getD (195 + j) 0) w (fun j hj => h.cell (195 + j) (by simp; omega))
    rwa [any3 a b c _ (by simp [List.getD_eq_getElem?_getD, List.getElem?_append_right, hL]) (by simp [List.getD_eq_getElem?_getD, List.getElem?_append_right, hL]) (by simp [List.getD_eq_getElem?_getD, List.getElem?_append_right, hL])] at g
  have M : Hid (∀ (w : World), Str.Tab w → Calls Tryd.prog 13 #[mdl ((L ++ [a, b, c]).take 195)] w fun e w' => e = .returned (.bool (mayM L)) ∧ Bel w w') := by
    rw [tk]; exact may_ok L hL
  have CC : Hid (Calls Tryd.prog 31 #[.slice (some ⟨B, 195, none⟩) 3 3, .func (.func 36) #[] #[]] w fun e w' => e = .returned (.bool (noPlace a || noPlace b || noPlace c)) ∧ w' = w) := C
  clear T h tk hL C
  generalize L ++ [a, b, c] = V at *
  unfold ctxB
  cases hp : (noPlace a || noPlace b || noPlace c)
  · simp only [Bool.not_false, Bool.true_and]
    generalize mayM L = m at *
    go_enter Tryd.func18, Tryd.ntmps18
    go_wp2_with fail
    refine CC.out.mono ?_
    rw [hp]
    rintro e w1 ⟨rfl, rfl⟩
    go_wp2_with ((with_reducible refine wpl_load26g ?hw HH.out NV.out ?hx ?hk); (case hw => rfl); (case hx => rfl))
    refine (M.out _ TT.out).mono ?_
    rintro e w2 ⟨rfl, b2⟩
    go_wp2
    go_ret
    exact ⟨rfl, b2⟩
  · simp only [Bool.not_true, Bool.false_and]
    go_enter Tryd.func18, Tryd.ntmps18
    go_wp2_with fail
    refine CC.out.mono ?_
    rw [hp]
    rintro e w1 ⟨rfl, rfl⟩
    go_wp2
    go_ret
    exact ⟨rfl, Bel.refl _⟩

end Go.Proofs.YtnldnkcfeclmpaaDoor.Mod
