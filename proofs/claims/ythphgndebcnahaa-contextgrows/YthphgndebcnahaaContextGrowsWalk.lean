/-
  ContextGrows, walked: it answers true for every int and every row of ints that is there. No condition.
-/
import Derived.Test.YthphgndebcnahaaXKeep
namespace Go.Proofs.Ythphgndebcnahaa.Ctx
open Go.RowKit Go.Proofs.Ythphgndebcnahaa.Mod Go.Proofs.Ythphgndebcnahaa.Ints Go.Proofs.Ythphgndebcnahaa.Num Go.Proofs.Ythphgndebcnahaa.Gam
set_option linter.unusedVariables false

/-- The lowest bits of the first j. -/
def lows (L : List Int) (j : Nat) : List Int := (L.take j).map (· % 2)
theorem lows_length (L : List Int) (j : Nat) (h : j ≤ L.length) : (lows L j).length = j := by simp [lows]; omega
theorem lows_get (L : List Int) (j k : Nat) (h : k < j) (hk : k < L.length) : (lows L j).getD k 0 = L.getD k 0 % 2 := by
  unfold lows
  rw [List.getD_eq_getElem?_getD, List.getD_eq_getElem?_getD, List.getElem?_map, List.getElem?_take, if_pos h, List.getElem?_eq_getElem hk]
  rfl
theorem lows_succ (L : List Int) (j : Nat) (h : j < L.length) : lows L j ++ [L.getD j 0 % 2] = lows L (j + 1) := by
  unfold lows
  rw [List.take_add_one, List.map_append, List.getD_eq_getElem?_getD, List.getElem?_eq_getElem h]
  rfl
theorem lows_bits (L : List Int) (j : Nat) : Bits01 (lows L j) := fun k hk => by
  have h1 : k < j ∧ k < L.length := by
    have : (lows L j).length = min j L.length := by simp [lows]
    omega
  rw [lows_get L j k h1.1 h1.2]
  omega

theorem c_range (b : Int) (hb : 0 ≤ b) (L : List Int) : (0 ≤ c0 L ∧ c0 L ≤ 63) ∧ (0 ≤ c1 b L ∧ c1 b L ≤ 63) ∧ 0 ≤ c2 L ∧ c2 L ≤ 63 := by
  have r0 := upto31_range (ones L) (by omega)
  have r1 := upto31_range b hb
  have r2 := upto31_range L.length (by omega)
  have rf := oneB_range (has0 L)
  have rt := oneB_range (last1 L)
  unfold c0 c1 c2
  omega
theorem c2_low (L : List Int) (h : L.length ≤ 31) : c2 L % 32 = L.length := by
  have rt := oneB_range (last1 L)
  have e : upto31 (L.length : Int) = L.length := if_pos (by omega)
  unfold c2
  rw [e]
  omega

set_option maxRecDepth 20000 in
set_option maxHeartbeats 2000000 in
theorem grows_go (x : Int) (b : Nat) (hb : bits .and .i64 x 63 = (b : Int)) (b63 : b ≤ 63) (ao : Option Addr) (L : List Int) (n cap : Nat) (hn : n = L.length) (hm : n ≤ maxLen) (w : World) (hA : Slc w ao L) :
    Calls Try.prog 6 #[.int .i64 x, .slice ao n cap] w fun e w' => e = .returned (.bool true) ∧ Bel w w' := by
  obtain ⟨i0, hi, hz0, hz1, hz2⟩ := info_parts info_int
  have HA : Hid (Slc w ao L) := hA
  have HN : Hid (n = L.length) := hn
  unfold maxLen at hm
  clear hA hn
  go_enter Try.func6, Try.ntmps6
  go_wp2_with fail
  refine (awake_ok _).mono ?_
  rintro e w0 ⟨rfl, b1⟩
  have B1 : Hid (Bel w w0) := b1
  clear b1
  have R0 : Hid ((w0.alloc (.cells #[.int .i64 (-1), .int .i64 (-1), .int .i64 (-1)] 24)).ownsRow w0.heap.size 3 1 (.slice none 0 0) 0 (vals (lows L 0)) ∧ Bel w0 (w0.alloc (.cells #[.int .i64 (-1), .int .i64 (-1), .int .i64 (-1)] 24)) ∧ ∃ x y z : Int, Arr (w0.alloc (.cells #[.int .i64 (-1), .int .i64 (-1), .int .i64 (-1)] 24)) w0.heap.size x y z ∧ z % 32 ≠ ((0 : Nat) : Int)) := ⟨World.ownsRow_nil _ _ _ _, (Bel.refl w0).alloc _, _, _, _, arr_new w0 (-1) (-1) (-1), by decide⟩
  go_wp2
  go_loopw [5, 7] (fun v i wr => ∃ (j : Nat) (q : Value), j ≤ n ∧ j ≤ 30 ∧ i = .int .i64 j ∧ q = v ∧ Hid (wr.ownsRow w0.heap.size 3 1 q j (vals (lows L j)) ∧ Bel w0 wr ∧ ∃ x y z : Int, Arr wr w0.heap.size x y z ∧ z % 32 ≠ (j : Int))) (fun _ i _ => 30 - (intOf i).toNat)
  case atStart => exact ⟨0, _, Nat.zero_le _, Nat.zero_le _, rfl, rfl, R0⟩
  case round =>
    obtain ⟨j, q, hj, hj30, rfl, rfl, H1⟩ := hrel
    clear R0
    by_cases hlt : j < n
    · have hd1 : decide ((j : Int) < (n : Int)) = true := decide_eq_true (by omega)
      by_cases hl2 : j < 30
      · have hd2 : decide ((j : Int) < 30) = true := decide_eq_true (by omega)
        obtain ⟨ao2, cap2, rfl, l1, l2, l3, hs2⟩ := owns_slc H1.out.1
        obtain ⟨y0, e0⟩ : ∃ y, c0 (lows L j) = y := ⟨_, rfl⟩
        obtain ⟨y1, e1⟩ : ∃ y, c1 b (lows L j) = y := ⟨_, rfl⟩
        obtain ⟨y2, e2⟩ : ∃ y, c2 (lows L j) = y := ⟨_, rfl⟩
        have hjl : j ≤ L.length := by have := HN.out; omega
        have HO := of_at b y0 y1 y2 ao2 (lows L j) j cap2 (lows_length L j hjl).symm ⟨by omega, by omega, by rw [lows_length L j hjl]; omega, lows_bits L j⟩ e0 e1 e2 wr hs2
        have cr := c_range b (by omega) (lows L j)
        have cl := c2_low (lows L j) (by rw [lows_length L j hjl]; omega)
        rw [lows_length L j hjl, e2] at cl
        rw [e0, e1, e2] at cr
        obtain ⟨⟨g0, g0'⟩, ⟨g1, g1'⟩, g2, g2'⟩ := cr
        have hand : bits .and .i64 y2 31 = (j : Int) := (and_mask 5 31 (by decide) (by decide) y2).trans cl
        have CL : Hid (y2 % 32 = (j : Int)) := cl
        have HO2 : Hid (Calls Try.prog 8 _ wr _) := HO
        obtain ⟨p0, p1, p2, ha, hne⟩ := H1.out.2.2
        have HP : Hid (Arr wr w0.heap.size p0 p1 p2) := ha
        have hnn : y2 ≠ p2 := fun e => hne (by rw [← e]; exact cl)
        have E1 := eq_other y0 y1 y2 p0 p1 p2 hnn
        have E2 := eq_in_other y0 y1 y2 p0 p1 p2 hnn
        clear hs2 HO l1 l2 l3 cl e0 e1 e2 ha hne hjl
        have hb0 : decide (y0 < 0) = false := decide_eq_false (by omega)
        have hb1 : decide (63 < y0) = false := decide_eq_false (by omega)
        have hb2 : decide (y1 < 0) = false := decide_eq_false (by omega)
        have hb3 : decide (63 < y1) = false := decide_eq_false (by omega)
        have hb4 : decide (y2 < 0) = false := decide_eq_false (by omega)
        have hb5 : decide (63 < y2) = false := decide_eq_false (by omega)
        have hb6 : ((j : Int) != (j : Int)) = false := by simp
        go_wp2_with fail
        refine HO2.out.mono ?_
        rintro e w2 ⟨rfl, b2⟩
        obtain ⟨x0, x1, x2⟩ := ((HP.out.bel b2).bel ((Bel.refl w2).alloc (.cells #[.int .i64 y0, .int .i64 y1, .int .i64 y2] 24))).cells
        have f0 := ((HP.out.bel b2).bel ((Bel.refl w2).alloc (.cells #[.int .i64 y0, .int .i64 y1, .int .i64 y2] 24))).free 0
        have f1 := ((HP.out.bel b2).bel ((Bel.refl w2).alloc (.cells #[.int .i64 y0, .int .i64 y1, .int .i64 y2] 24))).free 1
        have f2 := ((HP.out.bel b2).bel ((Bel.refl w2).alloc (.cells #[.int .i64 y0, .int .i64 y1, .int .i64 y2] 24))).free 2
        obtain ⟨a, rfl, hc⟩ := HA.out j (HN.out ▸ hlt)
        have BA : Bel w0 (w2.alloc (.cells #[.int .i64 y0, .int .i64 y1, .int .i64 y2] 24)) := (H1.out.2.1.trans b2).alloc _
        have BP : Hid (Bel w0 (put3 (w2.alloc (.cells #[.int .i64 y0, .int .i64 y1, .int .i64 y2] 24)) w0.heap.size y0 y1 y2)) := bel_put BA (Nat.le_refl _) y0 y1 y2
        have HO3 : Hid ((put3 (w2.alloc (.cells #[.int .i64 y0, .int .i64 y1, .int .i64 y2] 24)) w0.heap.size y0 y1 y2).ownsRow w0.heap.size 3 1 (.slice ao2 j cap2) j (vals (lows L j))) := owns_put ((owns_bel H1.out.1 b2).alloc _) (HP.out.apart H1.out.1) y0 y1 y2
        have HR : Hid (Arr (put3 (w2.alloc (.cells #[.int .i64 y0, .int .i64 y1, .int .i64 y2] 24)) w0.heap.size y0 y1 y2) w0.heap.size y0 y1 y2) := Arr.put ((HP.out.bel b2).bel ((Bel.refl w2).alloc _)) y0 y1 y2
        have hc2 : ((((w2.alloc (.cells #[.int .i64 y0, .int .i64 y1, .int .i64 y2] 24)).setCell ⟨w0.heap.size, 0, none⟩ (.int .i64 y0)).setCell ⟨w0.heap.size, 1, none⟩ (.int .i64 y1)).setCell ⟨w0.heap.size, 2, none⟩ (.int .i64 y2)).cell? (a.add j) = some (.int .i64 (L.getD j 0)) := (B1.out.trans BP.out).keep hc
        have HS : Hid (lows L j ++ [L.getD j 0 % 2] = lows L (j + 1)) := lows_succ L j (HN.out ▸ hlt)
        have hand2 := and_one (L.getD j 0)
        clear BA b2 H1 HP HO2 hc
        generalize L.getD j 0 = c at *
        generalize c % 2 = r at *
        have c3 : Hid (j + 1 ≤ maxLen) := (by unfold maxLen; omega : j + 1 ≤ maxLen)
        have c4 : Hid ((j + 1) * 8 ≤ 140737488355328) := (by omega : (j + 1) * 8 ≤ 140737488355328)
        go_wp2_with (first | (go_at_call 10; refine (num_ok _ _).mono ?_; rintro e w8 ⟨rfl, hw⟩; replace hw := hw.symm; subst hw) | (at_builtin; refine wpList_append_own _ rfl (.tmp 76) (.tmp 82) 22 rfl w0.heap.size 3 i0 (.int .i64 0) 1 8 Try.underlying22 hi hz0 hz1 hz2 rfl (by decide) _ j _ rfl (HO3.out.alloc _) ⟨w2.heap.size + 1, 0, none⟩ 1 1 (vals [r]) rfl rfl (one_cell3 _ _ _ _ _ _ _) (ints_oneCell _ _) c3.out c4.out (size_ok BP.out _) ?_))
        intro v' w3 ho hg _
        have R := owns_more HO3.out (Nat.le_refl _) BP.out ho hg
        rw [HS.out] at R
        have R2 : Hid (w3.ownsRow w0.heap.size 3 1 v' (j + 1) (vals (lows L (j + 1))) ∧ Bel w0 w3 ∧ ∃ x y z : Int, Arr w3 w0.heap.size x y z ∧ z % 32 ≠ ((j + 1 : Nat) : Int)) := ⟨R.1, R.2, y0, y1, y2, HR.out.more HO3.out hg, by have := CL.out; omega⟩
        clear ho hg HO3 BP HR HS c3 c4 R
        go_wp2
        go_roundw
        case rel => exact ⟨j + 1, _, by omega, by omega, by go_num, rfl, R2⟩
        case measure => simp [intOf]; omega
      · have hd2 : decide ((j : Int) < 30) = false := decide_eq_false (by omega)
        go_wp2
        go_ret
        exact ⟨rfl, B1.out.trans H1.out.2.1⟩
    · have hd1 : decide ((j : Int) < (n : Int)) = false := decide_eq_false (by omega)
      go_wp2
      go_ret
      exact ⟨rfl, B1.out.trans H1.out.2.1⟩

theorem grows_walk (u : Int) (a : Option Addr) (len cap : Nat) (zs : List Int) (w : World)
    (h : (a = none ∧ len = 0 ∧ cap = 0 ∧ zs = []) ∨ ∃ x, a = some x ∧ len ≤ cap ∧ cap ≤ maxLen ∧ zs.length = cap ∧ (∀ i, i < zs.length → w.cell? (x.add i) = some (.int .i64 (zs.getD i 0))) ∧ ∀ n ∈ zs, (Lit.int .i64 n).wf = true) :
    Calls Try.prog 6 #[.int .i64 u, .slice a len cap] w fun e w' => e = .returned (.bool true) ∧ Bel w w' := by
  obtain ⟨q1, q2, q3, q4, q5⟩ := of_row h
  have h1 : bits .and .i64 u 63 = (((u % 64).toNat : Nat) : Int) := (and_mask 6 63 (by decide) (by decide) u).trans (by omega)
  exact grows_go u _ h1 (by omega) a _ len cap q1 (by omega) w q5

end Go.Proofs.Ythphgndebcnahaa.Ctx
