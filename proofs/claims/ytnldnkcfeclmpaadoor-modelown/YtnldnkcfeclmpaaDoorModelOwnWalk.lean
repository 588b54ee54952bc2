/-
  ModelOwn answers true for every model, every context and every int. Condition: the package's table is laid as its text lays it.
-/
import Derived.Test.YtnldnkcfeclmpaaDoorNAwake
namespace Go.Proofs.YtnldnkcfeclmpaaDoor.Mod
open Go.RowKit Go.Sort
set_option linter.unusedVariables false
set_option linter.unusedSimpArgs false

set_option maxRecDepth 20000 in
set_option maxHeartbeats 4000000 in
theorem own_1 (L A : List Int) (a b c : Int) (hL : L.length = 195) (hA : A.length = 195)
    (le : ∀ w, Str.Tab w → Calls Tryd.prog 10 #[mdl L, .agg #[.int .i64 a, .int .i64 b, .int .i64 c], .int .i64 1] w fun e w' => e = .returned (.tuple #[mdl A, .int .i64 0]) ∧ Bel w w')
    (me : ∀ w, Str.Tab w → Calls Tryd.prog 13 #[mdl A] w fun e w' => e = .returned (.bool true) ∧ Bel w w')
    (ow : ∀ (i k : Nat), i < 3 → k < 64 → ((k : Int) ≠ [a, b, c].getD i 0 → A.getD (i * 64 + k) 0 = L.getD (i * 64 + k) 0) ∧ ((k : Int) = [a, b, c].getD i 0 → L.getD (i * 64 + k) 0 ≤ A.getD (i * 64 + k) 0))
    (w : World) (T : Str.Tab w) :
    Calls Tryd.prog 5 #[mdl L, .agg #[.int .i64 a, .int .i64 b, .int .i64 c], .int .i64 1] w fun e w' => e = .returned (.bool true) ∧ Bel w w' := by
  have TT : Hid (Str.Tab w) := T
  have LE : Hid (∀ w, Str.Tab w → Calls Tryd.prog 10 #[mdl L, .agg #[.int .i64 a, .int .i64 b, .int .i64 c], .int .i64 1] w fun e w' => e = .returned (.tuple #[mdl A, .int .i64 0]) ∧ Bel w w') := le
  have ME : Hid (∀ w, Str.Tab w → Calls Tryd.prog 13 #[mdl A] w fun e w' => e = .returned (.bool true) ∧ Bel w w') := me
  have OW : Hid (∀ (i k : Nat), i < 3 → k < 64 → ((k : Int) ≠ [a, b, c].getD i 0 → A.getD (i * 64 + k) 0 = L.getD (i * 64 + k) 0) ∧ ((k : Int) = [a, b, c].getD i 0 → L.getD (i * 64 + k) 0 ≤ A.getD (i * 64 + k) 0)) := ow
  have NL : Hid (L.length = 195) := hL
  have AL : Hid (A.length = 195) := hA
  have ZL : Hid (zeros.length = 195) := zeros_len
  have zz := zero26
  generalize zeros = Z at *
  have H0 : Hid (Holds ((w.alloc (.cells (vals L).toArray 26)).alloc (.cells #[.int .i64 a, .int .i64 b, .int .i64 c] 24)) w.heap.size L) := (holds_new w L 26).bel ((Bel.refl _).alloc _)
  have H1 : Hid (Holds ((w.alloc (.cells (vals L).toArray 26)).alloc (.cells #[.int .i64 a, .int .i64 b, .int .i64 c] 24)) (w.heap.size + 1) [a, b, c]) := holds_at (by simp) [a, b, c] 24
  clear T le me ow hL hA
  go_enter Tryd.func5, Tryd.ntmps5
  go_wp2_with fail
  refine (awake_true _ (tab_bel TT.out (((Bel.refl _).alloc _).alloc _))).mono ?_
  rintro e w1 ⟨rfl, b1⟩
  have M1 : Hid (Holds w1 w.heap.size L) := H0.out.bel b1
  have C1 : Hid (Holds w1 (w.heap.size + 1) [a, b, c]) := H1.out.bel b1
  have B1 : Hid (Bel w w1) := (((Bel.refl w).alloc _).alloc _).trans b1
  have k0 : w1.cell? ⟨w.heap.size + 1, 0, none⟩ = some (.int .i64 a) := C1.out.cell 0 (by simp)
  have k1 : w1.cell? ⟨w.heap.size + 1, 1, none⟩ = some (.int .i64 b) := C1.out.cell 1 (by simp)
  have k2 : w1.cell? ⟨w.heap.size + 1, 2, none⟩ = some (.int .i64 c) := C1.out.cell 2 (by simp)
  clear b1 H0 H1
  go_wp2_with (first | (with_reducible refine wpl_load26' M1.out NL.out rfl ?_))
  refine (LE.out _ (tab_bel TT.out B1.out)).mono ?_
  rintro e w2 ⟨rfl, b2⟩
  have m3 := (M1.out.bel b2).bel ((Bel.refl _).alloc (.cells (vals A).toArray 26))
  have c3 := (C1.out.bel b2).bel ((Bel.refl _).alloc (.cells (vals A).toArray 26))
  have a3 := holds_new w2 A 26
  have b3 : Bel w (w2.alloc (.cells (vals A).toArray 26)) := Bel.alloc (B1.out.trans b2) _
  clear k0 k1 k2 b2 M1 C1 B1 LE
  go_wp2_with (first | (with_reducible refine wpl_store26n ZL.out AL.out rfl rfl ?_))
  generalize w2.alloc (.cells (vals A).toArray 26) = W at *
  refine (Cnt.num_ok _ _).mono ?_
  rintro e W1 ⟨rfl, rfl⟩
  have M3 : Hid (Holds W1 w.heap.size L) := m3
  have C3 : Hid (Holds W1 (w.heap.size + 1) [a, b, c]) := c3
  have A3 : Hid (Holds W1 w2.heap.size A) := a3
  have B3 : Hid (Bel w W1) := b3
  clear m3 c3 a3 b3
  go_wp2_with fail
  go_loopw [9] (fun i wr => ∃ j : Nat, j ≤ 3 ∧ i = .int .i64 (j : Int) ∧ Holds wr w.heap.size L ∧ Holds wr (w.heap.size + 1) [a, b, c] ∧ Holds wr w2.heap.size A ∧ Bel w wr) (fun i _ => 3 - (intOf i).toNat)
  case atStart => exact ⟨0, by omega, rfl, M3.out, C3.out, A3.out, B3.out⟩
  case round =>
    obtain ⟨i, hi, rfl, hm, hc, ha, hb⟩ := hrel
    have M4 : Hid (Holds wr w.heap.size L) := hm
    have C4 : Hid (Holds wr (w.heap.size + 1) [a, b, c]) := hc
    have A4 : Hid (Holds wr w2.heap.size A) := ha
    have B4 : Hid (Bel w wr) := hb
    clear hm hc ha hb M3 C3 A3 B3
    by_cases hlt : i < 3
    · have hd : decide ((i : Int) < 3) = true := decide_eq_true (by omega)
      go_wp2_with fail
      go_loopw [10] (fun q wx => ∃ k : Nat, k ≤ 64 ∧ q = .int .i64 (k : Int) ∧ Holds wx w.heap.size L ∧ Holds wx (w.heap.size + 1) [a, b, c] ∧ Holds wx w2.heap.size A ∧ Bel w wx) (fun q _ => 64 - (intOf q).toNat)
      case atStart => exact ⟨0, by omega, rfl, M4.out, C4.out, A4.out, B4.out⟩
      case round =>
        obtain ⟨k, hk, rfl, hm, hc, ha, hb⟩ := hrel
        have ML : Hid (Holds wr w.heap.size L) := hm
        have MC : Hid (Holds wr (w.heap.size + 1) [a, b, c]) := hc
        have MA : Hid (Holds wr w2.heap.size A) := ha
        have MB : Hid (Bel w wr) := hb
        clear hm hc ha hb M4 C4 A4 B4
        by_cases hkt : k < 64
        · have hd2 : decide ((k : Int) < 64) = true := decide_eq_true (by omega)
          have cx := ML.out.cell (i * 64 + k) (by rw [NL.out]; omega)
          have cy := MA.out.cell (i * 64 + k) (by rw [AL.out]; omega)
          have cq := MC.out.cell i (by simp; omega)
          obtain ⟨o1, o2⟩ := OW.out i k hlt hkt
          generalize A.getD (i * 64 + k) 0 = y at *
          generalize L.getD (i * 64 + k) 0 = x at *
          generalize [a, b, c].getD i 0 = q at *
          by_cases hq : (k : Int) = q
          · obtain h3 := o2 hq
            subst hq
            clear o1 o2
            have t1 : decide (y < x) = false := decide_eq_false (by omega)
            go_wp2
            go_quiet (fail)
            go_wp2
            go_roundw
            case rel => exact ⟨k + 1, by omega, by go_num, ML.out.drewN _, MC.out.drewN _, MA.out.drewN _, MB.out.drewN _⟩
            case measure => simp [intOf]; omega
          · obtain rfl := o1 hq
            have t1 : ((k : Int) != q) = true := by simpa using hq
            have t2 : ((k : Int) == q) = false := by simpa using hq
            clear o1 o2 hq
            go_wp2
            go_quiet (fail)
            go_wp2
            go_roundw
            case rel => exact ⟨k + 1, by omega, by go_num, ML.out.drewN _, MC.out.drewN _, MA.out.drewN _, MB.out.drewN _⟩
            case measure => simp [intOf]; omega
        · have hd2 : decide ((k : Int) < 64) = false := decide_eq_false (by omega)
          go_wp2
          go_roundw
          case rel => exact ⟨i + 1, by omega, by go_num, ML.out, MC.out, MA.out, MB.out⟩
          case measure => simp [intOf]; omega
    · have hd : decide ((i : Int) < 3) = false := decide_eq_false (by omega)
      go_wp2_with (first | (with_reducible refine wpl_load26' A4.out AL.out rfl ?_))
      refine (ME.out _ (tab_bel TT.out B4.out)).mono ?_
      rintro e w3 ⟨rfl, b3⟩
      have B5 : Hid (Bel w w3) := B4.out.trans b3
      clear b3
      go_wp2
      go_ret
      exact ⟨rfl, B5.out⟩

set_option maxRecDepth 20000 in
set_option maxHeartbeats 4000000 in
theorem own_0 (L A : List Int) (a b c : Int) (hL : L.length = 195) (hA : A.length = 195)
    (le : ∀ w, Str.Tab w → Calls Tryd.prog 10 #[mdl L, .agg #[.int .i64 a, .int .i64 b, .int .i64 c], .int .i64 0] w fun e w' => e = .returned (.tuple #[mdl A, .int .i64 0]) ∧ Bel w w')
    (me : ∀ w, Str.Tab w → Calls Tryd.prog 13 #[mdl A] w fun e w' => e = .returned (.bool true) ∧ Bel w w')
    (ow : ∀ (i k : Nat), i < 3 → k < 64 → ((k : Int) ≠ [a, b, c].getD i 0 → A.getD (i * 64 + k) 0 = L.getD (i * 64 + k) 0) ∧ ((k : Int) = [a, b, c].getD i 0 → A.getD (i * 64 + k) 0 ≤ L.getD (i * 64 + k) 0))
    (w : World) (T : Str.Tab w) :
    Calls Tryd.prog 5 #[mdl L, .agg #[.int .i64 a, .int .i64 b, .int .i64 c], .int .i64 0] w fun e w' => e = .returned (.bool true) ∧ Bel w w' := by
  have TT : Hid (Str.Tab w) := T
  have LE : Hid (∀ w, Str.Tab w → Calls Tryd.prog 10 #[mdl L, .agg #[.int .i64 a, .int .i64 b, .int .i64 c], .int .i64 0] w fun e w' => e = .returned (.tuple #[mdl A, .int .i64 0]) ∧ Bel w w') := le
  have ME : Hid (∀ w, Str.Tab w → Calls Tryd.prog 13 #[mdl A] w fun e w' => e = .returned (.bool true) ∧ Bel w w') := me
  have OW : Hid (∀ (i k : Nat), i < 3 → k < 64 → ((k : Int) ≠ [a, b, c].getD i 0 → A.getD (i * 64 + k) 0 = L.getD (i * 64 + k) 0) ∧ ((k : Int) = [a, b, c].getD i 0 → A.getD (i * 64 + k) 0 ≤ L.getD (i * 64 + k) 0)) := ow
  have NL : Hid (L.length = 195) := hL
  have AL : Hid (A.length = 195) := hA
  have ZL : Hid (zeros.length = 195) := zeros_len
  have zz := zero26
  generalize zeros = Z at *
  have H0 : Hid (Holds ((w.alloc (.cells (vals L).toArray 26)).alloc (.cells #[.int .i64 a, .int .i64 b, .int .i64 c] 24)) w.heap.size L) := (holds_new w L 26).bel ((Bel.refl _).alloc _)
  have H1 : Hid (Holds ((w.alloc (.cells (vals L).toArray 26)).alloc (.cells #[.int .i64 a, .int .i64 b, .int .i64 c] 24)) (w.heap.size + 1) [a, b, c]) := holds_at (by simp) [a, b, c] 24
  clear T le me ow hL hA
  go_enter Tryd.func5, Tryd.ntmps5
  go_wp2_with fail
  refine (awake_true _ (tab_bel TT.out (((Bel.refl _).alloc _).alloc _))).mono ?_
  rintro e w1 ⟨rfl, b1⟩
  have M1 : Hid (Holds w1 w.heap.size L) := H0.out.bel b1
  have C1 : Hid (Holds w1 (w.heap.size + 1) [a, b, c]) := H1.out.bel b1
  have B1 : Hid (Bel w w1) := (((Bel.refl w).alloc _).alloc _).trans b1
  have k0 : w1.cell? ⟨w.heap.size + 1, 0, none⟩ = some (.int .i64 a) := C1.out.cell 0 (by simp)
  have k1 : w1.cell? ⟨w.heap.size + 1, 1, none⟩ = some (.int .i64 b) := C1.out.cell 1 (by simp)
  have k2 : w1.cell? ⟨w.heap.size + 1, 2, none⟩ = some (.int .i64 c) := C1.out.cell 2 (by simp)
  clear b1 H0 H1
  go_wp2_with (first | (with_reducible refine wpl_load26' M1.out NL.out rfl ?_))
  refine (LE.out _ (tab_bel TT.out B1.out)).mono ?_
  rintro e w2 ⟨rfl, b2⟩
  have m3 := (M1.out.bel b2).bel ((Bel.refl _).alloc (.cells (vals A).toArray 26))
  have c3 := (C1.out.bel b2).bel ((Bel.refl _).alloc (.cells (vals A).toArray 26))
  have a3 := holds_new w2 A 26
  have b3 : Bel w (w2.alloc (.cells (vals A).toArray 26)) := Bel.alloc (B1.out.trans b2) _
  clear k0 k1 k2 b2 M1 C1 B1 LE
  go_wp2_with (first | (with_reducible refine wpl_store26n ZL.out AL.out rfl rfl ?_))
  generalize w2.alloc (.cells (vals A).toArray 26) = W at *
  refine (Cnt.num_ok _ _).mono ?_
  rintro e W1 ⟨rfl, rfl⟩
  have M3 : Hid (Holds W1 w.heap.size L) := m3
  have C3 : Hid (Holds W1 (w.heap.size + 1) [a, b, c]) := c3
  have A3 : Hid (Holds W1 w2.heap.size A) := a3
  have B3 : Hid (Bel w W1) := b3
  clear m3 c3 a3 b3
  go_wp2_with fail
  go_loopw [9] (fun i wr => ∃ j : Nat, j ≤ 3 ∧ i = .int .i64 (j : Int) ∧ Holds wr w.heap.size L ∧ Holds wr (w.heap.size + 1) [a, b, c] ∧ Holds wr w2.heap.size A ∧ Bel w wr) (fun i _ => 3 - (intOf i).toNat)
  case atStart => exact ⟨0, by omega, rfl, M3.out, C3.out, A3.out, B3.out⟩
  case round =>
    obtain ⟨i, hi, rfl, hm, hc, ha, hb⟩ := hrel
    have M4 : Hid (Holds wr w.heap.size L) := hm
    have C4 : Hid (Holds wr (w.heap.size + 1) [a, b, c]) := hc
    have A4 : Hid (Holds wr w2.heap.size A) := ha
    have B4 : Hid (Bel w wr) := hb
    clear hm hc ha hb M3 C3 A3 B3
    by_cases hlt : i < 3
    · have hd : decide ((i : Int) < 3) = true := decide_eq_true (by omega)
      go_wp2_with fail
      go_loopw [10] (fun q wx => ∃ k : Nat, k ≤ 64 ∧ q = .int .i64 (k : Int) ∧ Holds wx w.heap.size L ∧ Holds wx (w.heap.size + 1) [a, b, c] ∧ Holds wx w2.heap.size A ∧ Bel w wx) (fun q _ => 64 - (intOf q).toNat)
      case atStart => exact ⟨0, by omega, rfl, M4.out, C4.out, A4.out, B4.out⟩
      case round =>
        obtain ⟨k, hk, rfl, hm, hc, ha, hb⟩ := hrel
        have ML : Hid (Holds wr w.heap.size L) := hm
        have MC : Hid (Holds wr (w.heap.size + 1) [a, b, c]) := hc
        have MA : Hid (Holds wr w2.heap.size A) := ha
        have MB : Hid (Bel w wr) := hb
        clear hm hc ha hb M4 C4 A4 B4
        by_cases hkt : k < 64
        · have hd2 : decide ((k : Int) < 64) = true := decide_eq_true (by omega)
          have cx := ML.out.cell (i * 64 + k) (by rw [NL.out]; omega)
          have cy := MA.out.cell (i * 64 + k) (by rw [AL.out]; omega)
          have cq := MC.out.cell i (by simp; omega)
          obtain ⟨o1, o2⟩ := OW.out i k hlt hkt
          generalize A.getD (i * 64 + k) 0 = y at *
          generalize L.getD (i * 64 + k) 0 = x at *
          generalize [a, b, c].getD i 0 = q at *
          by_cases hq : (k : Int) = q
          · obtain h3 := o2 hq
            subst hq
            clear o1 o2
            have t1 : decide (y > x) = false := decide_eq_false (by omega)
            go_wp2
            go_quiet (fail)
            go_wp2
            go_roundw
            case rel => exact ⟨k + 1, by omega, by go_num, ML.out.drewN _, MC.out.drewN _, MA.out.drewN _, MB.out.drewN _⟩
            case measure => simp [intOf]; omega
          · obtain rfl := o1 hq
            have t1 : ((k : Int) != q) = true := by simpa using hq
            have t2 : ((k : Int) == q) = false := by simpa using hq
            clear o1 o2 hq
            go_wp2
            go_quiet (fail)
            go_wp2
            go_roundw
            case rel => exact ⟨k + 1, by omega, by go_num, ML.out.drewN _, MC.out.drewN _, MA.out.drewN _, MB.out.drewN _⟩
            case measure => simp [intOf]; omega
        · have hd2 : decide ((k : Int) < 64) = false := decide_eq_false (by omega)
          go_wp2
          go_roundw
          case rel => exact ⟨i + 1, by omega, by go_num, ML.out, MC.out, MA.out, MB.out⟩
          case measure => simp [intOf]; omega
    · have hd : decide ((i : Int) < 3) = false := decide_eq_false (by omega)
      go_wp2_with (first | (with_reducible refine wpl_load26' A4.out AL.out rfl ?_))
      refine (ME.out _ (tab_bel TT.out B4.out)).mono ?_
      rintro e w3 ⟨rfl, b3⟩
      have B5 : Hid (Bel w w3) := B4.out.trans b3
      clear b3
      go_wp2
      go_ret
      exact ⟨rfl, B5.out⟩

set_option maxHeartbeats 1000000 in
theorem own_no (L : List Int) (a b c bit : Int) (hL : L.length = 195)
    (le : ∀ w, Str.Tab w → Calls Tryd.prog 10 #[mdl L, .agg #[.int .i64 a, .int .i64 b, .int .i64 c], .int .i64 bit] w fun e w' => e = .returned (.tuple #[mdl zeros, .int .i64 900]) ∧ Bel w w')
    (w : World) (T : Str.Tab w) :
    Calls Tryd.prog 5 #[mdl L, .agg #[.int .i64 a, .int .i64 b, .int .i64 c], .int .i64 bit] w fun e w' => e = .returned (.bool true) ∧ Bel w w' := by
  have TT : Hid (Str.Tab w) := T
  have LE : Hid (∀ w, Str.Tab w → Calls Tryd.prog 10 #[mdl L, .agg #[.int .i64 a, .int .i64 b, .int .i64 c], .int .i64 bit] w fun e w' => e = .returned (.tuple #[mdl zeros, .int .i64 900]) ∧ Bel w w') := le
  have NL : Hid (L.length = 195) := hL
  have ZL : Hid (zeros.length = 195) := zeros_len
  have E1 : ∀ w, (binOp .eql 26 (mdl zeros) (mdl zeros)).run Tryd.prog w = .ok (.bool true) w := fun w => by rw [eq_26 _ _ zeros_len zeros_len, decide_eq_true rfl]
  have E2 : ∀ w, (Op.equalIn 10000 26 (mdl zeros) (mdl zeros)).run Tryd.prog w = .ok true w := fun w => by rw [eq_in26 _ _ zeros_len zeros_len, decide_eq_true rfl]
  have zz := zero26
  have H0 : Hid (Holds ((w.alloc (.cells (vals L).toArray 26)).alloc (.cells #[.int .i64 a, .int .i64 b, .int .i64 c] 24)) w.heap.size L) := (holds_new w L 26).bel ((Bel.refl _).alloc _)
  have H1 : Hid (Holds ((w.alloc (.cells (vals L).toArray 26)).alloc (.cells #[.int .i64 a, .int .i64 b, .int .i64 c] 24)) (w.heap.size + 1) [a, b, c]) := holds_at (by simp) [a, b, c] 24
  clear T le hL
  go_enter Tryd.func5, Tryd.ntmps5
  go_wp2_with fail
  refine (awake_true _ (tab_bel TT.out (((Bel.refl _).alloc _).alloc _))).mono ?_
  rintro e w1 ⟨rfl, b1⟩
  have M1 : Hid (Holds w1 w.heap.size L) := H0.out.bel b1
  have C1 : Hid (Holds w1 (w.heap.size + 1) [a, b, c]) := H1.out.bel b1
  have B1 : Hid (Bel w w1) := (((Bel.refl w).alloc _).alloc _).trans b1
  have k0 : w1.cell? ⟨w.heap.size + 1, 0, none⟩ = some (.int .i64 a) := C1.out.cell 0 (by simp)
  have k1 : w1.cell? ⟨w.heap.size + 1, 1, none⟩ = some (.int .i64 b) := C1.out.cell 1 (by simp)
  have k2 : w1.cell? ⟨w.heap.size + 1, 2, none⟩ = some (.int .i64 c) := C1.out.cell 2 (by simp)
  clear b1 H0 H1
  go_wp2_with (first | (with_reducible refine wpl_load26' M1.out NL.out rfl ?_))
  refine (LE.out _ (tab_bel TT.out B1.out)).mono ?_
  rintro e w2 ⟨rfl, b2⟩
  have a3 := holds_new w2 zeros 26
  have b3 : Bel w (w2.alloc (.cells (vals zeros).toArray 26)) := Bel.alloc (B1.out.trans b2) _
  clear k0 k1 k2 b2 M1 C1 B1 LE
  go_wp2_with (first | (with_reducible refine wpl_store26n ZL.out ZL.out rfl rfl ?_))
  generalize w2.alloc (.cells (vals zeros).toArray 26) = W at *
  refine (Cnt.num_ok _ _).mono ?_
  rintro e W1 ⟨rfl, rfl⟩
  have A3 : Hid (Holds W1 w2.heap.size zeros) := a3
  have B3 : Hid (Bel w W1) := b3
  clear a3 b3
  go_wp2_with (first | (with_reducible refine wpl_load26' A3.out ZL.out rfl ?_) | (with_reducible refine wpl_build26 ?_))
  go_ret
  exact ⟨rfl, B3.out⟩

theorem own_cells (L : List Int) (hL : L.length = 195) (a b c : Nat) (ha : a < 64) (hb : b < 64) (hc : c < 64) (bit : Int) (i k : Nat) (hi : i < 3) (hk : k < 64) :
    ((k : Int) ≠ [(a : Int), (b : Int), (c : Int)].getD i 0 → (learn L a b c bit).getD (i * 64 + k) 0 = L.getD (i * 64 + k) 0) ∧ ((k : Int) = [(a : Int), (b : Int), (c : Int)].getD i 0 → (learn L a b c bit).getD (i * 64 + k) 0 = Cnt.step (L.getD (i * 64 + k) 0) bit) := by
  rw [learn_get L hL a b c ha hb hc bit (i * 64 + k)]
  have : i = 0 ∨ i = 1 ∨ i = 2 := by omega
  rcases this with rfl | rfl | rfl
  · show ((k : Int) ≠ (a : Int) → _) ∧ ((k : Int) = (a : Int) → _)
    refine ⟨fun h => ?_, fun h => ?_⟩
    · rw [if_neg (by omega), if_neg (by omega), if_neg (by omega), if_neg (by omega), if_neg (by omega), if_neg (by omega)]
    · rw [if_pos (by omega), show 0 * 64 + k = a by omega]
  · show ((k : Int) ≠ (b : Int) → _) ∧ ((k : Int) = (b : Int) → _)
    refine ⟨fun h => ?_, fun h => ?_⟩
    · rw [if_neg (by omega), if_neg (by omega), if_neg (by omega), if_neg (by omega), if_neg (by omega), if_neg (by omega)]
    · rw [if_neg (by omega), if_pos (by omega), show 1 * 64 + k = 64 + b by omega]
  · show ((k : Int) ≠ (c : Int) → _) ∧ ((k : Int) = (c : Int) → _)
    refine ⟨fun h => ?_, fun h => ?_⟩
    · rw [if_neg (by omega), if_neg (by omega), if_neg (by omega), if_neg (by omega), if_neg (by omega), if_neg (by omega)]
    · rw [if_neg (by omega), if_neg (by omega), if_pos (by omega), show 2 * 64 + k = 128 + c by omega]

/-- What Learn does, for whatever ints. -/
theorem own_walk (L : List Int) (hL : L.length = 195) (a b c bit : Int) (w : World) (T : Str.Tab w) :
    Calls Tryd.prog 5 #[mdl L, .agg #[.int .i64 a, .int .i64 b, .int .i64 c], .int .i64 bit] w fun e w' => e = .returned (.bool true) ∧ Bel w w' := by
  by_cases h : (ctxB a b c && mayM L) = true
  · by_cases hbit : Cnt.bitB bit = true
    · rw [Bool.and_eq_true] at h
      obtain ⟨hctx, hm⟩ := h
      obtain ⟨⟨a0, a1⟩, ⟨b0, b1⟩, c0, c1⟩ := ctxB_of hctx
      obtain ⟨a, rfl⟩ := Int.eq_ofNat_of_zero_le a0
      obtain ⟨b, rfl⟩ := Int.eq_ofNat_of_zero_le b0
      obtain ⟨c, rfl⟩ := Int.eq_ofNat_of_zero_le c0
      have ha : a < 64 := by omega
      have hb : b < 64 := by omega
      have hc : c < 64 := by omega
      have le := learn_yes L hL a b c ha hb hc bit hbit hm
      have lm := may_learn L hL a b c ha hb hc bit hm
      have ll : (learn L a b c bit).length = 195 := by rw [learn_len, hL]
      have me : ∀ w, Str.Tab w → Calls Tryd.prog 13 #[mdl (learn L a b c bit)] w fun e w' => e = .returned (.bool true) ∧ Bel w w' := lm ▸ may_ok _ ll
      have oc := own_cells L hL a b c ha hb hc bit
      have rg := ((may_iff L).1 hm).1
      rcases Cnt.bitB_of hbit with rfl | rfl
      · refine own_0 L _ _ _ _ hL ll le me (fun i k hi hk => ⟨(oc i k hi hk).1, fun e => ?_⟩) w T
        rw [(oc i k hi hk).2 e, Cnt.step, if_neg (by decide)]
        have := rg (i * 64 + k) (by omega)
        omega
      · refine own_1 L _ _ _ _ hL ll le me (fun i k hi hk => ⟨(oc i k hi hk).1, fun e => ?_⟩) w T
        rw [(oc i k hi hk).2 e, Cnt.step, if_pos rfl]
        have := rg (i * 64 + k) (by omega)
        omega
    · exact own_no L a b c bit hL (learn_bit L hL a b c bit h (by simpa using hbit)) w T
  · exact own_no L a b c bit hL (learn_no L hL a b c bit (by simpa using h)) w T

end Go.Proofs.YtnldnkcfeclmpaaDoor.Mod
