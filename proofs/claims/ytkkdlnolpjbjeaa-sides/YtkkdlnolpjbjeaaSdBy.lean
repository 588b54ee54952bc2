/-
  The contracts of side.byFirst, Put and Get. Conditions: the rows are there.
-/
import Derived.Test.YtkkdlnolpjbjeaaSdMay
import Derived.Test.YtkkdlnolpjbjeaaSdLaid
namespace Go.Proofs.Ytkkdlnolpjbjeaa.Sid
open Go.RowKit Go.Sort Go.Proofs.Ytkkdlnolpjbjeaa.Mod Go.Proofs.Ytkkdlnolpjbjeaa.Lin
set_option linter.unusedVariables false
set_option linter.unusedSimpArgs false

theorem less_ok (x y : Int) (hx : -131072 ≤ x ∧ x ≤ 131072) (hy : -131072 ≤ y ∧ y ≤ 131072) (w : World) :
    Calls Try.prog 18 #[.int .i64 x, .int .i64 y] w fun e w' => e = .returned (.int .i64 (x + -1 * y)) ∧ w' = w := by
  obtain ⟨z, hz⟩ : ∃ z, x + -1 * y = z := ⟨_, rfl⟩
  rw [hz]
  have e : x - y = z := by omega
  have lo : -262144 ≤ x - y := by omega
  have hi : x - y ≤ 262144 := by omega
  clear hz
  have HE : Hid (x - y = z) := e
  clear e
  go_enter Try.func18, Try.ntmps18
  go_wp2
  go_ret
  exact ⟨by rw [← HE.out]; rfl, rfl⟩
theorem more_ok (x y : Int) (hx : -131072 ≤ x ∧ x ≤ 131072) (hy : -131072 ≤ y ∧ y ≤ 131072) (w : World) :
    Calls Try.prog 20 #[.int .i64 x, .int .i64 y] w fun e w' => e = .returned (.int .i64 (x + 1 * y)) ∧ w' = w := by
  rw [Int.one_mul]
  have lo : -262144 ≤ x + y := by omega
  have hi : x + y ≤ 262144 := by omega
  go_enter Try.func20, Try.ntmps20
  go_wp2
  go_ret
  exact ⟨rfl, rfl⟩

theorem ansS_no {s : Int} {Ls : List (List Int)} (h : okS s Ls = false) : ansS s Ls = [] ∧ errS s Ls = 1700 := by
  unfold ansS errS; rw [h]; exact ⟨rfl, rfl⟩
theorem ansS_yes {s : Int} {Ls : List (List Int)} (h : okS s Ls = true) : ansS s Ls = told s Ls ∧ errS s Ls = 0 := by
  unfold ansS errS; rw [h]; exact ⟨rfl, rfl⟩

set_option maxHeartbeats 400000 in
theorem by_no (f : Value) (ao : Option Addr) (Ls : List (List Int)) (n cap : Nat) (hn : n = Ls.length) (hx : n ≤ maxLen) (hp : chsMay Ls = false) (w : World) (hA : Lls w ao Ls) :
    Calls Try.prog 17 #[.slice ao n cap, f] w fun e w' => e = .returned (.tuple #[.slice none 0 0, .int .i64 1700]) ∧ w' = w := by
  have M : Hid (Calls Try.prog 22 #[.slice ao n cap] w fun e w' => e = .returned (.bool false) ∧ w' = w) := hp ▸ may_ok ao Ls n cap hn hx w hA
  clear hp hA hn
  go_enter Try.func17, Try.ntmps17
  go_wp2_with fail
  refine M.out.mono ?_
  rintro e w1 ⟨rfl, rfl⟩
  go_wp2
  go_ret2
  exact ⟨rfl, rfl⟩

set_option maxHeartbeats 1000000 in
theorem by_one (f : Value) (x : Addr) (A : List Int) (cap : Nat) (hp : chsMay [A] = true) (h8 : A.length * 8 ≤ 140737488351232) (w : World) (hA : Lls w (some x) [A]) :
    Calls Try.prog 17 #[.slice (some x) 1 cap, f] w fun e w' => ∃ g, e = .returned (.tuple #[.slice (some ⟨g, 0, none⟩) 1 1, .int .i64 0]) ∧ OwnL w' w.heap.size w'.heap.size (some ⟨g, 0, none⟩) [A] ∧ Bel w w' := by
  have M : Hid (Calls Try.prog 22 #[.slice (some x) 1 cap] w fun e w' => e = .returned (.bool true) ∧ w' = w) := hp ▸ may_ok (some x) [A] 1 cap rfl (by unfold maxLen; omega) w hA
  have mkL : (Instr.makeSlice 22 (.int .i64 1) (.int .i64 1)).run Try.prog w = .ok (.slice (some ⟨w.heap.size, 0, none⟩) 1 1) (w.alloc (.cells (madeCells #[.slice none 0 0] 1) 34)) := mk_rows 1 (by omega) w
  have HA : Hid (Lls w (some x) [A]) := hA
  have L0 : Hid (Laid w (w.alloc (.cells (madeCells #[.slice none 0 0] 1) 34)) w.heap.size 1 0 [A]) := laid_start w 1 [A]
  clear hA
  go_enter Try.func17, Try.ntmps17
  go_wp2_with fail
  refine M.out.mono ?_
  rintro e w1 ⟨rfl, rfl⟩
  go_wp2
  obtain ⟨W0, hW0⟩ : ∃ W, W = w1.alloc (.cells (madeCells #[.slice none 0 0] 1) 34) := ⟨_, rfl⟩
  obtain ⟨G, hG⟩ : ∃ G, G = w1.heap.size := ⟨_, rfl⟩
  rw [← hW0, ← hG] at L0
  have HG : Hid (w1.heap.size ≤ G) := (by omega : w1.heap.size ≤ G)
  rw [← hW0, ← hG]
  clear hW0 hG mkL M
  go_loopw [21] (fun i wr => ∃ j : Nat, j ≤ 1 ∧ i = .int .i64 (j : Int) ∧ Hid (Laid w1 wr G 1 j [A])) (fun i _ => 1 - (intOf i).toNat)
  case atStart => exact ⟨0, Nat.zero_le _, rfl, L0⟩
  case round =>
    obtain ⟨j, hj, rfl, hL⟩ := hrel
    by_cases hlt : j < 1
    · obtain ⟨y, hy, b1, c1, p1, s1, z1, t1⟩ := HA.out j hlt
      cases hy
      have hd : decide ((j : Int) < 1) = true := decide_eq_true (by omega)
      have f1 : wr.cell? (x.add j) = some (.slice b1 (List.getD [A] j []).length c1) := hL.out.bel.keep p1
      have T1 : Hid (Slc w1 b1 (List.getD [A] j [])) := t1
      have c0 := hL.out.todo j (Nat.le_refl _) hlt
      have c2 := hL.out.free j hlt
      have hca : ∀ o, (wr.alloc o).cell? ⟨G, j, none⟩ = some (.slice none 0 0) := fun o => ((Bel.refl wr).alloc o).keep c0
      have hfa : ∀ o, (wr.alloc o).frozen? ⟨G, j, none⟩ = false := fun o => Bel.free ((Bel.refl wr).alloc o) c0 c2
      have mk := mk_row (List.getD [A] j []).length s1
      clear p1 s1 z1 t1
      obtain ⟨l, hl⟩ : ∃ l, (List.getD [A] j []).length = l := ⟨_, rfl⟩
      rw [hl] at f1 mk
      have HL : Hid (l = (List.getD [A] j []).length) := hl.symm
      clear hl
      have HB : Hid (((wr.alloc (.cells (vals (List.replicate l 0)).toArray 3)).setCell ⟨G, j, none⟩ (.slice (some ⟨wr.heap.size, 0, none⟩) l l)).heap[wr.heap.size]? = some (.cells (vals (List.replicate l 0)).toArray 3 (0, 0))) := (by
        rw [Below.heap_setCell _ _ _ _ (by show wr.heap.size ≠ G; have := hL.out.size; omega)]
        exact heap_alloc_new wr _)
      have TB : Hid (Slc ((wr.alloc (.cells (vals (List.replicate l 0)).toArray 3)).setCell ⟨G, j, none⟩ (.slice (some ⟨wr.heap.size, 0, none⟩) l l)) b1 (List.getD [A] j [])) := T1.out.bel ((hL.out.bel.alloc _).setCell (a := ⟨G, j, none⟩) HG.out _)
      go_wp2_with ((with_reducible refine wpl_copy_to _ wr.heap.size l l c1 b1 ?_ ?_ (List.replicate l 0) (List.getD [A] j []) List.length_replicate HL.out HB.out TB.out ?_); rfl; rfl)
      intro w2 e1 e2 e3
      have HN : Hid (Laid w1 w2 G 1 (j + 1) [A]) := laid_step hL.out HG.out hlt HL.out e1 e2 e3
      clear e1 e2 e3 HB TB f1 hca hfa mk c0 c2
      go_wp2
      go_roundw
      case rel => exact ⟨j + 1, by omega, by go_num, HN⟩
      case measure => simp [intOf]; omega
    · obtain rfl : j = 1 := by omega
      rw [show ((1 : Nat) : Int) = 1 from rfl]
      obtain ⟨d1, d2⟩ := hL.out.done 0 (by omega)
      replace d1 : wr.cell? ⟨G, 0, none⟩ = some (.slice (some ⟨G + 1, 0, none⟩) A.length A.length) := d1
      have HH : Hid (Holds wr (G + 1) A) := holds_blk d2
      have M2 : Hid (Calls Try.prog 22 #[.slice (some ⟨G, 0, none⟩) 1 1] wr fun e w' => e = .returned (.bool true) ∧ w' = wr) :=
        hp ▸ may_ok (some ⟨G, 0, none⟩) [A] 1 1 rfl (by unfold maxLen; omega) wr (lls_1 (by rw [Addr.add_zero']; exact d1) rfl h8 (fun q => by cases q) HH.out.slc)
      have HO : Hid (OwnL wr w1.heap.size wr.heap.size (some ⟨G, 0, none⟩) [A]) := laid_own (n := 1) rfl HG.out (fun k hk => by
          obtain rfl : k = 0 := by omega
          exact d1) (fun k hk => by
          obtain rfl : k = 0 := by omega
          exact h8) (fun k hk => by
          obtain rfl : k = 0 := by omega
          exact HH.out) (by have := hL.out.size; omega)
      clear d1 d2
      go_wp2
      refine wp_loop_rounds 1 ?_
      rw [rounds_succ]
      go_wp2_with fail
      refine M2.out.mono ?_
      rintro e w2 ⟨rfl, rfl⟩
      go_wp2
      go_ret2
      exact ⟨G, rfl, HO.out, hL.out.bel⟩

set_option maxHeartbeats 1000000 in
theorem less_two (x : Addr) (A B : List Int) (cap : Nat) (hp : chsMay [A, B] = true) (h8 : A.length * 8 ≤ 140737488351232) (w : World) (hA : Lls w (some x) [A, B]) :
    Calls Try.prog 17 #[.slice (some x) 2 cap, .func (.func 18) #[] #[]] w fun e w' =>
      (chsMay [A, byFirst (-1) A B] = false → e = .returned (.tuple #[.slice none 0 0, .int .i64 1700])) ∧
      (chsMay [A, byFirst (-1) A B] = true → ∃ g, e = .returned (.tuple #[.slice (some ⟨g, 0, none⟩) 2 2, .int .i64 0]) ∧ OwnL w' w.heap.size w'.heap.size (some ⟨g, 0, none⟩) [A, byFirst (-1) A B]) ∧ Bel w w' := by
  have sh := hp
  rw [chsMay_2, Bool.and_eq_true, Bool.and_eq_true, decide_eq_true_eq] at sh
  have SA : Hid (∀ k, k < A.length → -131072 ≤ A.getD k 0 ∧ A.getD k 0 ≤ 131072) := okRow_iff.1 sh.1
  have SB : Hid (∀ k, k < B.length → -131072 ≤ B.getD k 0 ∧ B.getD k 0 ≤ 131072) := okRow_iff.1 sh.2.2
  have SL : Hid (B.length = A.length) := sh.2.1
  clear sh
  have M : Hid (Calls Try.prog 22 #[.slice (some x) 2 cap] w fun e w' => e = .returned (.bool true) ∧ w' = w) := hp ▸ may_ok (some x) [A, B] 2 cap rfl (by unfold maxLen; omega) w hA
  have mkL : (Instr.makeSlice 22 (.int .i64 2) (.int .i64 2)).run Try.prog w = .ok (.slice (some ⟨w.heap.size, 0, none⟩) 2 2) (w.alloc (.cells (madeCells #[.slice none 0 0] 2) 34)) := mk_rows 2 (by omega) w
  have HA : Hid (Lls w (some x) [A, B]) := hA
  have L0 : Hid (Laid w (w.alloc (.cells (madeCells #[.slice none 0 0] 2) 34)) w.heap.size 2 0 [A, B]) := laid_start w 2 [A, B]
  clear hA
  go_enter Try.func17, Try.ntmps17
  go_wp2_with fail
  refine M.out.mono ?_
  rintro e w1 ⟨rfl, rfl⟩
  go_wp2
  obtain ⟨W0, hW0⟩ : ∃ W, W = w1.alloc (.cells (madeCells #[.slice none 0 0] 2) 34) := ⟨_, rfl⟩
  obtain ⟨G, hG⟩ : ∃ G, G = w1.heap.size := ⟨_, rfl⟩
  rw [← hW0, ← hG] at L0
  have HG : Hid (w1.heap.size ≤ G) := (by omega : w1.heap.size ≤ G)
  rw [← hW0, ← hG]
  clear hW0 hG mkL M
  go_loopw [21] (fun i wr => ∃ j : Nat, j ≤ 2 ∧ i = .int .i64 (j : Int) ∧ Hid (Laid w1 wr G 2 j [A, B])) (fun i _ => 2 - (intOf i).toNat)
  case atStart => exact ⟨0, Nat.zero_le _, rfl, L0⟩
  case round =>
    obtain ⟨j, hj, rfl, hL⟩ := hrel
    by_cases hlt : j < 2
    · obtain ⟨y, hy, b1, c1, p1, s1, z1, t1⟩ := HA.out j hlt
      cases hy
      have hd : decide ((j : Int) < 2) = true := decide_eq_true (by omega)
      have f1 : wr.cell? (x.add j) = some (.slice b1 (List.getD [A, B] j []).length c1) := hL.out.bel.keep p1
      have T1 : Hid (Slc w1 b1 (List.getD [A, B] j [])) := t1
      have c0 := hL.out.todo j (Nat.le_refl _) hlt
      have c2 := hL.out.free j hlt
      have hca : ∀ o, (wr.alloc o).cell? ⟨G, j, none⟩ = some (.slice none 0 0) := fun o => ((Bel.refl wr).alloc o).keep c0
      have hfa : ∀ o, (wr.alloc o).frozen? ⟨G, j, none⟩ = false := fun o => Bel.free ((Bel.refl wr).alloc o) c0 c2
      have mk := mk_row (List.getD [A, B] j []).length s1
      clear p1 s1 z1 t1
      obtain ⟨l, hl⟩ : ∃ l, (List.getD [A, B] j []).length = l := ⟨_, rfl⟩
      rw [hl] at f1 mk
      have HL : Hid (l = (List.getD [A, B] j []).length) := hl.symm
      clear hl
      have HB : Hid (((wr.alloc (.cells (vals (List.replicate l 0)).toArray 3)).setCell ⟨G, j, none⟩ (.slice (some ⟨wr.heap.size, 0, none⟩) l l)).heap[wr.heap.size]? = some (.cells (vals (List.replicate l 0)).toArray 3 (0, 0))) := (by
        rw [Below.heap_setCell _ _ _ _ (by show wr.heap.size ≠ G; have := hL.out.size; omega)]
        exact heap_alloc_new wr _)
      have TB : Hid (Slc ((wr.alloc (.cells (vals (List.replicate l 0)).toArray 3)).setCell ⟨G, j, none⟩ (.slice (some ⟨wr.heap.size, 0, none⟩) l l)) b1 (List.getD [A, B] j [])) := T1.out.bel ((hL.out.bel.alloc _).setCell (a := ⟨G, j, none⟩) HG.out _)
      go_wp2_with ((with_reducible refine wpl_copy_to _ wr.heap.size l l c1 b1 ?_ ?_ (List.replicate l 0) (List.getD [A, B] j []) List.length_replicate HL.out HB.out TB.out ?_); rfl; rfl)
      intro w2 e1 e2 e3
      have HN : Hid (Laid w1 w2 G 2 (j + 1) [A, B]) := laid_step hL.out HG.out hlt HL.out e1 e2 e3
      clear e1 e2 e3 HB TB f1 hca hfa mk c0 c2
      go_wp2
      go_roundw
      case rel => exact ⟨j + 1, by omega, by go_num, HN⟩
      case measure => simp [intOf]; omega
    · obtain rfl : j = 2 := by omega
      rw [show ((2 : Nat) : Int) = 2 from rfl]
      obtain ⟨d1, d2⟩ := hL.out.done 0 (by omega)
      obtain ⟨d3, d4⟩ := hL.out.done 1 (by omega)
      replace d1 : wr.cell? ⟨G, 0, none⟩ = some (.slice (some ⟨G + 1, 0, none⟩) A.length A.length) := d1
      replace d3 : wr.cell? ⟨G, 1, none⟩ = some (.slice (some ⟨G + 2, 0, none⟩) B.length B.length) := d3
      rw [SL.out] at d3
      have HH : Hid (Holds wr (G + 1) A ∧ Holds wr (G + 2) B) := ⟨holds_blk d2, holds_blk d4⟩
      have D : Hid (wr.cell? ⟨G, 0, none⟩ = some (.slice (some ⟨G + 1, 0, none⟩) A.length A.length) ∧ wr.cell? ⟨G, 1, none⟩ = some (.slice (some ⟨G + 2, 0, none⟩) A.length A.length)) := ⟨d1, d3⟩
      have B0 : Hid (Bel w1 wr) := hL.out.bel
      have Z0 : Hid (G + 3 ≤ wr.heap.size) := (by have := hL.out.size; omega : G + 3 ≤ wr.heap.size)
      clear d2 d4
      obtain ⟨l, hl⟩ : ∃ l, A.length = l := ⟨_, rfl⟩
      rw [hl] at d1 d3 D h8
      have HL : Hid (A.length = l) := hl
      clear hl
      obtain ⟨W, hW⟩ : ∃ W, W = wr := ⟨_, rfl⟩
      have HWR : Hid (W = wr) := hW
      clear hW
      go_wp2
      refine wp_loop_rounds 2 ?_
      rw [rounds_succ]
      go_wp2
      go_loopw [50] (fun i wq => ∃ k : Nat, k ≤ l ∧ i = .int .i64 (k : Int) ∧ Hid (∃ M : List Int, M.length = l ∧ Holds wq (G + 2) M ∧ ∀ i, i < l → M.getD i 0 = if i < k then B.getD i 0 + (-1) * A.getD i 0 else B.getD i 0) ∧ Hid (Exc (fun k => k = G + 2) W wq)) (fun i _ => l - (intOf i).toNat)
      case atStart => exact ⟨0, Nat.zero_le _, rfl, (⟨B, SL.out.trans HL.out, HH.out.2, fun i hi => by rw [if_neg (by omega)]⟩ : ∃ M : List Int, M.length = l ∧ Holds _ (G + 2) M ∧ ∀ i, i < l → M.getD i 0 = if i < 0 then B.getD i 0 + (-1) * A.getD i 0 else B.getD i 0), HWR.out ▸ Exc.refl _ _⟩
      case round =>
        obtain ⟨k, hk, rfl, hM, hE⟩ := hrel
        clear d1 d3
        by_cases hkt : k < l
        · have hkd : decide ((k : Int) < (l : Int)) = true := decide_eq_true (by omega)
          obtain ⟨N, n1, n2, n3⟩ := hM.out
          have cA : wr.cell? ⟨G + 1, k, none⟩ = some (.int .i64 (A.getD k 0)) := hE.out.keep (HWR.out ▸ HH.out.1.cell k (HL.out ▸ hkt)) (by show ¬ G + 1 = G + 2; omega)
          have cB : wr.cell? ⟨G + 2, k, none⟩ = some (.int .i64 (B.getD k 0)) := by
            have := n2.cell k (n1 ▸ hkt)
            rwa [n3 k hkt, if_neg (by omega)] at this
          have fB : wr.frozen? ⟨G + 2, k, none⟩ = false := n2.free k (n1 ▸ hkt)
          have RA := SA.out k (HL.out ▸ hkt)
          have RB := SB.out k (SL.out.symm ▸ HL.out ▸ hkt)
          have LQ : Hid (∀ w, Calls Try.prog 18 #[.int .i64 (B.getD k 0), .int .i64 (A.getD k 0)] w fun e w' => e = .returned (.int .i64 (B.getD k 0 + (-1) * A.getD k 0)) ∧ w' = w) := fun w => less_ok _ _ RB RA w
          clear RA RB
          obtain ⟨z, hz⟩ : ∃ z, B.getD k 0 + (-1) * A.getD k 0 = z := ⟨_, rfl⟩
          have HZ : Hid (B.getD k 0 + (-1) * A.getD k 0 = z) := hz
          rw [hz] at LQ
          clear hz
          have HN : Hid (∃ M : List Int, M.length = l ∧ Holds (wr.setCell ⟨G + 2, k, none⟩ (.int .i64 z)) (G + 2) M ∧ ∀ i, i < l → M.getD i 0 = if i < k + 1 then B.getD i 0 + (-1) * A.getD i 0 else B.getD i 0) := ⟨N.set k z, by simpa using n1, n2.set k (n1 ▸ hkt) z, fun i hi => by
            by_cases e : i = k
            · subst e
              rw [Mod.getD_set_eq _ _ _ (n1 ▸ hi), if_pos (by omega), HZ.out]
            · rw [show (N.set k z).getD i 0 = N.getD i 0 by simp [List.getD_eq_getElem?_getD, List.getElem?_set_ne (Ne.symm e)], n3 i hi]
              by_cases h : i < k
              · rw [if_pos h, if_pos (by omega)]
              · rw [if_neg h, if_neg (by omega)]⟩
          have HE2 : Hid (Exc (fun k => k = G + 2) W (wr.setCell ⟨G + 2, k, none⟩ (.int .i64 z))) := hE.out.setCell (a := ⟨G + 2, k, none⟩) (fun _ => rfl) _
          clear n1 n2 n3 hM hE HZ
          generalize A.getD k 0 = p at *
          generalize B.getD k 0 = q at *
          go_wp2_with fail
          refine (LQ.out _).mono ?_
          rintro e w3 ⟨rfl, rfl⟩
          go_wp2
          go_roundw
          case rel => exact ⟨k + 1, by omega, by go_num, HN, HE2⟩
          case measure => simp [intOf]; omega
        · obtain rfl : k = l := by omega
          have hkd : decide ((k : Int) < (k : Int)) = false := decide_eq_false (by omega)
          obtain ⟨N, n1, n2, n3⟩ := hM.out
          obtain rfl : N = byFirst (-1) A B := Mod.ext_getD _ _ (by rw [byFirst_length, HL.out, n1]) (fun i hi => by rw [n3 i (n1 ▸ hi), if_pos (n1 ▸ hi), byFirst_get _ _ _ _ (HL.out.symm ▸ n1 ▸ hi)])
          have e1 : wr.cell? ⟨G, 0, none⟩ = some (.slice (some ⟨G + 1, 0, none⟩) k k) := hE.out.keep (HWR.out ▸ D.out.1) (by show ¬ G = G + 2; omega)
          have e2 : wr.cell? ⟨G, 1, none⟩ = some (.slice (some ⟨G + 2, 0, none⟩) k k) := hE.out.keep (HWR.out ▸ D.out.2) (by show ¬ G = G + 2; omega)
          have e3 : Holds wr (G + 1) A := hE.out.holds (HWR.out ▸ HH.out.1) (by show ¬ G + 1 = G + 2; omega)
          have BW : Hid (Bel w1 wr) := hE.out.from (HWR.out ▸ B0.out) (fun i hi => by have := HG.out; omega)
          have M2 : Hid (Calls Try.prog 22 #[.slice (some ⟨G, 0, none⟩) 2 2] wr fun e w' => e = .returned (.bool (chsMay [A, byFirst (-1) A B])) ∧ w' = wr) :=
            may_ok (some ⟨G, 0, none⟩) [A, byFirst (-1) A B] 2 2 rfl (by unfold maxLen; omega) wr (lls_2 (by rw [Addr.add_zero']; exact e1) HL.out.symm h8 (fun q => by cases q) e3.slc (by rw [Addr.add_lit]; exact e2) (by rw [byFirst_length, HL.out]) h8 (fun q => by cases q) n2.slc)
          have HO : Hid (OwnL wr w1.heap.size wr.heap.size (some ⟨G, 0, none⟩) [A, byFirst (-1) A B]) := laid_own (n := 2) rfl HG.out (fun i hi => by
              match i, hi with
              | 0, _ => show wr.cell? ⟨G, 0, none⟩ = some (.slice (some ⟨G + 1, 0, none⟩) A.length A.length); rw [HL.out]; exact e1
              | 1, _ => show wr.cell? ⟨G, 1, none⟩ = some (.slice (some ⟨G + 2, 0, none⟩) (byFirst (-1) A B).length (byFirst (-1) A B).length); rw [byFirst_length, HL.out]; exact e2) (fun i hi => by
              match i, hi with
              | 0, _ => show A.length * 8 ≤ _; rw [HL.out]; exact h8
              | 1, _ => show (byFirst (-1) A B).length * 8 ≤ _; rw [byFirst_length, HL.out]; exact h8) (fun i hi => by
              match i, hi with
              | 0, _ => exact e3
              | 1, _ => exact n2) (by have := Z0.out; have := hE.out.size; have := HWR.out; subst this; omega)
          clear e1 e2 e3 n1 n2 n3 hM hE
          obtain ⟨r, hr⟩ : ∃ r, chsMay [A, byFirst (-1) A B] = r := ⟨_, rfl⟩
          rw [hr] at M2
          have HR : Hid (chsMay [A, byFirst (-1) A B] = r) := hr
          clear hr
          go_wp2
          rw [rounds_succ]
          go_wp2_with fail
          refine M2.out.mono ?_
          rintro e w3 ⟨rfl, rfl⟩
          cases r
          · go_wp2
            go_ret2
            exact ⟨fun _ => rfl, fun h => absurd (HR.out.symm.trans h) (by decide), BW.out⟩
          · go_wp2
            go_ret2
            exact ⟨fun h => absurd (HR.out.symm.trans h) (by decide), fun _ => ⟨G, rfl, HO.out⟩, BW.out⟩

set_option maxHeartbeats 1000000 in
theorem more_two (x : Addr) (A B : List Int) (cap : Nat) (hp : chsMay [A, B] = true) (h8 : A.length * 8 ≤ 140737488351232) (w : World) (hA : Lls w (some x) [A, B]) :
    Calls Try.prog 17 #[.slice (some x) 2 cap, .func (.func 20) #[] #[]] w fun e w' =>
      (chsMay [A, byFirst 1 A B] = false → e = .returned (.tuple #[.slice none 0 0, .int .i64 1700])) ∧
      (chsMay [A, byFirst 1 A B] = true → ∃ g, e = .returned (.tuple #[.slice (some ⟨g, 0, none⟩) 2 2, .int .i64 0]) ∧ OwnL w' w.heap.size w'.heap.size (some ⟨g, 0, none⟩) [A, byFirst 1 A B]) ∧ Bel w w' := by
  have sh := hp
  rw [chsMay_2, Bool.and_eq_true, Bool.and_eq_true, decide_eq_true_eq] at sh
  have SA : Hid (∀ k, k < A.length → -131072 ≤ A.getD k 0 ∧ A.getD k 0 ≤ 131072) := okRow_iff.1 sh.1
  have SB : Hid (∀ k, k < B.length → -131072 ≤ B.getD k 0 ∧ B.getD k 0 ≤ 131072) := okRow_iff.1 sh.2.2
  have SL : Hid (B.length = A.length) := sh.2.1
  clear sh
  have M : Hid (Calls Try.prog 22 #[.slice (some x) 2 cap] w fun e w' => e = .returned (.bool true) ∧ w' = w) := hp ▸ may_ok (some x) [A, B] 2 cap rfl (by unfold maxLen; omega) w hA
  have mkL : (Instr.makeSlice 22 (.int .i64 2) (.int .i64 2)).run Try.prog w = .ok (.slice (some ⟨w.heap.size, 0, none⟩) 2 2) (w.alloc (.cells (madeCells #[.slice none 0 0] 2) 34)) := mk_rows 2 (by omega) w
  have HA : Hid (Lls w (some x) [A, B]) := hA
  have L0 : Hid (Laid w (w.alloc (.cells (madeCells #[.slice none 0 0] 2) 34)) w.heap.size 2 0 [A, B]) := laid_start w 2 [A, B]
  clear hA
  go_enter Try.func17, Try.ntmps17
  go_wp2_with fail
  refine M.out.mono ?_
  rintro e w1 ⟨rfl, rfl⟩
  go_wp2
  obtain ⟨W0, hW0⟩ : ∃ W, W = w1.alloc (.cells (madeCells #[.slice none 0 0] 2) 34) := ⟨_, rfl⟩
  obtain ⟨G, hG⟩ : ∃ G, G = w1.heap.size := ⟨_, rfl⟩
  rw [← hW0, ← hG] at L0
  have HG : Hid (w1.heap.size ≤ G) := (by omega : w1.heap.size ≤ G)
  rw [← hW0, ← hG]
  clear hW0 hG mkL M
  go_loopw [21] (fun i wr => ∃ j : Nat, j ≤ 2 ∧ i = .int .i64 (j : Int) ∧ Hid (Laid w1 wr G 2 j [A, B])) (fun i _ => 2 - (intOf i).toNat)
  case atStart => exact ⟨0, Nat.zero_le _, rfl, L0⟩
  case round =>
    obtain ⟨j, hj, rfl, hL⟩ := hrel
    by_cases hlt : j < 2
    · obtain ⟨y, hy, b1, c1, p1, s1, z1, t1⟩ := HA.out j hlt
      cases hy
      have hd : decide ((j : Int) < 2) = true := decide_eq_true (by omega)
      have f1 : wr.cell? (x.add j) = some (.slice b1 (List.getD [A, B] j []).length c1) := hL.out.bel.keep p1
      have T1 : Hid (Slc w1 b1 (List.getD [A, B] j [])) := t1
      have c0 := hL.out.todo j (Nat.le_refl _) hlt
      have c2 := hL.out.free j hlt
      have hca : ∀ o, (wr.alloc o).cell? ⟨G, j, none⟩ = some (.slice none 0 0) := fun o => ((Bel.refl wr).alloc o).keep c0
      have hfa : ∀ o, (wr.alloc o).frozen? ⟨G, j, none⟩ = false := fun o => Bel.free ((Bel.refl wr).alloc o) c0 c2
      have mk := mk_row (List.getD [A, B] j []).length s1
      clear p1 s1 z1 t1
      obtain ⟨l, hl⟩ : ∃ l, (List.getD [A, B] j []).length = l := ⟨_, rfl⟩
      rw [hl] at f1 mk
      have HL : Hid (l = (List.getD [A, B] j []).length) := hl.symm
      clear hl
      have HB : Hid (((wr.alloc (.cells (vals (List.replicate l 0)).toArray 3)).setCell ⟨G, j, none⟩ (.slice (some ⟨wr.heap.size, 0, none⟩) l l)).heap[wr.heap.size]? = some (.cells (vals (List.replicate l 0)).toArray 3 (0, 0))) := (by
        rw [Below.heap_setCell _ _ _ _ (by show wr.heap.size ≠ G; have := hL.out.size; omega)]
        exact heap_alloc_new wr _)
      have TB : Hid (Slc ((wr.alloc (.cells (vals (List.replicate l 0)).toArray 3)).setCell ⟨G, j, none⟩ (.slice (some ⟨wr.heap.size, 0, none⟩) l l)) b1 (List.getD [A, B] j [])) := T1.out.bel ((hL.out.bel.alloc _).setCell (a := ⟨G, j, none⟩) HG.out _)
      go_wp2_with ((with_reducible refine wpl_copy_to _ wr.heap.size l l c1 b1 ?_ ?_ (List.replicate l 0) (List.getD [A, B] j []) List.length_replicate HL.out HB.out TB.out ?_); rfl; rfl)
      intro w2 e1 e2 e3
      have HN : Hid (Laid w1 w2 G 2 (j + 1) [A, B]) := laid_step hL.out HG.out hlt HL.out e1 e2 e3
      clear e1 e2 e3 HB TB f1 hca hfa mk c0 c2
      go_wp2
      go_roundw
      case rel => exact ⟨j + 1, by omega, by go_num, HN⟩
      case measure => simp [intOf]; omega
    · obtain rfl : j = 2 := by omega
      rw [show ((2 : Nat) : Int) = 2 from rfl]
      obtain ⟨d1, d2⟩ := hL.out.done 0 (by omega)
      obtain ⟨d3, d4⟩ := hL.out.done 1 (by omega)
      replace d1 : wr.cell? ⟨G, 0, none⟩ = some (.slice (some ⟨G + 1, 0, none⟩) A.length A.length) := d1
      replace d3 : wr.cell? ⟨G, 1, none⟩ = some (.slice (some ⟨G + 2, 0, none⟩) B.length B.length) := d3
      rw [SL.out] at d3
      have HH : Hid (Holds wr (G + 1) A ∧ Holds wr (G + 2) B) := ⟨holds_blk d2, holds_blk d4⟩
      have D : Hid (wr.cell? ⟨G, 0, none⟩ = some (.slice (some ⟨G + 1, 0, none⟩) A.length A.length) ∧ wr.cell? ⟨G, 1, none⟩ = some (.slice (some ⟨G + 2, 0, none⟩) A.length A.length)) := ⟨d1, d3⟩
      have B0 : Hid (Bel w1 wr) := hL.out.bel
      have Z0 : Hid (G + 3 ≤ wr.heap.size) := (by have := hL.out.size; omega : G + 3 ≤ wr.heap.size)
      clear d2 d4
      obtain ⟨l, hl⟩ : ∃ l, A.length = l := ⟨_, rfl⟩
      rw [hl] at d1 d3 D h8
      have HL : Hid (A.length = l) := hl
      clear hl
      obtain ⟨W, hW⟩ : ∃ W, W = wr := ⟨_, rfl⟩
      have HWR : Hid (W = wr) := hW
      clear hW
      go_wp2
      refine wp_loop_rounds 2 ?_
      rw [rounds_succ]
      go_wp2
      go_loopw [50] (fun i wq => ∃ k : Nat, k ≤ l ∧ i = .int .i64 (k : Int) ∧ Hid (∃ M : List Int, M.length = l ∧ Holds wq (G + 2) M ∧ ∀ i, i < l → M.getD i 0 = if i < k then B.getD i 0 + 1 * A.getD i 0 else B.getD i 0) ∧ Hid (Exc (fun k => k = G + 2) W wq)) (fun i _ => l - (intOf i).toNat)
      case atStart => exact ⟨0, Nat.zero_le _, rfl, (⟨B, SL.out.trans HL.out, HH.out.2, fun i hi => by rw [if_neg (by omega)]⟩ : ∃ M : List Int, M.length = l ∧ Holds _ (G + 2) M ∧ ∀ i, i < l → M.getD i 0 = if i < 0 then B.getD i 0 + 1 * A.getD i 0 else B.getD i 0), HWR.out ▸ Exc.refl _ _⟩
      case round =>
        obtain ⟨k, hk, rfl, hM, hE⟩ := hrel
        clear d1 d3
        by_cases hkt : k < l
        · have hkd : decide ((k : Int) < (l : Int)) = true := decide_eq_true (by omega)
          obtain ⟨N, n1, n2, n3⟩ := hM.out
          have cA : wr.cell? ⟨G + 1, k, none⟩ = some (.int .i64 (A.getD k 0)) := hE.out.keep (HWR.out ▸ HH.out.1.cell k (HL.out ▸ hkt)) (by show ¬ G + 1 = G + 2; omega)
          have cB : wr.cell? ⟨G + 2, k, none⟩ = some (.int .i64 (B.getD k 0)) := by
            have := n2.cell k (n1 ▸ hkt)
            rwa [n3 k hkt, if_neg (by omega)] at this
          have fB : wr.frozen? ⟨G + 2, k, none⟩ = false := n2.free k (n1 ▸ hkt)
          have RA := SA.out k (HL.out ▸ hkt)
          have RB := SB.out k (SL.out.symm ▸ HL.out ▸ hkt)
          have LQ : Hid (∀ w, Calls Try.prog 20 #[.int .i64 (B.getD k 0), .int .i64 (A.getD k 0)] w fun e w' => e = .returned (.int .i64 (B.getD k 0 + 1 * A.getD k 0)) ∧ w' = w) := fun w => more_ok _ _ RB RA w
          clear RA RB
          obtain ⟨z, hz⟩ : ∃ z, B.getD k 0 + 1 * A.getD k 0 = z := ⟨_, rfl⟩
          have HZ : Hid (B.getD k 0 + 1 * A.getD k 0 = z) := hz
          rw [hz] at LQ
          clear hz
          have HN : Hid (∃ M : List Int, M.length = l ∧ Holds (wr.setCell ⟨G + 2, k, none⟩ (.int .i64 z)) (G + 2) M ∧ ∀ i, i < l → M.getD i 0 = if i < k + 1 then B.getD i 0 + 1 * A.getD i 0 else B.getD i 0) := ⟨N.set k z, by simpa using n1, n2.set k (n1 ▸ hkt) z, fun i hi => by
            by_cases e : i = k
            · subst e
              rw [Mod.getD_set_eq _ _ _ (n1 ▸ hi), if_pos (by omega), HZ.out]
            · rw [show (N.set k z).getD i 0 = N.getD i 0 by simp [List.getD_eq_getElem?_getD, List.getElem?_set_ne (Ne.symm e)], n3 i hi]
              by_cases h : i < k
              · rw [if_pos h, if_pos (by omega)]
              · rw [if_neg h, if_neg (by omega)]⟩
          have HE2 : Hid (Exc (fun k => k = G + 2) W (wr.setCell ⟨G + 2, k, none⟩ (.int .i64 z))) := hE.out.setCell (a := ⟨G + 2, k, none⟩) (fun _ => rfl) _
          clear n1 n2 n3 hM hE HZ
          generalize A.getD k 0 = p at *
          generalize B.getD k 0 = q at *
          go_wp2_with fail
          refine (LQ.out _).mono ?_
          rintro e w3 ⟨rfl, rfl⟩
          go_wp2
          go_roundw
          case rel => exact ⟨k + 1, by omega, by go_num, HN, HE2⟩
          case measure => simp [intOf]; omega
        · obtain rfl : k = l := by omega
          have hkd : decide ((k : Int) < (k : Int)) = false := decide_eq_false (by omega)
          obtain ⟨N, n1, n2, n3⟩ := hM.out
          obtain rfl : N = byFirst 1 A B := Mod.ext_getD _ _ (by rw [byFirst_length, HL.out, n1]) (fun i hi => by rw [n3 i (n1 ▸ hi), if_pos (n1 ▸ hi), byFirst_get _ _ _ _ (HL.out.symm ▸ n1 ▸ hi)])
          have e1 : wr.cell? ⟨G, 0, none⟩ = some (.slice (some ⟨G + 1, 0, none⟩) k k) := hE.out.keep (HWR.out ▸ D.out.1) (by show ¬ G = G + 2; omega)
          have e2 : wr.cell? ⟨G, 1, none⟩ = some (.slice (some ⟨G + 2, 0, none⟩) k k) := hE.out.keep (HWR.out ▸ D.out.2) (by show ¬ G = G + 2; omega)
          have e3 : Holds wr (G + 1) A := hE.out.holds (HWR.out ▸ HH.out.1) (by show ¬ G + 1 = G + 2; omega)
          have BW : Hid (Bel w1 wr) := hE.out.from (HWR.out ▸ B0.out) (fun i hi => by have := HG.out; omega)
          have M2 : Hid (Calls Try.prog 22 #[.slice (some ⟨G, 0, none⟩) 2 2] wr fun e w' => e = .returned (.bool (chsMay [A, byFirst 1 A B])) ∧ w' = wr) :=
            may_ok (some ⟨G, 0, none⟩) [A, byFirst 1 A B] 2 2 rfl (by unfold maxLen; omega) wr (lls_2 (by rw [Addr.add_zero']; exact e1) HL.out.symm h8 (fun q => by cases q) e3.slc (by rw [Addr.add_lit]; exact e2) (by rw [byFirst_length, HL.out]) h8 (fun q => by cases q) n2.slc)
          have HO : Hid (OwnL wr w1.heap.size wr.heap.size (some ⟨G, 0, none⟩) [A, byFirst 1 A B]) := laid_own (n := 2) rfl HG.out (fun i hi => by
              match i, hi with
              | 0, _ => show wr.cell? ⟨G, 0, none⟩ = some (.slice (some ⟨G + 1, 0, none⟩) A.length A.length); rw [HL.out]; exact e1
              | 1, _ => show wr.cell? ⟨G, 1, none⟩ = some (.slice (some ⟨G + 2, 0, none⟩) (byFirst 1 A B).length (byFirst 1 A B).length); rw [byFirst_length, HL.out]; exact e2) (fun i hi => by
              match i, hi with
              | 0, _ => show A.length * 8 ≤ _; rw [HL.out]; exact h8
              | 1, _ => show (byFirst 1 A B).length * 8 ≤ _; rw [byFirst_length, HL.out]; exact h8) (fun i hi => by
              match i, hi with
              | 0, _ => exact e3
              | 1, _ => exact n2) (by have := Z0.out; have := hE.out.size; have := HWR.out; subst this; omega)
          clear e1 e2 e3 n1 n2 n3 hM hE
          obtain ⟨r, hr⟩ : ∃ r, chsMay [A, byFirst 1 A B] = r := ⟨_, rfl⟩
          rw [hr] at M2
          have HR : Hid (chsMay [A, byFirst 1 A B] = r) := hr
          clear hr
          go_wp2
          rw [rounds_succ]
          go_wp2_with fail
          refine M2.out.mono ?_
          rintro e w3 ⟨rfl, rfl⟩
          cases r
          · go_wp2
            go_ret2
            exact ⟨fun _ => rfl, fun h => absurd (HR.out.symm.trans h) (by decide), BW.out⟩
          · go_wp2
            go_ret2
            exact ⟨fun h => absurd (HR.out.symm.trans h) (by decide), fun _ => ⟨G, rfl, HO.out⟩, BW.out⟩

/-- What is answered: the error, and the rows, each in a block of its own. -/
def Told (w w' : World) (s : Int) (Ls : List (List Int)) (e : Ending) : Prop :=
  ∃ bo k c, e = .returned (.tuple #[.slice bo k c, .int .i64 (errS s Ls)]) ∧ k = (ansS s Ls).length ∧ k ≤ 2 ∧ OwnL w' w.heap.size w'.heap.size bo (ansS s Ls) ∧ Bel w w'

theorem told_no {w : World} {s : Int} {Ls : List (List Int)} (h : okS s Ls = false) {w' : World} (b : Bel w w') : Told w w' s Ls (.returned (.tuple #[.slice none 0 0, .int .i64 1700])) := by
  obtain ⟨h1, h2⟩ := ansS_no h
  unfold Told
  rw [h1, h2]
  exact ⟨none, 0, 0, rfl, rfl, by omega, ownL_nil _ _ _ _, b⟩
theorem told_yes {w w' : World} {s : Int} {Ls : List (List Int)} (h : okS s Ls = true) {g n : Nat} (hn : n = (told s Ls).length) (h2 : n ≤ 2) (o : OwnL w' w.heap.size w'.heap.size (some ⟨g, 0, none⟩) (told s Ls)) (b : Bel w w') :
    Told w w' s Ls (.returned (.tuple #[.slice (some ⟨g, 0, none⟩) n n, .int .i64 0])) := by
  obtain ⟨h1, h3⟩ := ansS_yes h
  unfold Told
  rw [h1, h3]
  exact ⟨_, _, _, rfl, hn, h2, o, b⟩

theorem by_less (ao : Option Addr) (Ls : List (List Int)) (n cap : Nat) (hn : n = Ls.length) (hx : n ≤ maxLen) (w : World) (hA : Lls w ao Ls) :
    Calls Try.prog 17 #[.slice ao n cap, .func (.func 18) #[] #[]] w fun e w' => Told w w' (-1) Ls e := by
  cases hp : chsMay Ls
  · refine (by_no _ ao Ls n cap hn hx hp w hA).mono ?_
    rintro e w' ⟨rfl, rfl⟩
    exact told_no (by unfold okS; rw [hp]; rfl) (Bel.refl _)
  · obtain ⟨x, rfl, _, _, _, s0, _⟩ := hA 0 (by rcases chsMay_shape hp with ⟨A, rfl, _⟩ | ⟨A, B, rfl, _⟩ <;> simp)
    rcases chsMay_shape hp with ⟨A, rfl, _⟩ | ⟨A, B, rfl, _⟩
    · subst hn
      refine (by_one _ x A cap hp s0 w hA).mono ?_
      rintro e w' ⟨g, rfl, o, b⟩
      exact told_yes (by unfold okS; rw [hp]; exact hp) rfl (by omega) o b
    · subst hn
      refine (less_two x A B cap hp s0 w hA).mono ?_
      rintro e w' ⟨k1, k2, b⟩
      cases hq : chsMay [A, byFirst (-1) A B]
      · obtain rfl := k1 hq
        exact told_no (by unfold okS; rw [hp]; exact hq) b
      · obtain ⟨g, rfl, o⟩ := k2 hq
        exact told_yes (by unfold okS; rw [hp]; exact hq) rfl (by omega) o b

theorem put_ok (ao : Option Addr) (Ls : List (List Int)) (n cap : Nat) (hn : n = Ls.length) (hx : n ≤ maxLen) (w : World) (hA : Lls w ao Ls) :
    Calls Try.prog 8 #[.slice ao n cap] w fun e w' => ∃ bo k c, e = .returned (.tuple #[.slice bo k c, .int .i64 (errS (-1) Ls)]) ∧ k = (ansS (-1) Ls).length ∧ k ≤ 2 ∧ OwnL w' w.heap.size w'.heap.size bo (ansS (-1) Ls) ∧ Bel w w' := by
  have Y : Hid (Calls Try.prog 17 #[.slice ao n cap, .func (.func 18) #[] #[]] w fun e w' => Told w w' (-1) Ls e) := by_less ao Ls n cap hn hx w hA
  unfold Told at Y
  clear hn hA
  generalize errS (-1) Ls = er at *
  generalize ansS (-1) Ls = an at *
  go_enter Try.func8, Try.ntmps8
  go_wp2_with fail
  refine Y.out.mono ?_
  rintro e w' ⟨bo, k, c, rfl, hk, h2, o, b⟩
  have HK : Hid (k = an.length ∧ k ≤ 2 ∧ OwnL w' w.heap.size w'.heap.size bo an ∧ Bel w w') := ⟨hk, h2, o, b⟩
  clear hk h2 o b
  go_wp2
  go_ret2
  exact ⟨_, _, _, rfl, HK.out.1, HK.out.2.1, HK.out.2.2.1, HK.out.2.2.2⟩

theorem by_more (ao : Option Addr) (Ls : List (List Int)) (n cap : Nat) (hn : n = Ls.length) (hx : n ≤ maxLen) (w : World) (hA : Lls w ao Ls) :
    Calls Try.prog 17 #[.slice ao n cap, .func (.func 20) #[] #[]] w fun e w' => Told w w' 1 Ls e := by
  cases hp : chsMay Ls
  · refine (by_no _ ao Ls n cap hn hx hp w hA).mono ?_
    rintro e w' ⟨rfl, rfl⟩
    exact told_no (by unfold okS; rw [hp]; rfl) (Bel.refl _)
  · obtain ⟨x, rfl, _, _, _, s0, _⟩ := hA 0 (by rcases chsMay_shape hp with ⟨A, rfl, _⟩ | ⟨A, B, rfl, _⟩ <;> simp)
    rcases chsMay_shape hp with ⟨A, rfl, _⟩ | ⟨A, B, rfl, _⟩
    · subst hn
      refine (by_one _ x A cap hp s0 w hA).mono ?_
      rintro e w' ⟨g, rfl, o, b⟩
      exact told_yes (by unfold okS; rw [hp]; exact hp) rfl (by omega) o b
    · subst hn
      refine (more_two x A B cap hp s0 w hA).mono ?_
      rintro e w' ⟨k1, k2, b⟩
      cases hq : chsMay [A, byFirst 1 A B]
      · obtain rfl := k1 hq
        exact told_no (by unfold okS; rw [hp]; exact hq) b
      · obtain ⟨g, rfl, o⟩ := k2 hq
        exact told_yes (by unfold okS; rw [hp]; exact hq) rfl (by omega) o b

theorem get_ok (ao : Option Addr) (Ls : List (List Int)) (n cap : Nat) (hn : n = Ls.length) (hx : n ≤ maxLen) (w : World) (hA : Lls w ao Ls) :
    Calls Try.prog 10 #[.slice ao n cap] w fun e w' => ∃ bo k c, e = .returned (.tuple #[.slice bo k c, .int .i64 (errS 1 Ls)]) ∧ k = (ansS 1 Ls).length ∧ k ≤ 2 ∧ OwnL w' w.heap.size w'.heap.size bo (ansS 1 Ls) ∧ Bel w w' := by
  have Y : Hid (Calls Try.prog 17 #[.slice ao n cap, .func (.func 20) #[] #[]] w fun e w' => Told w w' 1 Ls e) := by_more ao Ls n cap hn hx w hA
  unfold Told at Y
  clear hn hA
  generalize errS 1 Ls = er at *
  generalize ansS 1 Ls = an at *
  go_enter Try.func10, Try.ntmps10
  go_wp2_with fail
  refine Y.out.mono ?_
  rintro e w' ⟨bo, k, c, rfl, hk, h2, o, b⟩
  have HK : Hid (k = an.length ∧ k ≤ 2 ∧ OwnL w' w.heap.size w'.heap.size bo an ∧ Bel w w') := ⟨hk, h2, o, b⟩
  clear hk h2 o b
  go_wp2
  go_ret2
  exact ⟨_, _, _, rfl, HK.out.1, HK.out.2.1, HK.out.2.2.1, HK.out.2.2.2⟩

end Go.Proofs.Ytkkdlnolpjbjeaa.Sid
