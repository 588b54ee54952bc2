/-
  The contracts of a builder's Grow where nothing is written yet, and of strings.Join over three texts with nothing between them. Condition: the three have at most 2^47 bytes together.
-/
import Derived.Test.YthbjjjpleongbaaGBld
import Derived.Test.YthbjjjpleongbaaRcSmall
import Derived.Shelf.Strings.Builder2
namespace Go.Proofs.Ythbjjjpleongbaa.Bld
open Go.RowKit Go.Shelf Go.Proofs.Ythbjjjpleongbaa.Mod Go.Proofs.Ythbjjjpleongbaa.Chk
set_option linter.unusedVariables false
set_option linter.unusedSimpArgs false

/-- The library's numbers at this seat. -/
def renG : Ren := ⟨fun | 241 => 43 | 277 => 47 | n => n, fun | 70 => 72 | 72 => 74 | 37 => 39 | 127 => 85 | n => n, fun n => n⟩

theorem laysG : Lays.n241 Try.prog renG where
  mixed := by kernel_rfl
  f241 := Try.func43.trans (congrArg some (by kernel_rfl))
  f277 := Try.func47.trans (congrArg some (by kernel_rfl))
  t0 := Try.underlying0
  a0 := Try.isAgg0
  z0 := Try.sizeOf0
  v0 := Try.zeroValue0
  t3 := Try.underlying3
  a3 := Try.isAgg3
  z3 := Try.sizeOf3
  v3 := Try.zeroValue3
  t37 := Try.underlying39
  a37 := Try.isAgg39
  z37 := Try.sizeOf39
  v37 := Try.zeroValue39
  t70 := Try.underlying72
  a70 := Try.isAgg72
  z70 := Try.sizeOf72
  v70 := Try.zeroValue72
  t72 := Try.underlying74
  a72 := Try.isAgg74
  z72 := Try.sizeOf74
  v72 := Try.zeroValue74

theorem extraG : Builder.Extra Try.prog renG where
  sizeBuilder := by kernel_rfl
  liesBuilder := by kernel_rfl
  t5 := Try.underlying5
  a5 := Try.isAgg5
  z5 := Try.sizeOf5
  v5 := Try.zeroValue5
  infoByte := by kernel_rfl
  cellsByte := by kernel_rfl
  sizeByte := by kernel_rfl
  neB5 := by decide

theorem small_ok (B b n : Nat) (w : World) (hB : B ≤ b) (hbk : w.heap[b]? = some (.cells #[.pointer (some ⟨b, 0, none⟩), .slice none 0 0] 74 (0, 0))) (hBw : B ≤ w.heap.size) (hn : n ≤ 281474976710656) :
    Calls Try.prog 43 #[.pointer (some ⟨b, 0, none⟩), .int .i64 n] w fun e w' => e = .returned (.tuple #[]) ∧ (Used B b [] w' ∧ Below B w w') :=
  Any.Builder_grow_fresh laysG extraG B b n w hB hbk hBw hn

set_option maxHeartbeats 2000000 in
set_option maxRecDepth 20000 in
/-- Grow, at a builder that is new. -/
theorem grow_ok (B b n : Nat) (w : World) (hB : B ≤ b) (hbk : w.heap[b]? = some (.cells #[.pointer none, .slice none 0 0] 74 (0, 0))) (hBw : B ≤ w.heap.size) (hn : n ≤ 281474976710656) :
    Calls Try.prog 36 #[.pointer (some ⟨b, 0, none⟩), .int .i64 n] w fun e w' => e = .returned (.tuple #[]) ∧ (Used B b [] w' ∧ Below B w w') := by
  obtain ⟨w1, hw1⟩ : ∃ w1, w1 = w.setCell ⟨b, 0, none⟩ (.pointer (some ⟨b, 0, none⟩)) := ⟨_, rfl⟩
  have hbk1 : w1.heap[b]? = some (.cells #[.pointer (some ⟨b, 0, none⟩), .slice none 0 0] 74 (0, 0)) := by
    rw [hw1]
    simp [World.setCell, Array.getElem?_modify, hbk]
  have c1 : w1.cell? ⟨b, 1, none⟩ = some (.slice none 0 0) := by rw [Lib.cell_of_heap hbk1]; rfl
  have hb1 : Below B w w1 := hw1 ▸ (Below.refl B w).setCell (p := ⟨b, 0, none⟩) hB _
  have hU : Used B b [] w1 := ⟨hB, .slice none 0 0, hbk1, World.ownsRow_nil _ _ _ _, by simp [Value.ownBlock]⟩
  have CK : Hid (Calls Try.prog 42 #[.pointer (some ⟨b, 0, none⟩)] w fun e w' => e = .returned (.tuple #[]) ∧ w' = w1) := hw1 ▸ check_fresh b w (by rw [Lib.cell_of_heap hbk]; rfl) (by simp [World.shape?, hbk]) (Lib.frozen_of_heap hbk 0)
  have hs1 : B ≤ w1.heap.size := Nat.le_trans hBw hb1.size
  have G : Hid (∀ k, Calls Try.prog 43 #[.pointer (some ⟨b, 0, none⟩), .int .i64 n] (w1.drewN k) fun e w' => e = .returned (.tuple #[]) ∧ (Used B b [] w' ∧ Below B (w1.drewN k) w')) := fun k => small_ok B b n (w1.drewN k) hB hbk1 hs1 hn
  have U0 : Hid (∀ k, Used B b [] (w1.drewN k) ∧ Below B w (w1.drewN k)) := fun k => ⟨⟨hB, .slice none 0 0, hbk1, World.ownsRow_nil _ _ _ _, by simp [Value.ownBlock]⟩, ⟨hb1.os, hb1.tape, hb1.output, hb1.size, hb1.block⟩⟩
  clear hbk hbk1 hw1 hU hb1 hs1 hB hBw
  by_cases h0 : n = 0
  · subst h0
    go_enter Try.func36, Try.ntmps36
    go_wp2_with fail
    refine (CK.out).mono ?_
    rintro e w2 ⟨rfl, rfl⟩
    go_wp2_with fail
    go_quiet (fail)
    go_wp2
    go_end0
    exact ⟨rfl, U0.out _⟩
  · have hd : decide ((0 : Int) < (n : Int)) = true := decide_eq_true (by omega)
    go_enter Try.func36, Try.ntmps36
    go_wp2_with fail
    refine (CK.out).mono ?_
    rintro e w2 ⟨rfl, rfl⟩
    go_wp2_with fail
    go_quiet (fail)
    go_wp2_with fail
    refine (G.out _).mono ?_
    rintro e w3 ⟨rfl, u3, b3⟩
    have F : Hid (Used B b [] w3 ∧ Below B w w3) := ⟨u3, (U0.out _).2.trans b3⟩
    clear u3 b3
    go_wp2
    go_end0
    exact ⟨rfl, F.out⟩

set_option maxHeartbeats 4000000 in
set_option maxRecDepth 20000 in
/-- Three texts, one behind the other. -/
theorem join_ok (g : Nat) (s0 s1 s2 : ByteArray) (h : s0.size + (s1.size + s2.size) ≤ 140737488355328) (w : World) (c0 : w.cell? ⟨g, 0, none⟩ = some (.string s0)) (c1 : w.cell? ⟨g, 1, none⟩ = some (.string s1)) (c2 : w.cell? ⟨g, 2, none⟩ = some (.string s2)) :
    Calls Try.prog 24 #[.slice (some ⟨g, 0, none⟩) 3 3, .string ⟨#[]⟩] w fun e w' => e = .returned (.string (tx (s0.data.toList ++ (s1.data.toList ++ s2.data.toList)))) ∧ Bel w w' := by
  have C : Hid (w.cell? ⟨g, 0, none⟩ = some (.string s0) ∧ w.cell? ⟨g, 1, none⟩ = some (.string s1) ∧ w.cell? ⟨g, 2, none⟩ = some (.string s2)) := ⟨c0, c1, c2⟩
  have L : Hid (s0.data.toList.length = s0.size ∧ s1.data.toList.length = s1.size ∧ s2.data.toList.length = s2.size) := ⟨(size_len s0 _ rfl).symm, (size_len s1 _ rfl).symm, (size_len s2 _ rfl).symm⟩
  have hn : (s0.size : Int) + (s1.size : Int) + (s2.size : Int) = ((s0.size + (s1.size + s2.size) : Nat) : Int) := by omega
  have HN : Hid ((s0.size : Int) + (s1.size : Int) + (s2.size : Int) = ((s0.size + (s1.size + s2.size) : Nat) : Int)) := hn
  have z0 : (⟨#[]⟩ : ByteArray).size = 0 := rfl
  clear hn
  go_enter Try.func24, Try.ntmps24
  go_wp2_with fail
  refine wp_loop_rounds 4 ?_
  rw [rounds_succ]
  go_wp2
  rw [rounds_succ]
  go_wp2
  rw [rounds_succ]
  go_wp2
  rw [rounds_succ]
  go_wp2_with fail
  rw [HN.out]
  refine (grow_ok w.heap.size w.heap.size (s0.size + (s1.size + s2.size)) _ (Nat.le_refl _) (heap_alloc_new w _) (by simp) (by omega)).mono ?_
  rintro e w1 ⟨rfl, u1, b1⟩
  have B1 : Hid (Bel w w1) := ((Below.refl w.heap.size w).alloc (Nat.le_refl _) _).trans b1
  have U1 : Hid (Used w.heap.size w.heap.size [] w1) := u1
  have d0 := B1.out.keep C.out.1
  have d1 := B1.out.keep C.out.2.1
  have d2 := B1.out.keep C.out.2.2
  clear b1 u1 c0 c1 c2
  go_wp2_with fail
  refine (write_ok w.heap.size w.heap.size [] s0.data.toList s0 rfl w1 (Or.inr U1.out) (by have := L.out; simp only [List.length_nil]; omega) B1.out.size).mono ?_
  rintro e w2 ⟨rfl, u2, b2⟩
  have B2 : Hid (Bel w w2) := Below.trans B1.out b2
  have U2 : Hid (Used w.heap.size w.heap.size s0.data.toList w2) := (by rw [List.nil_append] at u2; exact u2 : _)
  have e1 := B2.out.keep C.out.2.1
  have e2 := B2.out.keep C.out.2.2
  clear b2 u2 U1 B1 d0 d1 d2
  go_wp2_with fail
  refine wp_loop_rounds 3 ?_
  rw [rounds_succ]
  go_wp2_with fail
  refine (write_ok w.heap.size w.heap.size s0.data.toList [] ⟨#[]⟩ rfl w2 (Or.inr U2.out) (by have := L.out; simp only [List.length_nil]; omega) B2.out.size).mono ?_
  rintro e w3 ⟨rfl, u3, b3⟩
  have B3 : Hid (Bel w w3) := Below.trans B2.out b3
  have U3 : Hid (Used w.heap.size w.heap.size s0.data.toList w3) := (by rw [List.append_nil] at u3; exact u3 : _)
  have f1 := B3.out.keep C.out.2.1
  have f2 := B3.out.keep C.out.2.2
  clear b3 u3 U2 B2 e1 e2
  go_wp2_with fail
  refine (write_ok w.heap.size w.heap.size s0.data.toList s1.data.toList s1 rfl w3 (Or.inr U3.out) (by have := L.out; omega) B3.out.size).mono ?_
  rintro e w4 ⟨rfl, u4, b4⟩
  have B4 : Hid (Bel w w4) := Below.trans B3.out b4
  have U4 : Hid (Used w.heap.size w.heap.size (s0.data.toList ++ s1.data.toList) w4) := u4
  have g1 := B4.out.keep C.out.2.1
  have g2 := B4.out.keep C.out.2.2
  clear b4 u4 U3 B3 f1 f2
  go_wp2_with fail
  rw [rounds_succ]
  go_wp2_with fail
  refine (write_ok w.heap.size w.heap.size (s0.data.toList ++ s1.data.toList) [] ⟨#[]⟩ rfl w4 (Or.inr U4.out) (by have := L.out; simp only [List.length_nil, List.length_append]; omega) B4.out.size).mono ?_
  rintro e w5 ⟨rfl, u5, b5⟩
  have B5 : Hid (Bel w w5) := Below.trans B4.out b5
  have U5 : Hid (Used w.heap.size w.heap.size (s0.data.toList ++ s1.data.toList) w5) := (by rw [List.append_nil] at u5; exact u5 : _)
  have h1 := B5.out.keep C.out.2.1
  have h2 := B5.out.keep C.out.2.2
  clear b5 u5 U4 B4 g1 g2
  go_wp2_with fail
  refine (write_ok w.heap.size w.heap.size (s0.data.toList ++ s1.data.toList) s2.data.toList s2 rfl w5 (Or.inr U5.out) (by have := L.out; simp only [List.length_append]; omega) B5.out.size).mono ?_
  rintro e w6 ⟨rfl, u6, b6⟩
  have B6 : Hid (Bel w w6) := Below.trans B5.out b6
  have U6 : Hid (Used w.heap.size w.heap.size (s0.data.toList ++ s1.data.toList ++ s2.data.toList) w6) := u6
  clear b6 u6 U5 B5 h1 h2
  go_wp2_with fail
  rw [rounds_succ]
  go_wp2_with fail
  refine (string_ok w.heap.size w.heap.size _ w6 (Or.inr U6.out) B6.out.size).mono ?_
  rintro e w7 ⟨rfl, b7⟩
  have B7 : Hid (Bel w w7) := Below.trans B6.out b7
  clear b7
  go_wp2
  go_ret
  exact ⟨rfl, B7.out⟩

end Go.Proofs.Ythbjjjpleongbaa.Bld
