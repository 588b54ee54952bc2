/-
  The contracts of the reference's CodeBit and EndCoder: they answer as coder.Bit and coder.End do. Condition: the text is no longer than an int can tell.
-/
import Derived.Test.YtocnlefpbcnlmaaDoorPk9
import Derived.Deep.DrawnRows
namespace Go.Proofs.YtocnlefpbcnlmaaDoor.Coder
open Go.RowKit Go.Proofs.YtocnlefpbcnlmaaDoor.Num
set_option linter.unusedVariables false
attribute [local go_sem ↓] Go.wp_at_zero Go.wp_at_succ

/-- What lies in CodeBit's variables: c at N, the result at N + 1. -/
structure RCells (w : World) (N : Nat) (s : ByteArray) (u v : Int) : Prop where
  a0 : w.cell? ⟨N, 0, none⟩ = some (.int .i64 u)
  a1 : w.cell? ⟨N, 1, none⟩ = some (.int .i64 v)
  a2 : w.cell? ⟨N, 2, none⟩ = some (.string s)
  g0 : w.frozen? ⟨N, 0, none⟩ = false
  g1 : w.frozen? ⟨N, 1, none⟩ = false
  g2 : w.frozen? ⟨N, 2, none⟩ = false
  c0 : w.cell? ⟨N + 1, 0, none⟩ = some (.int .i64 0)
  c1 : w.cell? ⟨N + 1, 1, none⟩ = some (.int .i64 0)
  c2 : w.cell? ⟨N + 1, 2, none⟩ = some (.string ⟨#[]⟩)
  f0 : w.frozen? ⟨N + 1, 0, none⟩ = false
  f1 : w.frozen? ⟨N + 1, 1, none⟩ = false
  f2 : w.frozen? ⟨N + 1, 2, none⟩ = false

theorem RCells.keep {w w' : World} {N : Nat} {s : ByteArray} {u v : Int} (C : RCells w N s u v) (b : Bel w w') : RCells w' N s u v :=
  ⟨b.keep C.a0, b.keep C.a1, b.keep C.a2, b.free C.a0 C.g0, b.free C.a1 C.g1, b.free C.a2 C.g2, b.keep C.c0, b.keep C.c1, b.keep C.c2, b.free C.c0 C.f0, b.free C.c1 C.f1, b.free C.c2 C.f2⟩

theorem RCells.drew {w : World} {N : Nat} {s : ByteArray} {u v : Int} (C : RCells w N s u v) : RCells w.drew N s u v := ⟨C.a0, C.a1, C.a2, C.g0, C.g1, C.g2, C.c0, C.c1, C.c2, C.f0, C.f1, C.f2⟩

theorem far {w : World} {B i C j : Nat} {x y : Value} (h : B ≠ C ∨ i ≠ j) (c : w.cell? ⟨C, j, none⟩ = some y) : (w.setCell ⟨B, i, none⟩ x).cell? ⟨C, j, none⟩ = some y := by
  rw [World.cell?_setCell_other (h := by intro k; injection k with k1 k2 _; omega)]; exact c

theorem near {w : World} {a : Addr} {x y : Value} (c : w.cell? a = some y) : (w.setCell a x).cell? a = some x := (World.cell?_setCell_same _ _ (h := c) _)

theorem RCells.set0 {w : World} {N : Nat} {s : ByteArray} {u v : Int} (C : RCells w N s u v) (u' : Int) : RCells (w.setCell ⟨N, 0, none⟩ (.int .i64 u')) N s u' v :=
  ⟨near C.a0, far (by omega) C.a1, far (by omega) C.a2, by simp [C.g0], by simp [C.g1], by simp [C.g2], far (by omega) C.c0, far (by omega) C.c1, far (by omega) C.c2, by simp [C.f0], by simp [C.f1], by simp [C.f2]⟩
theorem RCells.set1 {w : World} {N : Nat} {s : ByteArray} {u v : Int} (C : RCells w N s u v) (v' : Int) : RCells (w.setCell ⟨N, 1, none⟩ (.int .i64 v')) N s u v' :=
  ⟨far (by omega) C.a0, near C.a1, far (by omega) C.a2, by simp [C.g0], by simp [C.g1], by simp [C.g2], far (by omega) C.c0, far (by omega) C.c1, far (by omega) C.c2, by simp [C.f0], by simp [C.f1], by simp [C.f2]⟩
theorem RCells.set2 {w : World} {N : Nat} {s : ByteArray} {u v : Int} (C : RCells w N s u v) (s' : ByteArray) : RCells (w.setCell ⟨N, 2, none⟩ (.string s')) N s' u v :=
  ⟨far (by omega) C.a0, far (by omega) C.a1, near C.a2, by simp [C.g0], by simp [C.g1], by simp [C.g2], far (by omega) C.c0, far (by omega) C.c1, far (by omega) C.c2, by simp [C.f0], by simp [C.f1], by simp [C.f2]⟩

def strLen : Option Value → Nat | some (.string s) => s.size | _ => 0

theorem app_assoc (a b c : ByteArray) : a ++ b ++ c = a ++ (b ++ c) := by
  apply ByteArray.ext
  simp [ByteArray.data_append, Array.append_assoc]

theorem one_more (s : ByteArray) (cs : List UInt8) (u : Int) (h0 : 0 ≤ u) (h1 : u ≤ 4294967295) : s ++ ⟨cs.toArray⟩ ++ strOfNums [u / 16777216 % 256] = s ++ ⟨(cs ++ [UInt8.ofNat (u / 16777216).toNat]).toArray⟩ := by
  apply ByteArray.ext
  simp [ByteArray.data_append, strOfNums]
  rw [Int.emod_eq_of_lt (by omega) (by omega)]

theorem four_parts (s : ByteArray) (l : Int) (h0 : 0 ≤ l) (h1 : l ≤ 4294967295) : s ++ strOfNums [l / 16777216 % 256] ++ strOfNums [l / 65536 % 256] ++ strOfNums [l / 256 % 256] ++ strOfNums [l % 256] = s ++ four l := by
  rw [show l / 16777216 % 256 = l / 16777216 from Int.emod_eq_of_lt (by omega) (by omega)]
  apply ByteArray.ext
  apply Array.ext'
  simp [ByteArray.data_append, strOfNums, four]

set_option maxHeartbeats 2000000 in
theorem endCoder_may (l h : Int) (s : ByteArray) (hb : Between l h) (hz : s.size ≤ 65536) (w : World) :
    Calls Tryd.prog 12 #[.agg #[.int .i64 l, .int .i64 h, .string s]] w fun e w' => e = .returned (.tuple #[.string (s ++ four l), .int .i64 0]) ∧ Bel w w' := by
  have q1 := coderMay_ok l h s (by unfold maxLen; omega)
  rw [show mayB l h s = true from decide_eq_true ⟨hb, hz⟩] at q1
  have QM : Hid (∀ w, Calls Tryd.prog 24 #[.agg #[.int .i64 l, .int .i64 h, .string s]] w fun e w' => e = .returned (.bool true) ∧ Bel w w') := q1
  obtain ⟨b0, b1, b2⟩ := hb
  have l0 : 0 ≤ l := b0
  have l1 : l ≤ 4294967295 := by omega
  clear q1 b0 b1 b2
  have q24 := low_ok (l / 16777216) (by omega) (by omega)
  have q16 := low_ok (l / 65536) (by omega) (by omega)
  have q8 := low_ok (l / 256) (by omega) (by omega)
  have q0 := low_ok l l0 l1
  have z24 : (strOfNums [l / 16777216 % 256]).size = 1 := strOfNums_size _
  have z16 : (strOfNums [l / 65536 % 256]).size = 1 := strOfNums_size _
  have z8 : (strOfNums [l / 256 % 256]).size = 1 := strOfNums_size _
  have z0 : (strOfNums [l % 256]).size = 1 := strOfNums_size _
  have hp := four_parts s l l0 l1
  generalize strOfNums [l / 16777216 % 256] = t24 at *
  generalize strOfNums [l / 65536 % 256] = t16 at *
  generalize strOfNums [l / 256 % 256] = t8 at *
  generalize strOfNums [l % 256] = t0 at *
  rw [← hp]
  clear hp
  have Q24 : Hid (∀ w, Calls Tryd.prog 25 #[.int .i64 (l / 16777216), .int .i64 1] w fun e w' => e = .returned (.string t24) ∧ Bel w w') := q24
  have Q16 : Hid (∀ w, Calls Tryd.prog 25 #[.int .i64 (l / 65536), .int .i64 1] w fun e w' => e = .returned (.string t16) ∧ Bel w w') := q16
  have Q8 : Hid (∀ w, Calls Tryd.prog 25 #[.int .i64 (l / 256), .int .i64 1] w fun e w' => e = .returned (.string t8) ∧ Bel w w') := q8
  have Q0 : Hid (∀ w, Calls Tryd.prog 25 #[.int .i64 l, .int .i64 1] w fun e w' => e = .returned (.string t0) ∧ Bel w w') := q0
  clear q24 q16 q8 q0
  have n1 : ¬ 9223372036854775807 < s.size + 1 := by omega
  have n2 : ¬ 9223372036854775807 < s.size + 1 + 1 := by omega
  have n3 : ¬ 9223372036854775807 < s.size + 1 + 1 + 1 := by omega
  have n4 : ¬ 9223372036854775807 < s.size + 1 + 1 + 1 + 1 := by omega
  go_enter Tryd.func12, Tryd.ntmps12
  go_wp2_with fail
  refine (QM.out _).mono ?_
  rintro e w1 ⟨rfl, b1⟩
  have k0 : ∀ d os, (Go.Sort.grow (redrawn w1 d) os).cell? ⟨w.heap.size, 0, none⟩ = some (.int .i64 l) := cell_regrown (b1.keep (by simp))
  have k2 : ∀ d os, (Go.Sort.grow (redrawn w1 d) os).cell? ⟨w.heap.size, 2, none⟩ = some (.string s) := cell_regrown (b1.keep (by simp))
  have HB : Hid (Bel w w1) := Bel.trans ((Bel.refl _).alloc _) b1
  clear b1
  go_wp2_with fail
  refine wp_region_quiet_below (by kernel_rfl) (by kernel_rfl) ?_
  repeat (quiet_step (first | (go_at_call 25; with_reducible exact Calls.regrown_of (Q24.out _)) | (go_at_call 25; with_reducible exact Calls.regrown_of (Q16.out _)) | (go_at_call 25; with_reducible exact Calls.regrown_of (Q8.out _)) | (go_at_call 25; with_reducible exact Calls.regrown_of (Q0.out _))))
  refine wpQuiet_nil ?_
  intro _ hw'
  obtain ⟨⟨dq, osq⟩, hw''⟩ := hw'
  subst hw''
  go_wp2
  go_ret2
  exact ⟨rfl, HB.out.trans (below_regrown w1 dq osq)⟩

set_option maxHeartbeats 1000000 in
theorem endCoder_no (l h : Int) (s : ByteArray) (hs : s.size ≤ maxLen) (hm : mayB l h s = false) (w : World) :
    Calls Tryd.prog 12 #[.agg #[.int .i64 l, .int .i64 h, .string s]] w fun e w' => e = .returned (.tuple #[.string ⟨#[]⟩, .int .i64 400]) ∧ Bel w w' := by
  have q1 := coderMay_ok l h s hs
  rw [hm] at q1
  have QM : Hid (∀ w, Calls Tryd.prog 24 #[.agg #[.int .i64 l, .int .i64 h, .string s]] w fun e w' => e = .returned (.bool false) ∧ Bel w w') := q1
  clear q1 hm
  go_enter Tryd.func12, Tryd.ntmps12
  go_wp2_with fail
  refine (QM.out _).mono ?_
  rintro e w1 ⟨rfl, b1⟩
  have HB : Hid (Bel w w1) := Bel.trans ((Bel.refl _).alloc _) b1
  clear b1
  go_wp2
  go_ret2
  exact ⟨rfl, HB.out⟩

theorem endCoder_ok (l h : Int) (s : ByteArray) (hs : s.size ≤ maxLen) (w : World) :
    Calls Tryd.prog 12 #[.agg #[.int .i64 l, .int .i64 h, .string s]] w fun e w' => e = .returned (endAns l h s) ∧ Bel w w' := by
  cases hm : mayB l h s with
  | false => rw [endAns, if_neg (by rw [hm]; simp)]; exact endCoder_no l h s hs hm w
  | true =>
    rw [endAns, if_pos hm]
    have m := of_decide_eq_true hm
    exact endCoder_may l h s m.1 m.2 w

end Go.Proofs.YtocnlefpbcnlmaaDoor.Coder
