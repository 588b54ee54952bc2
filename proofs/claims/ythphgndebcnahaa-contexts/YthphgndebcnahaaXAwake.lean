/-
  The statements' own check of context (awake): it answers true. No condition.
-/
import Derived.Test.YthphgndebcnahaaXOf
namespace Go.Proofs.Ythphgndebcnahaa.Ctx
open Go.RowKit Go.Proofs.Ythphgndebcnahaa.Mod Go.Proofs.Ythphgndebcnahaa.Ints Go.Proofs.Ythphgndebcnahaa.Num Go.Proofs.Ythphgndebcnahaa.Gam
set_option linter.unusedVariables false

/-- Of what may be asked, its numbers known ahead. -/
theorem of_at (b x y z : Int) (ao : Option Addr) (L : List Int) (n cap : Nat) (hn : n = L.length) (hm : May b L) (h0 : c0 L = x) (h1 : c1 b L = y) (h2 : c2 L = z) (w : World) (hA : Slc w ao L) :
    Calls Try.prog 8 #[.int .i64 b, .slice ao n cap] w fun e w' => e = .returned (.tuple #[.agg #[.int .i64 x, .int .i64 y, .int .i64 z], .int .i64 0]) ∧ Bel w w' := by
  subst h0 h1 h2
  exact of_yes b ao L n cap hn hm w hA

/-- Three cells, one world further. -/
theorem keep3 {w w' : World} (o : Bel w w') {B : Nat} {x y z : Value} (h : w.cell? ⟨B, 0, none⟩ = some x ∧ w.cell? ⟨B, 1, none⟩ = some y ∧ w.cell? ⟨B, 2, none⟩ = some z) :
    w'.cell? ⟨B, 0, none⟩ = some x ∧ w'.cell? ⟨B, 1, none⟩ = some y ∧ w'.cell? ⟨B, 2, none⟩ = some z :=
  ⟨o.keep h.1, o.keep h.2.1, o.keep h.2.2⟩

/-- Three ints in a new block. -/
theorem made3 (w : World) (x y z : Int) : (w.alloc (.cells #[.int .i64 x, .int .i64 y, .int .i64 z] 24)).cell? ⟨w.heap.size, 0, none⟩ = some (.int .i64 x) ∧ (w.alloc (.cells #[.int .i64 x, .int .i64 y, .int .i64 z] 24)).cell? ⟨w.heap.size, 1, none⟩ = some (.int .i64 y) ∧ (w.alloc (.cells #[.int .i64 x, .int .i64 y, .int .i64 z] 24)).cell? ⟨w.heap.size, 2, none⟩ = some (.int .i64 z) := by
  simp

set_option maxRecDepth 20000 in
set_option maxHeartbeats 1000000 in
theorem awake_ok (w : World) : Calls Try.prog 12 #[] w fun e w' => e = .returned (.bool true) ∧ Bel w w' := by
  have E1 := eq_same 2 6 34
  have E2 := eq_in_same 2 6 34
  have E3 := eq_same 34 7 36
  have E4 := eq_in_same 34 7 36
  go_enter Try.func12, Try.ntmps12
  go_wp2_with fail
  refine (of_at 3 2 6 34 _ [1, 1] 2 2 rfl ⟨by decide, by decide, by decide, by unfold Bits01; decide⟩ (by decide) (by decide) (by decide) _ ?_).mono ?_
  · exact slc_2 (by go_simp) (by go_simp)
  rintro e w1 ⟨rfl, b1⟩
  have B1 : Hid (Bel w w1) := ((Bel.refl w).alloc _).trans b1
  clear b1
  go_wp2_with fail
  refine (of_at 3 34 7 36 _ [1, 1, 0, 1] 4 4 rfl ⟨by decide, by decide, by decide, by unfold Bits01; decide⟩ (by decide) (by decide) (by decide) _ ?_).mono ?_
  · exact slc_4 (by go_simp) (by go_simp) (by go_simp) (by go_simp)
  rintro e w2 ⟨rfl, b2⟩
  have a2 : w2.cell? ⟨w1.heap.size, 0, none⟩ = some (.int .i64 2) ∧ w2.cell? ⟨w1.heap.size, 1, none⟩ = some (.int .i64 6) ∧ w2.cell? ⟨w1.heap.size, 2, none⟩ = some (.int .i64 34) := keep3 b2 ⟨by simp, by simp, by simp⟩
  have B2 : Hid (Bel w w2) := ((B1.out.alloc _).alloc _).trans b2
  have H2 : Hid (w2.cell? ⟨w1.heap.size, 0, none⟩ = some (.int .i64 2) ∧ w2.cell? ⟨w1.heap.size, 1, none⟩ = some (.int .i64 6) ∧ w2.cell? ⟨w1.heap.size, 2, none⟩ = some (.int .i64 34)) := a2
  generalize w1.heap.size = p1 at *
  clear b2 a2 B1
  go_wp2_with fail
  refine (of_no 64 none [] 0 0 rfl (Nat.zero_le _) (fun h => absurd h.2.1 (by decide)) _ (slc_nil _ _)).mono ?_
  rintro e w3 ⟨rfl, b3⟩
  have a3 : w3.cell? ⟨w2.heap.size, 0, none⟩ = some (.int .i64 34) ∧ w3.cell? ⟨w2.heap.size, 1, none⟩ = some (.int .i64 7) ∧ w3.cell? ⟨w2.heap.size, 2, none⟩ = some (.int .i64 36) := keep3 b3 ⟨by simp, by simp, by simp⟩
  have B3 : Hid (Bel w w3) := (B2.out.alloc _).trans b3
  have H3 : Hid (w3.cell? ⟨w2.heap.size, 0, none⟩ = some (.int .i64 34) ∧ w3.cell? ⟨w2.heap.size, 1, none⟩ = some (.int .i64 7) ∧ w3.cell? ⟨w2.heap.size, 2, none⟩ = some (.int .i64 36)) := a3
  have H2' : Hid (w3.cell? ⟨p1, 0, none⟩ = some (.int .i64 2) ∧ w3.cell? ⟨p1, 1, none⟩ = some (.int .i64 6) ∧ w3.cell? ⟨p1, 2, none⟩ = some (.int .i64 34)) := keep3 (((Bel.refl w2).alloc _).trans b3) H2.out
  generalize w2.heap.size = p2 at *
  clear b3 a3 B2 H2
  go_wp2_with fail
  refine (of_no 0 _ [2] 1 1 rfl (by decide) (fun h => absurd (h.2.2.2 0 (by decide)) (by decide)) _ ?_).mono ?_
  · exact slc_1 (by go_simp)
  rintro e w4 ⟨rfl, b4⟩
  have bb := ((((Bel.refl w3).alloc _).alloc _).trans b4)
  obtain ⟨x0, x1, x2⟩ := keep3 (bb.alloc (.cells #[.int .i64 0, .int .i64 0, .int .i64 0] 24)) H2'.out
  obtain ⟨y0, y1, y2⟩ := keep3 (bb.alloc (.cells #[.int .i64 0, .int .i64 0, .int .i64 0] 24)) H3.out
  have B4 : Hid (Bel w w4) := B3.out.trans bb
  clear bb b4 B3 H2' H3
  go_wp2_with (go_at_call 10; refine (num_ok _ _).mono ?_; rintro e w5 ⟨rfl, hw⟩; replace hw := hw.symm; subst hw)
  go_ret
  exact ⟨rfl, B4.out.alloc _⟩

end Go.Proofs.Ythphgndebcnahaa.Ctx
