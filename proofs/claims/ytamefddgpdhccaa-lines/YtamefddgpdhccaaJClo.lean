/-
  The contracts of the functions that line.Put and line.Get hand to follow: one place of the new row is written. Conditions: the rows are there.
-/
import Derived.Test.YtamefddgpdhccaaGExc
import Derived.Test.YtamefddgpdhccaaJNum
import Derived.Test.YtamefddgpdhccaaHLearn
import Derived.Deep.CutRange
import Derived.RegionTactic
namespace Go.Proofs.Ytamefddgpdhccaa.Ser
open Go.RowKit Go.Proofs.Ytamefddgpdhccaa.Mod
set_option linter.unusedVariables false
set_option linter.unusedSimpArgs false

theorem add_off (x : Addr) (i G : Nat) (h : x.block ≠ G) : x.add i ≠ ⟨G, i, none⟩ := fun e => h (by rw [← add_block x i, e])

set_option maxHeartbeats 1000000 in
theorem pclo_ok (X R G : Nat) (x : Addr) (n cap i : Nat) (hi : i < n) (hn : n ≤ 256) (v g p : Int) (w : World) (cX : w.cell? ⟨X, 0, none⟩ = some (.slice (some x) n cap))
    (cR : w.cell? ⟨R, 0, none⟩ = some (.slice (some ⟨G, 0, none⟩) n n)) (c : w.cell? (x.add i) = some (.int .i64 v)) (hb : x.block ≠ G) (hX : X ≠ G) (hR : R ≠ G)
    (cG : w.cell? ⟨G, i, none⟩ = some (.int .i64 p)) (fG : w.frozen? ⟨G, i, none⟩ = false) :
    Calls Try.prog 20 #[.int .i64 (i : Int), .int .i64 g, .pointer (some ⟨X, 0, none⟩), .pointer (some ⟨R, 0, none⟩)] w fun e w' => e = .returned (.int .i64 v) ∧ w' = (w.setCell ⟨G, i, none⟩ (.int .i64 (wrap64 (v - g)))).drew := by
  have CX : Hid (w.cell? ⟨X, 0, none⟩ = some (.slice (some x) n cap)) := cX
  have C : Hid (w.cell? (x.add i) = some (.int .i64 v)) := c
  have NX : Hid (X ≠ G) := hX
  have NE : Hid (x.add i ≠ ⟨G, i, none⟩) := add_off x i G hb
  have hl : (i : Int) < (n : Int) := by omega
  have h0 : (0 : Int) ≤ (i : Int) := by omega
  go_enter Try.func20, Try.ntmps20
  go_wp2_with fail
  go_cut [] from 7 to 15 (fun wx => wx = (w.setCell ⟨G, i, none⟩ (.int .i64 (wrap64 (v - g)))).drew)
  case first =>
    go_region
    all_goals go_wp2_with fail
    all_goals go_meet
    all_goals rfl
  case rest =>
    have d1 : wc.cell? ⟨X, 0, none⟩ = some (.slice (some x) n cap) := by
      rw [hcut]
      show (w.setCell _ _).cell? _ = _
      rw [World.cell?_setCell_other (h := by intro q; injection q with q1; exact hX q1.symm)]
      exact cX
    have d2 : wc.cell? (x.add i) = some (.int .i64 v) := by
      rw [hcut]
      show (w.setCell _ _).cell? _ = _
      rw [World.cell?_setCell_other (h := fun q => NE.out q.symm)]
      exact c
    have HW : Hid (wc = (w.setCell ⟨G, i, none⟩ (.int .i64 (wrap64 (v - g)))).drew) := hcut
    clear hcut cX cR cG fG c
    go_wp2
    go_ret
    exact ⟨rfl, HW.out⟩

set_option maxHeartbeats 1000000 in
theorem gclo_ok (X R G : Nat) (x : Addr) (n cap i : Nat) (hi : i < n) (hn : n ≤ 256) (v g p : Int) (hv : -16777216 ≤ v ∧ v ≤ 16777216) (hg : -16777216 ≤ g ∧ g ≤ 16777216) (w : World) (cX : w.cell? ⟨X, 0, none⟩ = some (.slice (some x) n cap))
    (cR : w.cell? ⟨R, 0, none⟩ = some (.slice (some ⟨G, 0, none⟩) n n)) (c : w.cell? (x.add i) = some (.int .i64 v)) (hb : x.block ≠ G) (hX : X ≠ G) (hR : R ≠ G)
    (cG : w.cell? ⟨G, i, none⟩ = some (.int .i64 p)) (fG : w.frozen? ⟨G, i, none⟩ = false) :
    Calls Try.prog 25 #[.int .i64 (i : Int), .int .i64 g, .pointer (some ⟨X, 0, none⟩), .pointer (some ⟨R, 0, none⟩)] w fun e w' => e = .returned (.int .i64 (v + g)) ∧ w' = (w.setCell ⟨G, i, none⟩ (.int .i64 (v + g))).drew := by
  have CX : Hid (w.cell? ⟨X, 0, none⟩ = some (.slice (some x) n cap)) := cX
  have C : Hid (w.cell? (x.add i) = some (.int .i64 v)) := c
  have NX : Hid (X ≠ G) := hX
  have NE : Hid (x.add i ≠ ⟨G, i, none⟩) := add_off x i G hb
  have hl : (i : Int) < (n : Int) := by omega
  have h0 : (0 : Int) ≤ (i : Int) := by omega
  go_enter Try.func25, Try.ntmps25
  go_wp2_with fail
  go_cut [] from 7 to 15 (fun wx => wx = (w.setCell ⟨G, i, none⟩ (.int .i64 (v + g))).drew)
  case first =>
    go_region
    all_goals go_wp2_with fail
    all_goals go_meet
    all_goals rfl
  case rest =>
    have d1 : wc.cell? ⟨R, 0, none⟩ = some (.slice (some ⟨G, 0, none⟩) n n) := by
      rw [hcut]
      show (w.setCell _ _).cell? _ = _
      rw [World.cell?_setCell_other (h := by intro q; injection q with q1; exact hR q1.symm)]
      exact cR
    have d2 : wc.cell? ⟨G, i, none⟩ = some (.int .i64 (v + g)) := by
      rw [hcut]
      show (w.setCell _ _).cell? _ = _
      rw [World.cell?_setCell_same (h := cG)]
    have HW : Hid (wc = (w.setCell ⟨G, i, none⟩ (.int .i64 (v + g))).drew) := hcut
    clear hcut cX cR cG fG c
    go_wp2
    go_ret
    exact ⟨rfl, HW.out⟩

end Go.Proofs.Ytamefddgpdhccaa.Ser
