/-
  The contract of mix.Train. Condition: the package's table is laid as its text lays it.
-/
import Derived.Test.YtnldnkcfeclmpaaDoorMDot
import Derived.Deep.RegionWith
import Derived.Deep.CutRange
namespace Go.Proofs.YtnldnkcfeclmpaaDoor.Mix
open Go.RowKit Go.Proofs.YtnldnkcfeclmpaaDoor.Num Go.Proofs.YtnldnkcfeclmpaaDoor.Str
set_option linter.unusedVariables false

/-- The weights, the inputs and the result, as Train holds them, three ints each from block B on. -/
structure Six (w : World) (B : Nat) (a b c x y z : Int) : Prop where
  c0 : w.cell? ⟨B, 0, none⟩ = some (.int .i64 a)
  c1 : w.cell? ⟨B, 1, none⟩ = some (.int .i64 b)
  c2 : w.cell? ⟨B, 2, none⟩ = some (.int .i64 c)
  d0 : w.cell? ⟨B + 1, 0, none⟩ = some (.int .i64 x)
  d1 : w.cell? ⟨B + 1, 1, none⟩ = some (.int .i64 y)
  d2 : w.cell? ⟨B + 1, 2, none⟩ = some (.int .i64 z)
  e0 : w.cell? ⟨B + 2, 0, none⟩ = some (.int .i64 0)
  e1 : w.cell? ⟨B + 2, 1, none⟩ = some (.int .i64 0)
  e2 : w.cell? ⟨B + 2, 2, none⟩ = some (.int .i64 0)
  f0 : w.frozen? ⟨B, 0, none⟩ = false
  f1 : w.frozen? ⟨B, 1, none⟩ = false
  f2 : w.frozen? ⟨B, 2, none⟩ = false
  g0 : w.frozen? ⟨B + 2, 0, none⟩ = false
  g1 : w.frozen? ⟨B + 2, 1, none⟩ = false
  g2 : w.frozen? ⟨B + 2, 2, none⟩ = false

theorem Six.drew {w : World} {B : Nat} {a b c x y z : Int} (h : Six w B a b c x y z) : Six w.drew B a b c x y z :=
  ⟨h.c0, h.c1, h.c2, h.d0, h.d1, h.d2, h.e0, h.e1, h.e2, h.f0, h.f1, h.f2, h.g0, h.g1, h.g2⟩

theorem other {w : World} {p q : Addr} {v : Value} {u : Value} (hne : p ≠ q) (h : w.cell? q = some u) : (w.setCell p v).cell? q = some u := by
  rw [World.cell?_setCell_other (h := hne)]; exact h

theorem ne_off (B i j : Nat) (h : i ≠ j) : (⟨B, i, none⟩ : Addr) ≠ ⟨B, j, none⟩ := by
  intro k; injection k with _ k2 _; exact h k2
theorem ne_blk (B C i j : Nat) (h : B ≠ C) : (⟨B, i, none⟩ : Addr) ≠ ⟨C, j, none⟩ := by
  intro k; injection k with k1 _ _; exact h k1

theorem Six.set0 {w : World} {B : Nat} {a b c x y z : Int} (h : Six w B a b c x y z) (v : Int) : Six (w.setCell ⟨B, 0, none⟩ (.int .i64 v)) B v b c x y z :=
  ⟨World.cell?_setCell_same _ _ (h := h.c0) _, other (ne_off B 0 1 (by decide)) h.c1, other (ne_off B 0 2 (by decide)) h.c2,
   other (ne_blk _ _ _ _ (by omega)) h.d0, other (ne_blk _ _ _ _ (by omega)) h.d1, other (ne_blk _ _ _ _ (by omega)) h.d2,
   other (ne_blk _ _ _ _ (by omega)) h.e0, other (ne_blk _ _ _ _ (by omega)) h.e1, other (ne_blk _ _ _ _ (by omega)) h.e2,
   by simp [h.f0], by simp [h.f1], by simp [h.f2], by simp [h.g0], by simp [h.g1], by simp [h.g2]⟩
theorem Six.set1 {w : World} {B : Nat} {a b c x y z : Int} (h : Six w B a b c x y z) (v : Int) : Six (w.setCell ⟨B, 1, none⟩ (.int .i64 v)) B a v c x y z :=
  ⟨other (ne_off B 1 0 (by decide)) h.c0, World.cell?_setCell_same _ _ (h := h.c1) _, other (ne_off B 1 2 (by decide)) h.c2,
   other (ne_blk _ _ _ _ (by omega)) h.d0, other (ne_blk _ _ _ _ (by omega)) h.d1, other (ne_blk _ _ _ _ (by omega)) h.d2,
   other (ne_blk _ _ _ _ (by omega)) h.e0, other (ne_blk _ _ _ _ (by omega)) h.e1, other (ne_blk _ _ _ _ (by omega)) h.e2,
   by simp [h.f0], by simp [h.f1], by simp [h.f2], by simp [h.g0], by simp [h.g1], by simp [h.g2]⟩
theorem Six.set2 {w : World} {B : Nat} {a b c x y z : Int} (h : Six w B a b c x y z) (v : Int) : Six (w.setCell ⟨B, 2, none⟩ (.int .i64 v)) B a b v x y z :=
  ⟨other (ne_off B 2 0 (by decide)) h.c0, other (ne_off B 2 1 (by decide)) h.c1, World.cell?_setCell_same _ _ (h := h.c2) _,
   other (ne_blk _ _ _ _ (by omega)) h.d0, other (ne_blk _ _ _ _ (by omega)) h.d1, other (ne_blk _ _ _ _ (by omega)) h.d2,
   other (ne_blk _ _ _ _ (by omega)) h.e0, other (ne_blk _ _ _ _ (by omega)) h.e1, other (ne_blk _ _ _ _ (by omega)) h.e2,
   by simp [h.f0], by simp [h.f1], by simp [h.f2], by simp [h.g0], by simp [h.g1], by simp [h.g2]⟩

theorem set3 {w : World} {b : Nat} {x y z u v t : Value} (d0 : w.cell? ⟨b, 0, none⟩ = some u) (d1 : w.cell? ⟨b, 1, none⟩ = some v) (d2 : w.cell? ⟨b, 2, none⟩ = some t) :
    (((w.setCell ⟨b, 0, none⟩ x).setCell ⟨b, 1, none⟩ y).setCell ⟨b, 2, none⟩ z).cell? ⟨b, 0, none⟩ = some x ∧ (((w.setCell ⟨b, 0, none⟩ x).setCell ⟨b, 1, none⟩ y).setCell ⟨b, 2, none⟩ z).cell? ⟨b, 1, none⟩ = some y ∧ (((w.setCell ⟨b, 0, none⟩ x).setCell ⟨b, 1, none⟩ y).setCell ⟨b, 2, none⟩ z).cell? ⟨b, 2, none⟩ = some z :=
  have k0 := World.cell?_setCell_same _ _ (h := d0) x
  have k1 : (w.setCell ⟨b, 0, none⟩ x).cell? ⟨b, 1, none⟩ = some v := other (ne_off b 0 1 (by decide)) d1
  have k2 : ((w.setCell ⟨b, 0, none⟩ x).setCell ⟨b, 1, none⟩ y).cell? ⟨b, 2, none⟩ = some t := other (ne_off b 1 2 (by decide)) (other (ne_off b 0 2 (by decide)) d2)
  ⟨other (ne_off b 2 0 (by decide)) (other (ne_off b 1 0 (by decide)) k0), other (ne_off b 2 1 (by decide)) (World.cell?_setCell_same _ _ (h := k1) y), World.cell?_setCell_same _ _ (h := k2) z⟩

theorem results_arr2 {fn : Func} {t u : Tmp} (hf : fn.results = #[.cell t 24, .tmp u]) {tmps : Array Value} {b : Nat} {w : World} {x y z v : Value} (ht : tmps[t]?.getD undef = .pointer (some ⟨b, 0, none⟩)) (hv : tmps[u]?.getD undef = v)
    (c0 : w.cell? ⟨b, 0, none⟩ = some x) (c1 : w.cell? ⟨b, 1, none⟩ = some y) (c2 : w.cell? ⟨b, 2, none⟩ = some z) : (results fn tmps).run Tryd.prog w = .ok (.tuple #[.agg #[x, y, z], v]) w := by
  simp [results, hf, ht, hv, go_sem, c0, c1, c2]

/-- Cells that were there are not frozen, if they were not. -/
theorem free {w w' : World} (h : Onto w w') {p : Addr} {v : Value} (c : w.cell? p = some v) (f : w.frozen? p = false) : w'.frozen? p = false := by
  rw [h.b.frozen (block_lt_of_cell c)]; exact f

/-- Three ints in a new block: they lie there, and may be written. -/
theorem laid3 (w : World) (x y z : Value) (t : TypeId) (B : Nat) (hB : B = w.heap.size) :
    (w.alloc (.cells #[x, y, z] t)).cell? ⟨B, 0, none⟩ = some x ∧ (w.alloc (.cells #[x, y, z] t)).cell? ⟨B, 1, none⟩ = some y ∧ (w.alloc (.cells #[x, y, z] t)).cell? ⟨B, 2, none⟩ = some z ∧
    (w.alloc (.cells #[x, y, z] t)).frozen? ⟨B, 0, none⟩ = false ∧ (w.alloc (.cells #[x, y, z] t)).frozen? ⟨B, 1, none⟩ = false ∧ (w.alloc (.cells #[x, y, z] t)).frozen? ⟨B, 2, none⟩ = false := by
  subst hB
  simp

theorem size_alloc (w : World) (o : Obj) : (w.alloc o).heap.size = w.heap.size + 1 := by simp

theorem six_start {w w1 : World} (a b c x y z : Int) (o : Onto (((w.alloc (.cells #[.int .i64 a, .int .i64 b, .int .i64 c] 24)).alloc (.cells #[.int .i64 x, .int .i64 y, .int .i64 z] 24)).alloc (.cells #[.int .i64 0, .int .i64 0, .int .i64 0] 24)) w1) : Six w1 w.heap.size a b c x y z := by
  obtain ⟨c0, c1, c2, f0, f1, f2⟩ := laid3 w (.int .i64 a) (.int .i64 b) (.int .i64 c) 24 _ rfl
  obtain ⟨d0, d1, d2, _, _, _⟩ := laid3 (w.alloc (.cells #[.int .i64 a, .int .i64 b, .int .i64 c] 24)) (.int .i64 x) (.int .i64 y) (.int .i64 z) 24 (w.heap.size + 1) (by rw [size_alloc])
  obtain ⟨e0, e1, e2, g0, g1, g2⟩ := laid3 ((w.alloc (.cells #[.int .i64 a, .int .i64 b, .int .i64 c] 24)).alloc (.cells #[.int .i64 x, .int .i64 y, .int .i64 z] 24)) (.int .i64 0) (.int .i64 0) (.int .i64 0) 24 (w.heap.size + 2) (by rw [size_alloc, size_alloc])
  have o2 := (((Onto.refl ((w.alloc (.cells #[.int .i64 a, .int .i64 b, .int .i64 c] 24)).alloc (.cells #[.int .i64 x, .int .i64 y, .int .i64 z] 24))).alloc _ _)).trans o
  have o1 := (((Onto.refl (w.alloc (.cells #[.int .i64 a, .int .i64 b, .int .i64 c] 24))).alloc _ _)).trans o2
  exact ⟨o1.cell_some c0, o1.cell_some c1, o1.cell_some c2, o2.cell_some d0, o2.cell_some d1, o2.cell_some d2, o.cell_some e0, o.cell_some e1, o.cell_some e2, free o1 c0 f0, free o1 c1 f1, free o1 c2 f2, free o e0 g0, free o e1 g1, free o e2 g2⟩

set_option maxHeartbeats 1000000 in
theorem train_no (a b c x y z bit : Int) (hm : ¬ May a b c x y z) (w : World) :
    Calls Tryd.prog 26 #[.agg #[.int .i64 a, .int .i64 b, .int .i64 c], .agg #[.int .i64 x, .int .i64 y, .int .i64 z], .int .i64 bit] w fun e w' => e = .returned (.tuple #[.agg #[.int .i64 0, .int .i64 0, .int .i64 0], .int .i64 800]) ∧ Onto w w' := by
  have M : Hid (¬ May a b c x y z) := hm
  clear hm
  go_enter Tryd.func26, Tryd.ntmps26
  go_wp2_with fail
  refine (dot_no a b c x y z M.out _).mono ?_
  rintro e w1 ⟨rfl, o⟩
  have O1 : Hid (Onto w w1) := ((((Onto.refl w).alloc _ _).alloc _ _).alloc _ _).trans o
  obtain ⟨c0, c1, c2, d0, d1, d2, e0, e1, e2, f0, f1, f2, g0, g1, g2⟩ := six_start a b c x y z o
  clear o
  go_wp2
  obtain ⟨r0, r1, r2⟩ := set3 (x := .int .i64 0) (y := .int .i64 0) (z := .int .i64 0) e0 e1 e2
  refine bodyPost_ret (v := .tuple #[.agg #[.int .i64 0, .int .i64 0, .int .i64 0], .int .i64 800]) (results_arr2 Tryd.results26 rfl rfl r0 r1 r2) rfl ⟨rfl, ?_⟩
  exact ((O1.out.setCell (by simp; omega) _).setCell (by simp; omega) _).setCell (by simp; omega) _

end Go.Proofs.YtnldnkcfeclmpaaDoor.Mix
