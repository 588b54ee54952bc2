/-
  Dot's and Train's contracts in the forms that the walks take; two arrays held against each other; facts on the way that weights go. Condition: the package's table is laid as its text lays it.
  Words shared by the texts of layer 9: two arrays in new blocks behind a call. No condition.
  Rows of ints in memory, however long: what a block holds, a cell that is stored, what stays behind a call; slices of them. No condition.
  Rows of ints in memory: a cell that is stored, a part that is stored, what stays behind a call; whether any of a row is such a one; plain facts on rows. No condition.
  What stays behind a call: the package's table. No condition.
  Ints as a value: parts of it that are filled, two of them that are held against each other. No condition.
-/
import Derived.Test.YtocnlefpbcnlmaaDoorPk3
import Derived.ChangeKeysEq
import Derived.WalkKit
import Derived.Below
import Derived.Deep.Draws
import Derived.Lib.QuietBelow
import Derived.WalkLawsBesides
import Derived.WalkSpells
import Derived.Deep.LoopGhost
import Derived.Laws.AppendOwnNone
import Derived.Deep.MidRow
import Derived.Deep.WholeRow
import Derived.Test.YtocnlefpbcnlmaaDoorRows

namespace Go.Proofs.YtocnlefpbcnlmaaDoor.Mix
open Go.RowKit Go.Proofs.YtocnlefpbcnlmaaDoor.Num Go.Proofs.YtocnlefpbcnlmaaDoor.Str
set_option linter.unusedVariables false
set_option linter.unusedSimpArgs false

theorem dot_may (a b c x y z p : Int) (hm : May a b c x y z) (hp : dot a b c x y z = p) (w : World) (T : Tab w) :
    Calls Tryd.prog 48 #[.agg #[.int .i64 a, .int .i64 b, .int .i64 c], .agg #[.int .i64 x, .int .i64 y, .int .i64 z]] w fun e w' => e = .returned (.tuple #[.int .i64 p, .int .i64 0]) ∧ Onto w w' :=
  hp ▸ dot_yes a b c x y z hm w T

theorem train_may (a b c x y z bit p A B C : Int) (hm : May a b c x y z) (hb : bit = 0 ∨ bit = 1) (hp : dot a b c x y z = p)
    (hA : trn a x (4096 * bit - p) = A) (hB : trn b y (4096 * bit - p) = B) (hC : trn c z (4096 * bit - p) = C) (w : World) (T : Tab w) :
    Calls Tryd.prog 52 #[.agg #[.int .i64 a, .int .i64 b, .int .i64 c], .agg #[.int .i64 x, .int .i64 y, .int .i64 z], .int .i64 bit] w fun e w' => e = .returned (.tuple #[.agg #[.int .i64 A, .int .i64 B, .int .i64 C], .int .i64 0]) ∧ Onto w w' := by
  subst hp hA hB hC
  exact train_yes a b c x y z bit hm hb w T

theorem eq_in (a b c a' b' c' : Int) (w : World) : (Op.equalIn 10000 44 (.agg #[.int .i64 a, .int .i64 b, .int .i64 c]) (.agg #[.int .i64 a', .int .i64 b', .int .i64 c'])).run Tryd.prog w = .ok (a == a' && (b == b' && c == c')) w := by
  rw [run_equalIn_array (i := Tryd.prog.types[3]!) w 9999 _ _ Tryd.underlying44 (by kernel_rfl)]
  have hc : Tryd.prog.cellsOf 3 = 1 := by kernel_rfl
  rw [hc]
  show (Op.eqItems (9998 + 1) 3 1 _ _ [0, 1, 2]).run Tryd.prog w = _
  have hk : Tryd.prog.plainKey 3 = true := by kernel_rfl
  have q : ∀ (x y : Int), (Op.equalIn (9998 + 1) 3 (.int .i64 x) (.int .i64 y)).run Tryd.prog w = .ok (x == y) w := fun x y => run_equalIn_int w 9998 3 .i64 .i64 x y Tryd.underlying3
  have p0 : ∀ (x y z : Int), (part 3 #[.int .i64 x, .int .i64 y, .int .i64 z] (0 * 1)).run Tryd.prog w = .ok (.int .i64 x) w := fun x y z => run_part_plain w hk rfl
  have p1 : ∀ (x y z : Int), (part 3 #[.int .i64 x, .int .i64 y, .int .i64 z] (1 * 1)).run Tryd.prog w = .ok (.int .i64 y) w := fun x y z => run_part_plain w hk rfl
  have p2 : ∀ (x y z : Int), (part 3 #[.int .i64 x, .int .i64 y, .int .i64 z] (2 * 1)).run Tryd.prog w = .ok (.int .i64 z) w := fun x y z => run_part_plain w hk rfl
  cases ha : a == a' <;> cases hb : b == b' <;> cases hcc : c == c' <;> simp only [Op.eqItems, Sem.run_bind, p0, p1, p2, q, ha, hb, hcc, Result.andThen_ok, Bool.not_true, Bool.not_false, Bool.false_eq_true, if_true, if_false, Sem.run_pure, Bool.true_and, Bool.false_and, Bool.and_false, Bool.and_true]

theorem eq_arr (a b c a' b' c' : Int) (w : World) : (binOp .eql 44 (.agg #[.int .i64 a, .int .i64 b, .int .i64 c]) (.agg #[.int .i64 a', .int .i64 b', .int .i64 c'])).run Tryd.prog w = .ok (.bool (a == a' && (b == b' && c == c'))) w := by
  rw [run_eql_struct, eq_in]; rfl

theorem eq_same (a b c : Int) (w : World) : (binOp .eql 44 (.agg #[.int .i64 a, .int .i64 b, .int .i64 c]) (.agg #[.int .i64 a, .int .i64 b, .int .i64 c])).run Tryd.prog w = .ok (.bool true) w := by
  rw [eq_arr]; simp

theorem eq_in_same (a b c : Int) (w : World) : (Op.equalIn 10000 44 (.agg #[.int .i64 a, .int .i64 b, .int .i64 c]) (.agg #[.int .i64 a, .int .i64 b, .int .i64 c])).run Tryd.prog w = .ok true w := by
  rw [eq_in]; simp

/-- A weight that may be stays where it is held. -/
theorem hold_may (a : Int) (h0 : -1048576 ≤ a) (h1 : a ≤ 1048576) : hold a = a := by
  unfold hold
  split
  · omega
  · split <;> omega

theorem hold_ge (a s : Int) (h1 : a ≤ 1048576) (hs : 0 ≤ s) : a ≤ hold (a + s) := by
  unfold hold
  split
  · omega
  · split <;> omega

theorem hold_le (a s : Int) (h0 : -1048576 ≤ a) (hs : s ≤ 0) : hold (a + s) ≤ a := by
  unfold hold
  split
  · omega
  · split <;> omega

theorem stp_ge (x o : Int) (h : 0 ≤ x * o) : 0 ≤ stp x o := by unfold stp; omega
theorem stp_le (x o : Int) (h : x * o ≤ 0) : stp x o ≤ 0 := by unfold stp; omega

/-- Where the chance was too low, a weight goes its input's way. -/
theorem trn_up (a x o : Int) (h0 : -1048576 ≤ a) (h1 : a ≤ 1048576) (ho : 0 ≤ o) : (0 ≤ x → a ≤ trn a x o) ∧ (x ≤ 0 → trn a x o ≤ a) :=
  ⟨fun hx => hold_ge a _ h1 (stp_ge x o (Int.mul_nonneg hx ho)), fun hx => hold_le a _ h0 (stp_le x o (Int.mul_nonpos_of_nonpos_of_nonneg hx ho))⟩

/-- Where the chance was too high, it goes the other way. -/
theorem trn_down (a x o : Int) (h0 : -1048576 ≤ a) (h1 : a ≤ 1048576) (ho : o ≤ 0) : (0 ≤ x → trn a x o ≤ a) ∧ (x ≤ 0 → a ≤ trn a x o) :=
  ⟨fun hx => hold_le a _ h0 (stp_le x o (Int.mul_nonpos_of_nonneg_of_nonpos hx ho)), fun hx => hold_ge a _ h1 (stp_ge x o (Int.mul_nonneg_of_nonpos_of_nonpos hx ho))⟩

theorem way_up (a x o : Int) (h0 : -1048576 ≤ a) (h1 : a ≤ 1048576) (ho : 0 ≤ o) : a * x ≤ trn a x o * x := by
  obtain ⟨u, v⟩ := trn_up a x o h0 h1 ho
  by_cases hx : 0 ≤ x
  · exact Int.mul_le_mul_of_nonneg_right (u hx) hx
  · exact Int.mul_le_mul_of_nonpos_right (v (by omega)) (by omega)

theorem way_down (a x o : Int) (h0 : -1048576 ≤ a) (h1 : a ≤ 1048576) (ho : o ≤ 0) : trn a x o * x ≤ a * x := by
  obtain ⟨u, v⟩ := trn_down a x o h0 h1 ho
  by_cases hx : 0 ≤ x
  · exact Int.mul_le_mul_of_nonneg_right (u hx) hx
  · exact Int.mul_le_mul_of_nonpos_right (v (by omega)) (by omega)

theorem nearer_up (a b c x y z o : Int) (hm : May a b c x y z) (ho : 0 ≤ o) : dot a b c x y z ≤ dot (trn a x o) (trn b y o) (trn c z o) x y z := by
  obtain ⟨⟨a0, a1⟩, ⟨b0, b1⟩, ⟨c0, c1⟩, _⟩ := hm
  have h1 := way_up a x o a0 a1 ho
  have h2 := way_up b y o b0 b1 ho
  have h3 := way_up c z o c0 c1 ho
  exact dot_mono (by unfold sum; omega)

theorem nearer_down (a b c x y z o : Int) (hm : May a b c x y z) (ho : o ≤ 0) : dot (trn a x o) (trn b y o) (trn c z o) x y z ≤ dot a b c x y z := by
  obtain ⟨⟨a0, a1⟩, ⟨b0, b1⟩, ⟨c0, c1⟩, _⟩ := hm
  have h1 := way_down a x o a0 a1 ho
  have h2 := way_down b y o b0 b1 ho
  have h3 := way_down c z o c0 c1 ho
  exact dot_mono (by unfold sum; omega)

/-- Trained weights may be. -/
theorem may_trn (a b c x y z o : Int) (hm : May a b c x y z) : May (trn a x o) (trn b y o) (trn c z o) x y z :=
  ⟨trn_range _ _ _, trn_range _ _ _, trn_range _ _ _, hm.2.2.2⟩

/-- Three in another row. -/
theorem may_row {a b c x y z : Int} (hm : May a b c x y z) : May c a b z x y := by
  obtain ⟨h1, h2, h3, h4, h5, h6⟩ := hm
  exact ⟨h3, h1, h2, h6, h4, h5⟩
theorem may_row_back {a b c x y z : Int} (hm : May c a b z x y) : May a b c x y z := by
  obtain ⟨h3, h1, h2, h6, h4, h5⟩ := hm
  exact ⟨h1, h2, h3, h4, h5, h6⟩
theorem dot_row (a b c x y z : Int) : dot c a b z x y = dot a b c x y z := by
  have e : sum c a b z x y = sum a b c x y z := by unfold sum; omega
  unfold dot
  rw [e]

/-- Cells that stand, one call or one new block further. -/
theorem keep3 {w w' : World} (o : Onto w w') {B : Nat} {x y z : Value} (h : w.cell? ⟨B, 0, none⟩ = some x ∧ w.cell? ⟨B, 1, none⟩ = some y ∧ w.cell? ⟨B, 2, none⟩ = some z) :
    w'.cell? ⟨B, 0, none⟩ = some x ∧ w'.cell? ⟨B, 1, none⟩ = some y ∧ w'.cell? ⟨B, 2, none⟩ = some z :=
  ⟨o.cell_some h.1, o.cell_some h.2.1, o.cell_some h.2.2⟩

theorem made3 (w : World) (x y z : Value) (t : TypeId) :
    (w.alloc (.cells #[x, y, z] t)).cell? ⟨w.heap.size, 0, none⟩ = some x ∧ (w.alloc (.cells #[x, y, z] t)).cell? ⟨w.heap.size, 1, none⟩ = some y ∧ (w.alloc (.cells #[x, y, z] t)).cell? ⟨w.heap.size, 2, none⟩ = some z := by
  obtain ⟨h0, h1, h2, _⟩ := laid3 w x y z t _ rfl
  exact ⟨h0, h1, h2⟩

end Go.Proofs.YtocnlefpbcnlmaaDoor.Mix

namespace Go.Proofs.YtocnlefpbcnlmaaDoor.Mix
open Go.RowKit Go.Proofs.YtocnlefpbcnlmaaDoor.Num Go.Proofs.YtocnlefpbcnlmaaDoor.Str
set_option linter.unusedVariables false

/-- Two arrays in the first two new blocks stand behind a call. -/
theorem box2 {w w' : World} {a b c x y z : Value} {t : TypeId} (o : Onto ((w.alloc (.cells #[a, b, c] t)).alloc (.cells #[x, y, z] t)) w') :
    (w'.cell? ⟨w.heap.size, 0, none⟩ = some a ∧ w'.cell? ⟨w.heap.size, 1, none⟩ = some b ∧ w'.cell? ⟨w.heap.size, 2, none⟩ = some c) ∧
    (w'.cell? ⟨w.heap.size + 1, 0, none⟩ = some x ∧ w'.cell? ⟨w.heap.size + 1, 1, none⟩ = some y ∧ w'.cell? ⟨w.heap.size + 1, 2, none⟩ = some z) := by
  have h := made3 (w.alloc (.cells #[a, b, c] t)) x y z t
  rw [size_alloc] at h
  exact ⟨keep3 (((Onto.refl (w.alloc (.cells #[a, b, c] t))).alloc #[x, y, z] t).trans o) (made3 w a b c t), keep3 o h⟩

end Go.Proofs.YtocnlefpbcnlmaaDoor.Mix

namespace Go.Proofs.YtocnlefpbcnlmaaDoor.Mod
open Go.RowKit
set_option linter.unusedVariables false
set_option linter.unusedSimpArgs false

abbrev Bel (w w' : World) : Prop := Below w.heap.size w w'
theorem Bel.refl (w : World) : Bel w w := Below.refl _ _
theorem Bel.trans {a b c : World} (h : Bel a b) (k : Bel b c) : Bel a c := Below.trans h (k.mono h.size)
theorem Bel.alloc {w w' : World} (h : Bel w w') (o : Obj) : Bel w (w'.alloc o) := Below.alloc h h.size o
theorem Bel.setCell {w w' : World} (h : Bel w w') {a : Addr} (ha : w.heap.size ≤ a.block) (v : Value) : Bel w (w'.setCell a v) := Below.setCell h ha v
theorem Bel.drew {w w' : World} (h : Bel w w') : Bel w w'.drew := Below.drew h
theorem Bel.drewN {w w' : World} (h : Bel w w') (n : Nat) : Bel w (w'.drewN n) := ⟨h.os, h.tape, h.output, h.size, h.block⟩
theorem Bel.keep {w w' : World} (h : Bel w w') {a : Addr} {v : Value} (c : w.cell? a = some v) : w'.cell? a = some v := by rw [h.cell (block_lt_of_cell c)]; exact c
theorem Bel.free {w w' : World} (h : Bel w w') {a : Addr} {v : Value} (c : w.cell? a = some v) (f : w.frozen? a = false) : w'.frozen? a = false := by rw [h.frozen (block_lt_of_cell c)]; exact f
theorem bel_below {B : Nat} {w w' : World} (hB : B ≤ w.heap.size) (h : Bel w w') : Below B w w' := h.mono hB

/-- Ints as cells. -/
def vals (L : List Int) : List Value := L.map (Value.int .i64)
theorem vals_length (L : List Int) : (vals L).length = L.length := by simp [vals]
theorem vals_get (L : List Int) (k : Nat) (h : k < L.length) : (vals L)[k]? = some (.int .i64 (L.getD k 0)) := by
  simp [vals, List.getElem?_eq_getElem h]
theorem vals_append (L M : List Int) : vals (L ++ M) = vals L ++ vals M := by simp [vals]

/-- The block B holds the ints L, from its first cell on, and they may be written. -/
structure Holds (w : World) (B : Nat) (L : List Int) : Prop where
  cell : ∀ k, k < L.length → w.cell? ⟨B, k, none⟩ = some (.int .i64 (L.getD k 0))
  free : ∀ k, k < L.length → w.frozen? ⟨B, k, none⟩ = false

theorem Holds.bel {w w' : World} {B : Nat} {L : List Int} (h : Holds w B L) (b : Bel w w') : Holds w' B L :=
  ⟨fun k hk => b.keep (h.cell k hk), fun k hk => b.free (h.cell k hk) (h.free k hk)⟩
theorem Holds.below {w w' : World} {C B : Nat} {L : List Int} (h : Holds w B L) (b : Below C w w') (hC : B < C) : Holds w' B L :=
  ⟨fun k hk => by rw [b.cell hC]; exact h.cell k hk, fun k hk => by rw [b.frozen hC]; exact h.free k hk⟩
theorem Holds.drew {w : World} {B : Nat} {L : List Int} (h : Holds w B L) : Holds w.drew B L := ⟨h.cell, h.free⟩
theorem Holds.drewN {w : World} {B : Nat} {L : List Int} (h : Holds w B L) (n : Nat) : Holds (w.drewN n) B L := ⟨h.cell, h.free⟩

theorem Holds.set {w : World} {B : Nat} {L : List Int} (h : Holds w B L) (k : Nat) (hk : k < L.length) (x : Int) : Holds (w.setCell ⟨B, k, none⟩ (.int .i64 x)) B (L.set k x) := by
  refine ⟨fun j hj => ?_, fun j hj => ?_⟩
  · have hj' : j < L.length := by simpa using hj
    by_cases e : k = j
    · subst e
      rw [World.cell?_setCell_same (h := h.cell k hk)]
      simp [List.getD_eq_getElem?_getD, hk]
    · rw [World.cell?_setCell_other (h := by intro q; injection q with _ q2 _; exact e q2), h.cell j hj']
      simp [List.getD_eq_getElem?_getD, List.getElem?_set_ne e]
  · rw [World.frozen?_setCell]
    exact h.free j (by simpa using hj)

/-- Another block's cell. -/
theorem Holds.other {w : World} {B : Nat} {L : List Int} (h : Holds w B L) (C k : Nat) (hC : B ≠ C) (v : Value) : Holds (w.setCell ⟨C, k, none⟩ v) B L := by
  refine ⟨fun j hj => ?_, fun j hj => ?_⟩
  · rw [World.cell?_setCell_other (h := by intro q; injection q with q1 _ _; exact hC q1.symm), h.cell j hj]
  · rw [World.frozen?_setCell]; exact h.free j hj

theorem holds_new (w : World) (L : List Int) (t : TypeId) : Holds (w.alloc (.cells (vals L).toArray t)) w.heap.size L := by
  refine ⟨fun k hk => ?_, fun k hk => ?_⟩
  · have := cell_of_row (w.alloc (.cells (vals L).toArray t)) w.heap.size k _ t (0, 0) (heap_alloc_new w _)
    rw [this]
    simpa using vals_get L k hk
  · simp

theorem holds_at {w : World} {B : Nat} (hB : B = w.heap.size) (L : List Int) (t : TypeId) : Holds (w.alloc (.cells (vals L).toArray t)) B L := hB ▸ holds_new w L t

theorem Holds.take {w : World} {B : Nat} {L : List Int} (h : Holds w B L) (n : Nat) : Holds w B (L.take n) := by
  refine ⟨fun k hk => ?_, fun k hk => h.free k (by simp at hk; omega)⟩
  have h1 : k < n := by simp at hk; omega
  rw [h.cell k (by simp at hk; omega)]
  simp [List.getD_eq_getElem?_getD, h1]

/-- A slice at ao holds the ints L: its cells, wherever they lie. -/
def Slc (w : World) (ao : Option Addr) (L : List Int) : Prop := ∀ k, k < L.length → ∃ x, ao = some x ∧ w.cell? (x.add k) = some (.int .i64 (L.getD k 0))

theorem slc_nil (w : World) (ao : Option Addr) : Slc w ao [] := fun k hk => absurd hk (by simp)
theorem Holds.slc {w : World} {B : Nat} {L : List Int} (h : Holds w B L) : Slc w (some ⟨B, 0, none⟩) L := fun k hk => ⟨_, rfl, by rw [Addr.add_lit]; simpa using h.cell k hk⟩
theorem Slc.bel {w w' : World} {ao : Option Addr} {L : List Int} (h : Slc w ao L) (b : Bel w w') : Slc w' ao L := fun k hk => by
  obtain ⟨x, hx, hc⟩ := h k hk
  exact ⟨x, hx, b.keep hc⟩
theorem Slc.drewN {w : World} {ao : Option Addr} {L : List Int} (h : Slc w ao L) (n : Nat) : Slc (w.drewN n) ao L := h
theorem Slc.take {w : World} {ao : Option Addr} {L : List Int} (h : Slc w ao L) (n : Nat) : Slc w ao (L.take n) := fun k hk => by
  have h1 : k < n := by simp at hk; omega
  obtain ⟨x, hx, hc⟩ := h k (by simp at hk; omega)
  exact ⟨x, hx, by rw [hc]; simp [List.getD_eq_getElem?_getD, h1]⟩

/-- What an owned row holds. -/
theorem owns_shape {w : World} {base n : Nat} {v : Value} {L : List Int} (h : w.ownsRow base 3 1 v n (vals L)) (hn : 0 < n) :
    ∃ g cap, v = .slice (some ⟨g, 0, none⟩) n cap ∧ base ≤ g ∧ g < w.heap.size ∧ n ≤ cap ∧ cap ≤ maxLen ∧ n = L.length ∧ Holds w g L := by
  have hL : n = L.length := by have := h.1; rw [vals_length] at this; omega
  rcases h.2 with ⟨_, h0⟩ | ⟨g, cap, cur, rfl, hb, hg, hc, hm, _, _⟩
  · omega
  · refine ⟨g, cap, rfl, hb, (Array.getElem?_eq_some_iff.1 hg).1, hc, hm, hL, ⟨fun k hk => ?_, fun k hk => h.frozenAt k⟩⟩
    rw [h.cellAt k (by omega)]
    exact vals_get L k hk

end Go.Proofs.YtocnlefpbcnlmaaDoor.Mod

namespace Go.Proofs.YtocnlefpbcnlmaaDoor.Mod
open Go.RowKit Go.Sort
set_option linter.unusedVariables false
set_option linter.unusedSimpArgs false

theorem Bel.setCells {w : World} {B : Nat} (hB : w.heap.size ≤ B) : ∀ (vs : List Value) (o : Nat) {w' : World}, Bel w w' → Bel w (w'.setCells B o vs)
  | [], _, _, h => h
  | v :: r, o, _, h => Bel.setCells hB r (o + 1) (h.setCell (a := ⟨B, o, none⟩) hB v)

theorem vals_one (L : List Int) : (vals L).toArray.all (·.oneCell') = true := all_oneCell_toArray (fun v hv => by
  simp only [vals, List.mem_map] at hv
  obtain ⟨x, _, rfl⟩ := hv
  rfl)

theorem Holds.range {w : World} {B : Nat} {L : List Int} (h : Holds w B L) : w.rangeAt B 0 (vals L) := fun j v hv => by
  have hj : j < L.length := by
    have := (List.getElem?_eq_some_iff.1 hv).1
    rwa [vals_length] at this
  rw [vals_get L j hj] at hv
  rw [Nat.zero_add, h.cell j hj, hv]

/-- A part of what the block holds. -/
theorem Holds.part {w : World} {B : Nat} {L : List Int} (h : Holds w B L) (o n : Nat) (hn : o + n ≤ L.length) : w.rangeAt B o (vals ((L.drop o).take n)) := fun j v hv => by
  have hj : j < ((L.drop o).take n).length := by
    have := (List.getElem?_eq_some_iff.1 hv).1
    rwa [vals_length] at this
  rw [vals_get _ j hj] at hv
  have hj2 : j < n := by simp at hj; omega
  rw [h.cell (o + j) (by omega), ← hv]
  congr 2
  simp [List.getD_eq_getElem?_getD, List.getElem?_drop, hj2]

theorem Holds.there {w : World} {B : Nat} {L : List Int} (h : Holds w B L) (o n : Nat) (hn : o + n ≤ L.length) : w.there B o n := fun j hj =>
  ⟨by rw [h.cell (o + j) (by omega)]; rfl, h.free _ (by omega)⟩

theorem Holds.others {B C : Nat} {L : List Int} (hC : B ≠ C) : ∀ (vs : List Value) (o : Nat) {w : World}, Holds w B L → Holds (w.setCells C o vs) B L
  | [], _, _, h => h
  | v :: r, o, _, h => Holds.others hC r (o + 1) (h.other C o hC v)

/-- What a part of a row is turned into. -/
def put (L : List Int) : Nat → List Int → List Int
  | _, [] => L
  | o, x :: r => put (L.set o x) (o + 1) r

theorem put_length : ∀ (M : List Int) (L : List Int) (o : Nat), (put L o M).length = L.length
  | [], _, _ => rfl
  | x :: r, L, o => by rw [put, put_length r]; simp

theorem Holds.put : ∀ (M : List Int) {w : World} {B : Nat} {L : List Int} (h : Holds w B L) (o : Nat) (hn : o + M.length ≤ L.length), Holds (w.setCells B o (vals M)) B (put L o M)
  | [], _, _, _, h, _, _ => h
  | x :: r, _, _, _, h, o, hn => Holds.put r (h.set o (by simp at hn; omega) x) (o + 1) (by simp at hn ⊢; omega)

theorem getD_put_out : ∀ (M : List Int) (L : List Int) (o k : Nat), k < o ∨ o + M.length ≤ k → (put L o M).getD k 0 = L.getD k 0
  | [], _, _, _, _ => rfl
  | x :: r, L, o, k, h => by
    rw [Mod.put, getD_put_out r (L.set o x) (o + 1) k (by simp at h; omega)]
    have : o ≠ k := by simp at h; omega
    simp [List.getD_eq_getElem?_getD, List.getElem?_set_ne this]

theorem getD_put_in : ∀ (M : List Int) (L : List Int) (o j : Nat), o + M.length ≤ L.length → j < M.length → (put L o M).getD (o + j) 0 = M.getD j 0
  | [], _, _, _, _, h => by simp at h
  | x :: r, L, o, 0, hn, _ => by
    have ho : o < L.length := by simp at hn; omega
    rw [Mod.put, getD_put_out r (L.set o x) (o + 1) (o + 0) (by omega)]
    simp [List.getD_eq_getElem?_getD, ho]
  | x :: r, L, o, j + 1, hn, h => by
    rw [Mod.put, show o + (j + 1) = o + 1 + j by omega, getD_put_in r (L.set o x) (o + 1) j (by simp at hn ⊢; omega) (by simpa using h)]
    simp

/-- All of it is turned. -/
theorem put_all (L M : List Int) (h : L.length = M.length) : put L 0 M = M := by
  refine List.ext_getElem (by rw [put_length]; exact h) fun k h1 h2 => ?_
  have e := getD_put_in M L 0 k (by omega) h2
  rw [Nat.zero_add] at e
  rw [List.getD_eq_getElem?_getD, List.getD_eq_getElem?_getD, List.getElem?_eq_getElem h1, List.getElem?_eq_getElem h2] at e
  exact e

/-- In every world of a drawn region's class. -/
theorem Holds.regrown {w : World} {B : Nat} {L : List Int} (h : Holds w B L) (d : Nat) (os : Array Obj) : Holds (grow (redrawn w d) os) B L := h.bel (below_regrown w d os)

theorem tab_set (f g : Nat → Int) (n m : Nat) (x : Int) (h1 : g m = x) (h2 : ∀ i, i ≠ m → g i = f i) : ((List.range n).map f).set m x = (List.range n).map g := by
  refine List.ext_getElem (by simp) fun k a b => ?_
  rw [List.getElem_set]
  by_cases e : m = k
  · subst e; simp [h1]
  · simp [e, h2 k (fun q => e q.symm)]

theorem holds_all {w : World} {B : Nat} {L : List Int} (h : Holds w B L) (M : List Int) (e : L.length = M.length) : Holds (w.setCells B 0 (vals M)) B M := by
  have := Holds.put M h 0 (by omega)
  rwa [put_all L M e] at this

theorem getD_set_ne (L : List Int) (k j : Nat) (x : Int) (h : k ≠ j) : (L.set k x).getD j 0 = L.getD j 0 := by
  simp [List.getD_eq_getElem?_getD, List.getElem?_set_ne h]

theorem getD_set_eq (L : List Int) (k : Nat) (x : Int) (h : k < L.length) : (L.set k x).getD k 0 = x := by
  simp [List.getD_eq_getElem?_getD, h]

/-- Two lists of one length that agree everywhere are one. -/
theorem ext_getD (L M : List Int) (h : L.length = M.length) (g : ∀ k, k < L.length → L.getD k 0 = M.getD k 0) : L = M := by
  refine List.ext_getElem h fun k h1 h2 => ?_
  have e := g k h1
  rw [List.getD_eq_getElem?_getD, List.getD_eq_getElem?_getD, List.getElem?_eq_getElem h1, List.getElem?_eq_getElem h2] at e
  exact e

/-- Is any of n numbers such a one? -/
def anyOf (p : Int → Bool) (f : Nat → Int) (n : Nat) : Bool := (List.range n).any fun j => p (f j)

theorem anyOf_no {p : Int → Bool} {f : Nat → Int} {n : Nat} (h : ∀ i, i < n → p (f i) = false) : anyOf p f n = false := by
  unfold anyOf
  rw [List.any_eq_false]
  intro j hj
  rw [h j (by simpa using hj)]
  decide

theorem anyOf_yes {p : Int → Bool} {f : Nat → Int} {n : Nat} (j : Nat) (hj : j < n) (h : p (f j) = true) : anyOf p f n = true := by
  unfold anyOf
  rw [List.any_eq_true]
  exact ⟨j, by simpa using hj, h⟩

theorem anyOf_false {p : Int → Bool} {f : Nat → Int} {n : Nat} (h : anyOf p f n = false) : ∀ i, i < n → p (f i) = false := fun i hi => by
  cases e : p (f i)
  · rfl
  · rw [anyOf_yes i hi e] at h; exact h

end Go.Proofs.YtocnlefpbcnlmaaDoor.Mod

namespace Go.Proofs.YtocnlefpbcnlmaaDoor.Mod
open Go.RowKit Go.Sort
set_option linter.unusedVariables false
set_option linter.unusedSimpArgs false

theorem bel_of {w w' : World} (h : Onto w w') : Bel w w' := h.b
theorem tab_bel {w w' : World} (T : Str.Tab w) (h : Bel w w') : Str.Tab w' := fun d hd => h.keep (T d hd)

end Go.Proofs.YtocnlefpbcnlmaaDoor.Mod

namespace Go.Proofs.YtocnlefpbcnlmaaDoor.Mod
open Go.RowKit Go.Sort
set_option linter.unusedVariables false
set_option linter.unusedSimpArgs false

/-- Ints as a value. -/
abbrev mdl (L : List Int) : Value := .agg (vals L).toArray

theorem size_vals (L : List Int) : (vals L).toArray.size = L.length := by rw [List.size_toArray, vals_length]

theorem fold_put : ∀ (X L : List Int) (off k : Nat), ((vals X).zipIdx k).foldl (fun (cs : Array Value) (p : Value × Nat) => cs.setIfInBounds (off + p.2) p.1) (vals L).toArray = (vals (put L (off + k) X)).toArray
  | [], _, _, _ => rfl
  | x :: r, L, off, k => by
    have e : (vals L).toArray.setIfInBounds (off + k) (.int .i64 x) = (vals (L.set (off + k) x)).toArray := by simp [vals, List.map_set]
    have := fold_put r (L.set (off + k) x) off (k + 1)
    simp only [vals, List.map_cons, List.zipIdx_cons, List.foldl_cons] at this e ⊢
    rw [e, this]
    rfl

theorem fold_put0 (X L : List Int) (off : Nat) : (vals X).toArray.zipIdx.foldl (fun (cs : Array Value) (x : Value × Nat) => match x with | (c, j) => cs.setIfInBounds (off + j) c) (vals L).toArray = (vals (put L off X)).toArray := by
  have h := fold_put X L off 0
  rw [Nat.add_zero] at h
  rw [← h, ← Array.foldl_toList]
  simp

theorem put_mid : ∀ (M P Q R : List Int), Q.length = M.length → put (P ++ Q ++ R) P.length M = P ++ M ++ R
  | [], P, Q, R, h => by
    have : Q = [] := List.length_eq_zero_iff.1 h
    subst this
    rfl
  | x :: r, P, q :: Q, R, h => by
    have e : (P ++ q :: Q ++ R).set P.length x = (P ++ [x]) ++ Q ++ R := by simp
    rw [put, e]
    have := put_mid r (P ++ [x]) Q R (by simpa using h)
    rw [List.length_append] at this
    simp only [List.length_cons, List.length_nil, Nat.zero_add] at this
    rw [this]
    simp

theorem fill_one {place : Nat → Option (Nat × Nat)} {L X : List Int} {i off size : Nat} {rest : List (Nat × Value)} (hp : place i = some (off, size)) (hs : X.length = size) (ho : off + size ≤ L.length) :
    Instr.fill place (vals L).toArray ((i, mdl X) :: rest) = Instr.fill place (vals (put L off X)).toArray rest := by
  have h1 : ((mdl X).cells.size ≠ size || off + (mdl X).cells.size > (vals L).toArray.size) = false := by
    have e : (mdl X).cells.size = size := (size_vals X).trans hs
    rw [e, size_vals L]
    simp; omega
  rw [Instr.fill, hp]
  show (if ((mdl X).cells.size ≠ size || off + (mdl X).cells.size > (vals L).toArray.size) = true then none else Instr.fill place ((vals X).toArray.zipIdx.foldl _ (vals L).toArray) rest) = _
  rw [h1, if_neg (by decide), fold_put0]

theorem eqItems_all {d n : Nat} {e : TypeId} {xs ys : Array Value} (w : World) (f g : Nat → Value) (r : Nat → Bool) : ∀ (is : List Nat),
    (∀ i ∈ is, (part e xs (i * n)).run Tryd.prog w = .ok (f i) w ∧ (part e ys (i * n)).run Tryd.prog w = .ok (g i) w ∧ (Op.equalIn d e (f i) (g i)).run Tryd.prog w = .ok (r i) w) →
    (Op.eqItems d e n xs ys is).run Tryd.prog w = .ok (is.all r) w
  | [], _ => by simp [Op.eqItems]
  | i :: is, h => by
    obtain ⟨h1, h2, h3⟩ := h i (by simp)
    have ih := eqItems_all w f g r is (fun j hj => h j (by simp [hj]))
    simp only [Op.eqItems, Sem.run_bind, h1, h2, h3, Result.andThen_ok, List.all_cons]
    cases r i
    · simp
    · simpa using ih

theorem part_int (L : List Int) (k : Nat) (hk : k < L.length) (w : World) : (part 3 (vals L).toArray k).run Tryd.prog w = .ok (.int .i64 (L.getD k 0)) w :=
  run_part_plain w (by kernel_rfl) (by simpa using vals_get L k hk)

set_option maxRecDepth 20000 in
/-- A row of ints against another. -/
theorem eq_row (t : TypeId) (n d : Nat) (hu : Tryd.prog.underlying t = some (.array n 3)) (L M : List Int) (hL : L.length = n) (hM : M.length = n) (w : World) :
    (Op.equalIn (d + 2) t (mdl L) (mdl M)).run Tryd.prog w = .ok (decide (L = M)) w := by
  rw [run_equalIn_array (i := Tryd.prog.types[3]!) w (d + 1) _ _ hu (by kernel_rfl)]
  have hc : Tryd.prog.cellsOf 3 = 1 := by kernel_rfl
  rw [hc]
  rw [eqItems_all w (fun i => .int .i64 (L.getD i 0)) (fun i => .int .i64 (M.getD i 0)) (fun i => L.getD i 0 == M.getD i 0)]
  · congr 1
    by_cases e : L = M
    · subst e; simp
    · rw [decide_eq_false e]
      rw [List.all_eq_false]
      refine Classical.byContradiction fun hn => e ?_
      refine List.ext_getElem (by omega) fun k h1 h2 => ?_
      have hk : k ∈ List.range n := by simp; omega
      have h3 : (L.getD k 0 == M.getD k 0) = true := Classical.byContradiction fun q => hn ⟨k, hk, q⟩
      have h4 := eq_of_beq h3
      rw [List.getD_eq_getElem?_getD, List.getD_eq_getElem?_getD, List.getElem?_eq_getElem h1, List.getElem?_eq_getElem h2] at h4
      exact h4
  · intro i hi
    have hi' : i < n := by simpa using hi
    rw [Nat.mul_one]
    exact ⟨part_int L i (by omega) w, part_int M i (by omega) w, run_equalIn_int w d 3 .i64 .i64 _ _ Tryd.underlying3⟩

theorem part_row (t : TypeId) (n : Nat) (ha : ∀ w, (isAgg t).run Tryd.prog w = .ok true w) (hs : ∀ w, (sizeOf t).run Tryd.prog w = .ok n w) (L : List Int) (k : Nat) (w : World) :
    (part t (vals L).toArray k).run Tryd.prog w = .ok (mdl ((L.drop k).take n)) w := by
  unfold part
  simp only [Sem.run_bind, ha, hs, Result.andThen_ok, if_true]
  simp [vals, List.map_drop, List.map_take, List.extract_eq_take_drop]

end Go.Proofs.YtocnlefpbcnlmaaDoor.Mod
