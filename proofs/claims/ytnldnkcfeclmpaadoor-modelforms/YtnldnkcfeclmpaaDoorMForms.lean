/-
  Dot's and Train's contracts in the forms that the walks take; two arrays held against each other; facts on the way that weights go. Condition: the package's table is laid as its text lays it.
-/
import Derived.Test.YtnldnkcfeclmpaaDoorMTrained
import Derived.ChangeKeysEq
namespace Go.Proofs.YtnldnkcfeclmpaaDoor.Mix
open Go.RowKit Go.Proofs.YtnldnkcfeclmpaaDoor.Num Go.Proofs.YtnldnkcfeclmpaaDoor.Str
set_option linter.unusedVariables false
set_option linter.unusedSimpArgs false

theorem dot_may (a b c x y z p : Int) (hm : May a b c x y z) (hp : dot a b c x y z = p) (w : World) (T : Tab w) :
    Calls Tryd.prog 19 #[.agg #[.int .i64 a, .int .i64 b, .int .i64 c], .agg #[.int .i64 x, .int .i64 y, .int .i64 z]] w fun e w' => e = .returned (.tuple #[.int .i64 p, .int .i64 0]) ∧ Onto w w' :=
  hp ▸ dot_yes a b c x y z hm w T

theorem train_may (a b c x y z bit p A B C : Int) (hm : May a b c x y z) (hb : bit = 0 ∨ bit = 1) (hp : dot a b c x y z = p)
    (hA : trn a x (4096 * bit - p) = A) (hB : trn b y (4096 * bit - p) = B) (hC : trn c z (4096 * bit - p) = C) (w : World) (T : Tab w) :
    Calls Tryd.prog 26 #[.agg #[.int .i64 a, .int .i64 b, .int .i64 c], .agg #[.int .i64 x, .int .i64 y, .int .i64 z], .int .i64 bit] w fun e w' => e = .returned (.tuple #[.agg #[.int .i64 A, .int .i64 B, .int .i64 C], .int .i64 0]) ∧ Onto w w' := by
  subst hp hA hB hC
  exact train_yes a b c x y z bit hm hb w T

theorem eq_in (a b c a' b' c' : Int) (w : World) : (Op.equalIn 10000 24 (.agg #[.int .i64 a, .int .i64 b, .int .i64 c]) (.agg #[.int .i64 a', .int .i64 b', .int .i64 c'])).run Tryd.prog w = .ok (a == a' && (b == b' && c == c')) w := by
  rw [run_equalIn_array (i := Tryd.prog.types[3]!) w 9999 _ _ Tryd.underlying24 (by kernel_rfl)]
  have hc : Tryd.prog.cellsOf 3 = 1 := by kernel_rfl
  rw [hc]
  show (Op.eqItems (9998 + 1) 3 1 _ _ [0, 1, 2]).run Tryd.prog w = _
  have hk : Tryd.prog.plainKey 3 = true := by kernel_rfl
  have q : ∀ (x y : Int), (Op.equalIn (9998 + 1) 3 (.int .i64 x) (.int .i64 y)).run Tryd.prog w = .ok (x == y) w := fun x y => run_equalIn_int w 9998 3 .i64 .i64 x y Tryd.underlying3
  have p0 : ∀ (x y z : Int), (part 3 #[.int .i64 x, .int .i64 y, .int .i64 z] (0 * 1)).run Tryd.prog w = .ok (.int .i64 x) w := fun x y z => run_part_plain w hk rfl
  have p1 : ∀ (x y z : Int), (part 3 #[.int .i64 x, .int .i64 y, .int .i64 z] (1 * 1)).run Tryd.prog w = .ok (.int .i64 y) w := fun x y z => run_part_plain w hk rfl
  have p2 : ∀ (x y z : Int), (part 3 #[.int .i64 x, .int .i64 y, .int .i64 z] (2 * 1)).run Tryd.prog w = .ok (.int .i64 z) w := fun x y z => run_part_plain w hk rfl
  cases ha : a == a' <;> cases hb : b == b' <;> cases hcc : c == c' <;> simp only [Op.eqItems, Sem.run_bind, p0, p1, p2, q, ha, hb, hcc, Result.andThen_ok, Bool.not_true, Bool.not_false, Bool.false_eq_true, if_true, if_false, Sem.run_pure, Bool.true_and, Bool.false_and, Bool.and_false, Bool.and_true]

theorem eq_arr (a b c a' b' c' : Int) (w : World) : (binOp .eql 24 (.agg #[.int .i64 a, .int .i64 b, .int .i64 c]) (.agg #[.int .i64 a', .int .i64 b', .int .i64 c'])).run Tryd.prog w = .ok (.bool (a == a' && (b == b' && c == c'))) w := by
  rw [run_eql_struct, eq_in]; rfl

theorem eq_same (a b c : Int) (w : World) : (binOp .eql 24 (.agg #[.int .i64 a, .int .i64 b, .int .i64 c]) (.agg #[.int .i64 a, .int .i64 b, .int .i64 c])).run Tryd.prog w = .ok (.bool true) w := by
  rw [eq_arr]; simp

theorem eq_in_same (a b c : Int) (w : World) : (Op.equalIn 10000 24 (.agg #[.int .i64 a, .int .i64 b, .int .i64 c]) (.agg #[.int .i64 a, .int .i64 b, .int .i64 c])).run Tryd.prog w = .ok true w := by
  rw [eq_in]; simp

/-- A weight that may be stays where it is held. -/
theorem hold_may (a : Int) (h0 : -1048576 ≤ a) (h1 : a ≤ 1048576) : hold a = a := by
  unfold hold
  split
  · omega
  · split <;> omega

theorem hold_ge (a s : Int) (h1 : a ≤ 1048576) (hs : 0 ≤ s) : a ≤ hold (a + s) := by
  unfold hold
  split
  · omega
  · split <;> omega

theorem hold_le (a s : Int) (h0 : -1048576 ≤ a) (hs : s ≤ 0) : hold (a + s) ≤ a := by
  unfold hold
  split
  · omega
  · split <;> omega

theorem stp_ge (x o : Int) (h : 0 ≤ x * o) : 0 ≤ stp x o := by unfold stp; omega
theorem stp_le (x o : Int) (h : x * o ≤ 0) : stp x o ≤ 0 := by unfold stp; omega

/-- Where the chance was too low, a weight goes its input's way. -/
theorem trn_up (a x o : Int) (h0 : -1048576 ≤ a) (h1 : a ≤ 1048576) (ho : 0 ≤ o) : (0 ≤ x → a ≤ trn a x o) ∧ (x ≤ 0 → trn a x o ≤ a) :=
  ⟨fun hx => hold_ge a _ h1 (stp_ge x o (Int.mul_nonneg hx ho)), fun hx => hold_le a _ h0 (stp_le x o (Int.mul_nonpos_of_nonpos_of_nonneg hx ho))⟩

/-- Where the chance was too high, it goes the other way. -/
theorem trn_down (a x o : Int) (h0 : -1048576 ≤ a) (h1 : a ≤ 1048576) (ho : o ≤ 0) : (0 ≤ x → trn a x o ≤ a) ∧ (x ≤ 0 → a ≤ trn a x o) :=
  ⟨fun hx => hold_le a _ h0 (stp_le x o (Int.mul_nonpos_of_nonneg_of_nonpos hx ho)), fun hx => hold_ge a _ h1 (stp_ge x o (Int.mul_nonneg_of_nonpos_of_nonpos hx ho))⟩

theorem way_up (a x o : Int) (h0 : -1048576 ≤ a) (h1 : a ≤ 1048576) (ho : 0 ≤ o) : a * x ≤ trn a x o * x := by
  obtain ⟨u, v⟩ := trn_up a x o h0 h1 ho
  by_cases hx : 0 ≤ x
  · exact Int.mul_le_mul_of_nonneg_right (u hx) hx
  · exact Int.mul_le_mul_of_nonpos_right (v (by omega)) (by omega)

theorem way_down (a x o : Int) (h0 : -1048576 ≤ a) (h1 : a ≤ 1048576) (ho : o ≤ 0) : trn a x o * x ≤ a * x := by
  obtain ⟨u, v⟩ := trn_down a x o h0 h1 ho
  by_cases hx : 0 ≤ x
  · exact Int.mul_le_mul_of_nonneg_right (u hx) hx
  · exact Int.mul_le_mul_of_nonpos_right (v (by omega)) (by omega)

theorem nearer_up (a b c x y z o : Int) (hm : May a b c x y z) (ho : 0 ≤ o) : dot a b c x y z ≤ dot (trn a x o) (trn b y o) (trn c z o) x y z := by
  obtain ⟨⟨a0, a1⟩, ⟨b0, b1⟩, ⟨c0, c1⟩, _⟩ := hm
  have h1 := way_up a x o a0 a1 ho
  have h2 := way_up b y o b0 b1 ho
  have h3 := way_up c z o c0 c1 ho
  exact dot_mono (by unfold sum; omega)

theorem nearer_down (a b c x y z o : Int) (hm : May a b c x y z) (ho : o ≤ 0) : dot (trn a x o) (trn b y o) (trn c z o) x y z ≤ dot a b c x y z := by
  obtain ⟨⟨a0, a1⟩, ⟨b0, b1⟩, ⟨c0, c1⟩, _⟩ := hm
  have h1 := way_down a x o a0 a1 ho
  have h2 := way_down b y o b0 b1 ho
  have h3 := way_down c z o c0 c1 ho
  exact dot_mono (by unfold sum; omega)

/-- Trained weights may be. -/
theorem may_trn (a b c x y z o : Int) (hm : May a b c x y z) : May (trn a x o) (trn b y o) (trn c z o) x y z :=
  ⟨trn_range _ _ _, trn_range _ _ _, trn_range _ _ _, hm.2.2.2⟩

/-- Three in another row. -/
theorem may_row {a b c x y z : Int} (hm : May a b c x y z) : May c a b z x y := by
  obtain ⟨h1, h2, h3, h4, h5, h6⟩ := hm
  exact ⟨h3, h1, h2, h6, h4, h5⟩
theorem may_row_back {a b c x y z : Int} (hm : May c a b z x y) : May a b c x y z := by
  obtain ⟨h3, h1, h2, h6, h4, h5⟩ := hm
  exact ⟨h1, h2, h3, h4, h5, h6⟩
theorem dot_row (a b c x y z : Int) : dot c a b z x y = dot a b c x y z := by
  have e : sum c a b z x y = sum a b c x y z := by unfold sum; omega
  unfold dot
  rw [e]

/-- Cells that stand, one call or one new block further. -/
theorem keep3 {w w' : World} (o : Onto w w') {B : Nat} {x y z : Value} (h : w.cell? ⟨B, 0, none⟩ = some x ∧ w.cell? ⟨B, 1, none⟩ = some y ∧ w.cell? ⟨B, 2, none⟩ = some z) :
    w'.cell? ⟨B, 0, none⟩ = some x ∧ w'.cell? ⟨B, 1, none⟩ = some y ∧ w'.cell? ⟨B, 2, none⟩ = some z :=
  ⟨o.cell_some h.1, o.cell_some h.2.1, o.cell_some h.2.2⟩

theorem made3 (w : World) (x y z : Value) (t : TypeId) :
    (w.alloc (.cells #[x, y, z] t)).cell? ⟨w.heap.size, 0, none⟩ = some x ∧ (w.alloc (.cells #[x, y, z] t)).cell? ⟨w.heap.size, 1, none⟩ = some y ∧ (w.alloc (.cells #[x, y, z] t)).cell? ⟨w.heap.size, 2, none⟩ = some z := by
  obtain ⟨h0, h1, h2, _⟩ := laid3 w x y z t _ rfl
  exact ⟨h0, h1, h2⟩

end Go.Proofs.YtnldnkcfeclmpaaDoor.Mix
