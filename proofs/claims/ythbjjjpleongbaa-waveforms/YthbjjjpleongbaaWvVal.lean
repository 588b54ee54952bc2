/-
  A wave as a value: two that are held against each other, one in a variable, one as a first answer. No condition.
-/
import Derived.Test.YthbjjjpleongbaaRcTold
import Derived.Test.YthbjjjpleongbaaWvNum
import Derived.Test.YthbjjjpleongbaaPcSmall
namespace Go.Proofs.Ythbjjjpleongbaa.Wav
open Go.RowKit Go.Sort Go.Proofs.Ythbjjjpleongbaa.Mod Go.Proofs.Ythbjjjpleongbaa.Num Go.Proofs.Ythbjjjpleongbaa.Chk
open Go.Proofs.Ythbjjjpleongbaa.Pcm (okF fC fQ okF_yes okF_nat fmt may_ok rmay_ok rframe_ok)
set_option linter.unusedVariables false
set_option linter.unusedSimpArgs false

/-- A wave's cells, and the wave as a value. -/
abbrev wcs (c b : Int) (h d t : ByteArray) : Array Value := #[.int .i64 c, .int .i64 b, .string h, .string d, .string t]
abbrev wvl (w : Wv) : Value := .agg #[.int .i64 w.1, .int .i64 w.2.1, .string (tx w.2.2.1), .string (tx w.2.2.2.1), .string (tx w.2.2.2.2)]

theorem eq_fmt (d : Nat) (a b c e : Int) (w : World) : (Op.equalIn (d + 1 + 1) 23 (.agg #[.int .i64 a, .int .i64 b]) (.agg #[.int .i64 c, .int .i64 e])).run Try.prog w = .ok (a == c && b == e) w := by
  rw [run_equalIn_struct w (d + 1) _ _ _ (by kernel_rfl) (by kernel_rfl)]
  have hf : (Try.prog.fieldsOf 23).toList.map (fun f => (f.name, f.type, f.offset)) = [("Channels", 3, 0), ("Bits", 3, 1)] := by kernel_rfl
  generalize (Try.prog.fieldsOf 23).toList = fs at hf
  obtain ⟨f0, r0, rfl, q0, hf⟩ := List.map_eq_cons_iff.1 hf
  obtain ⟨f1, r1, rfl, q1, hf⟩ := List.map_eq_cons_iff.1 hf
  obtain rfl := List.map_eq_nil_iff.1 hf
  injection q0 with a0 b0; injection b0 with b0 c0
  injection q1 with a1 b1; injection b1 with b1 c1
  have k3 : Try.prog.plainKey 3 = true := by kernel_rfl
  have q : ∀ (x y : Int), (Op.equalIn (d + 1) 3 (.int .i64 x) (.int .i64 y)).run Try.prog w = .ok (x == y) w := fun x y => run_equalIn_int w d 3 .i64 .i64 x y Try.underlying3
  have p0 : ∀ (x y : Int), (part 3 #[.int .i64 x, .int .i64 y] 0).run Try.prog w = .ok (.int .i64 x) w := fun x y => run_part_plain w k3 rfl
  have p1 : ∀ (x y : Int), (part 3 #[.int .i64 x, .int .i64 y] 1).run Try.prog w = .ok (.int .i64 y) w := fun x y => run_part_plain w k3 rfl
  have n0 : ("Channels" : String) ≠ "_" := by decide
  have n1 : ("Bits" : String) ≠ "_" := by decide
  cases hb : a == c <;> cases hc : b == e <;>
    simp only [Op.eqFields, a0, a1, b0, b1, c0, c1, n0, n1, ne_eq, not_false_eq_true, if_true, Sem.run_bind, p0, p1, q, hb, hc, Result.andThen_ok, Bool.not_true, Bool.not_false, Bool.false_eq_true, if_false, Sem.run_pure, Bool.true_and, Bool.false_and, Bool.and_false, Bool.and_true]

theorem eq_wave (a b a' b' : Int) (h d t h' d' t' : ByteArray) (w : World) : (Op.equalIn 10000 25 (.agg (wcs a b h d t)) (.agg (wcs a' b' h' d' t'))).run Try.prog w = .ok ((a == a' && b == b') && (h.toList == h'.toList && (d.toList == d'.toList && t.toList == t'.toList))) w := by
  rw [run_equalIn_struct w 9999 _ _ _ (by kernel_rfl) (by kernel_rfl)]
  have hf : (Try.prog.fieldsOf 25).toList.map (fun f => (f.name, f.type, f.offset)) = [("Format", 23, 0), ("Head", 9, 2), ("Data", 9, 3), ("Tail", 9, 4)] := by kernel_rfl
  generalize (Try.prog.fieldsOf 25).toList = fs at hf
  obtain ⟨f0, r0, rfl, q0, hf⟩ := List.map_eq_cons_iff.1 hf
  obtain ⟨f1, r1, rfl, q1, hf⟩ := List.map_eq_cons_iff.1 hf
  obtain ⟨f2, r2, rfl, q2, hf⟩ := List.map_eq_cons_iff.1 hf
  obtain ⟨f3, r3, rfl, q3, hf⟩ := List.map_eq_cons_iff.1 hf
  obtain rfl := List.map_eq_nil_iff.1 hf
  injection q0 with a0 b0; injection b0 with b0 c0
  injection q1 with a1 b1; injection b1 with b1 c1
  injection q2 with a2 b2; injection b2 with b2 c2
  injection q3 with a3 b3; injection b3 with b3 c3
  have k9 : Try.prog.plainKey 9 = true := by kernel_rfl
  have e0 : ∀ s r : ByteArray, (Op.equalIn (9998 + 1) 9 (.string s) (.string r)).run Try.prog w = .ok (s.toList == r.toList) w := fun s r => run_equalIn_string w 9998 9 s r Try.underlying9
  have q : ∀ (x y x' y' : Int), (Op.equalIn (9998 + 1) 23 (.agg #[.int .i64 x, .int .i64 y]) (.agg #[.int .i64 x', .int .i64 y'])).run Try.prog w = .ok (x == x' && y == y') w := fun x y x' y' => eq_fmt 9997 x y x' y' w
  have ag : ∀ w, (isAgg 23).run Try.prog w = .ok true w := Try.isAgg23
  have sg : ∀ w, (Go.sizeOf 23).run Try.prog w = .ok 2 w := Try.sizeOf23
  have p0 : ∀ (x y : Int) (s r u : ByteArray), (part 23 (wcs x y s r u) 0).run Try.prog w = .ok (.agg #[.int .i64 x, .int .i64 y]) w := fun x y s r u => by
    unfold part
    simp only [Sem.run_bind, ag, sg, Result.andThen_ok, if_true, Sem.run_pure]
    rfl
  have p1 : ∀ (x y : Int) (s r u : ByteArray), (part 9 (wcs x y s r u) 2).run Try.prog w = .ok (.string s) w := fun x y s r u => run_part_plain w k9 rfl
  have p2 : ∀ (x y : Int) (s r u : ByteArray), (part 9 (wcs x y s r u) 3).run Try.prog w = .ok (.string r) w := fun x y s r u => run_part_plain w k9 rfl
  have p3 : ∀ (x y : Int) (s r u : ByteArray), (part 9 (wcs x y s r u) 4).run Try.prog w = .ok (.string u) w := fun x y s r u => run_part_plain w k9 rfl
  have n0 : ("Format" : String) ≠ "_" := by decide
  have n1 : ("Head" : String) ≠ "_" := by decide
  have n2 : ("Data" : String) ≠ "_" := by decide
  have n3 : ("Tail" : String) ≠ "_" := by decide
  cases ha : (a == a' && b == b') <;> cases hb : h.toList == h'.toList <;> cases hc : d.toList == d'.toList <;> cases hd : t.toList == t'.toList <;>
    simp only [Op.eqFields, a0, a1, a2, a3, b0, b1, b2, b3, c0, c1, c2, c3, n0, n1, n2, n3, ne_eq, not_false_eq_true, if_true, Sem.run_bind, p0, p1, p2, p3, e0, q, ha, hb, hc, hd, Result.andThen_ok, Bool.not_true, Bool.not_false, Bool.false_eq_true, if_false, Sem.run_pure, Bool.true_and, Bool.false_and, Bool.and_false, Bool.and_true]

theorem eq_wv (x y : Wv) (w : World) : (Op.equalIn 10000 25 (wvl x) (wvl y)).run Try.prog w = .ok (decide (x = y)) w := by
  rw [eq_wave]
  congr 1
  obtain ⟨a, b, c, d, e⟩ := x
  obtain ⟨a', b', c', d', e'⟩ := y
  simp only [toList_tx]
  rw [Bool.eq_iff_iff]
  simp only [Bool.and_eq_true, beq_iff_eq, decide_eq_true_eq, Prod.mk.injEq]
  exact ⟨fun h => ⟨h.1.1, h.1.2, h.2.1, h.2.2.1, h.2.2.2⟩, fun h => ⟨⟨h.1, h.2.1⟩, h.2.2.1, h.2.2.2.1, h.2.2.2.2⟩⟩

/-- A wave in a variable, that may be written. -/
def BoxV (w : World) (g : Nat) (x : Wv) : Prop :=
  (w.cell? ⟨g, 0, none⟩ = some (.int .i64 x.1) ∧ w.cell? ⟨g, 1, none⟩ = some (.int .i64 x.2.1) ∧ w.cell? ⟨g, 2, none⟩ = some (.string (tx x.2.2.1)) ∧ w.cell? ⟨g, 3, none⟩ = some (.string (tx x.2.2.2.1)) ∧ w.cell? ⟨g, 4, none⟩ = some (.string (tx x.2.2.2.2)))
  ∧ w.frozen? ⟨g, 0, none⟩ = false ∧ w.frozen? ⟨g, 1, none⟩ = false ∧ w.frozen? ⟨g, 2, none⟩ = false ∧ w.frozen? ⟨g, 3, none⟩ = false ∧ w.frozen? ⟨g, 4, none⟩ = false
theorem BoxV.bel {w w' : World} {g : Nat} {x : Wv} (h : BoxV w g x) (b : Bel w w') : BoxV w' g x :=
  ⟨⟨b.keep h.1.1, b.keep h.1.2.1, b.keep h.1.2.2.1, b.keep h.1.2.2.2.1, b.keep h.1.2.2.2.2⟩, b.free h.1.1 h.2.1, b.free h.1.2.1 h.2.2.1, b.free h.1.2.2.1 h.2.2.2.1, b.free h.1.2.2.2.1 h.2.2.2.2.1, b.free h.1.2.2.2.2 h.2.2.2.2.2⟩
theorem boxV_new (w : World) (x : Wv) : BoxV (w.alloc (.cells #[.int .i64 x.1, .int .i64 x.2.1, .string (tx x.2.2.1), .string (tx x.2.2.2.1), .string (tx x.2.2.2.2)] 25)) w.heap.size x := by
  have h : ∀ j, (w.alloc (.cells #[.int .i64 x.1, .int .i64 x.2.1, .string (tx x.2.2.1), .string (tx x.2.2.2.1), .string (tx x.2.2.2.2)] 25)).cell? ⟨w.heap.size, j, none⟩ = (#[Value.int .i64 x.1, .int .i64 x.2.1, .string (tx x.2.2.1), .string (tx x.2.2.2.1), .string (tx x.2.2.2.2)])[j]? := fun j => cell_of_row _ w.heap.size j _ 25 (0, 0) (heap_alloc_new w _)
  exact ⟨⟨h 0, h 1, h 2, h 3, h 4⟩, by simp, by simp, by simp, by simp, by simp⟩

theorem BoxV.set {w : World} {g : Nat} {x : Wv} (h : BoxV w g x) (y : Wv) :
    BoxV (((((w.setCell ⟨g, 0, none⟩ (.int .i64 y.1)).setCell ⟨g, 1, none⟩ (.int .i64 y.2.1)).setCell ⟨g, 2, none⟩ (.string (tx y.2.2.1))).setCell ⟨g, 3, none⟩ (.string (tx y.2.2.2.1))).setCell ⟨g, 4, none⟩ (.string (tx y.2.2.2.2))) g y := by
  have ne : ∀ i j : Nat, i ≠ j → (⟨g, i, none⟩ : Addr) ≠ ⟨g, j, none⟩ := fun i j h e => h (by injection e)
  obtain ⟨⟨h0, h1, h2, h3, h4⟩, f0, f1, f2, f3, f4⟩ := h
  have o : ∀ (w : World) (i j : Nat) (v : Value), i ≠ j → (w.setCell ⟨g, i, none⟩ v).cell? ⟨g, j, none⟩ = w.cell? ⟨g, j, none⟩ := fun w i j v hij => World.cell?_setCell_other _ _ _ _ (ne i j hij)
  have s : ∀ (w : World) (i : Nat) (v u : Value), w.cell? ⟨g, i, none⟩ = some u → (w.setCell ⟨g, i, none⟩ v).cell? ⟨g, i, none⟩ = some v := fun w i v u hu => World.cell?_setCell_same _ _ _ hu
  refine ⟨⟨?_, ?_, ?_, ?_, ?_⟩, ?_, ?_, ?_, ?_, ?_⟩
  · rw [o _ 4 0 _ (by decide), o _ 3 0 _ (by decide), o _ 2 0 _ (by decide), o _ 1 0 _ (by decide)]; exact s _ 0 _ _ h0
  · rw [o _ 4 1 _ (by decide), o _ 3 1 _ (by decide), o _ 2 1 _ (by decide)]; exact s _ 1 _ _ (by rw [o _ 0 1 _ (by decide)]; exact h1)
  · rw [o _ 4 2 _ (by decide), o _ 3 2 _ (by decide)]; exact s _ 2 _ _ (by rw [o _ 1 2 _ (by decide), o _ 0 2 _ (by decide)]; exact h2)
  · rw [o _ 4 3 _ (by decide)]; exact s _ 3 _ _ (by rw [o _ 2 3 _ (by decide), o _ 1 3 _ (by decide), o _ 0 3 _ (by decide)]; exact h3)
  · exact s _ 4 _ _ (by rw [o _ 3 4 _ (by decide), o _ 2 4 _ (by decide), o _ 1 4 _ (by decide), o _ 0 4 _ (by decide)]; exact h4)
  all_goals simp only [World.frozen?_setCell]
  · exact f0
  · exact f1
  · exact f2
  · exact f3
  · exact f4
theorem set5_bel {w0 w : World} {g : Nat} (hg : w0.heap.size ≤ g) (b : Bel w0 w) (v0 v1 v2 v3 v4 : Value) : Bel w0 (((((w.setCell ⟨g, 0, none⟩ v0).setCell ⟨g, 1, none⟩ v1).setCell ⟨g, 2, none⟩ v2).setCell ⟨g, 3, none⟩ v3).setCell ⟨g, 4, none⟩ v4) :=
  ((((b.setCell hg _).setCell hg _).setCell hg _).setCell hg _).setCell hg _

theorem results_wv {fn : Func} {t u : Tmp} (hf : fn.results = #[.cell t 25, .tmp u]) {tmps : Array Value} {b : Nat} {w : World} {x0 x1 x2 x3 x4 v : Value} (ht : tmps[t]?.getD undef = .pointer (some ⟨b, 0, none⟩)) (hv : tmps[u]?.getD undef = v)
    (c0 : w.cell? ⟨b, 0, none⟩ = some x0) (c1 : w.cell? ⟨b, 1, none⟩ = some x1) (c2 : w.cell? ⟨b, 2, none⟩ = some x2) (c3 : w.cell? ⟨b, 3, none⟩ = some x3) (c4 : w.cell? ⟨b, 4, none⟩ = some x4) : (results fn tmps).run Try.prog w = .ok (.tuple #[.agg #[x0, x1, x2, x3, x4], v]) w := by
  simp [results, hf, ht, hv, go_sem, c0, c1, c2, c3, c4]

end Go.Proofs.Ythbjjjpleongbaa.Wav
