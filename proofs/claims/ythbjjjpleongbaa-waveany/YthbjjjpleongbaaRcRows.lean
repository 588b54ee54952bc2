/-
  A file's chunks in memory: a row of them, one as a value, two that are held against each other. No condition.
-/
import Derived.Test.YthbjjjpleongbaaGExc
import Derived.Test.YthbjjjpleongbaaChNum
import Derived.Test.YthbjjjpleongbaaRows
import Derived.ProofKit
import Derived.ChangeKeysEq
namespace Go.Proofs.Ythbjjjpleongbaa.Chk
open Go.RowKit Go.Proofs.Ythbjjjpleongbaa.Mod Go.Proofs.Ythbjjjpleongbaa.Num
set_option linter.unusedVariables false
set_option linter.unusedSimpArgs false

/-- A text of these bytes. -/
abbrev tx (l : List UInt8) : ByteArray := ⟨l.toArray⟩
/-- A chunk's cells, and the chunk as a value. -/
def ccs (c : Ch) : List Value := [.string (tx c.1), .int .i64 (c.2.1 : Int), .int .i64 (c.2.2 : Int)]
abbrev cval (c : Ch) : Value := .agg #[.string (tx c.1), .int .i64 (c.2.1 : Int), .int .i64 (c.2.2 : Int)]
def cvs (Cs : List Ch) : List Value := Cs.flatMap ccs
abbrev ch0 : Ch := ([], 0, 0)

theorem cvs_length : ∀ Cs : List Ch, (cvs Cs).length = Cs.length * 3
  | [] => rfl
  | c :: r => by
    have := cvs_length r
    unfold cvs at this ⊢
    rw [List.flatMap_cons, List.length_append, this, List.length_cons]
    show 3 + _ = _
    omega
theorem cvs_append (C D : List Ch) : cvs (C ++ D) = cvs C ++ cvs D := by simp [cvs]
theorem cvs_get : ∀ (Cs : List Ch) (k : Nat), k < Cs.length → (cvs Cs)[k * 3]? = some (.string (tx (Cs.getD k ch0).1)) ∧ (cvs Cs)[k * 3 + 1]? = some (.int .i64 ((Cs.getD k ch0).2.1 : Int)) ∧ (cvs Cs)[k * 3 + 2]? = some (.int .i64 ((Cs.getD k ch0).2.2 : Int))
  | c :: r, 0, _ => ⟨rfl, rfl, rfl⟩
  | c :: r, k + 1, h => by
    have h1 := cvs_get r k (by simpa using h)
    have e : cvs (c :: r) = ccs c ++ cvs r := rfl
    have hl : (ccs c).length = 3 := rfl
    rw [e, List.getElem?_append_right (by omega), List.getElem?_append_right (by omega), List.getElem?_append_right (by omega), hl, show (k + 1) * 3 - 3 = k * 3 by omega, show (k + 1) * 3 + 1 - 3 = k * 3 + 1 by omega, show (k + 1) * 3 + 2 - 3 = k * 3 + 2 by omega]
    exact h1

/-- A slice at ao holds the chunks Cs. -/
def Slk (w : World) (ao : Option Addr) (Cs : List Ch) : Prop :=
  ∀ k, k < Cs.length → ∃ g, ao = some ⟨g, 0, none⟩ ∧ w.cell? ⟨g, k * 3, none⟩ = some (.string (tx (Cs.getD k ch0).1)) ∧ w.cell? ⟨g, k * 3 + 1, none⟩ = some (.int .i64 ((Cs.getD k ch0).2.1 : Int)) ∧ w.cell? ⟨g, k * 3 + 2, none⟩ = some (.int .i64 ((Cs.getD k ch0).2.2 : Int))

theorem slk_nil (w : World) (ao : Option Addr) : Slk w ao [] := fun k hk => absurd hk (by simp)
theorem Slk.bel {w w' : World} {ao : Option Addr} {Cs : List Ch} (h : Slk w ao Cs) (b : Bel w w') : Slk w' ao Cs := fun k hk => by
  obtain ⟨x, hx, h0, h1, h2⟩ := h k hk
  exact ⟨x, hx, b.keep h0, b.keep h1, b.keep h2⟩
theorem Slk.drewN {w : World} {ao : Option Addr} {Cs : List Ch} (h : Slk w ao Cs) (n : Nat) : Slk (w.drewN n) ao Cs := h
theorem Slk.take {w : World} {ao : Option Addr} {Cs : List Ch} (h : Slk w ao Cs) (n : Nat) : Slk w ao (Cs.take n) := fun k hk => by
  have h1 : k < n := by simp at hk; omega
  obtain ⟨x, hx, hc⟩ := h k (by simp at hk; omega)
  have e : (Cs.take n).getD k ch0 = Cs.getD k ch0 := by simp [List.getD_eq_getElem?_getD, h1]
  exact ⟨x, hx, by rw [e]; exact hc⟩

theorem eq_in (a b : ByteArray) (x y x' y' : Int) (w : World) : (Op.equalIn 10000 52 (.agg #[.string a, .int .i64 x, .int .i64 y]) (.agg #[.string b, .int .i64 x', .int .i64 y'])).run Try.prog w = .ok (a.toList == b.toList && (x == x' && y == y')) w := by
  rw [run_equalIn_struct w 9999 _ _ _ (by kernel_rfl) (by kernel_rfl)]
  have hf : (Try.prog.fieldsOf 52).toList.map (fun f => (f.name, f.type, f.offset)) = [("Id", 9, 0), ("At", 3, 1), ("Size", 3, 2)] := by kernel_rfl
  generalize (Try.prog.fieldsOf 52).toList = fs at hf
  obtain ⟨f0, r0, rfl, q0, hf⟩ := List.map_eq_cons_iff.1 hf
  obtain ⟨f1, r1, rfl, q1, hf⟩ := List.map_eq_cons_iff.1 hf
  obtain ⟨f2, r2, rfl, q2, hf⟩ := List.map_eq_cons_iff.1 hf
  obtain rfl := List.map_eq_nil_iff.1 hf
  injection q0 with a0 b0; injection b0 with b0 c0
  injection q1 with a1 b1; injection b1 with b1 c1
  injection q2 with a2 b2; injection b2 with b2 c2
  have k9 : Try.prog.plainKey 9 = true := by kernel_rfl
  have k3 : Try.prog.plainKey 3 = true := by kernel_rfl
  have e0 : (Op.equalIn (9998 + 1) 9 (.string a) (.string b)).run Try.prog w = .ok (a.toList == b.toList) w := run_equalIn_string w 9998 9 a b Try.underlying9
  have q : ∀ (x y : Int), (Op.equalIn (9998 + 1) 3 (.int .i64 x) (.int .i64 y)).run Try.prog w = .ok (x == y) w := fun x y => run_equalIn_int w 9998 3 .i64 .i64 x y Try.underlying3
  have p0 : ∀ (s : ByteArray) (x y : Int), (part 9 #[.string s, .int .i64 x, .int .i64 y] 0).run Try.prog w = .ok (.string s) w := fun s x y => run_part_plain w k9 rfl
  have p1 : ∀ (s : ByteArray) (x y : Int), (part 3 #[.string s, .int .i64 x, .int .i64 y] 1).run Try.prog w = .ok (.int .i64 x) w := fun s x y => run_part_plain w k3 rfl
  have p2 : ∀ (s : ByteArray) (x y : Int), (part 3 #[.string s, .int .i64 x, .int .i64 y] 2).run Try.prog w = .ok (.int .i64 y) w := fun s x y => run_part_plain w k3 rfl
  have n0 : ("Id" : String) ≠ "_" := by decide
  have n1 : ("At" : String) ≠ "_" := by decide
  have n2 : ("Size" : String) ≠ "_" := by decide
  cases ha : a.toList == b.toList <;> cases hb : x == x' <;> cases hc : y == y' <;>
    simp only [Op.eqFields, a0, a1, a2, b0, b1, b2, c0, c1, c2, n0, n1, n2, ne_eq, not_false_eq_true, if_true, Sem.run_bind, p0, p1, p2, e0, q, ha, hb, hc, Result.andThen_ok, Bool.not_true, Bool.not_false, Bool.false_eq_true, if_false, Sem.run_pure, Bool.true_and, Bool.false_and, Bool.and_false, Bool.and_true]

theorem toList_tx (l : List UInt8) : (tx l).toList = l := by rw [ByteArray.toList_eq]
theorem eq_ch (c d : Ch) : ((tx c.1).toList == (tx d.1).toList && (((c.2.1 : Int) == (d.2.1 : Int)) && ((c.2.2 : Int) == (d.2.2 : Int)))) = decide (c = d) := by
  obtain ⟨a, b, e⟩ := c
  obtain ⟨a', b', e'⟩ := d
  rw [toList_tx, toList_tx, Bool.eq_iff_iff]
  simp only [Bool.and_eq_true, beq_iff_eq, decide_eq_true_eq, Prod.mk.injEq]
  exact ⟨fun h => ⟨h.1, by omega, by omega⟩, fun h => ⟨h.1, by omega, by omega⟩⟩

end Go.Proofs.Ythbjjjpleongbaa.Chk
