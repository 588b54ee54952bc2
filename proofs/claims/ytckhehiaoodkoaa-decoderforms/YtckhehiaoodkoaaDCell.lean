/-
  What lies in a variable of a coder or of a decoder, and what keeps it. No condition.
-/
import Derived.Test.YtckhehiaoodkoaaDStep
namespace Go.Proofs.Ytckhehiaoodkoaa.Coder
open Go.RowKit Go.Proofs.Ytckhehiaoodkoaa.Num
set_option linter.unusedVariables false

/-- A coder in block B. -/
structure CC (w : World) (B : Nat) (l h : Int) (s : ByteArray) : Prop where
  c0 : w.cell? ⟨B, 0, none⟩ = some (.int .i64 l)
  c1 : w.cell? ⟨B, 1, none⟩ = some (.int .i64 h)
  c2 : w.cell? ⟨B, 2, none⟩ = some (.string s)
  f0 : w.frozen? ⟨B, 0, none⟩ = false
  f1 : w.frozen? ⟨B, 1, none⟩ = false
  f2 : w.frozen? ⟨B, 2, none⟩ = false

theorem CC.keep {w w' : World} {B : Nat} {l h : Int} {s : ByteArray} (C : CC w B l h s) (b : Bel w w') : CC w' B l h s :=
  ⟨b.keep C.c0, b.keep C.c1, b.keep C.c2, b.free C.c0 C.f0, b.free C.c1 C.f1, b.free C.c2 C.f2⟩

theorem CC.drew {w : World} {B : Nat} {l h : Int} {s : ByteArray} (C : CC w B l h s) : CC w.drew B l h s := ⟨C.c0, C.c1, C.c2, C.f0, C.f1, C.f2⟩

theorem CC.set {w : World} {B : Nat} {l h : Int} {s : ByteArray} (C : CC w B l h s) (l' h' : Int) (s' : ByteArray) : CC (((w.setCell ⟨B, 0, none⟩ (.int .i64 l')).setCell ⟨B, 1, none⟩ (.int .i64 h')).setCell ⟨B, 2, none⟩ (.string s')) B l' h' s' := by
  obtain ⟨r0, r1, r2⟩ := set3 (x := .int .i64 l') (y := .int .i64 h') (z := .string s') C.c0 C.c1 C.c2
  exact ⟨r0, r1, r2, by simp [C.f0], by simp [C.f1], by simp [C.f2]⟩

/-- Five cells of another block are stored. -/
theorem CC.away {w : World} {B : Nat} {l h : Int} {s : ByteArray} (C : CC w B l h s) {b : Nat} (hb : B ≠ b) {x0 x1 x2 x3 x4 : Value} : CC (((((w.setCell ⟨b, 0, none⟩ x0).setCell ⟨b, 1, none⟩ x1).setCell ⟨b, 2, none⟩ x2).setCell ⟨b, 3, none⟩ x3).setCell ⟨b, 4, none⟩ x4) B l h s :=
  ⟨away5 hb C.c0, away5 hb C.c1, away5 hb C.c2, free5 C.f0, free5 C.f1, free5 C.f2⟩

/-- A decoder in block B. -/
structure DD (w : World) (B : Nat) (l h x : Int) (s : ByteArray) (k : Int) : Prop where
  c0 : w.cell? ⟨B, 0, none⟩ = some (.int .i64 l)
  c1 : w.cell? ⟨B, 1, none⟩ = some (.int .i64 h)
  c2 : w.cell? ⟨B, 2, none⟩ = some (.int .i64 x)
  c3 : w.cell? ⟨B, 3, none⟩ = some (.string s)
  c4 : w.cell? ⟨B, 4, none⟩ = some (.int .i64 k)
  f0 : w.frozen? ⟨B, 0, none⟩ = false
  f1 : w.frozen? ⟨B, 1, none⟩ = false
  f2 : w.frozen? ⟨B, 2, none⟩ = false
  f3 : w.frozen? ⟨B, 3, none⟩ = false
  f4 : w.frozen? ⟨B, 4, none⟩ = false

theorem DD.keep {w w' : World} {B : Nat} {l h x : Int} {s : ByteArray} {k : Int} (C : DD w B l h x s k) (b : Bel w w') : DD w' B l h x s k :=
  ⟨b.keep C.c0, b.keep C.c1, b.keep C.c2, b.keep C.c3, b.keep C.c4, b.free C.c0 C.f0, b.free C.c1 C.f1, b.free C.c2 C.f2, b.free C.c3 C.f3, b.free C.c4 C.f4⟩

theorem DD.drew {w : World} {B : Nat} {l h x : Int} {s : ByteArray} {k : Int} (C : DD w B l h x s k) : DD w.drew B l h x s k := ⟨C.c0, C.c1, C.c2, C.c3, C.c4, C.f0, C.f1, C.f2, C.f3, C.f4⟩

theorem DD.made (w : World) (l h x : Int) (s : ByteArray) (k : Int) : DD (w.alloc (.cells #[.int .i64 l, .int .i64 h, .int .i64 x, .string s, .int .i64 k] 23)) w.heap.size l h x s k :=
  ⟨by simp, by simp, by simp, by simp, by simp, by simp, by simp, by simp, by simp, by simp⟩

theorem CC.made (w : World) (l h : Int) (s : ByteArray) : CC (w.alloc (.cells #[.int .i64 l, .int .i64 h, .string s] 39)) w.heap.size l h s :=
  ⟨by simp, by simp, by simp, by simp, by simp, by simp⟩

theorem DD.set {w : World} {B : Nat} {l h x : Int} {s : ByteArray} {k : Int} (C : DD w B l h x s k) (l' h' x' : Int) (s' : ByteArray) (k' : Int) :
    DD (((((w.setCell ⟨B, 0, none⟩ (.int .i64 l')).setCell ⟨B, 1, none⟩ (.int .i64 h')).setCell ⟨B, 2, none⟩ (.int .i64 x')).setCell ⟨B, 3, none⟩ (.string s')).setCell ⟨B, 4, none⟩ (.int .i64 k')) B l' h' x' s' k' := by
  obtain ⟨r0, r1, r2, r3, r4⟩ := put5 (.int .i64 l') (.int .i64 h') (.int .i64 x') (.string s') (.int .i64 k') C.c0 C.c1 C.c2 C.c3 C.c4
  exact ⟨r0, r1, r2, r3, r4, free5 C.f0, free5 C.f1, free5 C.f2, free5 C.f3, free5 C.f4⟩

theorem DD.away {w : World} {B : Nat} {l h x : Int} {s : ByteArray} {k : Int} (C : DD w B l h x s k) {b : Nat} (hb : B ≠ b) {x0 x1 x2 x3 x4 : Value} : DD (((((w.setCell ⟨b, 0, none⟩ x0).setCell ⟨b, 1, none⟩ x1).setCell ⟨b, 2, none⟩ x2).setCell ⟨b, 3, none⟩ x3).setCell ⟨b, 4, none⟩ x4) B l h x s k :=
  ⟨away5 hb C.c0, away5 hb C.c1, away5 hb C.c2, away5 hb C.c3, away5 hb C.c4, free5 C.f0, free5 C.f1, free5 C.f2, free5 C.f3, free5 C.f4⟩

/-- Three cells of another block are stored. -/
theorem away3 {w : World} {B : Nat} {x y z v : Value} {a : Addr} (h : a.block ≠ B) (c : w.cell? a = some v) : (((w.setCell ⟨B, 0, none⟩ x).setCell ⟨B, 1, none⟩ y).setCell ⟨B, 2, none⟩ z).cell? a = some v := by
  rw [World.cell?_setCell_other (h := by intro k; exact h (by rw [← k])), World.cell?_setCell_other (h := by intro k; exact h (by rw [← k])), World.cell?_setCell_other (h := by intro k; exact h (by rw [← k]))]
  exact c

theorem DD.away3 {w : World} {B : Nat} {l h x : Int} {s : ByteArray} {k : Int} (C : DD w B l h x s k) {b : Nat} (hb : B ≠ b) {x0 x1 x2 : Value} : DD (((w.setCell ⟨b, 0, none⟩ x0).setCell ⟨b, 1, none⟩ x1).setCell ⟨b, 2, none⟩ x2) B l h x s k :=
  ⟨Coder.away3 hb C.c0, Coder.away3 hb C.c1, Coder.away3 hb C.c2, Coder.away3 hb C.c3, Coder.away3 hb C.c4, by simp [C.f0], by simp [C.f1], by simp [C.f2], by simp [C.f3], by simp [C.f4]⟩

theorem min3 (x y z k : Nat) (h1 : k ≤ x) (h2 : k ≤ y) (h3 : k ≤ z) (h : k = x ∨ k = y ∨ k = z) (ts : Array TypeId) (t : TypeId) (w : World) :
    (Builtin.min_ ts t #[.int .i64 (x : Int), .int .i64 (y : Int), .int .i64 (z : Int)]).run Try.prog w = .ok (.int .i64 (k : Int)) w := by
  rw [run_min_int3]
  have e : (if (z : Int) < (if (y : Int) < (x : Int) then (y : Int) else (x : Int)) then (z : Int) else (if (y : Int) < (x : Int) then (y : Int) else (x : Int))) = (k : Int) := by
    split <;> split <;> omega
  rw [e]

end Go.Proofs.Ytckhehiaoodkoaa.Coder
