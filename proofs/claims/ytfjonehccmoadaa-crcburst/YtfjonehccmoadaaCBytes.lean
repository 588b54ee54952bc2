/-
  Plain facts on a row of bytes in memory: what it holds, a byte that is stored, the text that it is read as. No condition.
-/
import Derived.Test.YtfjonehccmoadaaCAwake
import Derived.Laws.IdiomStrings
import Derived.Laws.BitsAllLaws
namespace Go.Proofs.Ytfjonehccmoadaa.Crc
open Go.RowKit
set_option linter.unusedVariables false

/-- The block B holds the bytes l, from its first cell on, and none of their cells is frozen. -/
def Holds (w : World) (B : Nat) (l : List UInt8) : Prop :=
  ∀ i (h : i < l.length), w.cell? ⟨B, i, none⟩ = some (.int .u8 ((l[i].toNat : Nat) : Int)) ∧ w.frozen? ⟨B, i, none⟩ = false

theorem Holds.drew {w : World} {B : Nat} {l : List UInt8} (h : Holds w B l) : Holds w.drew B l := h
theorem Holds.drewN {w : World} {B : Nat} {l : List UInt8} (h : Holds w B l) (n : Nat) : Holds (w.drewN n) B l := h

theorem Holds.set {w : World} {B : Nat} {l : List UInt8} (h : Holds w B l) (i : Nat) (hi : i < l.length) (v : UInt8) : Holds (w.setCell ⟨B, i, none⟩ (.int .u8 ((v.toNat : Nat) : Int))) B (l.set i v) := by
  intro j hj
  have hj' : j < l.length := by simpa using hj
  refine ⟨?_, by rw [World.frozen?_setCell]; exact (h j hj').2⟩
  by_cases e : i = j
  · subst e
    rw [World.cell?_setCell_same (h := (h i hi).1)]
    simp
  · rw [World.cell?_setCell_other (h := by intro k; injection k with _ k2 _; exact e k2)]
    rw [(h j hj').1]
    simp [List.getElem_set_ne e]

theorem Holds.str {w : World} {B : Nat} {l : List UInt8} (h : Holds w B l) (cap n : Nat) (hn : n = l.length) :
    (convert 28 9 (.slice (some ⟨B, 0, none⟩) n cap)).run Try.prog w = .ok (.string ⟨l.toArray⟩) w := by
  subst hn
  exact run_convert_bytes_back (P := Try.prog) w 28 9 5 ⟨B, 0, none⟩ cap l Try.underlying28 Try.underlying5 Try.underlying9 (fun j hj => by
    have hplain : (⟨B, 0, none⟩ : Addr).add j = ⟨B, j, none⟩ := by unfold Addr.add; split <;> simp_all
    rw [hplain]; exact (h j hj).1)

/-- What '[]byte(s)' lays. -/
theorem holds_bytes (s : ByteArray) (w : World) (B cap : Nat) (hB : B = w.heap.size) (t : TypeId) : Holds (w.alloc (.cells (bytesRow s cap) t ((bytesRow s cap).size, (bytesRow s cap).size + 1))) B s.data.toList := by
  subst hB
  intro i hi
  have hi' : i < s.data.size := by simpa using hi
  refine ⟨?_, ?_⟩
  · rw [World.cell?_alloc_mark, bytesRow_at s cap i hi']
    simp
  · rw [World.frozen?_alloc_mark]
    have : i < (bytesRow s cap).size := by
      have := bytesRow_at s cap i hi'
      exact (Array.getElem?_eq_some_iff.1 this).1
    simp; omega

end Go.Proofs.Ytfjonehccmoadaa.Crc
