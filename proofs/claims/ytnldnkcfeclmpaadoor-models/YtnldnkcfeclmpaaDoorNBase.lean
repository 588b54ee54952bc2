/-
  Words shared by the texts of layer 9: two arrays in new blocks behind a call. No condition.
-/
import Derived.Test.YtnldnkcfeclmpaaDoorMForms
namespace Go.Proofs.YtnldnkcfeclmpaaDoor.Mix
open Go.RowKit Go.Proofs.YtnldnkcfeclmpaaDoor.Num Go.Proofs.YtnldnkcfeclmpaaDoor.Str
set_option linter.unusedVariables false

/-- Two arrays in the first two new blocks stand behind a call. -/
theorem box2 {w w' : World} {a b c x y z : Value} {t : TypeId} (o : Onto ((w.alloc (.cells #[a, b, c] t)).alloc (.cells #[x, y, z] t)) w') :
    (w'.cell? ⟨w.heap.size, 0, none⟩ = some a ∧ w'.cell? ⟨w.heap.size, 1, none⟩ = some b ∧ w'.cell? ⟨w.heap.size, 2, none⟩ = some c) ∧
    (w'.cell? ⟨w.heap.size + 1, 0, none⟩ = some x ∧ w'.cell? ⟨w.heap.size + 1, 1, none⟩ = some y ∧ w'.cell? ⟨w.heap.size + 1, 2, none⟩ = some z) := by
  have h := made3 (w.alloc (.cells #[a, b, c] t)) x y z t
  rw [size_alloc] at h
  exact ⟨keep3 (((Onto.refl (w.alloc (.cells #[a, b, c] t))).alloc #[x, y, z] t).trans o) (made3 w a b c t), keep3 o h⟩

end Go.Proofs.YtnldnkcfeclmpaaDoor.Mix
