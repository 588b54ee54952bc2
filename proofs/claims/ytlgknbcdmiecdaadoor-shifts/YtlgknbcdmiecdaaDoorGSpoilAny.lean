/-
  SpoilInts on a row that is nil or lies at a block's beginning: that block alone is written. Conditions: the row is there and may be written.
-/
import Derived.Test.YtlgknbcdmiecdaaDoorGSpoil
namespace Go.Proofs.YtlgknbcdmiecdaaDoor.Ints
open Go.RowKit Go.Proofs.YtlgknbcdmiecdaaDoor.Mod
set_option linter.unusedVariables false

theorem spoil_any (bo : Option Addr) (L : List Int) (n c : Nat) (hn : n = L.length) (hx : n ≤ maxLen) (w : World) (h : (bo = none ∧ n = 0 ∧ c = 0) ∨ ∃ g, bo = some ⟨g, 0, none⟩ ∧ Holds w g L) :
    Calls Tryd.prog 18 #[.slice bo n c] w fun e w' => e = .returned (.tuple #[]) ∧ Exc (fun k => bo = some ⟨k, 0, none⟩) w w' := by
  rcases h with ⟨rfl, rfl, rfl⟩ | ⟨g, rfl, hH⟩
  · refine (spoil_nil w).mono ?_
    rintro e w' ⟨rfl, rfl⟩
    exact ⟨rfl, Exc.refl _ _⟩
  · refine (spoil_exc L n g c hn hx w hH).mono ?_
    rintro e w' ⟨rfl, hE⟩
    exact ⟨rfl, hE.mono fun i _ hi => by rw [hi]⟩

end Go.Proofs.YtlgknbcdmiecdaaDoor.Ints
