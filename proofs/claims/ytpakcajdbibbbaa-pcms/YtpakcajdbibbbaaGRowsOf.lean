/-
  Rows of rows of ints as the frame hands them. No condition but the reach.
-/
import Derived.Test.YtpakcajdbibbbaaGList
import Derived.Test.YtpakcajdbibbbaaRows
import Derived.ProofKit
import Derived.SizedLaws
import Derived.Deep.Matrix
namespace Go.Proofs.Ytpakcajdbibbbaa.Mod
open Go.RowKit Go.ChangeShapes Go.WideShapes Go.Deep
set_option linter.unusedVariables false

theorem bytes_row : Try.prog.bytesOf 44 = 24 := by kernel_rfl
theorem bytes_int : Try.prog.bytesOf 3 = 8 := by kernel_rfl

theorem weights_in {H : Type} {P : Program} {t e : TypeId} {elems spare : List (DataW H)} (hu : P.underlying t = some (.slice e)) {d : DataW H} (hd : d ∈ elems) : ∀ n ∈ d.weights P e, n ∈ (DataW.slice elems spare).weights P t := fun n hn => by
  have : n ∈ DataW.weightsAll P e elems := by
    induction elems with
    | nil => cases hd
    | cons x r ih =>
      simp only [DataW.weightsAll, List.mem_append]
      rcases List.mem_cons.1 hd with rfl | h
      · exact .inl hn
      · exact .inr (ih h)
  simp [DataW.weights, hu, this]

theorem open_rows {H : Type} {enc : TypeId × Value → H} {W : World} {base : Nat} {held : Bool} {fuel : Nat} {a : Option Addr} {len cap : Nat} {x : DataW H × List MemPlace}
    (h : DataW.trod enc Try.prog W base (fun _ => true) held fuel 22 [.slice a len cap] = some x) (hw : ∀ n ∈ x.1.weights Try.prog 22, n ≤ 140737488351232) :
    ∃ Ls : List (List Int), len = Ls.length ∧ len * 24 ≤ 140737488351232 ∧ Lls W a Ls := by
  rcases open_int_rows Try.underlying22 Try.underlying44 Try.underlying3 (by kernel_rfl) (by kernel_rfl) h with ⟨hcs, _⟩ | ⟨b, l, c, A, L, C, Z, hcs, _, hl, hm, rfl, hrows⟩
  · simp at hcs
    obtain ⟨rfl, rfl, rfl⟩ := hcs
    exact ⟨[], rfl, by decide, lls_nil _ _⟩
  · simp at hcs
    obtain ⟨rfl, rfl, rfl⟩ := hcs
    have h24 := hw ((len + (cap - len)) * 24) (by
      rw [← bytes_row]
      simp [DataW.weights, Try.underlying22])
    have hin : ∀ r, r < len → C r * 8 ≤ 140737488351232 := fun r hr => by
      obtain ⟨_, r1, r2, r3, _, r5, _⟩ := hrows r (by omega)
      cases hA : A r with
      | none => have := r5 hA; omega
      | some y =>
        refine hw _ (weights_in Try.underlying22 (List.mem_map.2 ⟨r, List.mem_range.2 hr, rfl⟩) _ ?_)
        rw [← bytes_int]
        simp [intRow, hA, DataW.weights, Try.underlying44, lits, r3]
        left
        rw [show min (L r) (C r) + (C r - L r) = C r by omega]
    have hget : ∀ k, k < len → ((List.range len).map fun r => (Z r).take (L r)).getD k [] = (Z k).take (L k) := fun k hk => by
      rw [List.getD_eq_getElem?_getD, List.getElem?_map, List.getElem?_range hk]; rfl
    refine ⟨(List.range len).map fun r => (Z r).take (L r), by simp, by omega, fun k hk => ⟨b, rfl, ?_⟩⟩
    have hk' : k < len := by simpa using hk
    obtain ⟨r0, r1, r2, r3, _, r5, r6⟩ := hrows k (by omega)
    have hlk : ((Z k).take (L k)).length = L k := by simp; omega
    rw [hget k hk']
    refine ⟨A k, C k, by rw [hlk]; exact r0, by rw [hlk]; have := hin k hk'; omega, r5, fun i hi => ?_⟩
    rw [hlk] at hi
    cases hA : A k with
    | none => have := r5 hA; omega
    | some y =>
      refine ⟨y, rfl, ?_⟩
      rw [(r6 y hA).2 i (by omega)]
      simp [List.getD_eq_getElem?_getD, hi]

end Go.Proofs.Ytpakcajdbibbbaa.Mod
