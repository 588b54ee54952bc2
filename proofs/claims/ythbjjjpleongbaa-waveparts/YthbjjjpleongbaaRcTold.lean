/-
  The contracts of Chunks, the program's and the reference's, as other walks take them. Condition: the text's length is an int.
-/
import Derived.Test.YthbjjjpleongbaaRcRef
namespace Go.Proofs.Ythbjjjpleongbaa.Chk
open Go.RowKit Go.Sort Go.Proofs.Ythbjjjpleongbaa.Mod Go.Proofs.Ythbjjjpleongbaa.Num
set_option linter.unusedVariables false
set_option linter.unusedSimpArgs false

theorem ans_len (L : List UInt8) : (ansR (chunks L)).length ≤ 64 := by
  cases h : chunks L with
  | none => exact Nat.zero_le _
  | some cs => exact (chunks_chain h).2.2

/-- riff.Chunks, as the walks take it. -/
theorem chunks_c (s : ByteArray) (L : List UInt8) (hs : s.data.toList = L) (hx : s.size ≤ maxLen) (w : World) :
    Calls Try.prog 17 #[.string s] w fun e w' => (∃ ao cap, e = .returned (.tuple #[.slice ao (ansR (chunks L)).length cap, .int .i64 (errR (chunks L))]) ∧ OwnC w' w.heap.size w'.heap.size (.slice ao (ansR (chunks L)).length cap) (ansR (chunks L))) ∧ Bel w w' := by
  refine (chunks_ok s L hs hx w).mono ?_
  rintro e w' ⟨⟨v, rfl, ho⟩, b⟩
  have hc := own_c ho
  obtain ⟨ao, cap, rfl, _⟩ := own_c ho
  exact ⟨⟨ao, cap, rfl, hc⟩, b⟩
theorem ref_c (s : ByteArray) (L : List UInt8) (hs : s.data.toList = L) (hx : s.size ≤ maxLen) (w : World) :
    Calls Try.prog 15 #[.string s] w fun e w' => (∃ ao cap, e = .returned (.tuple #[.slice ao (ansR (chunks L)).length cap, .int .i64 (errR (chunks L))]) ∧ OwnC w' w.heap.size w'.heap.size (.slice ao (ansR (chunks L)).length cap) (ansR (chunks L))) ∧ Bel w w' := by
  refine (ref_ok s L hs hx w).mono ?_
  rintro e w' ⟨⟨v, rfl, ho⟩, b⟩
  have hc := own_c ho
  obtain ⟨ao, cap, rfl, _⟩ := own_c ho
  exact ⟨⟨ao, cap, rfl, hc⟩, b⟩
theorem OwnC.slk {w : World} {lo hi n cap : Nat} {ao : Option Addr} {Cs : List Ch} (h : OwnC w lo hi (.slice ao n cap) Cs) : Slk w ao Cs := by
  obtain ⟨ao', cap', e, hs, _⟩ := h
  injection e with e1 _ _
  rw [e1]
  exact hs

theorem Slk.exc {S : Nat → Prop} {w w' : World} {ao : Option Addr} {Cs : List Ch} (h : Slk w ao Cs) (e : Exc S w w') (hS : ∀ g, ao = some ⟨g, 0, none⟩ → ¬ S g) : Slk w' ao Cs := fun k hk => by
  obtain ⟨g, hg, c0, c1, c2⟩ := h k hk
  exact ⟨g, hg, e.keep c0 (hS g hg), e.keep c1 (hS g hg), e.keep c2 (hS g hg)⟩
theorem own_cap {w : World} {B n cap : Nat} {ao : Option Addr} {Cs : List Ch} (h : OwnR w B (.slice ao n cap) n Cs) : n ≤ cap := by
  rcases h.2 with ⟨_, h0⟩ | ⟨g, c, cur, e, _, _, hc, _⟩
  · omega
  · injection e with _ _ e3
    omega
/-- riff.Chunks, with the room that there is. -/
theorem chunks_k (s : ByteArray) (L : List UInt8) (hs : s.data.toList = L) (hx : s.size ≤ maxLen) (R : Option (List Ch)) (hR : chunks L = R) (w : World) :
    Calls Try.prog 17 #[.string s] w fun e w' => (∃ ao cap, e = .returned (.tuple #[.slice ao (ansR R).length cap, .int .i64 (errR R)]) ∧ (ansR R).length ≤ cap ∧ Slk w' ao (ansR R)) ∧ Bel w w' := by
  subst hR
  refine (chunks_ok s L hs hx w).mono ?_
  rintro e w' ⟨⟨v, rfl, ho⟩, b⟩
  obtain ⟨ao, cap, rfl, hs2, _⟩ := own_c ho
  exact ⟨⟨ao, cap, rfl, own_cap ho, hs2⟩, b⟩

theorem ref_k (s : ByteArray) (L : List UInt8) (hs : s.data.toList = L) (hx : s.size ≤ maxLen) (R : Option (List Ch)) (hR : chunks L = R) (w : World) :
    Calls Try.prog 15 #[.string s] w fun e w' => (∃ ao cap, e = .returned (.tuple #[.slice ao (ansR R).length cap, .int .i64 (errR R)]) ∧ (ansR R).length ≤ cap ∧ Slk w' ao (ansR R)) ∧ Bel w w' := by
  subst hR
  refine (ref_ok s L hs hx w).mono ?_
  rintro e w' ⟨⟨v, rfl, ho⟩, b⟩
  obtain ⟨ao, cap, rfl, hs2, _⟩ := own_c ho
  exact ⟨⟨ao, cap, rfl, own_cap ho, hs2⟩, b⟩

end Go.Proofs.Ythbjjjpleongbaa.Chk
