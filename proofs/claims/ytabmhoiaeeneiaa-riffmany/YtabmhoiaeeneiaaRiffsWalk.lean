/-
  Riffs answers true. Condition: the text's length is an int.
-/
import Derived.Test.YtabmhoiaeeneiaaRcAwake
import Derived.Test.YtabmhoiaeeneiaaRcSpoil
namespace Go.Proofs.Ytabmhoiaeeneiaa.Chk
open Go.RowKit Go.Sort Go.Proofs.Ytabmhoiaeeneiaa.Mod Go.Proofs.Ytabmhoiaeeneiaa.Num
set_option linter.unusedVariables false
set_option linter.unusedSimpArgs false

theorem ans_len (L : List UInt8) : (ansR (chunks L)).length ≤ 64 := by
  cases h : chunks L with
  | none => exact Nat.zero_le _
  | some cs => exact (chunks_chain h).2.2

/-- riff.Chunks, as the walks take it. -/
theorem chunks_c (s : ByteArray) (L : List UInt8) (hs : s.data.toList = L) (hx : s.size ≤ maxLen) (w : World) :
    Calls Try.prog 8 #[.string s] w fun e w' => (∃ ao cap, e = .returned (.tuple #[.slice ao (ansR (chunks L)).length cap, .int .i64 (errR (chunks L))]) ∧ OwnC w' w.heap.size w'.heap.size (.slice ao (ansR (chunks L)).length cap) (ansR (chunks L))) ∧ Bel w w' := by
  refine (chunks_ok s L hs hx w).mono ?_
  rintro e w' ⟨⟨v, rfl, ho⟩, b⟩
  have hc := own_c ho
  obtain ⟨ao, cap, rfl, _⟩ := own_c ho
  exact ⟨⟨ao, cap, rfl, hc⟩, b⟩
theorem ref_c (s : ByteArray) (L : List UInt8) (hs : s.data.toList = L) (hx : s.size ≤ maxLen) (w : World) :
    Calls Try.prog 9 #[.string s] w fun e w' => (∃ ao cap, e = .returned (.tuple #[.slice ao (ansR (chunks L)).length cap, .int .i64 (errR (chunks L))]) ∧ OwnC w' w.heap.size w'.heap.size (.slice ao (ansR (chunks L)).length cap) (ansR (chunks L))) ∧ Bel w w' := by
  refine (ref_ok s L hs hx w).mono ?_
  rintro e w' ⟨⟨v, rfl, ho⟩, b⟩
  have hc := own_c ho
  obtain ⟨ao, cap, rfl, _⟩ := own_c ho
  exact ⟨⟨ao, cap, rfl, hc⟩, b⟩
theorem OwnC.slk {w : World} {lo hi n cap : Nat} {ao : Option Addr} {Cs : List Ch} (h : OwnC w lo hi (.slice ao n cap) Cs) : Slk w ao Cs := by
  obtain ⟨ao', cap', e, hs, _⟩ := h
  injection e with e1 _ _
  rw [e1]
  exact hs

set_option maxHeartbeats 1000000 in
theorem riffs_walk (s : ByteArray) (hx : s.size ≤ maxLen) (w : World) :
    Calls Try.prog 3 #[.string s] w fun e w' => e = .returned (.bool true) ∧ Bel w w' := by
  have C1 : Hid (∀ w, Calls Try.prog 8 #[.string s] w fun e w' => (∃ ao cap, e = .returned (.tuple #[.slice ao (ansR (chunks s.data.toList)).length cap, .int .i64 (errR (chunks s.data.toList))]) ∧ OwnC w' w.heap.size w'.heap.size (.slice ao (ansR (chunks s.data.toList)).length cap) (ansR (chunks s.data.toList))) ∧ Bel w w') := fun w => chunks_c s _ rfl hx w
  have C2 : Hid (∀ w, Calls Try.prog 9 #[.string s] w fun e w' => (∃ ao cap, e = .returned (.tuple #[.slice ao (ansR (chunks s.data.toList)).length cap, .int .i64 (errR (chunks s.data.toList))]) ∧ OwnC w' w.heap.size w'.heap.size (.slice ao (ansR (chunks s.data.toList)).length cap) (ansR (chunks s.data.toList))) ∧ Bel w w') := fun w => ref_c s _ rfl hx w
  have N : Hid ((ansR (chunks s.data.toList)).length ≤ 64) := ans_len _
  unfold maxLen at hx
  obtain ⟨n, hn⟩ : ∃ n, (ansR (chunks s.data.toList)).length = n := ⟨_, rfl⟩
  rw [hn] at C1 C2 N
  generalize ansR (chunks s.data.toList) = A at *
  generalize errR (chunks s.data.toList) = x at *
  have HN : Hid (A.length = n) := hn
  clear hn
  go_enter Try.func3, Try.ntmps3
  go_wp2_with fail
  refine (C1.out _).mono ?_
  rintro e w1 ⟨⟨ao, cap, rfl, o1⟩, b1⟩
  have B1 : Hid (Bel w w1) := b1
  have O1 : Hid (OwnC w1 w.heap.size w1.heap.size (.slice ao n cap) A) := o1
  clear o1 b1
  go_wp2_with fail
  refine (C2.out _).mono ?_
  rintro e w2 ⟨⟨bo, cap2, rfl, o2⟩, b2⟩
  have B2 : Hid (Bel w w2) := B1.out.trans b2
  have O2 : Hid (OwnC w2 w.heap.size w1.heap.size (.slice ao n cap) A) := O1.out.bel b2
  have P2 : Hid (OwnC w2 w1.heap.size w2.heap.size (.slice bo n cap2) A) := o2
  clear o2 b2 O1
  go_wp2_with fail
  refine (same_ok ao bo A A n n cap cap2 HN.out.symm HN.out.symm (by have := N.out; unfold maxLen; omega) (by have := N.out; unfold maxLen; omega) _ O2.out.slk P2.out.slk).mono ?_
  rw [decide_eq_true (show A = A from rfl)]
  rintro e w3 ⟨rfl, nq, rfl⟩
  go_wp2_with fail
  refine (num_ok x _).mono ?_
  rintro e w4 ⟨rfl, rfl⟩
  go_wp2_with fail
  refine (spoil_ok (.slice ao n cap) A w.heap.size w1.heap.size (by have := N.out; have := HN.out; omega) _ (O2.out.bel ((Bel.refl _).drewN nq))).mono ?_
  rintro e w4 ⟨rfl, x4⟩
  have B4 : Hid (Bel w w4) := x4.from (B2.out.drewN nq) (fun i hi => hi.1)
  clear x4
  go_wp2_with fail
  refine (awake_ok _).mono ?_
  rintro e w5 ⟨rfl, b5⟩
  go_wp2
  go_ret
  exact ⟨rfl, B4.out.trans b5⟩

end Go.Proofs.Ytabmhoiaeeneiaa.Chk
