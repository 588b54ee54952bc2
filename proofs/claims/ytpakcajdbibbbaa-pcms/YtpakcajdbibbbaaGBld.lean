/-
  The contracts of a strings.Builder that a call has made itself: WriteString (and what it asks first), String. Conditions: the builder's new length is at most 2^47.
-/
import Derived.Test.YtpakcajdbibbbaaGRow
import Derived.Test.YtpakcajdbibbbaaRows
import Derived.Shelf.Strings.Builder1
import Derived.ProofKit
import Derived.WalkSpells
import Derived.WalkLawsBesides
namespace Go.Proofs.Ytpakcajdbibbbaa.Bld
open Go.RowKit Go.Shelf Go.Proofs.Ytpakcajdbibbbaa.Mod
set_option linter.unusedVariables false
set_option linter.unusedSimpArgs false

/-- The library's numbers at this seat. -/
def ren : Ren := ⟨fun | 169 => 28 | n => n, fun | 70 => 58 | 72 => 60 | 37 => 43 | 127 => 72 | n => n, fun n => n⟩

theorem lays : Lays.n169 Try.prog ren where
  mixed := by kernel_rfl
  f169 := Try.func28.trans (congrArg some (by kernel_rfl))
  t0 := Try.underlying0
  a0 := Try.isAgg0
  z0 := Try.sizeOf0
  v0 := Try.zeroValue0
  t3 := Try.underlying3
  a3 := Try.isAgg3
  z3 := Try.sizeOf3
  v3 := Try.zeroValue3
  t9 := Try.underlying9
  a9 := Try.isAgg9
  z9 := Try.sizeOf9
  v9 := Try.zeroValue9
  t37 := Try.underlying43
  a37 := Try.isAgg43
  z37 := Try.sizeOf43
  v37 := Try.zeroValue43
  t70 := Try.underlying58
  a70 := Try.isAgg58
  z70 := Try.sizeOf58
  v70 := Try.zeroValue58
  t72 := Try.underlying60
  a72 := Try.isAgg60
  z72 := Try.sizeOf60
  v72 := Try.zeroValue60
  t127 := Try.underlying72
  a127 := Try.isAgg72
  z127 := Try.sizeOf72
  v127 := Try.zeroValue72

theorem extra : Builder.Extra Try.prog ren where
  sizeBuilder := by kernel_rfl
  liesBuilder := by kernel_rfl
  t5 := Try.underlying5
  a5 := Try.isAgg5
  z5 := Try.sizeOf5
  v5 := Try.zeroValue5
  infoByte := by kernel_rfl
  cellsByte := by kernel_rfl
  sizeByte := by kernel_rfl
  neB5 := by decide

/-- A builder of the call's own, from block B on, that holds the bytes l. -/
abbrev Is (B b : Nat) (l : List UInt8) (w : World) : Prop := Lib.IsBuilder 60 5 B b (Lib.byteCells l) w
abbrev Used (B b : Nat) (l : List UInt8) (w : World) : Prop := Lib.BuilderAt 60 5 B b (.pointer (some ⟨b, 0, none⟩)) (Lib.byteCells l) w

theorem string_ok (B b : Nat) (l : List UInt8) (w : World) (h : Is B b l w) (hB : B ≤ w.heap.size) :
    Calls Try.prog 28 #[.pointer (some ⟨b, 0, none⟩)] w fun e w' => e = .returned (.string ⟨l.toArray⟩) ∧ Below B w w' :=
  Any.Builder_String_any lays extra B b l w h hB

theorem below_set {B : Nat} {w : World} {a : Addr} (ha : B ≤ a.block) (v : Value) : Below B w (w.setCell a v) := (Below.refl B w).setCell ha v

/-- The builder's address there and back, as copyCheck turns it. -/
theorem there (b : Nat) (w : World) (hs : w.shape? b = some (60, 2)) : (convert 58 74 (.pointer (some ⟨b, 0, none⟩))).run Try.prog w = .ok (.pointer (some ⟨b, 0, none⟩)) w := by
  simp [convert, Conv.unsafePointer, Conv.seenAt, viewAt, cellsIn, run_underlying Try.underlying58, run_underlying Try.underlying74, Try.sizeOf60, hs]
theorem back (b : Nat) (w : World) (hs : w.shape? b = some (60, 2)) : (convert 74 58 (.pointer (some ⟨b, 0, none⟩))).run Try.prog w = .ok (.pointer (some ⟨b, 0, none⟩)) w := by
  have hl : liesAt Try.prog Try.prog.depth 60 (2 / Try.prog.cellsOf 60) 0 60 1 = true := extra.liesBuilder
  simp [convert, Conv.unsafePointer, Conv.seenAt, viewAt, variablesAt, run_underlying Try.underlying58, run_underlying Try.underlying74, Try.sizeOf60, hs, hl]

set_option maxHeartbeats 1000000 in
theorem check_fresh (b : Nat) (w : World) (h0 : w.cell? ⟨b, 0, none⟩ = some (.pointer none)) (hs : w.shape? b = some (60, 2)) (hf : w.frozen? ⟨b, 0, none⟩ = false) :
    Calls Try.prog 37 #[.pointer (some ⟨b, 0, none⟩)] w fun e w' => e = .returned (.tuple #[]) ∧ w' = w.setCell ⟨b, 0, none⟩ (.pointer (some ⟨b, 0, none⟩)) := by
  have c1 : (convert 58 74 (.pointer (some ⟨b, 0, none⟩))).run Try.prog w = .ok (.pointer (some ⟨b, 0, none⟩)) w := there b w hs
  have c2 : (callFunc 40 #[.pointer (some ⟨b, 0, none⟩)]).run Try.prog w = .ok (.value (.pointer (some ⟨b, 0, none⟩))) w := by
    rw [run_callFunc_extern Try.func40 (by kernel_rfl) (by kernel_rfl) (by kernel_rfl) (e := Extern.AbiNoEscape.same) (by kernel_rfl), Lib.run_noEscape]
    rfl
  have c3 : (convert 74 58 (.pointer (some ⟨b, 0, none⟩))).run Try.prog w = .ok (.pointer (some ⟨b, 0, none⟩)) w := back b w hs
  clear hs
  go_enter Try.func37, Try.ntmps37
  go_wp2
  go_end0
  exact ⟨rfl, rfl⟩

set_option maxHeartbeats 1000000 in
theorem check_used (b : Nat) (w : World) (h0 : w.cell? ⟨b, 0, none⟩ = some (.pointer (some ⟨b, 0, none⟩))) :
    Calls Try.prog 37 #[.pointer (some ⟨b, 0, none⟩)] w fun e w' => e = .returned (.tuple #[]) ∧ w' = w := by
  obtain ⟨j, hj, hjs⟩ := Option.map_eq_some_iff.1 extra.sizeBuilder
  have c1 : (binOp .neq 58 (.pointer (some ⟨b, 0, none⟩)) (.pointer (some ⟨b, 0, none⟩))).run Try.prog w = .ok (.bool false) w := Lib.run_neq_ptr_same w _ Try.underlying58 hj
  clear hj hjs
  go_enter Try.func37, Try.ntmps37
  go_wp2
  go_end0
  exact ⟨rfl, rfl⟩

/-- What WriteString asks first: behind it the builder bears its own address. -/
theorem check_ok (B b : Nat) (l : List UInt8) (w : World) (h : Is B b l w) :
    Calls Try.prog 37 #[.pointer (some ⟨b, 0, none⟩)] w fun e w' => e = .returned (.tuple #[]) ∧ Used B b l w' ∧ Below B w w' := by
  rcases h with h | h
  · refine (check_fresh b w h.cell0 h.shape h.frozen0).mono ?_
    rintro e w' ⟨rfl, rfl⟩
    exact ⟨rfl, h.used _, below_set h.1 _⟩
  · refine (check_used b w h.cell0).mono ?_
    rintro e w' ⟨rfl, rfl⟩
    exact ⟨rfl, h, Below.refl _ _⟩

set_option maxHeartbeats 2000000 in
/-- A text is written behind what the builder holds. -/
theorem write_ok (B b : Nat) (l m : List UInt8) (s : ByteArray) (hs : s.data.toList = m) (w : World) (h : Is B b l w) (h47 : l.length + m.length ≤ 140737488355328) (hB : B ≤ w.heap.size) :
    Calls Try.prog 27 #[.pointer (some ⟨b, 0, none⟩), .string s] w fun e w' => e = .returned (.tuple #[.int .i64 m.length, .nilIface]) ∧ Used B b (l ++ m) w' ∧ Below B w w' := by
  obtain ⟨i0, hi, hz0, hz1, hz2⟩ := info_parts extra.infoByte
  have hm : s.size = m.length := by rw [← hs, Array.length_toList]; rfl
  have C : Hid (Calls Try.prog 37 #[.pointer (some ⟨b, 0, none⟩)] w fun e w' => e = .returned (.tuple #[]) ∧ Used B b l w' ∧ Below B w w') := check_ok B b l w h
  have H47 : Hid (l.length + s.size ≤ 140737488355328 ∧ B ≤ w.heap.size ∧ Lib.strCells s = Lib.byteCells m ∧ s.size = m.length) := ⟨by omega, hB, by rw [Lib.strCells_eq, hs], hm⟩
  rw [← hm]
  clear h h47 hB hs hm
  go_enter Try.func27, Try.ntmps27
  go_wp2_with fail
  refine C.out.mono ?_
  rintro e w1 ⟨rfl, ⟨hb, v, hbk, hown, hne⟩, b1⟩
  have c0 : w1.cell? ⟨b, 0, none⟩ = some (.pointer (some ⟨b, 0, none⟩)) := by rw [Lib.cell_of_heap hbk]; rfl
  have c1 : w1.cell? ⟨b, 1, none⟩ = some v := by rw [Lib.cell_of_heap hbk]; rfl
  have K : Hid (B ≤ b ∧ w1.heap[b]? = some (.cells #[.pointer (some ⟨b, 0, none⟩), v] 60 (0, 0)) ∧ w1.ownsRow B 5 1 v (Lib.byteCells l).length (Lib.byteCells l) ∧ v.ownBlock ≠ some b ∧ Below B w w1) := ⟨hb, hbk, hown, hne, b1⟩
  clear hb hbk hown hne b1 C
  go_wp2_with (at_builtin; refine Lib.wpList_append_own_string _ rfl _ _ 43 9 rfl B 5 i0 Try.underlying43 Try.underlying9 hi hz0 hz1 hz2 _ (Lib.byteCells l).length _ rfl K.out.2.2.1 s rfl (by have := H47.out.1; rw [Lib.byteCells_length]; unfold maxLen; omega) (by have := H47.out.1; rw [Lib.byteCells_length]; omega) (by have := K.out.2.2.2.2.size; have := H47.out.2.1; omega) ?_)
  intro v' w2 hown' hgrow _
  obtain ⟨k1, k2, k3, k4, k5⟩ := K.out
  have hb2 : w2.heap[b]? = some (.cells #[.pointer (some ⟨b, 0, none⟩), v] 60 (0, 0)) := by
    rw [hgrow.block b (Array.getElem?_eq_some_iff.1 k2).1 (fun e => k4 e.symm)]
    exact k2
  have d0 : w2.cell? ⟨b, 0, none⟩ = some (.pointer (some ⟨b, 0, none⟩)) := by rw [Lib.cell_of_heap hb2]; rfl
  have d1 : w2.cell? ⟨b, 1, none⟩ = some v := by rw [Lib.cell_of_heap hb2]; rfl
  have f1 : w2.frozen? ⟨b, 1, none⟩ = false := Lib.frozen_of_heap hb2 1
  obtain ⟨ao, n', cap, rfl⟩ : ∃ ao n' cap, v' = .slice ao n' cap := by
    rcases hown'.2 with ⟨hv, _⟩ | ⟨g, cap, cur, hv, _⟩
    · exact ⟨_, _, _, hv⟩
    · exact ⟨_, _, _, hv⟩
  have FIN : Hid (Used B b (l ++ m) (w2.setCell ⟨b, 1, none⟩ (.slice ao n' cap)) ∧ Below B w (w2.setCell ⟨b, 1, none⟩ (.slice ao n' cap))) := by
    refine ⟨Lib.BuilderAt.put k1 hb2 ?_ (by decide), (k5.grown hgrow (by have := k5.size; have := H47.out.2.1; omega) (fun k hk => (k3.lt k hk).1)).setCell (p := ⟨b, 1, none⟩) k1 _⟩
    have e : Lib.byteCells (l ++ m) = Lib.byteCells l ++ Lib.strCells s := by rw [Lib.byteCells_append, H47.out.2.2.1]
    rw [e, List.length_append, Lib.strCells_length]
    exact hown'
  clear hown' hgrow hb2 k2 k3 k4 k5 c0 c1
  go_wp2
  go_ret2
  exact ⟨rfl, FIN.out⟩

end Go.Proofs.Ytpakcajdbibbbaa.Bld
