/-
  The statements' own check awake answers true, where the program's Parse and Build keep their contracts. Condition: they do.
-/
import Derived.Test.YthbjjjpleongbaaWvWav
namespace Go.Proofs.Ythbjjjpleongbaa.Wav
open Go.RowKit Go.Sort Go.Proofs.Ythbjjjpleongbaa.Mod Go.Proofs.Ythbjjjpleongbaa.Num Go.Proofs.Ythbjjjpleongbaa.Chk
set_option linter.unusedVariables false
set_option linter.unusedSimpArgs false

/-- What the program's two calls answer. -/
structure ProgW : Prop where
  parse : ∀ (s : ByteArray) (L : List UInt8), s.data.toList = L → s.size ≤ maxLen → ∀ w, Calls Try.prog 8 #[.string s] w fun e w' => e = .returned (.tuple #[wvl (ansW (parse L)), .int .i64 (errW (parse L))]) ∧ Bel w w'
  build : ∀ x : Wv, x.2.2.1.length ≤ 140737488351232 → x.2.2.2.1.length ≤ 140737488351232 → x.2.2.2.2.length ≤ 140737488351232 → ∀ w, Calls Try.prog 10 #[wvl x] w fun e w' => e = .returned (.tuple #[.string (tx (ansB (build x))), .int .i64 (errB (build x))]) ∧ Bel w w'

theorem num_ok (n : Int) (w : World) : Calls Try.prog 12 #[.int .i64 n] w fun e w' => e = .returned (.int .i64 n) ∧ w' = w := by
  go_enter Try.func12, Try.ntmps12
  go_wp2
  go_ret
  exact ⟨rfl, rfl⟩

def D8 : List UInt8 := [97, 98, 99, 100, 101, 102, 103, 104]
def H8 : List UInt8 := (fil_2_16 D8).take 44
def T8 : List UInt8 := (fil_2_16 D8).drop 52
theorem parse_8 : parse (fil_2_16 D8) = some (2, 16, H8, D8, T8) := by kernel_rfl
theorem parse_x : parse [120] = none := by kernel_rfl

set_option maxRecDepth 8000 in
set_option maxHeartbeats 4000000 in
theorem awake_ok (P : ProgW) (w : World) : Calls Try.prog 13 #[] w fun e w' => e = .returned (.bool true) ∧ Bel w w' := by
  have HA := parse_all parse_8
  have PB := build_parse parse_8
  have PN : build (2, 8, H8, D8, T8) = none := by
    unfold build
    rw [if_neg]
    show parse (H8 ++ (D8 ++ T8)) ≠ _
    rw [show H8 ++ (D8 ++ T8) = fil_2_16 D8 from HA, parse_8]
    intro q
    injection q with q
    injection q with _ q
    injection q with q _
    cases q
  have W : Hid (∀ w, Calls Try.prog 14 #[.agg #[.int .i64 2, .int .i64 16], .string (tx D8)] w fun e w' => e = .returned (.string (tx (fil_2_16 D8))) ∧ Bel w w') := wav_2_16 D8 (by decide)
  have Q1 : Hid (∀ w, Calls Try.prog 8 #[.string (tx (fil_2_16 D8))] w fun e w' => e = .returned (.tuple #[.agg #[.int .i64 2, .int .i64 16, .string (tx H8), .string (tx D8), .string (tx T8)], .int .i64 0]) ∧ Bel w w') := fun w => by
    have := P.parse (tx (fil_2_16 D8)) _ rfl (by unfold maxLen; decide) w
    rw [parse_8] at this
    exact this
  have Q2 : Hid (∀ w, Calls Try.prog 10 #[.agg #[.int .i64 2, .int .i64 16, .string (tx H8), .string (tx D8), .string (tx T8)]] w fun e w' => e = .returned (.tuple #[.string (tx (fil_2_16 D8)), .int .i64 0]) ∧ Bel w w') := fun w => by
    have := P.build (2, 16, H8, D8, T8) (by decide) (by decide) (by decide) w
    rw [PB] at this
    exact this
  have Q3 : Hid (∀ w, Calls Try.prog 8 #[.string ⟨#[120]⟩] w fun e w' => e = .returned (.tuple #[.agg #[.int .i64 0, .int .i64 0, .string ⟨#[]⟩, .string ⟨#[]⟩, .string ⟨#[]⟩], .int .i64 2100]) ∧ Bel w w') := fun w => by
    have := P.parse ⟨#[120]⟩ [120] rfl (by unfold maxLen; decide) w
    rw [parse_x] at this
    exact this
  have Q4 : Hid (∀ w, Calls Try.prog 10 #[.agg #[.int .i64 2, .int .i64 8, .string (tx H8), .string (tx D8), .string (tx T8)]] w fun e w' => e = .returned (.tuple #[.string ⟨#[]⟩, .int .i64 2100]) ∧ Bel w w') := fun w => by
    have := P.build (2, 8, H8, D8, T8) (by decide) (by decide) (by decide) w
    rw [PN] at this
    exact this
  have e1 := tx_cat H8 D8
  have e2 : tx (H8 ++ D8) ++ tx T8 = tx (fil_2_16 D8) := by rw [tx_cat, List.append_assoc]; exact congrArg tx HA
  have z1 := tx_size H8
  have z2 := tx_size D8
  have z3 := tx_size T8
  have z4 := tx_size (H8 ++ D8)
  have l1 : H8.length = 44 := by kernel_rfl
  have l2 : D8.length = 8 := rfl
  have l3 : T8.length = 12 := by kernel_rfl
  have l4 : (H8 ++ D8).length = 52 := by rw [List.length_append, l1, l2]
  have d8 : (D8 == [97, 98, 99, 100, 101, 102, 103, 104]) = true := rfl
  have EF := fun w => eq_fmt 9998 2 16 2 16 w
  clear HA PB PN P
  generalize fil_2_16 D8 = F at *
  generalize H8 = H at *
  generalize T8 = T at *
  go_enter Try.func13, Try.ntmps13
  go_wp2_with fail
  refine (W.out _).mono ?_
  rintro e w1 ⟨rfl, b1⟩
  have B1 : Hid (Bel w w1) := ((Bel.refl _).alloc _).trans b1
  have hF := b1
  have F1 : Hid (w1.cell? ⟨w.heap.size, 0, none⟩ = some (.int .i64 2) ∧ w1.cell? ⟨w.heap.size, 1, none⟩ = some (.int .i64 16)) := ⟨b1.keep (by go_simp), b1.keep (by go_simp)⟩
  clear b1 hF
  obtain ⟨g1, hg1⟩ : ∃ g, w.heap.size = g := ⟨_, rfl⟩
  rw [hg1] at F1
  rw [hg1]
  clear hg1
  go_wp2_with fail
  refine (Q1.out _).mono ?_
  rintro e w2 ⟨rfl, b2⟩
  have B2 : Hid (Bel w w2) := B1.out.trans b2
  have F2 : Hid (w2.cell? ⟨g1, 0, none⟩ = some (.int .i64 2) ∧ w2.cell? ⟨g1, 1, none⟩ = some (.int .i64 16)) := ⟨b2.keep F1.out.1, b2.keep F1.out.2⟩
  have X2 : Hid (BoxV (w2.alloc (.cells #[.int .i64 2, .int .i64 16, .string (tx H), .string (tx D8), .string (tx T)] 25)) w2.heap.size (2, 16, H, D8, T)) := boxV_new w2 (2, 16, H, D8, T)
  clear b2 F1
  go_wp2_with fail
  refine (Q2.out _).mono ?_
  rintro e w3 ⟨rfl, b3⟩
  have B3 : Hid (Bel w w3) := (B2.out.alloc _).trans b3
  have F3 : Hid (w3.cell? ⟨g1, 0, none⟩ = some (.int .i64 2) ∧ w3.cell? ⟨g1, 1, none⟩ = some (.int .i64 16)) := by
    have bb := ((Bel.refl w2).alloc _).trans b3
    exact ⟨bb.keep F2.out.1, bb.keep F2.out.2⟩
  have X3 : Hid (BoxV w3 w2.heap.size (2, 16, H, D8, T)) := X2.out.bel b3
  clear b3 F2 X2
  obtain ⟨g3, hg3⟩ : ∃ g, w2.heap.size = g := ⟨_, rfl⟩
  rw [hg3] at X3
  rw [hg3]
  clear hg3
  go_wp2_with fail
  refine (Q3.out _).mono ?_
  rintro e w4 ⟨rfl, b4⟩
  have B4 : Hid (Bel w w4) := B3.out.trans b4
  have F4 : Hid (w4.cell? ⟨g1, 0, none⟩ = some (.int .i64 2) ∧ w4.cell? ⟨g1, 1, none⟩ = some (.int .i64 16)) := ⟨b4.keep F3.out.1, b4.keep F3.out.2⟩
  have X4 : Hid (BoxV w4 g3 (2, 16, H, D8, T)) := X3.out.bel b4
  obtain ⟨⟨c0, c1, c2, c3, c4⟩, _⟩ := (X3.out.bel b4).bel ((Bel.refl w4).alloc (.cells #[.int .i64 0, .int .i64 0, .string ⟨#[]⟩, .string ⟨#[]⟩, .string ⟨#[]⟩] 25))
  simp only at c0 c1 c2 c3 c4
  clear b4 F3 X3
  go_wp2_with fail
  refine (Q4.out _).mono ?_
  rintro e w5 ⟨rfl, b5⟩
  have bb : Bel w4 w5 := Bel.trans (((Bel.refl w4).alloc _).alloc _) b5
  have B5 : Hid (Bel w w5) := B4.out.trans bb
  clear c0 c1 c2 c3 c4 b5
  have r0 := bb.keep F4.out.1
  have r1 := bb.keep F4.out.2
  obtain ⟨⟨c0, c1, c2, c3, c4⟩, _⟩ := X4.out.bel bb
  simp only at c0 c1 c2 c3 c4
  have fF : (F == F) = true := beq_self_eq_true F
  clear bb F4 X4
  go_wp2
  go_ret
  exact ⟨rfl, B5.out⟩

end Go.Proofs.Ythbjjjpleongbaa.Wav
