/-
  The contract of the program's wave.Parse. Condition: the text's length is an int.
-/
import Derived.Test.YthbjjjpleongbaaWvOnly
import Derived.Test.YthbjjjpleongbaaWvFmt
import Derived.Deep.RegionHeld3
namespace Go.Proofs.Ythbjjjpleongbaa.Wav
open Go.RowKit Go.Sort Go.Proofs.Ythbjjjpleongbaa.Mod Go.Proofs.Ythbjjjpleongbaa.Num Go.Proofs.Ythbjjjpleongbaa.Chk
open Go.Proofs.Ythbjjjpleongbaa.Pcm (okF fC fQ okF_yes okF_nat fmt may_ok rmay_ok rframe_ok)
set_option linter.unusedVariables false
set_option linter.unusedSimpArgs false

theorem set5_far {g h j : Nat} {x : Value} (hne : g ≠ h) (V : World) (v0 v1 v2 v3 v4 : Value) (c : V.cell? ⟨h, j, none⟩ = some x) : (((((V.setCell ⟨g, 0, none⟩ v0).setCell ⟨g, 1, none⟩ v1).setCell ⟨g, 2, none⟩ v2).setCell ⟨g, 3, none⟩ v3).setCell ⟨g, 4, none⟩ v4).cell? ⟨h, j, none⟩ = some x := by
  have ne : ∀ i : Nat, (⟨g, i, none⟩ : Addr) ≠ ⟨h, j, none⟩ := fun i q => hne (by injection q)
  rw [World.cell?_setCell_other (h := ne 4), World.cell?_setCell_other (h := ne 3), World.cell?_setCell_other (h := ne 2), World.cell?_setCell_other (h := ne 1), World.cell?_setCell_other (h := ne 0)]
  exact c

set_option maxRecDepth 8000 in
set_option maxHeartbeats 4000000 in
/-- The chunks are not a file's samples. -/
theorem parse_bad (s : ByteArray) (A : List Ch) (n : Nat) (er : Int) (nf nd : List UInt8) (P z Q k : Nat) (hf hd : Bool) (C : Hid (∀ w, Calls Try.prog 17 #[.string s] w fun e w' => (∃ ao cap, e = .returned (.tuple #[.slice ao n cap, .int .i64 er]) ∧ n ≤ cap ∧ Slk w' ao A) ∧ Bel w w'))
    (O1 : Hid (∀ ao cap w, n ≤ cap → Slk w ao A → Calls Try.prog 18 #[.slice ao n cap, .string ⟨#[102, 109, 116, 32]⟩] w fun e w' => e = .returned (.tuple #[.agg #[.string (tx nf), .int .i64 (P : Int), .int .i64 (z : Int)], .bool hf]) ∧ Bel w w'))
    (O2 : Hid (∀ ao cap w, n ≤ cap → Slk w ao A → Calls Try.prog 18 #[.slice ao n cap, .string ⟨#[100, 97, 116, 97]⟩] w fun e w' => e = .returned (.tuple #[.agg #[.string (tx nd), .int .i64 (Q : Int), .int .i64 (k : Int)], .bool hd]) ∧ Bel w w'))
    (h : er ≠ 0 ∨ hf = false ∨ hd = false ∨ Q < P) (w : World) :
    Calls Try.prog 8 #[.string s] w fun e w' => e = .returned (.tuple #[wvl wv0, .int .i64 2100]) ∧ Bel w w' := by
  have HH : Hid (er ≠ 0 ∨ hf = false ∨ hd = false ∨ Q < P) := h
  clear h
  have BX : Hid (∀ w1, Bel (w.alloc (.cells #[.int .i64 0, .int .i64 0, .string ⟨#[]⟩, .string ⟨#[]⟩, .string ⟨#[]⟩] 25)) w1 → BoxV w1 w.heap.size wv0) := fun w1 k => (boxV_new w wv0).bel k
  obtain ⟨r0, hr0⟩ : ∃ r0, w.heap.size = r0 := ⟨_, rfl⟩
  have R0 : Hid (w.heap.size = r0) := hr0
  rw [hr0] at BX
  go_enter Try.func8, Try.ntmps8
  go_wp2_with fail
  refine (C.out _).mono ?_
  rintro e w1 ⟨⟨ao, cap, rfl, hcap, s1⟩, b1⟩
  have B1 : Hid (Bel w w1) := ((Bel.refl _).alloc _).trans b1
  have X1 : Hid (BoxV w1 r0 wv0) := BX.out _ b1
  have S1 : Hid (Slk w1 ao A) := s1
  have L1 : Hid (r0 < w1.heap.size) := (by have q := b1.size; simp at q; rw [← R0.out]; omega : r0 < w1.heap.size)
  clear b1 BX C s1
  go_wp2_with fail
  refine (O1.out _ _ _ hcap S1.out).mono ?_
  rintro e w2 ⟨rfl, b2⟩
  have b2x : Bel w1 (w2.alloc (.cells #[.string (tx nf), .int .i64 (P : Int), .int .i64 (z : Int)] 52)) := b2.alloc _
  have S2 : Hid (Slk (w2.alloc (.cells #[.string (tx nf), .int .i64 (P : Int), .int .i64 (z : Int)] 52)) ao A) := S1.out.bel b2x
  have X2 : Hid (BoxV (w2.alloc (.cells #[.string (tx nf), .int .i64 (P : Int), .int .i64 (z : Int)] 52)) r0 wv0) := X1.out.bel b2x
  have B2 : Hid (Bel w (w2.alloc (.cells #[.string (tx nf), .int .i64 (P : Int), .int .i64 (z : Int)] 52))) := B1.out.trans b2x
  have L2 : Hid (r0 < w2.heap.size) := (by have q := b2.size; have := L1.out; omega : r0 < w2.heap.size)
  obtain ⟨⟨_, q1, q2⟩, _⟩ := boxC_new w2 (tx nf) P z
  have F2 : Hid ((w2.alloc (.cells #[.string (tx nf), .int .i64 (P : Int), .int .i64 (z : Int)] 52)).cell? ⟨w2.heap.size, 1, none⟩ = some (.int .i64 (P : Int)) ∧ (w2.alloc (.cells #[.string (tx nf), .int .i64 (P : Int), .int .i64 (z : Int)] 52)).cell? ⟨w2.heap.size, 2, none⟩ = some (.int .i64 (z : Int))) := ⟨q1, q2⟩
  clear b2 b2x q1 q2 S1 X1 B1 O1
  go_wp2_with fail
  refine (O2.out _ _ _ hcap S2.out).mono ?_
  rintro e w3 ⟨rfl, b3⟩
  have b3x : Bel (w2.alloc (.cells #[.string (tx nf), .int .i64 (P : Int), .int .i64 (z : Int)] 52)) (w3.alloc (.cells #[.string (tx nd), .int .i64 (Q : Int), .int .i64 (k : Int)] 52)) := b3.alloc _
  have L3 : Hid (r0 < w3.heap.size) := (by have q := b3.size; simp at q; have := L2.out; omega : r0 < w3.heap.size)
  obtain ⟨⟨_, q1, q2⟩, _⟩ := boxC_new w3 (tx nd) Q k
  go_upto_region 4 with fail
  obtain ⟨V, hV⟩ : ∃ V, V = w3.alloc (.cells #[.string (tx nd), .int .i64 (Q : Int), .int .i64 (k : Int)] 52) := ⟨_, rfl⟩
  rw [← hV]
  rw [← hV] at b3x q1 q2
  have BV : Hid (Bel w V) := B2.out.trans b3x
  have XV : Hid (BoxV V r0 wv0) := X2.out.bel b3x
  have f1 := b3x.keep F2.out.1
  have f2 := b3x.keep F2.out.2
  obtain ⟨g6, hg6⟩ : ∃ g, w2.heap.size = g := ⟨_, rfl⟩
  obtain ⟨g8, hg8⟩ : ∃ g, w3.heap.size = g := ⟨_, rfl⟩
  rw [hg8] at q1 q2 L3
  rw [hg6] at f1 f2
  rw [hg6, hg8]
  clear b3 b3x hV S2 X2 B2 F2 O2 L1 L2 hcap hg6 hg8
  obtain ⟨⟨c0, c1, c2, c3, c4⟩, x0, x1, x2, x3, x4⟩ := XV.out
  by_cases he : er = 0
  · have de : (er != 0) = false := by rw [he]; rfl
    cases hf
    · clear HH he
      go_wp2
      obtain ⟨⟨d0, d1, d2, d3, d4⟩, _⟩ := XV.out.set wv0
      refine bodyPost_ret (v := .tuple #[wvl wv0, .int .i64 2100]) (results_wv Try.results8 rfl rfl d0 d1 d2 d3 d4) rfl ⟨rfl, ?_⟩
      exact set5_bel (by rw [R0.out]; exact Nat.le_refl _) BV.out _ _ _ _ _
    · cases hd
      · clear HH he
        go_wp2
        obtain ⟨⟨d0, d1, d2, d3, d4⟩, _⟩ := XV.out.set wv0
        refine bodyPost_ret (v := .tuple #[wvl wv0, .int .i64 2100]) (results_wv Try.results8 rfl rfl d0 d1 d2 d3 d4) rfl ⟨rfl, ?_⟩
        exact set5_bel (by rw [R0.out]; exact Nat.le_refl _) BV.out _ _ _ _ _
      · have hq : Q < P := by
          rcases HH.out with h | h | h | h
          · exact absurd he h
          · cases h
          · cases h
          · exact h
        have dq : decide (Q < P) = true := decide_eq_true hq
        have dq2 : decide ((Q : Int) < (P : Int)) = true := decide_eq_true (by omega)
        clear HH he
        go_wp2
        obtain ⟨⟨d0, d1, d2, d3, d4⟩, _⟩ := XV.out.set wv0
        refine bodyPost_ret (v := .tuple #[wvl wv0, .int .i64 2100]) (results_wv Try.results8 rfl rfl d0 d1 d2 d3 d4) rfl ⟨rfl, ?_⟩
        exact set5_bel (by rw [R0.out]; exact Nat.le_refl _) BV.out _ _ _ _ _
  · have de : (er != 0) = true := by simpa using he
    clear HH he
    go_wp2
    obtain ⟨⟨d0, d1, d2, d3, d4⟩, _⟩ := XV.out.set wv0
    refine bodyPost_ret (v := .tuple #[wvl wv0, .int .i64 2100]) (results_wv Try.results8 rfl rfl d0 d1 d2 d3 d4) rfl ⟨rfl, ?_⟩
    exact set5_bel (by rw [R0.out]; exact Nat.le_refl _) BV.out _ _ _ _ _

set_option maxRecDepth 8000 in
set_option maxHeartbeats 8000000 in
/-- The two chunks are there, in their row. -/
theorem parse_two (s : ByteArray) (A : List Ch) (n : Nat) (er : Int) (nf nd : List UInt8) (P z Q k : Nat) (hf hd : Bool) (C : Hid (∀ w, Calls Try.prog 17 #[.string s] w fun e w' => (∃ ao cap, e = .returned (.tuple #[.slice ao n cap, .int .i64 er]) ∧ n ≤ cap ∧ Slk w' ao A) ∧ Bel w w'))
    (O1 : Hid (∀ ao cap w, n ≤ cap → Slk w ao A → Calls Try.prog 18 #[.slice ao n cap, .string ⟨#[102, 109, 116, 32]⟩] w fun e w' => e = .returned (.tuple #[.agg #[.string (tx nf), .int .i64 (P : Int), .int .i64 (z : Int)], .bool hf]) ∧ Bel w w'))
    (O2 : Hid (∀ ao cap w, n ≤ cap → Slk w ao A → Calls Try.prog 18 #[.slice ao n cap, .string ⟨#[100, 97, 116, 97]⟩] w fun e w' => e = .returned (.tuple #[.agg #[.string (tx nd), .int .i64 (Q : Int), .int .i64 (k : Int)], .bool hd]) ∧ Bel w w'))
    (he : er = 0) (hf1 : hf = true) (hd1 : hd = true) (hq : P ≤ Q) (h1 : P + z ≤ s.size) (h2 : Q + k ≤ s.size) (hx : s.size ≤ 4096)
    (c b : Int) (m : Bool) (f : Nat) (FM : Hid (∀ w, Calls Try.prog 19 #[.string (s.extract P (P + z))] w fun e w' => e = .returned (.tuple #[.agg #[.int .i64 c, .int .i64 b], .bool m]) ∧ Bel w w'))
    (FR : Hid (m = true → 1 ≤ f ∧ ∀ w, Calls Try.prog 20 #[.agg #[.int .i64 c, .int .i64 b]] w fun e w' => e = .returned (.int .i64 (f : Int)) ∧ Bel w w'))
    (l1 l2 l3 : List UInt8) (e1 : s.extract 0 Q = tx l1) (e2 : s.extract Q (Q + k) = tx l2) (e3 : s.extract (Q + k) s.size = tx l3) (w : World) :
    Calls Try.prog 8 #[.string s] w fun e w' => e = .returned (.tuple #[wvl (ansW (if m = true ∧ (k : Int) % (f : Int) = 0 then some (c, b, l1, l2, l3) else none)), .int .i64 (errW (if m = true ∧ (k : Int) % (f : Int) = 0 then some (c, b, l1, l2, l3) else none))]) ∧ Bel w w' := by
  obtain ⟨OUT, hO⟩ : ∃ O, (if m = true ∧ (k : Int) % (f : Int) = 0 then some (c, b, l1, l2, l3) else none) = O := ⟨_, rfl⟩
  have RX : Hid ((if m = true ∧ (k : Int) % (f : Int) = 0 then some (c, b, l1, l2, l3) else none) = OUT) := hO
  rw [hO]
  have TT : Hid (s.extract 0 Q = tx l1 ∧ s.extract Q (Q + k) = tx l2 ∧ s.extract (Q + k) s.size = tx l3) := ⟨e1, e2, e3⟩
  have K0 : Hid (∀ w, Calls Try.prog 21 #[.string (s.extract 0 Q)] w fun e w' => e = .returned (.string (s.extract 0 Q)) ∧ Bel w w') := fun w => clone_ok _ (by simp; omega) w
  have K1 : Hid (∀ w, Calls Try.prog 21 #[.string (s.extract Q (Q + k))] w fun e w' => e = .returned (.string (s.extract Q (Q + k))) ∧ Bel w w') := fun w => clone_ok _ (by simp; omega) w
  have K2 : Hid (∀ w, Calls Try.prog 21 #[.string (s.extract (Q + k) s.size)] w fun e w' => e = .returned (.string (s.extract (Q + k) s.size)) ∧ Bel w w') := fun w => clone_ok _ (by simp; omega) w
  subst he hf1 hd1
  clear hO e1 e2 e3
  have BX : Hid (∀ w1, Bel (w.alloc (.cells #[.int .i64 0, .int .i64 0, .string ⟨#[]⟩, .string ⟨#[]⟩, .string ⟨#[]⟩] 25)) w1 → BoxV w1 w.heap.size wv0) := fun w1 k => (boxV_new w wv0).bel k
  obtain ⟨r0, hr0⟩ : ∃ r0, w.heap.size = r0 := ⟨_, rfl⟩
  have R0 : Hid (w.heap.size = r0) := hr0
  rw [hr0] at BX
  go_enter Try.func8, Try.ntmps8
  go_wp2_with fail
  refine (C.out _).mono ?_
  rintro e w1 ⟨⟨ao, cap, rfl, hcap, s1⟩, b1⟩
  have B1 : Hid (Bel w w1) := ((Bel.refl _).alloc _).trans b1
  have X1 : Hid (BoxV w1 r0 wv0) := BX.out _ b1
  have S1 : Hid (Slk w1 ao A) := s1
  have L1 : Hid (r0 < w1.heap.size) := (by have q := b1.size; simp at q; rw [← R0.out]; omega : r0 < w1.heap.size)
  clear b1 BX C s1
  go_wp2_with fail
  refine (O1.out _ _ _ hcap S1.out).mono ?_
  rintro e w2 ⟨rfl, b2⟩
  have b2x : Bel w1 (w2.alloc (.cells #[.string (tx nf), .int .i64 (P : Int), .int .i64 (z : Int)] 52)) := b2.alloc _
  have S2 : Hid (Slk (w2.alloc (.cells #[.string (tx nf), .int .i64 (P : Int), .int .i64 (z : Int)] 52)) ao A) := S1.out.bel b2x
  have X2 : Hid (BoxV (w2.alloc (.cells #[.string (tx nf), .int .i64 (P : Int), .int .i64 (z : Int)] 52)) r0 wv0) := X1.out.bel b2x
  have B2 : Hid (Bel w (w2.alloc (.cells #[.string (tx nf), .int .i64 (P : Int), .int .i64 (z : Int)] 52))) := B1.out.trans b2x
  have L2 : Hid (r0 < w2.heap.size) := (by have q := b2.size; have := L1.out; omega : r0 < w2.heap.size)
  obtain ⟨⟨_, q1, q2⟩, _⟩ := boxC_new w2 (tx nf) P z
  have F2 : Hid ((w2.alloc (.cells #[.string (tx nf), .int .i64 (P : Int), .int .i64 (z : Int)] 52)).cell? ⟨w2.heap.size, 1, none⟩ = some (.int .i64 (P : Int)) ∧ (w2.alloc (.cells #[.string (tx nf), .int .i64 (P : Int), .int .i64 (z : Int)] 52)).cell? ⟨w2.heap.size, 2, none⟩ = some (.int .i64 (z : Int))) := ⟨q1, q2⟩
  clear b2 b2x q1 q2 S1 X1 B1 O1
  go_wp2_with fail
  refine (O2.out _ _ _ hcap S2.out).mono ?_
  rintro e w3 ⟨rfl, b3⟩
  have b3x : Bel (w2.alloc (.cells #[.string (tx nf), .int .i64 (P : Int), .int .i64 (z : Int)] 52)) (w3.alloc (.cells #[.string (tx nd), .int .i64 (Q : Int), .int .i64 (k : Int)] 52)) := b3.alloc _
  have L3 : Hid (r0 < w3.heap.size) := (by have q := b3.size; simp at q; have := L2.out; omega : r0 < w3.heap.size)
  obtain ⟨⟨_, q1, q2⟩, _⟩ := boxC_new w3 (tx nd) Q k
  go_upto_region 4 with fail
  obtain ⟨V, hV⟩ : ∃ V, V = w3.alloc (.cells #[.string (tx nd), .int .i64 (Q : Int), .int .i64 (k : Int)] 52) := ⟨_, rfl⟩
  rw [← hV]
  rw [← hV] at b3x q1 q2
  have BV : Hid (Bel w V) := B2.out.trans b3x
  have XV : Hid (BoxV V r0 wv0) := X2.out.bel b3x
  have f1 := b3x.keep F2.out.1
  have f2 := b3x.keep F2.out.2
  obtain ⟨g6, hg6⟩ : ∃ g, w2.heap.size = g := ⟨_, rfl⟩
  obtain ⟨g8, hg8⟩ : ∃ g, w3.heap.size = g := ⟨_, rfl⟩
  rw [hg8] at q1 q2 L3
  rw [hg6] at f1 f2
  rw [hg6, hg8]
  clear b3 b3x hV S2 X2 B2 F2 O2 L1 L2 hcap hg6 hg8
  have dq : decide (Q < P) = false := decide_eq_false (by omega)
  have dq2 : decide ((Q : Int) < (P : Int)) = false := decide_eq_false (by omega)
  have y1 : decide (s.size < P + z) = false := decide_eq_false (by omega)
  have y2 : decide ((s.size : Int) < (P : Int) + (z : Int)) = false := decide_eq_false (by omega)
  have QQ : Hid (V.cell? ⟨g8, 1, none⟩ = some (.int .i64 (Q : Int)) ∧ V.cell? ⟨g8, 2, none⟩ = some (.int .i64 (k : Int))) := ⟨q1, q2⟩
  have BXF : Hid (∀ w1 : World, BoxQ (w1.alloc (.cells #[.int .i64 c, .int .i64 b] 23)) w1.heap.size c b) := fun w1 => boxQ_new w1 c b
  go_wp2_with fail
  refine (FM.out _).mono ?_
  rintro e w4 ⟨rfl, b4⟩
  have b4x : Bel V (w4.alloc (.cells #[.int .i64 c, .int .i64 b] 23)) := b4.alloc _
  go_upto_region 7 with fail
  obtain ⟨U, hU⟩ : ∃ U, U = w4.alloc (.cells #[.int .i64 c, .int .i64 b] 23) := ⟨_, rfl⟩
  rw [← hU]
  rw [← hU] at b4x
  have BU : Hid (Bel w U) := BV.out.trans b4x
  have XU : Hid (BoxV U r0 wv0) := XV.out.bel b4x
  have u1 := b4x.keep QQ.out.1
  have u2 := b4x.keep QQ.out.2
  obtain ⟨⟨u3, u4⟩, _⟩ := BXF.out w4
  rw [← hU] at u3 u4
  have L4 : Hid (r0 < w4.heap.size) := (by have q := (BV.out.trans b4).size; have q2 := block_lt_of_cell XV.out.1.1; have q3 := b4.size; simp only at q2; omega : r0 < w4.heap.size)
  obtain ⟨g10, hg10⟩ : ∃ g, w4.heap.size = g := ⟨_, rfl⟩
  rw [hg10] at u3 u4 L4
  rw [hg10]
  have NE : Hid (r0 ≠ g8 ∧ r0 ≠ g10) := (by have := L3.out; have := L4.out; omega : r0 ≠ g8 ∧ r0 ≠ g10)
  have l0 := cell_regrown u2
  have l00 := cell_regrown u3
  have l01 := cell_regrown u4
  have UU : Hid (U.cell? ⟨g8, 1, none⟩ = some (.int .i64 (Q : Int)) ∧ U.cell? ⟨g8, 2, none⟩ = some (.int .i64 (k : Int)) ∧ U.cell? ⟨g10, 0, none⟩ = some (.int .i64 c) ∧ U.cell? ⟨g10, 1, none⟩ = some (.int .i64 b)) := ⟨u1, u2, u3, u4⟩
  clear b4 b4x hU u1 u2 u3 u4 q1 q2 f1 f2 QQ BXF BV XV hg10 FM
  cases m
  · have RN : Hid (OUT = none) := (by rw [← RX.out, if_neg (fun q => by cases q.1)] : _ = _)
    clear RX FR
    refine wp_region_quiet_below (by kernel_rfl) (by kernel_rfl) ?_
    repeat (go_big_quiet_step (first
      | fail))
    refine wpQuiet_nil ?_
    intro _ hw'
    obtain ⟨⟨dq, osq⟩, hw''⟩ := hw'
    subst hw''
    have bw : Bel U (grow (redrawn U dq) osq) := below_regrown U dq osq
    have BW : Hid (Bel w (grow (redrawn U dq) osq)) := BU.out.trans bw
    have XW : Hid (BoxV (grow (redrawn U dq) osq) r0 wv0) := XU.out.bel bw
    have k1 := bw.keep UU.out.1
    have k2 := bw.keep UU.out.2.1
    have k3 := bw.keep UU.out.2.2.1
    have k4 := bw.keep UU.out.2.2.2
    have KW : Hid ((grow (redrawn U dq) osq).cell? ⟨g8, 1, none⟩ = some (.int .i64 (Q : Int)) ∧ (grow (redrawn U dq) osq).cell? ⟨g8, 2, none⟩ = some (.int .i64 (k : Int)) ∧ (grow (redrawn U dq) osq).cell? ⟨g10, 0, none⟩ = some (.int .i64 c) ∧ (grow (redrawn U dq) osq).cell? ⟨g10, 1, none⟩ = some (.int .i64 b)) := ⟨k1, k2, k3, k4⟩
    show Exit.then _ _ _ _ (grow (redrawn U dq) osq)
    clear bw UU BU XU l0 l00 l01
    generalize grow (redrawn U dq) osq = W at *
    obtain ⟨⟨c0, c1, c2, c3, c4⟩, x0, x1, x2, x3, x4⟩ := XW.out
    go_wp2
    obtain ⟨⟨d0, d1, d2, d3, d4⟩, _⟩ := XW.out.set wv0
    refine bodyPost_ret (v := .tuple #[wvl wv0, .int .i64 2100]) (results_wv Try.results8 rfl rfl d0 d1 d2 d3 d4) rfl ⟨by rw [RN.out]; rfl, ?_⟩
    exact set5_bel (by rw [R0.out]; exact Nat.le_refl _) BW.out _ _ _ _ _
  · obtain ⟨f0, FR2⟩ := FR.out rfl
    have FB : Hid (∀ w, Calls Try.prog 20 #[.agg #[.int .i64 c, .int .i64 b]] w fun e w' => e = .returned (.int .i64 (f : Int)) ∧ Bel w w') := FR2
    have fz : ((f : Int) == 0) = false := by simp; omega
    clear FR FR2
    by_cases h4 : (k : Int) % (f : Int) = 0
    · have d4 : ((k : Int) % (f : Int) != 0) = false := by rw [h4]; rfl
      have RY : Hid (OUT = some (c, b, l1, l2, l3)) := (by rw [← RX.out, if_pos ⟨rfl, h4⟩] : _ = _)
      clear RX h4
      refine wp_region_quiet_below (by kernel_rfl) (by kernel_rfl) ?_
      repeat (go_big_quiet_step (first
        | (go_at_call 20; with_reducible exact Calls.regrown_of (FB.out _))))
      refine wpQuiet_nil ?_
      intro _ hw'
      obtain ⟨⟨dq, osq⟩, hw''⟩ := hw'
      subst hw''
      have bw : Bel U (grow (redrawn U dq) osq) := below_regrown U dq osq
      have BW : Hid (Bel w (grow (redrawn U dq) osq)) := BU.out.trans bw
      have XW : Hid (BoxV (grow (redrawn U dq) osq) r0 wv0) := XU.out.bel bw
      have k1 := bw.keep UU.out.1
      have k2 := bw.keep UU.out.2.1
      have k3 := bw.keep UU.out.2.2.1
      have k4 := bw.keep UU.out.2.2.2
      have KW : Hid ((grow (redrawn U dq) osq).cell? ⟨g8, 1, none⟩ = some (.int .i64 (Q : Int)) ∧ (grow (redrawn U dq) osq).cell? ⟨g8, 2, none⟩ = some (.int .i64 (k : Int)) ∧ (grow (redrawn U dq) osq).cell? ⟨g10, 0, none⟩ = some (.int .i64 c) ∧ (grow (redrawn U dq) osq).cell? ⟨g10, 1, none⟩ = some (.int .i64 b)) := ⟨k1, k2, k3, k4⟩
      show Exit.then _ _ _ _ (grow (redrawn U dq) osq)
      clear bw UU BU XU l0 l00 l01
      generalize grow (redrawn U dq) osq = W at *
      obtain ⟨⟨c0, c1, c2, c3, c4⟩, x0, x1, x2, x3, x4⟩ := XW.out
      have y5 : decide (s.size < Q) = false := decide_eq_false (by omega)
      have y6 : decide (s.size < Q + k) = false := decide_eq_false (by omega)
      have y7 : decide ((s.size : Int) < (Q : Int)) = false := decide_eq_false (by omega)
      have y8 : decide ((s.size : Int) < (Q : Int) + (k : Int)) = false := decide_eq_false (by omega)
      go_upto_region 10 with fail
      clear x0 x1 x2 x3 x4 c0 c1 c2 c3 c4
      obtain ⟨T1, ht1⟩ : ∃ T, s.extract 0 Q = T := ⟨_, rfl⟩
      obtain ⟨T2, ht2⟩ : ∃ T, s.extract Q (Q + k) = T := ⟨_, rfl⟩
      obtain ⟨T3, ht3⟩ : ∃ T, s.extract (Q + k) s.size = T := ⟨_, rfl⟩
      rw [ht1, ht2, ht3] at TT
      rw [ht1] at K0
      rw [ht2] at K1
      rw [ht3] at K2
      have qs : Q ≤ s.size := by omega
      have y9 : (0 : Int) ≤ (Q : Int) + (k : Int) ∧ (Q : Int) + (k : Int) ≤ (s.size : Int) := ⟨by omega, by omega⟩
      have y10 : (Q : Int) ≤ (Q : Int) + (k : Int) := by omega
      have y11 : ((Q : Int) + (k : Int)).toNat = Q + k := by omega
      refine wp_region_held_drew (S := (fun wx => Bel w wx ∧ (wx.cell? ⟨g8, 1, none⟩ = some (.int .i64 (Q : Int)) ∧ wx.cell? ⟨g8, 2, none⟩ = some (.int .i64 (k : Int)) ∧ wx.cell? ⟨g10, 0, none⟩ = some (.int .i64 c) ∧ wx.cell? ⟨g10, 1, none⟩ = some (.int .i64 b)))) (by kernel_rfl) ⟨BW.out.drew, KW.out⟩ (fun hHeld => ?_)
      have XD : Hid (BoxV (World.drew W) r0 wv0) := XW.out.bel (Bel.refl W).drew
      obtain ⟨V0, hV0⟩ : ∃ V, V = World.drew W := ⟨_, rfl⟩
      rw [← hV0] at hHeld XD ⊢
      clear hV0 KW XW BW
      refine wpAnyH_take (i := 0) (oi := { dst := some 75, op := .load 23 (.tmp 10), type := _, pos := _, after := _, guard := none }) (v := ?_) rfl (by kernel_rfl) (by kernel_rfl) (by kernel_rfl) (fun _ _ _ h => h) (Or.inl ⟨by rfl, ?_⟩) hHeld ?_
      rotate_left
      · intro wx hSw; obtain ⟨_, m1, m2, m3, m4⟩ := hSw; go_simp; with_reducible rfl
      try simp only [Act.put, List.setIfInBounds_toArray, List.set_cons_zero, List.set_cons_succ]
      refine wpAnyH_take (i := 1) (oi := { dst := some 76, op := .move (.tmp 0), type := _, pos := _, after := _, guard := none }) (v := ?_) rfl (by kernel_rfl) (by kernel_rfl) (by kernel_rfl) (fun _ _ _ h => h) (Or.inl ⟨by rfl, ?_⟩) hHeld ?_
      rotate_left
      · intro wx hSw; obtain ⟨_, m1, m2, m3, m4⟩ := hSw; go_simp; with_reducible rfl
      try simp only [Act.put, List.setIfInBounds_toArray, List.set_cons_zero, List.set_cons_succ]
      refine wpAnyH_take (i := 2) (oi := { dst := some 77, op := .fieldAddr 52 (.tmp 8) 1, type := _, pos := _, after := _, guard := none }) (v := ?_) rfl (by kernel_rfl) (by kernel_rfl) (by kernel_rfl) (fun _ _ _ h => h) (Or.inl ⟨by rfl, ?_⟩) hHeld ?_
      rotate_left
      · intro wx hSw; obtain ⟨_, m1, m2, m3, m4⟩ := hSw; go_simp; with_reducible rfl
      try simp only [Act.put, List.setIfInBounds_toArray, List.set_cons_zero, List.set_cons_succ]
      refine wpAnyH_take (i := 3) (oi := { dst := some 78, op := .load 3 (.tmp 77), type := _, pos := _, after := _, guard := none }) (v := ?_) rfl (by kernel_rfl) (by kernel_rfl) (by kernel_rfl) (fun _ _ _ h => h) (Or.inl ⟨by rfl, ?_⟩) hHeld ?_
      rotate_left
      · intro wx hSw; obtain ⟨_, m1, m2, m3, m4⟩ := hSw; go_simp; with_reducible rfl
      try simp only [Act.put, List.setIfInBounds_toArray, List.set_cons_zero, List.set_cons_succ]
      refine wpAnyH_take (i := 4) (oi := { dst := some 79, op := .slice 9 (.tmp 76) none (some (.tmp 78)) none, type := _, pos := _, after := _, guard := none }) (v := ?_) rfl (by kernel_rfl) (by kernel_rfl) (by kernel_rfl) (fun _ _ _ h => h) (Or.inl ⟨by rfl, ?_⟩) hHeld ?_
      rotate_left
      · intro wx hSw; obtain ⟨_, m1, m2, m3, m4⟩ := hSw; go_simp; (try simp only [if_pos qs, if_pos y9, if_pos y10, y11, ht2, ht3]); with_reducible rfl
      try simp only [Act.put, List.setIfInBounds_toArray, List.set_cons_zero, List.set_cons_succ]
      refine wpAnyH_take (i := 6) (oi := { dst := some 81, op := .move (.tmp 0), type := _, pos := _, after := _, guard := none }) (v := ?_) rfl (by kernel_rfl) (by kernel_rfl) (by kernel_rfl) (fun _ _ _ h => h) (Or.inl ⟨by rfl, ?_⟩) hHeld ?_
      rotate_left
      · intro wx hSw; obtain ⟨_, m1, m2, m3, m4⟩ := hSw; go_simp; with_reducible rfl
      try simp only [Act.put, List.setIfInBounds_toArray, List.set_cons_zero, List.set_cons_succ]
      refine wpAnyH_take (i := 7) (oi := { dst := some 82, op := .fieldAddr 52 (.tmp 8) 1, type := _, pos := _, after := _, guard := none }) (v := ?_) rfl (by kernel_rfl) (by kernel_rfl) (by kernel_rfl) (fun _ _ _ h => h) (Or.inl ⟨by rfl, ?_⟩) hHeld ?_
      rotate_left
      · intro wx hSw; obtain ⟨_, m1, m2, m3, m4⟩ := hSw; go_simp; with_reducible rfl
      try simp only [Act.put, List.setIfInBounds_toArray, List.set_cons_zero, List.set_cons_succ]
      refine wpAnyH_take (i := 8) (oi := { dst := some 83, op := .load 3 (.tmp 82), type := _, pos := _, after := _, guard := none }) (v := ?_) rfl (by kernel_rfl) (by kernel_rfl) (by kernel_rfl) (fun _ _ _ h => h) (Or.inl ⟨by rfl, ?_⟩) hHeld ?_
      rotate_left
      · intro wx hSw; obtain ⟨_, m1, m2, m3, m4⟩ := hSw; go_simp; with_reducible rfl
      try simp only [Act.put, List.setIfInBounds_toArray, List.set_cons_zero, List.set_cons_succ]
      refine wpAnyH_take (i := 9) (oi := { dst := some 84, op := .move (.tmp 12), type := _, pos := _, after := _, guard := none }) (v := ?_) rfl (by kernel_rfl) (by kernel_rfl) (by kernel_rfl) (fun _ _ _ h => h) (Or.inl ⟨by rfl, ?_⟩) hHeld ?_
      rotate_left
      · intro wx hSw; obtain ⟨_, m1, m2, m3, m4⟩ := hSw; go_simp; with_reducible rfl
      try simp only [Act.put, List.setIfInBounds_toArray, List.set_cons_zero, List.set_cons_succ]
      refine wpAnyH_take (i := 10) (oi := { dst := some 85, op := .slice 9 (.tmp 81) (some (.tmp 83)) (some (.tmp 84)) none, type := _, pos := _, after := _, guard := none }) (v := ?_) rfl (by kernel_rfl) (by kernel_rfl) (by kernel_rfl) (fun _ _ _ h => h) (Or.inl ⟨by rfl, ?_⟩) hHeld ?_
      rotate_left
      · intro wx hSw; obtain ⟨_, m1, m2, m3, m4⟩ := hSw; go_simp; (try simp only [if_pos qs, if_pos y9, if_pos y10, y11, ht2, ht3]); with_reducible rfl
      try simp only [Act.put, List.setIfInBounds_toArray, List.set_cons_zero, List.set_cons_succ]
      refine wpAnyH_take (i := 12) (oi := { dst := some 87, op := .move (.tmp 0), type := _, pos := _, after := _, guard := none }) (v := ?_) rfl (by kernel_rfl) (by kernel_rfl) (by kernel_rfl) (fun _ _ _ h => h) (Or.inl ⟨by rfl, ?_⟩) hHeld ?_
      rotate_left
      · intro wx hSw; obtain ⟨_, m1, m2, m3, m4⟩ := hSw; go_simp; with_reducible rfl
      try simp only [Act.put, List.setIfInBounds_toArray, List.set_cons_zero, List.set_cons_succ]
      refine wpAnyH_take (i := 13) (oi := { dst := some 88, op := .move (.tmp 12), type := _, pos := _, after := _, guard := none }) (v := ?_) rfl (by kernel_rfl) (by kernel_rfl) (by kernel_rfl) (fun _ _ _ h => h) (Or.inl ⟨by rfl, ?_⟩) hHeld ?_
      rotate_left
      · intro wx hSw; obtain ⟨_, m1, m2, m3, m4⟩ := hSw; go_simp; with_reducible rfl
      try simp only [Act.put, List.setIfInBounds_toArray, List.set_cons_zero, List.set_cons_succ]
      refine wpAnyH_take (i := 14) (oi := { dst := some 89, op := .slice 9 (.tmp 87) (some (.tmp 88)) none none, type := _, pos := _, after := _, guard := none }) (v := ?_) rfl (by kernel_rfl) (by kernel_rfl) (by kernel_rfl) (fun _ _ _ h => h) (Or.inl ⟨by rfl, ?_⟩) hHeld ?_
      rotate_left
      · intro wx hSw; obtain ⟨_, m1, m2, m3, m4⟩ := hSw; go_simp; (try simp only [if_pos qs, if_pos y9, if_pos y10, y11, ht2, ht3]); with_reducible rfl
      try simp only [Act.put, List.setIfInBounds_toArray, List.set_cons_zero, List.set_cons_succ]
      have HV0 : Hid ((fun wx => Bel w wx ∧ (wx.cell? ⟨g8, 1, none⟩ = some (.int .i64 (Q : Int)) ∧ wx.cell? ⟨g8, 2, none⟩ = some (.int .i64 (k : Int)) ∧ wx.cell? ⟨g10, 0, none⟩ = some (.int .i64 c) ∧ wx.cell? ⟨g10, 1, none⟩ = some (.int .i64 b))) V0) := hHeld
      clear hHeld
      refine wpAnyH_ready (rs := [5]) (by kernel_rfl) (by simp) ?_
      refine (AllReadyH.cons (o := { dst := some 80, op := .call { callee := .value (.func 21), args := #[.tmp 79], argTypes := _ }, type := _, pos := _, after := _, guard := none }) rfl (fun K hK => ?_) AllReadyH.nil)
      go_simp
      refine (K0.out _).mono ?_
      rintro e v1 ⟨rfl, bx⟩
      go_wp2_with fail
      have Hv1 : Hid ((fun wx => Bel w wx ∧ (wx.cell? ⟨g8, 1, none⟩ = some (.int .i64 (Q : Int)) ∧ wx.cell? ⟨g8, 2, none⟩ = some (.int .i64 (k : Int)) ∧ wx.cell? ⟨g10, 0, none⟩ = some (.int .i64 c) ∧ wx.cell? ⟨g10, 1, none⟩ = some (.int .i64 b))) v1) := ⟨HV0.out.1.trans bx, Bel.keep bx HV0.out.2.1, Bel.keep bx HV0.out.2.2.1, Bel.keep bx HV0.out.2.2.2.1, Bel.keep bx HV0.out.2.2.2.2⟩
      have X1v : Hid (BoxV v1 r0 wv0) := XD.out.bel bx
      clear bx
      refine hK.out _ _ Hv1.out (fun _ => ?_)
      clear hK K
      try simp only [Act.put, List.setIfInBounds_toArray, List.set_cons_zero, List.set_cons_succ]
      refine wpAnyH_ready (rs := [11]) (by kernel_rfl) (by simp) ?_
      refine (AllReadyH.cons (o := { dst := some 86, op := .call { callee := .value (.func 21), args := #[.tmp 85], argTypes := _ }, type := _, pos := _, after := _, guard := none }) rfl (fun K hK => ?_) AllReadyH.nil)
      go_simp
      refine (K1.out _).mono ?_
      rintro e v2 ⟨rfl, bx⟩
      go_wp2_with fail
      have Hv2 : Hid ((fun wx => Bel w wx ∧ (wx.cell? ⟨g8, 1, none⟩ = some (.int .i64 (Q : Int)) ∧ wx.cell? ⟨g8, 2, none⟩ = some (.int .i64 (k : Int)) ∧ wx.cell? ⟨g10, 0, none⟩ = some (.int .i64 c) ∧ wx.cell? ⟨g10, 1, none⟩ = some (.int .i64 b))) v2) := ⟨Hv1.out.1.trans bx, Bel.keep bx Hv1.out.2.1, Bel.keep bx Hv1.out.2.2.1, Bel.keep bx Hv1.out.2.2.2.1, Bel.keep bx Hv1.out.2.2.2.2⟩
      have X2v : Hid (BoxV v2 r0 wv0) := X1v.out.bel bx
      clear bx
      refine hK.out _ _ Hv2.out (fun _ => ?_)
      clear hK K
      try simp only [Act.put, List.setIfInBounds_toArray, List.set_cons_zero, List.set_cons_succ]
      refine wpAnyH_ready (rs := [15]) (by kernel_rfl) (by simp) ?_
      refine (AllReadyH.cons (o := { dst := some 90, op := .call { callee := .value (.func 21), args := #[.tmp 89], argTypes := _ }, type := _, pos := _, after := _, guard := none }) rfl (fun K hK => ?_) AllReadyH.nil)
      go_simp
      refine (K2.out _).mono ?_
      rintro e v3 ⟨rfl, bx⟩
      go_wp2_with fail
      have Hv3 : Hid ((fun wx => Bel w wx ∧ (wx.cell? ⟨g8, 1, none⟩ = some (.int .i64 (Q : Int)) ∧ wx.cell? ⟨g8, 2, none⟩ = some (.int .i64 (k : Int)) ∧ wx.cell? ⟨g10, 0, none⟩ = some (.int .i64 c) ∧ wx.cell? ⟨g10, 1, none⟩ = some (.int .i64 b))) v3) := ⟨Hv2.out.1.trans bx, Bel.keep bx Hv2.out.2.1, Bel.keep bx Hv2.out.2.2.1, Bel.keep bx Hv2.out.2.2.2.1, Bel.keep bx Hv2.out.2.2.2.2⟩
      have X3v : Hid (BoxV v3 r0 wv0) := X2v.out.bel bx
      clear bx
      refine hK.out _ _ Hv3.out (fun _ => ?_)
      clear hK K
      try simp only [Act.put, List.setIfInBounds_toArray, List.set_cons_zero, List.set_cons_succ]
      refine wpAnyH_take (i := 16) (oi := { dst := some 91, op := .build 25 #[(0, .tmp 75), (1, .tmp 80), (2, .tmp 86), (3, .tmp 90)], type := _, pos := _, after := _, guard := none }) (v := ?_) rfl (by kernel_rfl) (by kernel_rfl) (by kernel_rfl) (fun _ _ _ h => h) (Or.inl ⟨by rfl, ?_⟩) Hv3.out ?_
      rotate_left
      · intro wx hSw; obtain ⟨_, m1, m2, m3, m4⟩ := hSw; go_simp; with_reducible rfl
      try simp only [Act.put, List.setIfInBounds_toArray, List.set_cons_zero, List.set_cons_succ]
      obtain ⟨⟨c0, c1, c2, c3, c4⟩, f0, f1, f2, f3, f4⟩ := X3v.out
      refine wpAnyH_ready (rs := [17]) (by kernel_rfl) (by simp) ?_
      refine AllReadyH.cons (o := { dst := none, op := .store 25 (.tmp 2) (.tmp 91), type := _, pos := _, after := _, guard := none }) rfl (fun K hK => ?_) AllReadyH.nil
      go_simp
      have HZ : Hid ((fun wx => Bel w wx ∧ (wx.cell? ⟨g8, 1, none⟩ = some (.int .i64 (Q : Int)) ∧ wx.cell? ⟨g8, 2, none⟩ = some (.int .i64 (k : Int)) ∧ wx.cell? ⟨g10, 0, none⟩ = some (.int .i64 c) ∧ wx.cell? ⟨g10, 1, none⟩ = some (.int .i64 b))) (((((World.setCell v3 ⟨r0, 0, none⟩ (.int .i64 c)).setCell ⟨r0, 1, none⟩ (.int .i64 b)).setCell ⟨r0, 2, none⟩ (.string T1)).setCell ⟨r0, 3, none⟩ (.string T2)).setCell ⟨r0, 4, none⟩ (.string T3))) := ⟨set5_bel (by rw [R0.out]; exact Nat.le_refl _) Hv3.out.1 _ _ _ _ _, set5_far NE.out.1 v3 _ _ _ _ _ Hv3.out.2.1, set5_far NE.out.1 v3 _ _ _ _ _ Hv3.out.2.2.1, set5_far NE.out.2 v3 _ _ _ _ _ Hv3.out.2.2.2.1, set5_far NE.out.2 v3 _ _ _ _ _ Hv3.out.2.2.2.2⟩
      have XZ : Hid (BoxV (((((World.setCell v3 ⟨r0, 0, none⟩ (.int .i64 c)).setCell ⟨r0, 1, none⟩ (.int .i64 b)).setCell ⟨r0, 2, none⟩ (.string T1)).setCell ⟨r0, 3, none⟩ (.string T2)).setCell ⟨r0, 4, none⟩ (.string T3)) r0 (c, b, l1, l2, l3)) := (TT.out.1 ▸ TT.out.2.1 ▸ TT.out.2.2 ▸ X3v.out.set (c, b, l1, l2, l3) : _)
      refine hK.out _ _ HZ.out (fun _ => ?_)
      clear hK K
      try simp only [Act.put, List.setIfInBounds_toArray, List.set_cons_zero, List.set_cons_succ]
      refine wpAnyH_take (i := 18) (oi := { dst := some 3, op := .assign (.const (.int .i64 0)), type := _, pos := _, after := _, guard := none }) (v := ?_) rfl (by kernel_rfl) (by kernel_rfl) (by kernel_rfl) (fun _ _ _ h => h) (Or.inl ⟨by rfl, ?_⟩) HZ.out ?_
      rotate_left
      · intro wx hSw; obtain ⟨_, m1, m2, m3, m4⟩ := hSw; go_simp; with_reducible rfl
      try simp only [Act.put, List.setIfInBounds_toArray, List.set_cons_zero, List.set_cons_succ]
      refine wpAnyH_done (by kernel_rfl) ?_ _
      go_wp2_with fail
      obtain ⟨⟨d0, d1, d2, d3, d4⟩, _⟩ := XZ.out
      refine bodyPost_ret (v := .tuple #[wvl (c, b, l1, l2, l3), .int .i64 0]) (results_wv Try.results8 rfl rfl d0 d1 d2 d3 d4) rfl ⟨by rw [RY.out]; rfl, HZ.out.1⟩
    · have d4 : ((k : Int) % (f : Int) != 0) = true := by simpa using h4
      have RN : Hid (OUT = none) := (by rw [← RX.out, if_neg (fun q => h4 q.2)] : _ = _)
      clear RX h4
      refine wp_region_quiet_below (by kernel_rfl) (by kernel_rfl) ?_
      repeat (go_big_quiet_step (first
        | (go_at_call 20; with_reducible exact Calls.regrown_of (FB.out _))))
      refine wpQuiet_nil ?_
      intro _ hw'
      obtain ⟨⟨dq, osq⟩, hw''⟩ := hw'
      subst hw''
      have bw : Bel U (grow (redrawn U dq) osq) := below_regrown U dq osq
      have BW : Hid (Bel w (grow (redrawn U dq) osq)) := BU.out.trans bw
      have XW : Hid (BoxV (grow (redrawn U dq) osq) r0 wv0) := XU.out.bel bw
      have k1 := bw.keep UU.out.1
      have k2 := bw.keep UU.out.2.1
      have k3 := bw.keep UU.out.2.2.1
      have k4 := bw.keep UU.out.2.2.2
      have KW : Hid ((grow (redrawn U dq) osq).cell? ⟨g8, 1, none⟩ = some (.int .i64 (Q : Int)) ∧ (grow (redrawn U dq) osq).cell? ⟨g8, 2, none⟩ = some (.int .i64 (k : Int)) ∧ (grow (redrawn U dq) osq).cell? ⟨g10, 0, none⟩ = some (.int .i64 c) ∧ (grow (redrawn U dq) osq).cell? ⟨g10, 1, none⟩ = some (.int .i64 b)) := ⟨k1, k2, k3, k4⟩
      show Exit.then _ _ _ _ (grow (redrawn U dq) osq)
      clear bw UU BU XU l0 l00 l01
      generalize grow (redrawn U dq) osq = W at *
      obtain ⟨⟨c0, c1, c2, c3, c4⟩, x0, x1, x2, x3, x4⟩ := XW.out
      go_wp2
      obtain ⟨⟨d0, d1, d2, d3, d4⟩, _⟩ := XW.out.set wv0
      refine bodyPost_ret (v := .tuple #[wvl wv0, .int .i64 2100]) (results_wv Try.results8 rfl rfl d0 d1 d2 d3 d4) rfl ⟨by rw [RN.out]; rfl, ?_⟩
      exact set5_bel (by rw [R0.out]; exact Nat.le_refl _) BW.out _ _ _ _ _

theorem parse_ok (s : ByteArray) (L : List UInt8) (hs : s.data.toList = L) (hx : s.size ≤ maxLen) (w : World) :
    Calls Try.prog 8 #[.string s] w fun e w' => e = .returned (.tuple #[wvl (ansW (parse L)), .int .i64 (errW (parse L))]) ∧ Bel w w' := by
  obtain ⟨R, hR⟩ : ∃ R, chunks L = R := ⟨_, rfl⟩
  have h64 : (ansR R).length ≤ 64 := hR ▸ ans_len L
  have C : Hid (∀ w, Calls Try.prog 17 #[.string s] w fun e w' => (∃ ao cap, e = .returned (.tuple #[.slice ao (ansR R).length cap, .int .i64 (errR R)]) ∧ (ansR R).length ≤ cap ∧ Slk w' ao (ansR R)) ∧ Bel w w') := fun w => chunks_k s L hs hx R hR w
  have O1 : Hid (∀ ao cap w, (ansR R).length ≤ cap → Slk w ao (ansR R) → Calls Try.prog 18 #[.slice ao (ansR R).length cap, .string ⟨#[102, 109, 116, 32]⟩] w fun e w' => e = .returned (.tuple #[.agg #[.string (tx (getC (ansR R) (onl fm (ansR R) 0)).1), .int .i64 ((getC (ansR R) (onl fm (ansR R) 0)).2.1 : Int), .int .i64 ((getC (ansR R) (onl fm (ansR R) 0)).2.2 : Int)], .bool (onl fm (ansR R) 0).isSome]) ∧ Bel w w') := fun ao cap w hc hA => only_ok fm ao (ansR R) _ cap rfl h64 hc w hA
  have O2 : Hid (∀ ao cap w, (ansR R).length ≤ cap → Slk w ao (ansR R) → Calls Try.prog 18 #[.slice ao (ansR R).length cap, .string ⟨#[100, 97, 116, 97]⟩] w fun e w' => e = .returned (.tuple #[.agg #[.string (tx (getC (ansR R) (onl dt (ansR R) 0)).1), .int .i64 ((getC (ansR R) (onl dt (ansR R) 0)).2.1 : Int), .int .i64 ((getC (ansR R) (onl dt (ansR R) 0)).2.2 : Int)], .bool (onl dt (ansR R) 0).isSome]) ∧ Bel w w') := fun ao cap w hc hA => only_ok dt ao (ansR R) _ cap rfl h64 hc w hA
  have BAD : (errR R ≠ 0 ∨ (onl fm (ansR R) 0).isSome = false ∨ (onl dt (ansR R) 0).isSome = false ∨ (getC (ansR R) (onl dt (ansR R) 0)).2.1 < (getC (ansR R) (onl fm (ansR R) 0)).2.1) → parse L = none → Calls Try.prog 8 #[.string s] w fun e w' => e = .returned (.tuple #[wvl (ansW (parse L)), .int .i64 (errW (parse L))]) ∧ Bel w w' := fun h hp => by
    rw [hp]
    exact parse_bad s (ansR R) _ (errR R) _ _ _ _ _ _ _ _ C O1 O2 h w
  rcases R with _ | A
  · exact BAD (.inl (by decide)) (by unfold parse; rw [hR])
  · obtain ⟨hw, hc, _⟩ := chunks_chain hR
    have hp : parse L = match twoOf (onl fm A 0) (onl dt A 0) with
        | some (i, j) => fitP L (A.getD i ([], 0, 0)) (A.getD j ([], 0, 0))
        | none => none := by
      unfold parse
      rw [hR]
      exact fitS_two L A
    change ∀ _ _, _ at BAD
    have hlen := size_len s L hs
    have hle : L.length ≤ 4096 := by
      rw [isWav_eq, Bool.and_eq_true, decide_eq_true_eq] at hw
      exact hw.1
    cases hi : onl fm A 0 with
    | none =>
      refine BAD (.inr (.inl ?_)) (by rw [hp, hi]; rfl)
      show (onl fm A 0).isSome = false
      rw [hi]; rfl
    | some i =>
      cases hj : onl dt A 0 with
      | none =>
        refine BAD (.inr (.inr (.inl ?_))) (by rw [hp, hi, hj]; rfl)
        show (onl dt A 0).isSome = false
        rw [hj]; rfl
      | some j =>
        have h2 := two_by hc hi hj
        have gi : getC A (onl fm A 0) = A.getD i ([], 0, 0) := by rw [hi]; rfl
        have gj : getC A (onl dt A 0) = A.getD j ([], 0, 0) := by rw [hj]; rfl
        by_cases hlt : (A.getD j ([], 0, 0)).2.1 < (A.getD i ([], 0, 0)).2.1
        · refine BAD (.inr (.inr (.inr ?_))) (by rw [hp, h2, if_pos hlt])
          show (getC A (onl dt A 0)).2.1 < (getC A (onl fm A 0)).2.1
          rw [gi, gj]; exact hlt
        · rw [if_neg hlt] at h2
          obtain ⟨ef, lf⟩ := chain_at L i A 12 hc (onl_at hi).1
          obtain ⟨ed, ld⟩ := chain_at L j A 12 hc (onl_at hj).1
          have uf : (A.getD i ([], 0, 0)).2.1 + (A.getD i ([], 0, 0)).2.2 ≤ L.length := by
            rw [ef]; show stop L i 12 + 8 + csz L (stop L i 12) ≤ _; unfold nxt whole at lf; omega
          have ud : (A.getD j ([], 0, 0)).2.1 + (A.getD j ([], 0, 0)).2.2 ≤ L.length := by
            rw [ed]; show stop L j 12 + 8 + csz L (stop L j 12) ≤ _; unfold nxt whole at ld; omega
          rw [h2] at hp
          simp only at hp
          rw [fitP_fmt L _ _ uf] at hp
          have O1' : Hid (∀ ao cap w, A.length ≤ cap → Slk w ao A → Calls Try.prog 18 #[.slice ao A.length cap, .string ⟨#[102, 109, 116, 32]⟩] w fun e w' => e = .returned (.tuple #[.agg #[.string (tx (A.getD i ([], 0, 0)).1), .int .i64 ((A.getD i ([], 0, 0)).2.1 : Int), .int .i64 ((A.getD i ([], 0, 0)).2.2 : Int)], .bool true]) ∧ Bel w w') := by
            have := O1.out
            simp only [ansR, Option.getD_some] at this
            rw [gi, hi] at this
            exact this
          have O2' : Hid (∀ ao cap w, A.length ≤ cap → Slk w ao A → Calls Try.prog 18 #[.slice ao A.length cap, .string ⟨#[100, 97, 116, 97]⟩] w fun e w' => e = .returned (.tuple #[.agg #[.string (tx (A.getD j ([], 0, 0)).1), .int .i64 ((A.getD j ([], 0, 0)).2.1 : Int), .int .i64 ((A.getD j ([], 0, 0)).2.2 : Int)], .bool true]) ∧ Bel w w') := by
            have := O2.out
            simp only [ansR, Option.getD_some] at this
            rw [gj, hj] at this
            exact this
          clear O1 O2 BAD gi gj h2 ef ed lf ld
          generalize A.getD i ([], 0, 0) = F at *
          generalize A.getD j ([], 0, 0) = D at *
          obtain ⟨nf, P, z⟩ := F
          obtain ⟨nd, Q, k⟩ := D
          simp only at uf ud hlt hp O1' O2'
          have em : (s.extract P (P + z)).data.toList = (L.drop P).take z := by rw [ext_mid, hs, Nat.add_sub_cancel_left]
          have hsz : (s.extract P (P + z)).size ≤ maxLen := by unfold maxLen; simp; omega
          have e1 : s.extract 0 Q = tx (L.take Q) := ba_eq (by rw [ext_mid, hs, List.drop_zero, Nat.sub_zero])
          have e2 : s.extract Q (Q + k) = tx ((L.drop Q).take k) := ba_eq (by rw [ext_mid, hs, Nat.add_sub_cancel_left])
          have e3 : s.extract (Q + k) s.size = tx (L.drop (Q + k)) := ba_eq (by
            rw [ext_mid, hs, List.take_of_length_le]
            rw [List.length_drop, hlen]
            exact Nat.le_refl _)
          have FMT := fun w => format_ok (s.extract P (P + z)) _ em hsz w
          cases hm : fmtOf ((L.drop P).take z) with
          | none =>
            rw [hm] at hp FMT
            have T := parse_two s A A.length 0 nf nd P z Q k true true C O1' O2' rfl rfl rfl (by omega) (by omega) (by omega) (by omega) 0 0 false 0 FMT (fun q => by cases q) _ _ _ e1 e2 e3 w
            rw [if_neg (fun q => by cases q.1)] at T
            rw [hp]
            exact T
          | some cb =>
            obtain ⟨c, b⟩ := cb
            rw [hm] at hp FMT
            simp only at hp
            have hok := fmtOf_ok hm
            have T := parse_two s A A.length 0 nf nd P z Q k true true C O1' O2' rfl rfl rfl (by omega) (by omega) (by omega) (by omega) c b true (fC c * fQ b) FMT (fun _ => ⟨(frame_eq hok).2.1, fun w => bytes_ok c b hok w⟩) _ _ _ e1 e2 e3 w
            rw [hp]
            by_cases h4 : (k : Int) % ((fC c * fQ b : Nat) : Int) = 0
            · rw [if_pos ⟨rfl, h4⟩] at T
              rw [if_pos h4]
              exact T
            · rw [if_neg (fun q => h4 q.2)] at T
              rw [if_neg h4]
              exact T

end Go.Proofs.Ythbjjjpleongbaa.Wav
