/-
  WaveForms, walked: it answers true for every two ints, where the program's Parse keeps its contract. Condition: it does.
-/
import Derived.Test.YthbjjjpleongbaaWvForms
import Derived.Lib.LazyBuf
namespace Go.Proofs.Ythbjjjpleongbaa.Wav
open Go.RowKit Go.Sort Go.Proofs.Ythbjjjpleongbaa.Mod Go.Proofs.Ythbjjjpleongbaa.Num Go.Proofs.Ythbjjjpleongbaa.Chk
set_option linter.unusedVariables false
set_option linter.unusedSimpArgs false

theorem hold_copy4 {w : World} {B : Nat} {l : List UInt8} (h : HoldB w B l) (o : Nat) (ho : o + 4 ≤ l.length) (a b c d : UInt8) (cap : Nat) (n : Nat) (hn : 4 ≤ n) (ty : TypeId) :
    (Builtin.copy_ #[39, 9] ty #[.slice (some ⟨B, o, none⟩) n cap, .string ⟨#[a, b, c, d]⟩]).run Try.prog w = .ok (.int .i64 4) (w.setCells B o [.int .u8 (a.toNat : Int), .int .u8 (b.toNat : Int), .int .u8 (c.toNat : Int), .int .u8 (d.toNat : Int)]) :=
  run_copy_string (P := Try.prog) w 39 9 ty 5 B o n cap ⟨#[a, b, c, d]⟩ Try.underlying39 Try.sizeOf5 hn
    (fun j hj => by have hj' : j < 4 := hj; rw [(h (o + j) (by omega)).1]; rfl) (fun j hj => by have hj' : j < 4 := hj; exact (h (o + j) (by omega)).2)
theorem hold_sets {w : World} {B : Nat} {l : List UInt8} (h : HoldB w B l) (o : Nat) (ho : o + 4 ≤ l.length) (a b c d : UInt8) :
    HoldB (w.setCells B o [.int .u8 (a.toNat : Int), .int .u8 (b.toNat : Int), .int .u8 (c.toNat : Int), .int .u8 (d.toNat : Int)]) B ((((l.set o a).set (o + 1) b).set (o + 2) c).set (o + 3) d) :=
  (((h.set o (by omega) a _ rfl).set (o + 1) (by rw [List.length_set]; omega) b _ rfl).set (o + 2) (by rw [List.length_set, List.length_set]; omega) c _ rfl).set (o + 3) (by rw [List.length_set, List.length_set, List.length_set]; omega) d _ rfl

set_option maxRecDepth 20000 in
set_option maxHeartbeats 8000000 in
theorem forms_walk (P : ProgW) (a x : Int) (w : World) :
    Calls Try.prog 4 #[.int .i64 a, .int .i64 x] w fun e w' => e = .returned (.bool true) ∧ Bel w w' := by
  obtain ⟨K, hK, hk⟩ := place_u a 12 (by omega) (by omega)
  obtain ⟨u, hu⟩ : ∃ u : Nat, x % 64 = (u : Int) := ⟨(x % 64).toNat, by omega⟩
  have hx : bits .and .i64 x 63 = (u : Int) := (and_mask 6 63 (by decide) (by decide) x).trans hu
  have u1 : u ≤ 63 := by omega
  obtain ⟨V3, hV3⟩ : ∃ V : Nat, 3 + (u : Int) = (V : Int) := ⟨3 + u, by omega⟩
  obtain ⟨V5, hV5⟩ : ∃ V : Nat, 5 + (u : Int) = (V : Int) := ⟨5 + u, by omega⟩
  have b3 : 3 ≤ V3 ∧ V3 < 67 := by omega
  have b5 : 5 ≤ V5 ∧ V5 < 69 := by omega
  clear hu u1
  have AW : Hid (∀ w, Calls Try.prog 13 #[] w fun e w' => e = .returned (.bool true) ∧ Bel w w') := awake_ok P
  have WV : Hid (∀ w, Calls Try.prog 14 #[.agg #[.int .i64 2, .int .i64 16], .string ⟨#[97, 98, 99, 100, 101, 102, 103, 104]⟩] w fun e w' => e = .returned (.string (tx (fil_2_16 D8))) ∧ Bel w w') := wav_2_16 D8 (by decide)
  have RF : Hid (∀ w, Calls Try.prog 9 #[.string (tx (fil_2_16 D8))] w fun e w' => (∃ c b h d t, e = .returned (.tuple #[.agg (wcs c b h d t), .int .i64 0])) ∧ Bel w w') := fun w => by
    have := rparse_ok (tx (fil_2_16 D8)) _ rfl (by unfold maxLen; decide) w
    rw [parse_8] at this
    refine this.mono ?_
    rintro e w' ⟨h, b⟩
    exact ⟨⟨_, _, _, _, _, h⟩, b⟩
  have PR : Hid (∀ M : List UInt8, M.length = 64 → parse M = none → ∀ w, Calls Try.prog 8 #[.string ⟨M.toArray⟩] w fun e w' => e = .returned (.tuple #[.agg #[.int .i64 0, .int .i64 0, .string ⟨#[]⟩, .string ⟨#[]⟩, .string ⟨#[]⟩], .int .i64 2100]) ∧ Bel w w') := fun M hM hp w => by
    have := P.parse (tx M) M rfl (by show M.length ≤ maxLen; unfold maxLen; omega) w
    rw [hp] at this
    exact this
  have L8 : Hid ((fil_2_16 D8).length = 64) := len_8
  obtain ⟨S, hS⟩ : ∃ S : ByteArray, tx (fil_2_16 D8) = S := ⟨_, rfl⟩
  rw [hS] at WV RF
  have z : S.size = 64 := by rw [← hS, tx_size]; exact len_8
  have HS : Hid (S.data.toList = fil_2_16 D8) := (by rw [← hS] : _ = _)
  have hcv := fun w => run_bytes_of_string (P := Try.prog) w 9 39 5 S Try.underlying9 Try.underlying39 Try.underlying5
  rw [z] at hcv
  have E0 := fun w => eq_wv wv0 wv0 w
  rw [decide_eq_true (show wv0 = wv0 from rfl)] at E0
  clear P hS
  go_enter Try.func4, Try.ntmps4
  go_wp2_with fail
  refine (AW.out _).mono ?_
  rintro e w1 ⟨rfl, b1⟩
  have B1 : Hid (Bel w w1) := b1
  clear b1
  go_wp2_with fail
  refine (WV.out _).mono ?_
  rintro e w2 ⟨rfl, b2⟩
  have B2 : Hid (Bel w w2) := (B1.out.alloc _).trans b2
  clear b2 B1
  go_upto_region 6 with fail
  obtain ⟨cap, hcap⟩ : ∃ cap, grownCap w2 64 0 5 = cap := ⟨_, rfl⟩
  have c64 : 64 ≤ cap := hcap ▸ grownCap_ge w2 64 0 5
  simp only [hcap]
  obtain ⟨B, hB⟩ : ∃ B, w2.heap.size = B := ⟨_, rfl⟩
  have SZ : Hid (w.heap.size ≤ B) := hB ▸ B2.out.size
  have H3 : Hid (HoldB (w2.alloc (.cells (bytesRow S cap) 5 ((bytesRow S cap).size, (bytesRow S cap).size + 1))).drew B (fil_2_16 D8)) := (by rw [← hB, ← HS.out]; exact (holdB_bytes S w2 cap _).drew : HoldB _ _ _)
  have B3 : Hid (Bel w (w2.alloc (.cells (bytesRow S cap) 5 ((bytesRow S cap).size, (bytesRow S cap).size + 1))).drew) := (B2.out.alloc _).drew
  rw [hB]
  generalize (w2.alloc (.cells (bytesRow S cap) 5 ((bytesRow S cap).size, (bytesRow S cap).size + 1))).drew = w3 at *
  clear hB hcap hcv B2
  match K, hK with
  | 0, _ =>
    obtain ⟨c20, f20⟩ := H3.out 20 (by rw [L8.out]; omega)
    generalize ((((fil_2_16 D8).getD 20 0).toNat : Nat) : Int) = m20 at *
    have H4 : Hid (HoldB (w3.setCell ⟨B, 20, none⟩ (.int .u8 (3 : Int))) B ((fil_2_16 D8).set 20 (3 : UInt8))) := H3.out.set 20 (by rw [L8.out]; omega) (3 : UInt8) _ (by rfl)
    have B4 : Hid (Bel w (w3.setCell ⟨B, 20, none⟩ (.int .u8 (3 : Int)))) := B3.out.setCell SZ.out _
    have ML : Hid (((fil_2_16 D8).set 20 (3 : UInt8)).length = 64) := (by rw [List.length_set]; exact L8.out : _ = _)
    have MP : Hid (parse ((fil_2_16 D8).set 20 (3 : UInt8)) = none) := form_0
    go_upto_region 30 with fail
    generalize (fil_2_16 D8).set 20 (3 : UInt8) = MM at *
    generalize w3.setCell ⟨B, 20, none⟩ (.int .u8 (3 : Int)) = w4 at *
    clear c20 f20 H3 B3

    have hst := H4.out.str cap 64 ML.out.symm
    have Q1 : Hid (∀ w, Calls Try.prog 8 #[.string ⟨MM.toArray⟩] w fun e w' => e = .returned (.tuple #[.agg #[.int .i64 0, .int .i64 0, .string ⟨#[]⟩, .string ⟨#[]⟩, .string ⟨#[]⟩], .int .i64 2100]) ∧ Bel w w') := PR.out MM ML.out MP.out
    generalize MM.toArray = MA at *
    go_wp2_with fail
    refine (Q1.out _).mono ?_
    rintro e w5 ⟨rfl, b5⟩
    have B5 : Hid (Bel w w5) := B4.out.trans b5
    have X5 : Hid (BoxV (w5.alloc (.cells #[.int .i64 0, .int .i64 0, .string ⟨#[]⟩, .string ⟨#[]⟩, .string ⟨#[]⟩] 25)) w5.heap.size wv0) := boxV_new w5 wv0
    clear b5 hst
    go_wp2_with fail
    refine (RF.out _).mono ?_
    rintro e w6 ⟨⟨rc, rb, rh, rd, rt, rfl⟩, b6⟩
    have B6 : Hid (Bel w w6) := (B5.out.alloc _).trans b6
    obtain ⟨⟨d0, d1, d2, d3, d4⟩, _⟩ := (X5.out.bel b6).bel ((Bel.refl w6).alloc (.cells #[.int .i64 rc, .int .i64 rb, .string rh, .string rd, .string rt] 25))
    obtain ⟨g5, hg5⟩ : ∃ g, w5.heap.size = g := ⟨_, rfl⟩
    rw [hg5] at d0 d1 d2 d3 d4
    rw [hg5]
    simp only at d0 d1 d2 d3 d4
    clear b6 X5 hg5
    go_wp2_with fail
    refine (num_ok _ _).mono ?_
    rintro e w7 ⟨rfl, rfl⟩
    go_wp2
    go_ret
    exact ⟨rfl, B6.out.alloc _⟩
  | 1, _ =>
    obtain ⟨c21, f21⟩ := H3.out 21 (by rw [L8.out]; omega)
    generalize ((((fil_2_16 D8).getD 21 0).toNat : Nat) : Int) = m21 at *
    have H4 : Hid (HoldB (w3.setCell ⟨B, 21, none⟩ (.int .u8 (1 : Int))) B ((fil_2_16 D8).set 21 (1 : UInt8))) := H3.out.set 21 (by rw [L8.out]; omega) (1 : UInt8) _ (by rfl)
    have B4 : Hid (Bel w (w3.setCell ⟨B, 21, none⟩ (.int .u8 (1 : Int)))) := B3.out.setCell SZ.out _
    have ML : Hid (((fil_2_16 D8).set 21 (1 : UInt8)).length = 64) := (by rw [List.length_set]; exact L8.out : _ = _)
    have MP : Hid (parse ((fil_2_16 D8).set 21 (1 : UInt8)) = none) := form_1
    go_upto_region 30 with fail
    generalize (fil_2_16 D8).set 21 (1 : UInt8) = MM at *
    generalize w3.setCell ⟨B, 21, none⟩ (.int .u8 (1 : Int)) = w4 at *
    clear c21 f21 H3 B3

    have hst := H4.out.str cap 64 ML.out.symm
    have Q1 : Hid (∀ w, Calls Try.prog 8 #[.string ⟨MM.toArray⟩] w fun e w' => e = .returned (.tuple #[.agg #[.int .i64 0, .int .i64 0, .string ⟨#[]⟩, .string ⟨#[]⟩, .string ⟨#[]⟩], .int .i64 2100]) ∧ Bel w w') := PR.out MM ML.out MP.out
    generalize MM.toArray = MA at *
    go_wp2_with fail
    refine (Q1.out _).mono ?_
    rintro e w5 ⟨rfl, b5⟩
    have B5 : Hid (Bel w w5) := B4.out.trans b5
    have X5 : Hid (BoxV (w5.alloc (.cells #[.int .i64 0, .int .i64 0, .string ⟨#[]⟩, .string ⟨#[]⟩, .string ⟨#[]⟩] 25)) w5.heap.size wv0) := boxV_new w5 wv0
    clear b5 hst
    go_wp2_with fail
    refine (RF.out _).mono ?_
    rintro e w6 ⟨⟨rc, rb, rh, rd, rt, rfl⟩, b6⟩
    have B6 : Hid (Bel w w6) := (B5.out.alloc _).trans b6
    obtain ⟨⟨d0, d1, d2, d3, d4⟩, _⟩ := (X5.out.bel b6).bel ((Bel.refl w6).alloc (.cells #[.int .i64 rc, .int .i64 rb, .string rh, .string rd, .string rt] 25))
    obtain ⟨g5, hg5⟩ : ∃ g, w5.heap.size = g := ⟨_, rfl⟩
    rw [hg5] at d0 d1 d2 d3 d4
    rw [hg5]
    simp only at d0 d1 d2 d3 d4
    clear b6 X5 hg5
    go_wp2_with fail
    refine (num_ok _ _).mono ?_
    rintro e w7 ⟨rfl, rfl⟩
    go_wp2
    go_ret
    exact ⟨rfl, B6.out.alloc _⟩
  | 2, _ =>
    obtain ⟨c22, f22⟩ := H3.out 22 (by rw [L8.out]; omega)
    generalize ((((fil_2_16 D8).getD 22 0).toNat : Nat) : Int) = m22 at *
    have H4 : Hid (HoldB (w3.setCell ⟨B, 22, none⟩ (.int .u8 (V3 : Int))) B ((fil_2_16 D8).set 22 (UInt8.ofNat V3))) := H3.out.set 22 (by rw [L8.out]; omega) (UInt8.ofNat V3) _ (by rw [UInt8.toNat_ofNat', Nat.mod_eq_of_lt (by omega)])
    have B4 : Hid (Bel w (w3.setCell ⟨B, 22, none⟩ (.int .u8 (V3 : Int)))) := B3.out.setCell SZ.out _
    have ML : Hid (((fil_2_16 D8).set 22 (UInt8.ofNat V3)).length = 64) := (by rw [List.length_set]; exact L8.out : _ = _)
    have MP : Hid (parse ((fil_2_16 D8).set 22 (UInt8.ofNat V3)) = none) := form_2 V3 (by omega) (by omega)
    go_upto_region 30 with fail
    generalize (fil_2_16 D8).set 22 (UInt8.ofNat V3) = MM at *
    generalize w3.setCell ⟨B, 22, none⟩ (.int .u8 (V3 : Int)) = w4 at *
    clear c22 f22 H3 B3

    have hst := H4.out.str cap 64 ML.out.symm
    have Q1 : Hid (∀ w, Calls Try.prog 8 #[.string ⟨MM.toArray⟩] w fun e w' => e = .returned (.tuple #[.agg #[.int .i64 0, .int .i64 0, .string ⟨#[]⟩, .string ⟨#[]⟩, .string ⟨#[]⟩], .int .i64 2100]) ∧ Bel w w') := PR.out MM ML.out MP.out
    generalize MM.toArray = MA at *
    go_wp2_with fail
    refine (Q1.out _).mono ?_
    rintro e w5 ⟨rfl, b5⟩
    have B5 : Hid (Bel w w5) := B4.out.trans b5
    have X5 : Hid (BoxV (w5.alloc (.cells #[.int .i64 0, .int .i64 0, .string ⟨#[]⟩, .string ⟨#[]⟩, .string ⟨#[]⟩] 25)) w5.heap.size wv0) := boxV_new w5 wv0
    clear b5 hst
    go_wp2_with fail
    refine (RF.out _).mono ?_
    rintro e w6 ⟨⟨rc, rb, rh, rd, rt, rfl⟩, b6⟩
    have B6 : Hid (Bel w w6) := (B5.out.alloc _).trans b6
    obtain ⟨⟨d0, d1, d2, d3, d4⟩, _⟩ := (X5.out.bel b6).bel ((Bel.refl w6).alloc (.cells #[.int .i64 rc, .int .i64 rb, .string rh, .string rd, .string rt] 25))
    obtain ⟨g5, hg5⟩ : ∃ g, w5.heap.size = g := ⟨_, rfl⟩
    rw [hg5] at d0 d1 d2 d3 d4
    rw [hg5]
    simp only at d0 d1 d2 d3 d4
    clear b6 X5 hg5
    go_wp2_with fail
    refine (num_ok _ _).mono ?_
    rintro e w7 ⟨rfl, rfl⟩
    go_wp2
    go_ret
    exact ⟨rfl, B6.out.alloc _⟩
  | 3, _ =>
    obtain ⟨c22, f22⟩ := H3.out 22 (by rw [L8.out]; omega)
    generalize ((((fil_2_16 D8).getD 22 0).toNat : Nat) : Int) = m22 at *
    have H4 : Hid (HoldB (w3.setCell ⟨B, 22, none⟩ (.int .u8 (0 : Int))) B ((fil_2_16 D8).set 22 (0 : UInt8))) := H3.out.set 22 (by rw [L8.out]; omega) (0 : UInt8) _ (by rfl)
    have B4 : Hid (Bel w (w3.setCell ⟨B, 22, none⟩ (.int .u8 (0 : Int)))) := B3.out.setCell SZ.out _
    have ML : Hid (((fil_2_16 D8).set 22 (0 : UInt8)).length = 64) := (by rw [List.length_set]; exact L8.out : _ = _)
    have MP : Hid (parse ((fil_2_16 D8).set 22 (0 : UInt8)) = none) := form_3
    go_upto_region 30 with fail
    generalize (fil_2_16 D8).set 22 (0 : UInt8) = MM at *
    generalize w3.setCell ⟨B, 22, none⟩ (.int .u8 (0 : Int)) = w4 at *
    clear c22 f22 H3 B3

    have hst := H4.out.str cap 64 ML.out.symm
    have Q1 : Hid (∀ w, Calls Try.prog 8 #[.string ⟨MM.toArray⟩] w fun e w' => e = .returned (.tuple #[.agg #[.int .i64 0, .int .i64 0, .string ⟨#[]⟩, .string ⟨#[]⟩, .string ⟨#[]⟩], .int .i64 2100]) ∧ Bel w w') := PR.out MM ML.out MP.out
    generalize MM.toArray = MA at *
    go_wp2_with fail
    refine (Q1.out _).mono ?_
    rintro e w5 ⟨rfl, b5⟩
    have B5 : Hid (Bel w w5) := B4.out.trans b5
    have X5 : Hid (BoxV (w5.alloc (.cells #[.int .i64 0, .int .i64 0, .string ⟨#[]⟩, .string ⟨#[]⟩, .string ⟨#[]⟩] 25)) w5.heap.size wv0) := boxV_new w5 wv0
    clear b5 hst
    go_wp2_with fail
    refine (RF.out _).mono ?_
    rintro e w6 ⟨⟨rc, rb, rh, rd, rt, rfl⟩, b6⟩
    have B6 : Hid (Bel w w6) := (B5.out.alloc _).trans b6
    obtain ⟨⟨d0, d1, d2, d3, d4⟩, _⟩ := (X5.out.bel b6).bel ((Bel.refl w6).alloc (.cells #[.int .i64 rc, .int .i64 rb, .string rh, .string rd, .string rt] 25))
    obtain ⟨g5, hg5⟩ : ∃ g, w5.heap.size = g := ⟨_, rfl⟩
    rw [hg5] at d0 d1 d2 d3 d4
    rw [hg5]
    simp only at d0 d1 d2 d3 d4
    clear b6 X5 hg5
    go_wp2_with fail
    refine (num_ok _ _).mono ?_
    rintro e w7 ⟨rfl, rfl⟩
    go_wp2
    go_ret
    exact ⟨rfl, B6.out.alloc _⟩
  | 4, _ =>
    obtain ⟨c32, f32⟩ := H3.out 32 (by rw [L8.out]; omega)
    generalize ((((fil_2_16 D8).getD 32 0).toNat : Nat) : Int) = m32 at *
    have H4 : Hid (HoldB (w3.setCell ⟨B, 32, none⟩ (.int .u8 (V5 : Int))) B ((fil_2_16 D8).set 32 (UInt8.ofNat V5))) := H3.out.set 32 (by rw [L8.out]; omega) (UInt8.ofNat V5) _ (by rw [UInt8.toNat_ofNat', Nat.mod_eq_of_lt (by omega)])
    have B4 : Hid (Bel w (w3.setCell ⟨B, 32, none⟩ (.int .u8 (V5 : Int)))) := B3.out.setCell SZ.out _
    have ML : Hid (((fil_2_16 D8).set 32 (UInt8.ofNat V5)).length = 64) := (by rw [List.length_set]; exact L8.out : _ = _)
    have MP : Hid (parse ((fil_2_16 D8).set 32 (UInt8.ofNat V5)) = none) := form_4 V5 (by omega) (by omega)
    go_upto_region 30 with fail
    generalize (fil_2_16 D8).set 32 (UInt8.ofNat V5) = MM at *
    generalize w3.setCell ⟨B, 32, none⟩ (.int .u8 (V5 : Int)) = w4 at *
    clear c32 f32 H3 B3

    have hst := H4.out.str cap 64 ML.out.symm
    have Q1 : Hid (∀ w, Calls Try.prog 8 #[.string ⟨MM.toArray⟩] w fun e w' => e = .returned (.tuple #[.agg #[.int .i64 0, .int .i64 0, .string ⟨#[]⟩, .string ⟨#[]⟩, .string ⟨#[]⟩], .int .i64 2100]) ∧ Bel w w') := PR.out MM ML.out MP.out
    generalize MM.toArray = MA at *
    go_wp2_with fail
    refine (Q1.out _).mono ?_
    rintro e w5 ⟨rfl, b5⟩
    have B5 : Hid (Bel w w5) := B4.out.trans b5
    have X5 : Hid (BoxV (w5.alloc (.cells #[.int .i64 0, .int .i64 0, .string ⟨#[]⟩, .string ⟨#[]⟩, .string ⟨#[]⟩] 25)) w5.heap.size wv0) := boxV_new w5 wv0
    clear b5 hst
    go_wp2_with fail
    refine (RF.out _).mono ?_
    rintro e w6 ⟨⟨rc, rb, rh, rd, rt, rfl⟩, b6⟩
    have B6 : Hid (Bel w w6) := (B5.out.alloc _).trans b6
    obtain ⟨⟨d0, d1, d2, d3, d4⟩, _⟩ := (X5.out.bel b6).bel ((Bel.refl w6).alloc (.cells #[.int .i64 rc, .int .i64 rb, .string rh, .string rd, .string rt] 25))
    obtain ⟨g5, hg5⟩ : ∃ g, w5.heap.size = g := ⟨_, rfl⟩
    rw [hg5] at d0 d1 d2 d3 d4
    rw [hg5]
    simp only at d0 d1 d2 d3 d4
    clear b6 X5 hg5
    go_wp2_with fail
    refine (num_ok _ _).mono ?_
    rintro e w7 ⟨rfl, rfl⟩
    go_wp2
    go_ret
    exact ⟨rfl, B6.out.alloc _⟩
  | 5, _ =>
    obtain ⟨c34, f34⟩ := H3.out 34 (by rw [L8.out]; omega)
    generalize ((((fil_2_16 D8).getD 34 0).toNat : Nat) : Int) = m34 at *
    have H4 : Hid (HoldB (w3.setCell ⟨B, 34, none⟩ (.int .u8 (24 : Int))) B ((fil_2_16 D8).set 34 (24 : UInt8))) := H3.out.set 34 (by rw [L8.out]; omega) (24 : UInt8) _ (by rfl)
    have B4 : Hid (Bel w (w3.setCell ⟨B, 34, none⟩ (.int .u8 (24 : Int)))) := B3.out.setCell SZ.out _
    have ML : Hid (((fil_2_16 D8).set 34 (24 : UInt8)).length = 64) := (by rw [List.length_set]; exact L8.out : _ = _)
    have MP : Hid (parse ((fil_2_16 D8).set 34 (24 : UInt8)) = none) := form_5
    go_upto_region 30 with fail
    generalize (fil_2_16 D8).set 34 (24 : UInt8) = MM at *
    generalize w3.setCell ⟨B, 34, none⟩ (.int .u8 (24 : Int)) = w4 at *
    clear c34 f34 H3 B3

    have hst := H4.out.str cap 64 ML.out.symm
    have Q1 : Hid (∀ w, Calls Try.prog 8 #[.string ⟨MM.toArray⟩] w fun e w' => e = .returned (.tuple #[.agg #[.int .i64 0, .int .i64 0, .string ⟨#[]⟩, .string ⟨#[]⟩, .string ⟨#[]⟩], .int .i64 2100]) ∧ Bel w w') := PR.out MM ML.out MP.out
    generalize MM.toArray = MA at *
    go_wp2_with fail
    refine (Q1.out _).mono ?_
    rintro e w5 ⟨rfl, b5⟩
    have B5 : Hid (Bel w w5) := B4.out.trans b5
    have X5 : Hid (BoxV (w5.alloc (.cells #[.int .i64 0, .int .i64 0, .string ⟨#[]⟩, .string ⟨#[]⟩, .string ⟨#[]⟩] 25)) w5.heap.size wv0) := boxV_new w5 wv0
    clear b5 hst
    go_wp2_with fail
    refine (RF.out _).mono ?_
    rintro e w6 ⟨⟨rc, rb, rh, rd, rt, rfl⟩, b6⟩
    have B6 : Hid (Bel w w6) := (B5.out.alloc _).trans b6
    obtain ⟨⟨d0, d1, d2, d3, d4⟩, _⟩ := (X5.out.bel b6).bel ((Bel.refl w6).alloc (.cells #[.int .i64 rc, .int .i64 rb, .string rh, .string rd, .string rt] 25))
    obtain ⟨g5, hg5⟩ : ∃ g, w5.heap.size = g := ⟨_, rfl⟩
    rw [hg5] at d0 d1 d2 d3 d4
    rw [hg5]
    simp only at d0 d1 d2 d3 d4
    clear b6 X5 hg5
    go_wp2_with fail
    refine (num_ok _ _).mono ?_
    rintro e w7 ⟨rfl, rfl⟩
    go_wp2
    go_ret
    exact ⟨rfl, B6.out.alloc _⟩
  | 6, _ =>
    obtain ⟨c34, f34⟩ := H3.out 34 (by rw [L8.out]; omega)
    generalize ((((fil_2_16 D8).getD 34 0).toNat : Nat) : Int) = m34 at *
    have H4 : Hid (HoldB (w3.setCell ⟨B, 34, none⟩ (.int .u8 (8 : Int))) B ((fil_2_16 D8).set 34 (8 : UInt8))) := H3.out.set 34 (by rw [L8.out]; omega) (8 : UInt8) _ (by rfl)
    have B4 : Hid (Bel w (w3.setCell ⟨B, 34, none⟩ (.int .u8 (8 : Int)))) := B3.out.setCell SZ.out _
    have ML : Hid (((fil_2_16 D8).set 34 (8 : UInt8)).length = 64) := (by rw [List.length_set]; exact L8.out : _ = _)
    have MP : Hid (parse ((fil_2_16 D8).set 34 (8 : UInt8)) = none) := form_6
    go_upto_region 30 with fail
    generalize (fil_2_16 D8).set 34 (8 : UInt8) = MM at *
    generalize w3.setCell ⟨B, 34, none⟩ (.int .u8 (8 : Int)) = w4 at *
    clear c34 f34 H3 B3

    have hst := H4.out.str cap 64 ML.out.symm
    have Q1 : Hid (∀ w, Calls Try.prog 8 #[.string ⟨MM.toArray⟩] w fun e w' => e = .returned (.tuple #[.agg #[.int .i64 0, .int .i64 0, .string ⟨#[]⟩, .string ⟨#[]⟩, .string ⟨#[]⟩], .int .i64 2100]) ∧ Bel w w') := PR.out MM ML.out MP.out
    generalize MM.toArray = MA at *
    go_wp2_with fail
    refine (Q1.out _).mono ?_
    rintro e w5 ⟨rfl, b5⟩
    have B5 : Hid (Bel w w5) := B4.out.trans b5
    have X5 : Hid (BoxV (w5.alloc (.cells #[.int .i64 0, .int .i64 0, .string ⟨#[]⟩, .string ⟨#[]⟩, .string ⟨#[]⟩] 25)) w5.heap.size wv0) := boxV_new w5 wv0
    clear b5 hst
    go_wp2_with fail
    refine (RF.out _).mono ?_
    rintro e w6 ⟨⟨rc, rb, rh, rd, rt, rfl⟩, b6⟩
    have B6 : Hid (Bel w w6) := (B5.out.alloc _).trans b6
    obtain ⟨⟨d0, d1, d2, d3, d4⟩, _⟩ := (X5.out.bel b6).bel ((Bel.refl w6).alloc (.cells #[.int .i64 rc, .int .i64 rb, .string rh, .string rd, .string rt] 25))
    obtain ⟨g5, hg5⟩ : ∃ g, w5.heap.size = g := ⟨_, rfl⟩
    rw [hg5] at d0 d1 d2 d3 d4
    rw [hg5]
    simp only at d0 d1 d2 d3 d4
    clear b6 X5 hg5
    go_wp2_with fail
    refine (num_ok _ _).mono ?_
    rintro e w7 ⟨rfl, rfl⟩
    go_wp2
    go_ret
    exact ⟨rfl, B6.out.alloc _⟩
  | 7, _ =>
    obtain ⟨c12, f12⟩ := H3.out 12 (by rw [L8.out]; omega)
    generalize ((((fil_2_16 D8).getD 12 0).toNat : Nat) : Int) = m12 at *
    have H4 : Hid (HoldB (w3.setCell ⟨B, 12, none⟩ (.int .u8 (70 : Int))) B ((fil_2_16 D8).set 12 (70 : UInt8))) := H3.out.set 12 (by rw [L8.out]; omega) (70 : UInt8) _ (by rfl)
    have B4 : Hid (Bel w (w3.setCell ⟨B, 12, none⟩ (.int .u8 (70 : Int)))) := B3.out.setCell SZ.out _
    have ML : Hid (((fil_2_16 D8).set 12 (70 : UInt8)).length = 64) := (by rw [List.length_set]; exact L8.out : _ = _)
    have MP : Hid (parse ((fil_2_16 D8).set 12 (70 : UInt8)) = none) := form_7
    go_upto_region 30 with fail
    generalize (fil_2_16 D8).set 12 (70 : UInt8) = MM at *
    generalize w3.setCell ⟨B, 12, none⟩ (.int .u8 (70 : Int)) = w4 at *
    clear c12 f12 H3 B3

    have hst := H4.out.str cap 64 ML.out.symm
    have Q1 : Hid (∀ w, Calls Try.prog 8 #[.string ⟨MM.toArray⟩] w fun e w' => e = .returned (.tuple #[.agg #[.int .i64 0, .int .i64 0, .string ⟨#[]⟩, .string ⟨#[]⟩, .string ⟨#[]⟩], .int .i64 2100]) ∧ Bel w w') := PR.out MM ML.out MP.out
    generalize MM.toArray = MA at *
    go_wp2_with fail
    refine (Q1.out _).mono ?_
    rintro e w5 ⟨rfl, b5⟩
    have B5 : Hid (Bel w w5) := B4.out.trans b5
    have X5 : Hid (BoxV (w5.alloc (.cells #[.int .i64 0, .int .i64 0, .string ⟨#[]⟩, .string ⟨#[]⟩, .string ⟨#[]⟩] 25)) w5.heap.size wv0) := boxV_new w5 wv0
    clear b5 hst
    go_wp2_with fail
    refine (RF.out _).mono ?_
    rintro e w6 ⟨⟨rc, rb, rh, rd, rt, rfl⟩, b6⟩
    have B6 : Hid (Bel w w6) := (B5.out.alloc _).trans b6
    obtain ⟨⟨d0, d1, d2, d3, d4⟩, _⟩ := (X5.out.bel b6).bel ((Bel.refl w6).alloc (.cells #[.int .i64 rc, .int .i64 rb, .string rh, .string rd, .string rt] 25))
    obtain ⟨g5, hg5⟩ : ∃ g, w5.heap.size = g := ⟨_, rfl⟩
    rw [hg5] at d0 d1 d2 d3 d4
    rw [hg5]
    simp only at d0 d1 d2 d3 d4
    clear b6 X5 hg5
    go_wp2_with fail
    refine (num_ok _ _).mono ?_
    rintro e w7 ⟨rfl, rfl⟩
    go_wp2
    go_ret
    exact ⟨rfl, B6.out.alloc _⟩
  | 8, _ =>
    obtain ⟨c36, f36⟩ := H3.out 36 (by rw [L8.out]; omega)
    generalize ((((fil_2_16 D8).getD 36 0).toNat : Nat) : Int) = m36 at *
    have H4 : Hid (HoldB (w3.setCell ⟨B, 36, none⟩ (.int .u8 (68 : Int))) B ((fil_2_16 D8).set 36 (68 : UInt8))) := H3.out.set 36 (by rw [L8.out]; omega) (68 : UInt8) _ (by rfl)
    have B4 : Hid (Bel w (w3.setCell ⟨B, 36, none⟩ (.int .u8 (68 : Int)))) := B3.out.setCell SZ.out _
    have ML : Hid (((fil_2_16 D8).set 36 (68 : UInt8)).length = 64) := (by rw [List.length_set]; exact L8.out : _ = _)
    have MP : Hid (parse ((fil_2_16 D8).set 36 (68 : UInt8)) = none) := form_8
    go_upto_region 30 with fail
    generalize (fil_2_16 D8).set 36 (68 : UInt8) = MM at *
    generalize w3.setCell ⟨B, 36, none⟩ (.int .u8 (68 : Int)) = w4 at *
    clear c36 f36 H3 B3

    have hst := H4.out.str cap 64 ML.out.symm
    have Q1 : Hid (∀ w, Calls Try.prog 8 #[.string ⟨MM.toArray⟩] w fun e w' => e = .returned (.tuple #[.agg #[.int .i64 0, .int .i64 0, .string ⟨#[]⟩, .string ⟨#[]⟩, .string ⟨#[]⟩], .int .i64 2100]) ∧ Bel w w') := PR.out MM ML.out MP.out
    generalize MM.toArray = MA at *
    go_wp2_with fail
    refine (Q1.out _).mono ?_
    rintro e w5 ⟨rfl, b5⟩
    have B5 : Hid (Bel w w5) := B4.out.trans b5
    have X5 : Hid (BoxV (w5.alloc (.cells #[.int .i64 0, .int .i64 0, .string ⟨#[]⟩, .string ⟨#[]⟩, .string ⟨#[]⟩] 25)) w5.heap.size wv0) := boxV_new w5 wv0
    clear b5 hst
    go_wp2_with fail
    refine (RF.out _).mono ?_
    rintro e w6 ⟨⟨rc, rb, rh, rd, rt, rfl⟩, b6⟩
    have B6 : Hid (Bel w w6) := (B5.out.alloc _).trans b6
    obtain ⟨⟨d0, d1, d2, d3, d4⟩, _⟩ := (X5.out.bel b6).bel ((Bel.refl w6).alloc (.cells #[.int .i64 rc, .int .i64 rb, .string rh, .string rd, .string rt] 25))
    obtain ⟨g5, hg5⟩ : ∃ g, w5.heap.size = g := ⟨_, rfl⟩
    rw [hg5] at d0 d1 d2 d3 d4
    rw [hg5]
    simp only at d0 d1 d2 d3 d4
    clear b6 X5 hg5
    go_wp2_with fail
    refine (num_ok _ _).mono ?_
    rintro e w7 ⟨rfl, rfl⟩
    go_wp2
    go_ret
    exact ⟨rfl, B6.out.alloc _⟩
  | 9, _ =>
    have cp := fun ty => hold_copy4 H3.out 52 (by rw [L8.out]; omega) 100 97 116 97 (cap - 52) 12 (by omega) ty
    have H4 : Hid (HoldB (w3.setCells B 52 [.int .u8 100, .int .u8 97, .int .u8 116, .int .u8 97]) B (((((fil_2_16 D8).set 52 100).set (52 + 1) 97).set (52 + 2) 116).set (52 + 3) 97)) := hold_sets H3.out 52 (by rw [L8.out]; omega) 100 97 116 97
    have B4 : Hid (Bel w (w3.setCells B 52 [.int .u8 100, .int .u8 97, .int .u8 116, .int .u8 97])) := (((B3.out.setCell SZ.out _).setCell SZ.out _).setCell SZ.out _).setCell SZ.out _
    have ML : Hid ((((((fil_2_16 D8).set 52 100).set (52 + 1) 97).set (52 + 2) 116).set (52 + 3) 97).length = 64) := (by rw [List.length_set, List.length_set, List.length_set, List.length_set]; exact L8.out : _ = _)
    have MP : Hid (parse (((((fil_2_16 D8).set 52 100).set (52 + 1) 97).set (52 + 2) 116).set (52 + 3) 97) = none) := form_9
    go_upto_region 30 with fail
    generalize ((((fil_2_16 D8).set 52 100).set (52 + 1) 97).set (52 + 2) 116).set (52 + 3) 97 = MM at *
    generalize w3.setCells B 52 [.int .u8 100, .int .u8 97, .int .u8 116, .int .u8 97] = w4 at *
    clear cp H3 B3

    have hst := H4.out.str cap 64 ML.out.symm
    have Q1 : Hid (∀ w, Calls Try.prog 8 #[.string ⟨MM.toArray⟩] w fun e w' => e = .returned (.tuple #[.agg #[.int .i64 0, .int .i64 0, .string ⟨#[]⟩, .string ⟨#[]⟩, .string ⟨#[]⟩], .int .i64 2100]) ∧ Bel w w') := PR.out MM ML.out MP.out
    generalize MM.toArray = MA at *
    go_wp2_with fail
    refine (Q1.out _).mono ?_
    rintro e w5 ⟨rfl, b5⟩
    have B5 : Hid (Bel w w5) := B4.out.trans b5
    have X5 : Hid (BoxV (w5.alloc (.cells #[.int .i64 0, .int .i64 0, .string ⟨#[]⟩, .string ⟨#[]⟩, .string ⟨#[]⟩] 25)) w5.heap.size wv0) := boxV_new w5 wv0
    clear b5 hst
    go_wp2_with fail
    refine (RF.out _).mono ?_
    rintro e w6 ⟨⟨rc, rb, rh, rd, rt, rfl⟩, b6⟩
    have B6 : Hid (Bel w w6) := (B5.out.alloc _).trans b6
    obtain ⟨⟨d0, d1, d2, d3, d4⟩, _⟩ := (X5.out.bel b6).bel ((Bel.refl w6).alloc (.cells #[.int .i64 rc, .int .i64 rb, .string rh, .string rd, .string rt] 25))
    obtain ⟨g5, hg5⟩ : ∃ g, w5.heap.size = g := ⟨_, rfl⟩
    rw [hg5] at d0 d1 d2 d3 d4
    rw [hg5]
    simp only at d0 d1 d2 d3 d4
    clear b6 X5 hg5
    go_wp2_with fail
    refine (num_ok _ _).mono ?_
    rintro e w7 ⟨rfl, rfl⟩
    go_wp2
    go_ret
    exact ⟨rfl, B6.out.alloc _⟩
  | 10, _ =>
    have cp := fun ty => hold_copy4 H3.out 52 (by rw [L8.out]; omega) 102 109 116 32 (cap - 52) 12 (by omega) ty
    have H4 : Hid (HoldB (w3.setCells B 52 [.int .u8 102, .int .u8 109, .int .u8 116, .int .u8 32]) B (((((fil_2_16 D8).set 52 102).set (52 + 1) 109).set (52 + 2) 116).set (52 + 3) 32)) := hold_sets H3.out 52 (by rw [L8.out]; omega) 102 109 116 32
    have B4 : Hid (Bel w (w3.setCells B 52 [.int .u8 102, .int .u8 109, .int .u8 116, .int .u8 32])) := (((B3.out.setCell SZ.out _).setCell SZ.out _).setCell SZ.out _).setCell SZ.out _
    have ML : Hid ((((((fil_2_16 D8).set 52 102).set (52 + 1) 109).set (52 + 2) 116).set (52 + 3) 32).length = 64) := (by rw [List.length_set, List.length_set, List.length_set, List.length_set]; exact L8.out : _ = _)
    have MP : Hid (parse (((((fil_2_16 D8).set 52 102).set (52 + 1) 109).set (52 + 2) 116).set (52 + 3) 32) = none) := form_10
    go_upto_region 30 with fail
    generalize ((((fil_2_16 D8).set 52 102).set (52 + 1) 109).set (52 + 2) 116).set (52 + 3) 32 = MM at *
    generalize w3.setCells B 52 [.int .u8 102, .int .u8 109, .int .u8 116, .int .u8 32] = w4 at *
    clear cp H3 B3

    have hst := H4.out.str cap 64 ML.out.symm
    have Q1 : Hid (∀ w, Calls Try.prog 8 #[.string ⟨MM.toArray⟩] w fun e w' => e = .returned (.tuple #[.agg #[.int .i64 0, .int .i64 0, .string ⟨#[]⟩, .string ⟨#[]⟩, .string ⟨#[]⟩], .int .i64 2100]) ∧ Bel w w') := PR.out MM ML.out MP.out
    generalize MM.toArray = MA at *
    go_wp2_with fail
    refine (Q1.out _).mono ?_
    rintro e w5 ⟨rfl, b5⟩
    have B5 : Hid (Bel w w5) := B4.out.trans b5
    have X5 : Hid (BoxV (w5.alloc (.cells #[.int .i64 0, .int .i64 0, .string ⟨#[]⟩, .string ⟨#[]⟩, .string ⟨#[]⟩] 25)) w5.heap.size wv0) := boxV_new w5 wv0
    clear b5 hst
    go_wp2_with fail
    refine (RF.out _).mono ?_
    rintro e w6 ⟨⟨rc, rb, rh, rd, rt, rfl⟩, b6⟩
    have B6 : Hid (Bel w w6) := (B5.out.alloc _).trans b6
    obtain ⟨⟨d0, d1, d2, d3, d4⟩, _⟩ := (X5.out.bel b6).bel ((Bel.refl w6).alloc (.cells #[.int .i64 rc, .int .i64 rb, .string rh, .string rd, .string rt] 25))
    obtain ⟨g5, hg5⟩ : ∃ g, w5.heap.size = g := ⟨_, rfl⟩
    rw [hg5] at d0 d1 d2 d3 d4
    rw [hg5]
    simp only at d0 d1 d2 d3 d4
    clear b6 X5 hg5
    go_wp2_with fail
    refine (num_ok _ _).mono ?_
    rintro e w7 ⟨rfl, rfl⟩
    go_wp2
    go_ret
    exact ⟨rfl, B6.out.alloc _⟩
  | 11, _ =>
    obtain ⟨c40, f40⟩ := H3.out 40 (by rw [L8.out]; omega)
    generalize ((((fil_2_16 D8).getD 40 0).toNat : Nat) : Int) = m40 at *
    have H4 : Hid (HoldB (w3.setCell ⟨B, 40, none⟩ (.int .u8 (6 : Int))) B ((fil_2_16 D8).set 40 (6 : UInt8))) := H3.out.set 40 (by rw [L8.out]; omega) (6 : UInt8) _ (by rfl)
    have B4 : Hid (Bel w (w3.setCell ⟨B, 40, none⟩ (.int .u8 (6 : Int)))) := B3.out.setCell SZ.out _
    have ML : Hid (((fil_2_16 D8).set 40 (6 : UInt8)).length = 64) := (by rw [List.length_set]; exact L8.out : _ = _)
    have MP : Hid (parse ((fil_2_16 D8).set 40 (6 : UInt8)) = none) := form_11
    go_upto_region 30 with fail
    generalize (fil_2_16 D8).set 40 (6 : UInt8) = MM at *
    generalize w3.setCell ⟨B, 40, none⟩ (.int .u8 (6 : Int)) = w4 at *
    clear c40 f40 H3 B3

    have hst := H4.out.str cap 64 ML.out.symm
    have Q1 : Hid (∀ w, Calls Try.prog 8 #[.string ⟨MM.toArray⟩] w fun e w' => e = .returned (.tuple #[.agg #[.int .i64 0, .int .i64 0, .string ⟨#[]⟩, .string ⟨#[]⟩, .string ⟨#[]⟩], .int .i64 2100]) ∧ Bel w w') := PR.out MM ML.out MP.out
    generalize MM.toArray = MA at *
    go_wp2_with fail
    refine (Q1.out _).mono ?_
    rintro e w5 ⟨rfl, b5⟩
    have B5 : Hid (Bel w w5) := B4.out.trans b5
    have X5 : Hid (BoxV (w5.alloc (.cells #[.int .i64 0, .int .i64 0, .string ⟨#[]⟩, .string ⟨#[]⟩, .string ⟨#[]⟩] 25)) w5.heap.size wv0) := boxV_new w5 wv0
    clear b5 hst
    go_wp2_with fail
    refine (RF.out _).mono ?_
    rintro e w6 ⟨⟨rc, rb, rh, rd, rt, rfl⟩, b6⟩
    have B6 : Hid (Bel w w6) := (B5.out.alloc _).trans b6
    obtain ⟨⟨d0, d1, d2, d3, d4⟩, _⟩ := (X5.out.bel b6).bel ((Bel.refl w6).alloc (.cells #[.int .i64 rc, .int .i64 rb, .string rh, .string rd, .string rt] 25))
    obtain ⟨g5, hg5⟩ : ∃ g, w5.heap.size = g := ⟨_, rfl⟩
    rw [hg5] at d0 d1 d2 d3 d4
    rw [hg5]
    simp only at d0 d1 d2 d3 d4
    clear b6 X5 hg5
    go_wp2_with fail
    refine (num_ok _ _).mono ?_
    rintro e w7 ⟨rfl, rfl⟩
    go_wp2
    go_ret
    exact ⟨rfl, B6.out.alloc _⟩
  | k + 12, h => omega

end Go.Proofs.Ythbjjjpleongbaa.Wav
