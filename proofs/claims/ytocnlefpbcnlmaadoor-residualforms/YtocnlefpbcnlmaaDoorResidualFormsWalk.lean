/-
  ResidualForms answers true: the walk. Condition: the package's table is laid as its text lays it.
-/
import Derived.Test.YtocnlefpbcnlmaaDoorRMake
import Derived.Test.YtocnlefpbcnlmaaDoorKRefBit
namespace Go.Proofs.YtocnlefpbcnlmaaDoor.Res
open Go.RowKit Go.Sort Go.Proofs.YtocnlefpbcnlmaaDoor.Mod Go.Proofs.YtocnlefpbcnlmaaDoor.Ints Go.Proofs.YtocnlefpbcnlmaaDoor.Num
set_option linter.unusedVariables false
set_option linter.unusedSimpArgs false

theorem f_and1 (n : Int) : bits .and .i64 n 1 = n % 2 := and_mask 1 1 (by decide) (by decide) n
theorem f_and3 (n : Int) : bits .and .i64 n 3 = n % 4 := and_mask 2 3 (by decide) (by decide) n
theorem f_and1023 (n : Int) : bits .and .i64 n 1023 = n % 1024 := and_mask 10 1023 (by decide) (by decide) n

theorem getP_empty (m : Nat) : getP ⟨#[]⟩ (m : Int) = none := by
  cases h : takes ⟨#[]⟩ m s0 with
  | none => exact getP_none h
  | some rs =>
    refine getP_not h fun e => ?_
    have := (told_bound (fits_of (takes_fits _ m s0 rs h).2)).1
    rw [e] at this
    exact absurd this (by decide)

def row3 : List Int := [1, 2, 3]
theorem row3_fits : ∀ x ∈ row3, Fits x := by
  intro x hx
  simp only [row3, List.mem_cons, List.not_mem_nil, or_false] at hx
  unfold Fits
  omega

set_option maxRecDepth 20000 in
set_option maxHeartbeats 4000000 in
theorem forms_0 (n x : Int) (hn : n % 2 = 0) (w : World) (T : Str.Tab w) :
    Calls Tryd.prog 4 #[.int .i64 n, .int .i64 x] w fun e w' => e = .returned (.bool true) ∧ Bel w w' := by
  have hn1 := f_and1 n
  rw [hn] at hn1
  have hx := f_and1023 x
  obtain ⟨d, hd⟩ : ∃ d : Nat, 1 + x % 1024 = (d : Int) := ⟨(1 + x % 1024).toNat, by omega⟩
  have hx2 : 1 + bits .and .i64 x 1023 = (d : Int) := by rw [hx]; exact hd
  have d1 : 1 ≤ d := by omega
  have d2 : d ≤ 1024 := by omega
  obtain ⟨y, hy⟩ : ∃ y : Nat, n % 4 = (y : Int) := ⟨(n % 4).toNat, by omega⟩
  have hn3 := f_and3 n
  rw [hy] at hn3
  have y3 : y ≤ 3 := by omega
  have TT : Hid (Str.Tab w) := T
  have AW : Hid (Calls Tryd.prog 7 #[] w fun e w' => e = .returned (.bool true) ∧ Bel w w') := awake_ok w T
  have NM : Hid (∀ n w, Calls Tryd.prog 9 #[.int .i64 n] w fun e w' => e = .returned (.int .i64 n) ∧ w' = w) := Ints.num_ok
  have PE : Hid (∀ w g, Holds w g [0, -16777216 - (d : Int)] → Calls Tryd.prog 8 #[.slice (some ⟨g, 0, none⟩) 2 2] w fun e w' => e = .returned (.tuple #[.string ⟨#[]⟩, .int .i64 1300]) ∧ w' = w) := fun w g h => put_no _ _ 2 2 rfl (by decide) (fun q => by have := q.2 1 (by simp); unfold Fits at this; simp at this; omega) w h.slc
  have PF : Hid (∀ w g, Holds w g (List.replicate (256 + d) 0) → Calls Tryd.prog 8 #[.slice (some ⟨g, 0, none⟩) (256 + d) (256 + d)] w fun e w' => e = .returned (.tuple #[.string ⟨#[]⟩, .int .i64 1300]) ∧ w' = w) := fun w g h => put_no _ _ _ _ (by simp) (by unfold maxLen; omega) (fun q => by omega) w h.slc
  have PG : Hid (∀ w g, Str.Tab w → Holds w g row3 → Calls Tryd.prog 8 #[.slice (some ⟨g, 0, none⟩) 3 3] w fun e w' => e = .returned (.tuple #[.string (told row3), .int .i64 0]) ∧ Bel w w') := fun w g T h => put_yes _ row3 3 3 rfl (by decide) (all_of row3_fits) w T h.slc
  have z3 := (told_bound row3_fits).2
  rw [show 204 * row3.length + 4 = 616 from rfl] at z3
  have GH : Hid (∀ w, Calls Tryd.prog 10 #[.string (told row3), .int .i64 (-(d : Int))] w fun e w' => e = .returned (.tuple #[.slice none 0 0, .int .i64 1300]) ∧ w' = w) := fun w => get_bad _ (by unfold maxLen; omega) _ (fun q => by omega) w
  have GI : Hid (∀ w, Calls Tryd.prog 10 #[.string (zerosOf (65536 + d)), .int .i64 3] w fun e w' => e = .returned (.tuple #[.slice none 0 0, .int .i64 1300]) ∧ w' = w) := fun w => get_bad _ (by rw [zerosOf_size]; unfold maxLen; omega) _ (fun q => by have := q.2.2; rw [zerosOf_size] at this; omega) w
  have GJ : Hid (∀ w, Str.Tab w → Calls Tryd.prog 10 #[.string ⟨#[]⟩, .int .i64 (y : Int)] w fun e w' => e = .returned (.tuple #[.slice none 0 0, .int .i64 1300]) ∧ Bel w w') := fun w T => by
    have := get_ok ⟨#[]⟩ (by decide) (y : Int) w T
    rwa [getP_empty] at this
  have PK : Hid (∀ w, Str.Tab w → Calls Tryd.prog 8 #[.slice none 0 0] w fun e w' => e = .returned (.tuple #[.string (told []), .int .i64 0]) ∧ Bel w w') := fun w T => put_yes none [] 0 0 rfl (by decide) (fun k hk => absurd hk (by simp)) w T (slc_nil _ _)
  have GM : Hid (∀ w, Str.Tab w → Calls Tryd.prog 10 #[.string (told []), .int .i64 0] w fun e w' => (∃ g, e = .returned (.tuple #[.slice (some ⟨g, 0, none⟩) 0 0, .int .i64 0])) ∧ Bel w w') := fun w T => by
    have := get_ok (told []) (by have := (told_bound (rs := []) (fun x hx => by cases hx)).2; simp at this; unfold maxLen; omega) 0 w T
    rw [show getP (told []) 0 = some [] from getP_told (rs := []) (fun x hx => by cases hx) (by decide)] at this
    exact this.mono fun e w' h => ⟨⟨h.1.choose, h.1.choose_spec.1⟩, h.2⟩
  have CN : Hid (∀ w, Calls Tryd.prog 13 #[] w fun e w' => e = .returned (.agg #[.int .i64 0, .int .i64 4294967295, .string ⟨#[]⟩]) ∧ Bel w w') := fun w => (Coder.newCoder_ok w).mono fun _ _ h => ⟨h.1, h.2⟩
  have CE : Hid (∀ w, Calls Tryd.prog 12 #[.agg #[.int .i64 0, .int .i64 4294967295, .string ⟨#[]⟩]] w fun e w' => e = .returned (.tuple #[.string (told []), .int .i64 0]) ∧ Bel w w') := fun w => Coder.endCoder_may 0 4294967295 ⟨#[]⟩ c0_between (by decide) w
  have mkA := mkI (256 + d) (by omega)
  rw [show (((256 + d : Nat)) : Int) = 256 + (d : Int) from by omega] at mkA
  have hmk := mkB (65536 + d) (by omega)
  rw [show (((65536 + d : Nat)) : Int) = 65536 + (d : Int) from by omega] at hmk
  have hcon := cvB (65536 + d)
  generalize zerosOf (65536 + d) = za at *
  generalize Obj.cells (madeCells #[Value.int .u8 0] (65536 + d)) 5 = O1 at *
  generalize List.replicate (256 + d) (0 : Int) = Z at *
  generalize told row3 = s3 at *
  generalize told [] = sn at *
  clear hx hd hy hn T z3
  have wd : IntKind.i64.wrap (-16777216 - (d : Int)) = -16777216 - (d : Int) := by rw [IntKind.wrap_i64]; omega
  have wd2 : IntKind.i64.wrap (16777216 + (d : Int)) = 16777216 + (d : Int) := by rw [IntKind.wrap_i64]; omega
  have wd3 : IntKind.i64.wrap (-(d : Int)) = -(d : Int) := by rw [IntKind.wrap_i64]; omega
  go_enter Tryd.func4, Tryd.ntmps4
  go_wp2_with fail
  refine AW.out.mono ?_
  rintro e w1 ⟨rfl, b1⟩
  have B1 : Hid (Bel w w1) := b1
  clear AW b1
  go_wp2_with fail
  have H2 : Hid (Holds ((w1.alloc (.cells #[.int .i64 (-16777216 - (d : Int)), .int .i64 (16777216 + (d : Int))] 3)).alloc (.cells #[.int .i64 0, .int .i64 (-16777216 - (d : Int))] 3)) (w1.heap.size + 1) [0, -16777216 - (d : Int)] ∧ Bel w ((w1.alloc (.cells #[.int .i64 (-16777216 - (d : Int)), .int .i64 (16777216 + (d : Int))] 3)).alloc (.cells #[.int .i64 0, .int .i64 (-16777216 - (d : Int))] 3))) := ⟨holds_at (by simp) [0, -16777216 - (d : Int)] 3, (B1.out.alloc _).alloc _⟩
  refine (PE.out _ _ H2.out.1).mono ?_
  rintro e w2 ⟨rfl, hw2⟩
  have B2 : Hid (Bel w w2) := hw2 ▸ H2.out.2
  clear hw2 H2 B1 PE
  go_wp2_with fail
  have H3 : Hid (Holds (w2.alloc (.cells (vals Z).toArray 3)) w2.heap.size Z ∧ Bel w (w2.alloc (.cells (vals Z).toArray 3))) := ⟨holds_new w2 Z 3, B2.out.alloc _⟩
  refine (PF.out _ _ H3.out.1).mono ?_
  rintro e w3 ⟨rfl, hw3⟩
  have B3 : Hid (Bel w w3) := hw3 ▸ H3.out.2
  clear hw3 H3 B2 PF
  go_wp2_with fail
  have H4 : Hid (Holds (w3.alloc (.cells #[.int .i64 1, .int .i64 2, .int .i64 3] 3)) w3.heap.size row3 ∧ Bel w (w3.alloc (.cells #[.int .i64 1, .int .i64 2, .int .i64 3] 3))) := ⟨holds_new w3 row3 3, B3.out.alloc _⟩
  refine (PG.out _ _ (tab_bel TT.out H4.out.2) H4.out.1).mono ?_
  rintro e w4 ⟨rfl, b4⟩
  have B4 : Hid (Bel w w4) := H4.out.2.trans b4
  clear b4 H4 B3 PG
  go_wp2_with fail
  refine (GH.out _).mono ?_
  rintro e w5 ⟨rfl, hw5⟩
  have B5 : Hid (Bel w w5) := hw5 ▸ B4.out.alloc _
  clear hw5 B4 GH
  go_wp2_with fail
  refine (GI.out _).mono ?_
  rintro e w6 ⟨rfl, hw6⟩
  have B6 : Hid (Bel w w6) := hw6 ▸ B5.out.alloc _
  clear hw6 B5 GI
  go_wp2_with fail
  refine (GJ.out _ (tab_bel TT.out B6.out)).mono ?_
  rintro e w7 ⟨rfl, b7⟩
  have B7 : Hid (Bel w w7) := B6.out.trans b7
  clear b7 B6 GJ
  go_wp2_with fail
  refine (PK.out _ (tab_bel TT.out B7.out)).mono ?_
  rintro e w8 ⟨rfl, b8⟩
  have B8 : Hid (Bel w w8) := B7.out.trans b8
  clear b8 B7 PK
  go_wp2_with fail
  refine (GM.out _ (tab_bel TT.out B8.out)).mono ?_
  rintro e w9 ⟨⟨g, rfl⟩, b9⟩
  have B9 : Hid (Bel w w9) := B8.out.trans b9
  clear b9 B8 GM
  go_wp2_with fail
  refine (CN.out _).mono ?_
  rintro e w10 ⟨rfl, b10⟩
  have B10 : Hid (Bel w w10) := B9.out.trans b10
  clear b10 B9 CN
  go_wp2_with fail
  refine (CE.out _).mono ?_
  rintro e w11 ⟨rfl, b11⟩
  have B11 : Hid (Bel w w11) := B10.out.trans b11
  clear b11 B10 CE
  go_wp2_with (first
    | (go_at_call 9; (with_reducible refine (NM.out _ _).mono ?_); rintro e wq ⟨rfl, hwq⟩; replace hwq := hwq.symm; subst hwq))
  go_ret
  exact ⟨rfl, B11.out⟩

set_option maxRecDepth 20000 in
set_option maxHeartbeats 4000000 in
theorem forms_1 (n x : Int) (hn : n % 2 = 1) (w : World) (T : Str.Tab w) :
    Calls Tryd.prog 4 #[.int .i64 n, .int .i64 x] w fun e w' => e = .returned (.bool true) ∧ Bel w w' := by
  have hn1 := f_and1 n
  rw [hn] at hn1
  have hx := f_and1023 x
  obtain ⟨d, hd⟩ : ∃ d : Nat, 1 + x % 1024 = (d : Int) := ⟨(1 + x % 1024).toNat, by omega⟩
  have hx2 : 1 + bits .and .i64 x 1023 = (d : Int) := by rw [hx]; exact hd
  have d1 : 1 ≤ d := by omega
  have d2 : d ≤ 1024 := by omega
  obtain ⟨y, hy⟩ : ∃ y : Nat, n % 4 = (y : Int) := ⟨(n % 4).toNat, by omega⟩
  have hn3 := f_and3 n
  rw [hy] at hn3
  have y3 : y ≤ 3 := by omega
  have TT : Hid (Str.Tab w) := T
  have AW : Hid (Calls Tryd.prog 7 #[] w fun e w' => e = .returned (.bool true) ∧ Bel w w') := awake_ok w T
  have NM : Hid (∀ n w, Calls Tryd.prog 9 #[.int .i64 n] w fun e w' => e = .returned (.int .i64 n) ∧ w' = w) := Ints.num_ok
  have PE : Hid (∀ w g, Holds w g [0, 16777216 + (d : Int)] → Calls Tryd.prog 8 #[.slice (some ⟨g, 0, none⟩) 2 2] w fun e w' => e = .returned (.tuple #[.string ⟨#[]⟩, .int .i64 1300]) ∧ w' = w) := fun w g h => put_no _ _ 2 2 rfl (by decide) (fun q => by have := q.2 1 (by simp); unfold Fits at this; simp at this; omega) w h.slc
  have PF : Hid (∀ w g, Holds w g (List.replicate (256 + d) 0) → Calls Tryd.prog 8 #[.slice (some ⟨g, 0, none⟩) (256 + d) (256 + d)] w fun e w' => e = .returned (.tuple #[.string ⟨#[]⟩, .int .i64 1300]) ∧ w' = w) := fun w g h => put_no _ _ _ _ (by simp) (by unfold maxLen; omega) (fun q => by omega) w h.slc
  have PG : Hid (∀ w g, Str.Tab w → Holds w g row3 → Calls Tryd.prog 8 #[.slice (some ⟨g, 0, none⟩) 3 3] w fun e w' => e = .returned (.tuple #[.string (told row3), .int .i64 0]) ∧ Bel w w') := fun w g T h => put_yes _ row3 3 3 rfl (by decide) (all_of row3_fits) w T h.slc
  have z3 := (told_bound row3_fits).2
  rw [show 204 * row3.length + 4 = 616 from rfl] at z3
  have GH : Hid (∀ w, Calls Tryd.prog 10 #[.string (told row3), .int .i64 (256 + (d : Int))] w fun e w' => e = .returned (.tuple #[.slice none 0 0, .int .i64 1300]) ∧ w' = w) := fun w => get_bad _ (by unfold maxLen; omega) _ (fun q => by omega) w
  have GI : Hid (∀ w, Calls Tryd.prog 10 #[.string (zerosOf (65536 + d)), .int .i64 3] w fun e w' => e = .returned (.tuple #[.slice none 0 0, .int .i64 1300]) ∧ w' = w) := fun w => get_bad _ (by rw [zerosOf_size]; unfold maxLen; omega) _ (fun q => by have := q.2.2; rw [zerosOf_size] at this; omega) w
  have GJ : Hid (∀ w, Str.Tab w → Calls Tryd.prog 10 #[.string ⟨#[]⟩, .int .i64 (y : Int)] w fun e w' => e = .returned (.tuple #[.slice none 0 0, .int .i64 1300]) ∧ Bel w w') := fun w T => by
    have := get_ok ⟨#[]⟩ (by decide) (y : Int) w T
    rwa [getP_empty] at this
  have PK : Hid (∀ w, Str.Tab w → Calls Tryd.prog 8 #[.slice none 0 0] w fun e w' => e = .returned (.tuple #[.string (told []), .int .i64 0]) ∧ Bel w w') := fun w T => put_yes none [] 0 0 rfl (by decide) (fun k hk => absurd hk (by simp)) w T (slc_nil _ _)
  have GM : Hid (∀ w, Str.Tab w → Calls Tryd.prog 10 #[.string (told []), .int .i64 0] w fun e w' => (∃ g, e = .returned (.tuple #[.slice (some ⟨g, 0, none⟩) 0 0, .int .i64 0])) ∧ Bel w w') := fun w T => by
    have := get_ok (told []) (by have := (told_bound (rs := []) (fun x hx => by cases hx)).2; simp at this; unfold maxLen; omega) 0 w T
    rw [show getP (told []) 0 = some [] from getP_told (rs := []) (fun x hx => by cases hx) (by decide)] at this
    exact this.mono fun e w' h => ⟨⟨h.1.choose, h.1.choose_spec.1⟩, h.2⟩
  have CN : Hid (∀ w, Calls Tryd.prog 13 #[] w fun e w' => e = .returned (.agg #[.int .i64 0, .int .i64 4294967295, .string ⟨#[]⟩]) ∧ Bel w w') := fun w => (Coder.newCoder_ok w).mono fun _ _ h => ⟨h.1, h.2⟩
  have CE : Hid (∀ w, Calls Tryd.prog 12 #[.agg #[.int .i64 0, .int .i64 4294967295, .string ⟨#[]⟩]] w fun e w' => e = .returned (.tuple #[.string (told []), .int .i64 0]) ∧ Bel w w') := fun w => Coder.endCoder_may 0 4294967295 ⟨#[]⟩ c0_between (by decide) w
  have mkA := mkI (256 + d) (by omega)
  rw [show (((256 + d : Nat)) : Int) = 256 + (d : Int) from by omega] at mkA
  have hmk := mkB (65536 + d) (by omega)
  rw [show (((65536 + d : Nat)) : Int) = 65536 + (d : Int) from by omega] at hmk
  have hcon := cvB (65536 + d)
  generalize zerosOf (65536 + d) = za at *
  generalize Obj.cells (madeCells #[Value.int .u8 0] (65536 + d)) 5 = O1 at *
  generalize List.replicate (256 + d) (0 : Int) = Z at *
  generalize told row3 = s3 at *
  generalize told [] = sn at *
  clear hx hd hy hn T z3
  have wd : IntKind.i64.wrap (-16777216 - (d : Int)) = -16777216 - (d : Int) := by rw [IntKind.wrap_i64]; omega
  have wd2 : IntKind.i64.wrap (16777216 + (d : Int)) = 16777216 + (d : Int) := by rw [IntKind.wrap_i64]; omega
  have wd3 : IntKind.i64.wrap (-(d : Int)) = -(d : Int) := by rw [IntKind.wrap_i64]; omega
  go_enter Tryd.func4, Tryd.ntmps4
  go_wp2_with fail
  refine AW.out.mono ?_
  rintro e w1 ⟨rfl, b1⟩
  have B1 : Hid (Bel w w1) := b1
  clear AW b1
  go_wp2_with fail
  have H2 : Hid (Holds ((w1.alloc (.cells #[.int .i64 (-16777216 - (d : Int)), .int .i64 (16777216 + (d : Int))] 3)).alloc (.cells #[.int .i64 0, .int .i64 (16777216 + (d : Int))] 3)) (w1.heap.size + 1) [0, 16777216 + (d : Int)] ∧ Bel w ((w1.alloc (.cells #[.int .i64 (-16777216 - (d : Int)), .int .i64 (16777216 + (d : Int))] 3)).alloc (.cells #[.int .i64 0, .int .i64 (16777216 + (d : Int))] 3))) := ⟨holds_at (by simp) [0, 16777216 + (d : Int)] 3, (B1.out.alloc _).alloc _⟩
  refine (PE.out _ _ H2.out.1).mono ?_
  rintro e w2 ⟨rfl, hw2⟩
  have B2 : Hid (Bel w w2) := hw2 ▸ H2.out.2
  clear hw2 H2 B1 PE
  go_wp2_with fail
  have H3 : Hid (Holds (w2.alloc (.cells (vals Z).toArray 3)) w2.heap.size Z ∧ Bel w (w2.alloc (.cells (vals Z).toArray 3))) := ⟨holds_new w2 Z 3, B2.out.alloc _⟩
  refine (PF.out _ _ H3.out.1).mono ?_
  rintro e w3 ⟨rfl, hw3⟩
  have B3 : Hid (Bel w w3) := hw3 ▸ H3.out.2
  clear hw3 H3 B2 PF
  go_wp2_with fail
  have H4 : Hid (Holds (w3.alloc (.cells #[.int .i64 1, .int .i64 2, .int .i64 3] 3)) w3.heap.size row3 ∧ Bel w (w3.alloc (.cells #[.int .i64 1, .int .i64 2, .int .i64 3] 3))) := ⟨holds_new w3 row3 3, B3.out.alloc _⟩
  refine (PG.out _ _ (tab_bel TT.out H4.out.2) H4.out.1).mono ?_
  rintro e w4 ⟨rfl, b4⟩
  have B4 : Hid (Bel w w4) := H4.out.2.trans b4
  clear b4 H4 B3 PG
  go_wp2_with fail
  refine (GH.out _).mono ?_
  rintro e w5 ⟨rfl, hw5⟩
  have B5 : Hid (Bel w w5) := hw5 ▸ B4.out.alloc _
  clear hw5 B4 GH
  go_wp2_with fail
  refine (GI.out _).mono ?_
  rintro e w6 ⟨rfl, hw6⟩
  have B6 : Hid (Bel w w6) := hw6 ▸ B5.out.alloc _
  clear hw6 B5 GI
  go_wp2_with fail
  refine (GJ.out _ (tab_bel TT.out B6.out)).mono ?_
  rintro e w7 ⟨rfl, b7⟩
  have B7 : Hid (Bel w w7) := B6.out.trans b7
  clear b7 B6 GJ
  go_wp2_with fail
  refine (PK.out _ (tab_bel TT.out B7.out)).mono ?_
  rintro e w8 ⟨rfl, b8⟩
  have B8 : Hid (Bel w w8) := B7.out.trans b8
  clear b8 B7 PK
  go_wp2_with fail
  refine (GM.out _ (tab_bel TT.out B8.out)).mono ?_
  rintro e w9 ⟨⟨g, rfl⟩, b9⟩
  have B9 : Hid (Bel w w9) := B8.out.trans b9
  clear b9 B8 GM
  go_wp2_with fail
  refine (CN.out _).mono ?_
  rintro e w10 ⟨rfl, b10⟩
  have B10 : Hid (Bel w w10) := B9.out.trans b10
  clear b10 B9 CN
  go_wp2_with fail
  refine (CE.out _).mono ?_
  rintro e w11 ⟨rfl, b11⟩
  have B11 : Hid (Bel w w11) := B10.out.trans b11
  clear b11 B10 CE
  go_wp2_with (first
    | (go_at_call 9; (with_reducible refine (NM.out _ _).mono ?_); rintro e wq ⟨rfl, hwq⟩; replace hwq := hwq.symm; subst hwq))
  go_ret
  exact ⟨rfl, B11.out⟩

theorem forms_walk (n x : Int) (w : World) (T : Str.Tab w) :
    Calls Tryd.prog 4 #[.int .i64 n, .int .i64 x] w fun e w' => e = .returned (.bool true) ∧ Bel w w' := by
  have : n % 2 = 0 ∨ n % 2 = 1 := by omega
  rcases this with h | h
  · exact forms_0 n x h w T
  · exact forms_1 n x h w T

end Go.Proofs.YtocnlefpbcnlmaaDoor.Res
