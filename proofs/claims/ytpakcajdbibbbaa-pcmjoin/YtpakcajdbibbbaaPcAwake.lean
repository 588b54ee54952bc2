/-
  The statements' own awake: it answers true. No condition.
-/
import Derived.Test.YtpakcajdbibbbaaPcGetY
import Derived.Test.YtpakcajdbibbbaaPcPut
import Derived.Test.YtpakcajdbibbbaaGSameL
import Derived.Test.YtpakcajdbibbbaaLOwn
import Derived.Test.YtpakcajdbibbbaaGHdr
namespace Go.Proofs.Ytpakcajdbibbbaa.Pcm
open Go.RowKit Go.Sort Go.Proofs.Ytpakcajdbibbbaa.Mod Go.Proofs.Ytpakcajdbibbbaa.Ints
set_option linter.unusedVariables false
set_option linter.unusedSimpArgs false

theorem get_at (c b : Int) (s : ByteArray) (L : List UInt8) (Ms : List (List Int)) (m : Nat) (er : Int) (hs : s.data.toList = L) (hx : s.size ≤ maxLen) (he : errGet c b L = er) (ha : ansGet c b L = Ms) (hm : m = Ms.length) (w : World) :
    Calls Try.prog 8 #[.string s, fmt c b] w fun e w' => ∃ bo cp, e = .returned (.tuple #[.slice bo m cp, .int .i64 er]) ∧ Lls w' bo Ms ∧ Bel w w' := by
  subst he
  subst ha
  subst hm
  refine (get_ok c b s L hs hx w).mono ?_
  rintro e w' ⟨bo, k, cp, rfl, rfl, _, o, b1⟩
  exact ⟨bo, cp, rfl, o.lls, b1⟩
theorem put_at (c b : Int) (ao : Option Addr) (Ls : List (List Int)) (n cap : Nat) (st : ByteArray) (er : Int) (hn : n = Ls.length) (hx : n ≤ maxLen) (he : errPut c b Ls = er) (ha : (⟨(ansPut c b Ls).toArray⟩ : ByteArray) = st) (w : World) (hA : Lls w ao Ls) :
    Calls Try.prog 10 #[.slice ao n cap, fmt c b] w fun e w' => e = .returned (.tuple #[.string st, .int .i64 er]) ∧ Bel w w' := by
  subst he
  subst ha
  exact put_ok c b ao Ls n cap hn hx w hA

theorem cell_a1 {w : World} {a : Addr} {v : Value} (h : w.cell? a = some v) : ∀ o, (w.alloc o).cell? a = some v := fun o => ((Bel.refl w).alloc o).keep h
theorem cell_a2 {w : World} {a : Addr} {v : Value} (h : w.cell? a = some v) : ∀ o p, ((w.alloc o).alloc p).cell? a = some v := fun o p => (((Bel.refl w).alloc o).alloc p).keep h
theorem cell_a3 {w : World} {a : Addr} {v : Value} (h : w.cell? a = some v) : ∀ o p q, (((w.alloc o).alloc p).alloc q).cell? a = some v := fun o p q => ((((Bel.refl w).alloc o).alloc p).alloc q).keep h

set_option maxRecDepth 20000 in
set_option maxHeartbeats 1000000 in
theorem awake_true (w : World) : Calls Try.prog 17 #[] w fun e w' => e = .returned (.bool true) ∧ Bel w w' := by
  have B0 : Hid (Bel w w) := Bel.refl w
  have M1 : Hid (∀ w, Calls Try.prog 14 #[fmt 2 16] w fun e w' => e = .returned (.bool true) ∧ Bel w w') := fun w => may_ok 2 16 w
  have M2 : Hid (∀ w, Calls Try.prog 14 #[fmt 3 8] w fun e w' => e = .returned (.bool false) ∧ Bel w w') := fun w => may_ok 3 8 w
  have XX : Hid (Box (w.alloc (.cells #[.int .i64 2, .int .i64 16] 24)) w.heap.size 2 16 ∧ Bel w (w.alloc (.cells #[.int .i64 2, .int .i64 16] 24))) := ⟨box_new w 2 16, (Bel.refl _).alloc _⟩
  go_enter Try.func17, Try.ntmps17
  go_wp2_with fail
  obtain ⟨W, hW⟩ : ∃ W, w.alloc (.cells #[.int .i64 2, .int .i64 16] 24) = W := ⟨_, rfl⟩
  obtain ⟨g, hg⟩ : ∃ g, w.heap.size = g := ⟨_, rfl⟩
  rw [hW, hg] at XX
  rw [hW, hg]
  clear hW
  refine (get_at 2 16 ⟨#[1, 0, 255, 255]⟩ [1, 0, 255, 255] [[1], [-1]] 2 0 rfl (by unfold maxLen; decide) (by decide +kernel) (by decide +kernel) rfl _).mono ?_
  rintro e w1 ⟨a1, c1, rfl, h1, b1⟩
  have H1 : Hid (Lls w1 a1 [[1], [-1]]) := h1
  have X1 : Hid (Box w1 g 2 16 ∧ Bel w w1) := ⟨XX.out.1.bel b1, XX.out.2.trans b1⟩
  obtain ⟨x1, y1⟩ := X1.out.1
  have x1a := cell_a3 x1
  have y1a := cell_a3 y1
  clear h1 b1 XX x1 y1
  go_wp2_with fail
  refine (put_at 2 16 _ [[1], [-1]] 2 _ ⟨#[1, 0, 255, 255]⟩ 0 rfl (by unfold maxLen; decide) (by decide +kernel) (by decide +kernel) _ ?_).mono ?_
  · exact lit_2 w1 [1] [-1] (by decide) (by decide)
  rintro e w2 ⟨rfl, b2⟩
  have b2' : Bel w1 w2 := Bel.trans ((((Bel.refl _).alloc _).alloc _).alloc _) b2
  have H2 : Hid (Lls w2 a1 [[1], [-1]]) := H1.out.bel b2'
  have X2 : Hid (Box w2 g 2 16 ∧ Bel w w2) := ⟨X1.out.1.bel b2', X1.out.2.trans b2'⟩
  clear b2 b2' x1a y1a H1 X1
  go_wp2_with fail
  refine (get_at 1 8 ⟨#[0, 128]⟩ [0, 128] [[-128, 0]] 1 0 rfl (by unfold maxLen; decide) (by decide +kernel) (by decide +kernel) rfl _).mono ?_
  rintro e w3 ⟨a3, c3, rfl, h3, b3⟩
  have H3 : Hid (Lls w3 a1 [[1], [-1]] ∧ Lls w3 a3 [[-128, 0]]) := ⟨H2.out.bel b3, h3⟩
  have X3 : Hid (Box w3 g 2 16 ∧ Bel w w3) := ⟨X2.out.1.bel b3, X2.out.2.trans b3⟩
  obtain ⟨x3, y3⟩ := X3.out.1
  clear h3 b3 H2 X2
  go_wp2_with fail
  refine (get_at 2 16 ⟨#[97, 98, 99]⟩ [97, 98, 99] [] 0 1900 rfl (by unfold maxLen; decide) (by decide +kernel) (by decide +kernel) rfl _).mono ?_
  rintro e w4 ⟨a4, c4, rfl, _, b4⟩
  have H4 : Hid (Lls w4 a1 [[1], [-1]] ∧ Lls w4 a3 [[-128, 0]]) := ⟨H3.out.1.bel b4, H3.out.2.bel b4⟩
  have X4 : Hid (Box w4 g 2 16 ∧ Bel w w4) := ⟨X3.out.1.bel b4, X3.out.2.trans b4⟩
  obtain ⟨x4, y4⟩ := X4.out.1
  have x4a := cell_a2 x4
  have y4a := cell_a2 y4
  clear b4 H3 X3 x3 y3 x4 y4
  go_wp2_with fail
  refine (put_at 2 16 _ [[1]] 1 _ ⟨#[]⟩ 1900 rfl (by unfold maxLen; decide) (by decide +kernel) (by decide +kernel) _ ?_).mono ?_
  · exact lit_1 w4 [1] (by decide)
  rintro e w5 ⟨rfl, b5⟩
  have b5' : Bel w4 w5 := Bel.trans (((Bel.refl _).alloc _).alloc _) b5
  have H5 : Hid (Lls w5 a1 [[1], [-1]] ∧ Lls w5 a3 [[-128, 0]]) := ⟨H4.out.1.bel b5', H4.out.2.bel b5'⟩
  have X5 : Hid (Box w5 g 2 16 ∧ Bel w w5) := ⟨X4.out.1.bel b5', X4.out.2.trans b5'⟩
  clear b5 b5' x4a y4a H4 X4
  go_wp2_with fail
  refine (sameL_ok _ _ [[1], [-1]] [[1], [-1]] 2 2 _ _ rfl rfl (by unfold maxLen; omega) (by unfold maxLen; omega) _ (H5.out.1.bel ((((Bel.refl _).alloc _).alloc _).alloc _)) ?_).mono ?_
  · exact lit_2 w5 [1] [-1] (by decide) (by decide)
  rw [decide_eq_true rfl]
  rintro e w6 ⟨rfl, q6, hw⟩
  have b6 : Bel w5 w6 := hw ▸ ((((Bel.refl w5).alloc _).alloc _).alloc _).drewN q6
  have H6 : Hid (Lls w6 a3 [[-128, 0]]) := H5.out.2.bel b6
  have X6 : Hid (Box w6 g 2 16 ∧ Bel w w6) := ⟨X5.out.1.bel b6, X5.out.2.trans b6⟩
  clear b6 hw H5 X5
  go_wp2_with (go_at_call 13; refine (num_ok _ _).mono ?_; rintro e w99 ⟨rfl, hw⟩; replace hw := hw.symm; subst hw)
  refine (sameL_ok _ _ [[-128, 0]] [[-128, 0]] 1 1 _ _ rfl rfl (by unfold maxLen; omega) (by unfold maxLen; omega) _ (H6.out.bel (((Bel.refl _).alloc _).alloc _)) ?_).mono ?_
  · exact lit_1 w6 [-128, 0] (by decide)
  rw [decide_eq_true rfl]
  rintro e w7 ⟨rfl, q7, hw⟩
  have b7 : Bel w6 w7 := hw ▸ (((Bel.refl w6).alloc _).alloc _).drewN q7
  have X7 : Hid (Box w7 g 2 16 ∧ Bel w w7) := ⟨X6.out.1.bel b7, X6.out.2.trans b7⟩
  obtain ⟨x7, y7⟩ := X7.out.1
  clear b7 hw H6 X6
  go_wp2_with (go_at_call 13; refine (num_ok _ _).mono ?_; rintro e w99 ⟨rfl, hw⟩; replace hw := hw.symm; subst hw)
  refine (M1.out _).mono ?_
  rintro e w8 ⟨rfl, b8⟩
  have B8 : Hid (Bel w w8) := X7.out.2.trans b8
  clear b8 x7 y7 X7
  go_wp2_with fail
  refine (M2.out _).mono ?_
  rintro e w9 ⟨rfl, b9⟩
  have B9 : Hid (Bel w w9) := B8.out.trans b9
  clear b9 B8
  go_wp2
  go_ret
  exact ⟨rfl, B9.out⟩

end Go.Proofs.Ytpakcajdbibbbaa.Pcm
