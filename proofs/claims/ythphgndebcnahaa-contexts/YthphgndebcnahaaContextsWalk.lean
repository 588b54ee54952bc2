/-
  Contexts, walked: it answers true for every int and every row of ints that is there, within the reach. No other condition.
-/
import Derived.Test.YthphgndebcnahaaXAwake
import Derived.Test.YthphgndebcnahaaXCtx
namespace Go.Proofs.Ythphgndebcnahaa.Ctx
open Go.RowKit Go.Proofs.Ythphgndebcnahaa.Mod Go.Proofs.Ythphgndebcnahaa.Ints Go.Proofs.Ythphgndebcnahaa.Num Go.Proofs.Ythphgndebcnahaa.Gam
set_option linter.unusedVariables false

/-- What both answer. -/
theorem both (b : Int) (L : List Int) : ∃ x y z e : Int,
    (∀ (ao : Option Addr) (n cap : Nat) (hn : n = L.length) (hx : n ≤ maxLen) (w : World) (hA : Slc w ao L), Calls Try.prog 8 #[.int .i64 b, .slice ao n cap] w fun r w' => r = .returned (.tuple #[.agg #[.int .i64 x, .int .i64 y, .int .i64 z], .int .i64 e]) ∧ Bel w w') ∧
    ∀ (ao : Option Addr) (n cap : Nat) (hn : n = L.length) (hx : n ≤ maxLen) (w : World) (hA : Slc w ao L), Calls Try.prog 9 #[.int .i64 b, .slice ao n cap] w fun r w' => r = .returned (.tuple #[.agg #[.int .i64 x, .int .i64 y, .int .i64 z], .int .i64 e]) ∧ Bel w w' := by
  by_cases h : May b L
  · exact ⟨_, _, _, 0, fun ao n cap hn hx w hA => of_yes b ao L n cap hn h w hA, fun ao n cap hn hx w hA => rctx_yes b ao L n cap hn h w hA⟩
  · exact ⟨0, 0, 0, 1200, fun ao n cap hn hx w hA => of_no b ao L n cap hn hx h w hA, fun ao n cap hn hx w hA => rctx_no b ao L n cap hn hx h w hA⟩

set_option maxRecDepth 20000 in
set_option maxHeartbeats 1000000 in
theorem contexts_go (b : Int) (ao : Option Addr) (L : List Int) (n cap : Nat) (hn : n = L.length) (hc : n ≤ cap) (hm : cap ≤ maxLen) (h8 : cap * 8 ≤ 140737488351232) (hnil : ao = none → cap = 0) (w : World) (hA : Slc w ao L) :
    Calls Try.prog 3 #[.int .i64 b, .slice ao n cap] w fun e w' => e = .returned (.bool true) ∧ Bel w w' := by
  have C := lend_ok ao L n cap hn (by omega) hnil w hA
  obtain ⟨x, y, z, er, O, R⟩ := both b L
  have HO := O (n := n) (hn := hn) (hx := by omega)
  have HR := R (n := n) (hn := hn) (hx := by omega)
  have HO2 : Hid (∀ ao cap w (hA : Slc w ao L), Calls Try.prog 8 _ w _) := HO
  have HR2 : Hid (∀ ao cap w (hA : Slc w ao L), Calls Try.prog 9 _ w _) := HR
  have HA : Hid (Slc w ao L) := hA
  have HN : Hid (n = L.length) := hn
  have E1 := eq_same x y z
  have E2 := eq_in_same x y z
  have hb1 : (er == er) = true := by simp
  clear hA hn hnil O R HO HR
  go_enter Try.func3, Try.ntmps3
  go_wp2_with fail
  refine C.mono ?_
  rintro e w1 ⟨g, c, rfl, q1, q2, q3, q4, hh, b1⟩
  have H1 : Hid (Holds w1 g (L ++ [-7777, -8888]) ∧ Bel w w1) := ⟨hh, b1⟩
  clear hh b1 C
  go_wp2_with fail
  refine (HO2.out _ _ _ (holds_front H1.out.1).slc).mono ?_
  rintro e w2 ⟨rfl, b2⟩
  have H2 : Hid (Holds w2 g (L ++ [-7777, -8888]) ∧ Bel w w2) := ⟨H1.out.1.bel b2, H1.out.2.trans b2⟩
  clear b2 H1 HO2
  go_wp2_with fail
  refine (HR2.out _ _ _ (HA.out.bel (H2.out.2.alloc _))).mono ?_
  rintro e w3 ⟨rfl, b3⟩
  obtain ⟨x0, x1, x2⟩ : w3.cell? ⟨w2.heap.size, 0, none⟩ = some (.int .i64 x) ∧ w3.cell? ⟨w2.heap.size, 1, none⟩ = some (.int .i64 y) ∧ w3.cell? ⟨w2.heap.size, 2, none⟩ = some (.int .i64 z) := keep3 b3 ⟨by simp, by simp, by simp⟩
  have l3 : w2.heap.size < w3.heap.size := block_lt_of_cell x0
  have H3 : Hid (Holds w3 g (L ++ [-7777, -8888]) ∧ Bel w w3) := ⟨H2.out.1.bel (((Bel.refl _).alloc _).trans b3), (H2.out.2.alloc _).trans b3⟩
  generalize w2.heap.size = p at *
  clear b3 H2 HR2
  obtain ⟨z0, z1, z2⟩ := keep3 ((Bel.refl w3).alloc (.cells #[.int .i64 x, .int .i64 y, .int .i64 z] 24)) ⟨x0, x1, x2⟩
  clear l3 x0 x1 x2
  obtain ⟨W, hW⟩ : ∃ W, w3.alloc (.cells #[.int .i64 x, .int .i64 y, .int .i64 z] 24) = W := ⟨_, rfl⟩
  have K := kept_ok ao L n cap g c HN.out q1 q2 W (hW ▸ HA.out.bel (H3.out.2.alloc _)) (hW ▸ H3.out.1.bel ((Bel.refl _).alloc _))
  have BW : Hid (Bel w W) := (hW ▸ H3.out.2.alloc _ : Bel w W)
  subst hW
  go_wp2_with (go_at_call 10; refine (num_ok _ _).mono ?_; rintro e w5 ⟨rfl, hw⟩; replace hw := hw.symm; subst hw)
  refine K.mono ?_
  rintro e w4 ⟨rfl, q', hw⟩
  have B4 : Hid (Bel w w4) := by
    rw [hw]
    exact BW.out.drewN q'
  clear hw H3 BW
  go_wp2_with fail
  refine (awake_ok w4).mono ?_
  rintro e w7 ⟨rfl, b7⟩
  have B7 : Hid (Bel w w7) := B4.out.trans b7
  clear b7 B4
  go_wp2
  go_ret
  exact ⟨rfl, B7.out⟩

theorem contexts_walk (u : Int) (a : Option Addr) (len cap : Nat) (zs : List Int) (w : World)
    (h : (a = none ∧ len = 0 ∧ cap = 0 ∧ zs = []) ∨ ∃ x, a = some x ∧ len ≤ cap ∧ cap ≤ maxLen ∧ zs.length = cap ∧ (∀ i, i < zs.length → w.cell? (x.add i) = some (.int .i64 (zs.getD i 0))) ∧ ∀ n ∈ zs, (Lit.int .i64 n).wf = true)
    (h8 : cap * 8 ≤ 140737488351232) : Calls Try.prog 3 #[.int .i64 u, .slice a len cap] w fun e w' => e = .returned (.bool true) ∧ Bel w w' := by
  obtain ⟨q1, q2, q3, q4, q5⟩ := of_row h
  exact contexts_go u a _ len cap q1 q2 q3 h8 q4 w q5

end Go.Proofs.Ythphgndebcnahaa.Ctx
