/-
  The contracts of the two steps that number is handed: put (a coder's) and take (a decoder's). Condition: what lies in the variable that each is bound to.
  The contract of number, of whichever step it is handed. Conditions: the package's table is laid as its text lays it; what the step does.
  The contract of number, over the step take. Conditions: the package's table is laid as its text lays it; what the step does.
-/
import Derived.Test.YtocnlefpbcnlmaaGreatDoorPk11
import Derived.Test.YtocnlefpbcnlmaaGreatDoorPk10
import Derived.Test.YtocnlefpbcnlmaaGreatDoorPk9
import Derived.Test.YtocnlefpbcnlmaaGreatDoorPk7
import Derived.Deep.RegionWith
import Derived.Deep.CutRange

namespace Go.Proofs.YtocnlefpbcnlmaaGreatDoor.Res
open Go.RowKit Go.Proofs.YtocnlefpbcnlmaaGreatDoor.Mod
set_option linter.unusedVariables false
set_option linter.unusedSimpArgs false

/-- A putter's variable: the coder, and the bits that are not coded yet, in a block below N that is not Q. -/
structure PutSt (N Q P : Nat) (w : World) (s : Cod × List Int) : Prop where
  c0 : w.cell? ⟨P, 0, none⟩ = some (.int .i64 s.1.l)
  c1 : w.cell? ⟨P, 1, none⟩ = some (.int .i64 s.1.h)
  c2 : w.cell? ⟨P, 2, none⟩ = some (.string ⟨s.1.o.toArray⟩)
  f0 : w.frozen? ⟨P, 0, none⟩ = false
  f1 : w.frozen? ⟨P, 1, none⟩ = false
  f2 : w.frozen? ⟨P, 2, none⟩ = false
  f3 : w.frozen? ⟨P, 3, none⟩ = false
  bits : ∃ ao n cap, w.cell? ⟨P, 3, none⟩ = some (.slice ao n cap) ∧ n = s.2.length ∧ n ≤ cap ∧ cap ≤ maxLen ∧ Slc w ao s.2 ∧ ∀ x, ao = some x → x.block ≠ P ∧ x.block ≠ Q ∧ x.block < N

theorem PutSt.keep {N Q P : Nat} {w w' : World} {s : Cod × List Int} (h : PutSt N Q P w s) (hP : P < N) (hQ : P ≠ Q) (hB : ∀ k, k < N → k ≠ Q → w'.heap[k]? = w.heap[k]?) : PutSt N Q P w' s := by
  have kc : ∀ i, w'.cell? ⟨P, i, none⟩ = w.cell? ⟨P, i, none⟩ := fun i => World.cell?_of_block (w := w) (hB P hP hQ)
  have kf : ∀ i, w'.frozen? ⟨P, i, none⟩ = w.frozen? ⟨P, i, none⟩ := fun i => World.frozen?_of_block (w := w) (hB P hP hQ)
  obtain ⟨c0, c1, c2, f0, f1, f2, f3, ao, n, cap, h1, h2, h3, h4, h5, h6⟩ := h
  refine ⟨by rw [kc]; exact c0, by rw [kc]; exact c1, by rw [kc]; exact c2, by rw [kf]; exact f0, by rw [kf]; exact f1, by rw [kf]; exact f2, by rw [kf]; exact f3, ao, n, cap, by rw [kc]; exact h1, h2, h3, h4, fun k hk => ?_, h6⟩
  obtain ⟨x, hx, hc⟩ := h5 k hk
  obtain ⟨_, q2, q3⟩ := h6 x hx
  refine ⟨x, hx, ?_⟩
  rw [World.cell?_of_block (w := w) (hB _ (by rw [add_block]; exact q3) (by rw [add_block]; exact q2))]
  exact hc

theorem other_cell {w : World} {P i j : Nat} {u v : Value} (h : i ≠ j) (c : w.cell? ⟨P, j, none⟩ = some v) : (w.setCell ⟨P, i, none⟩ u).cell? ⟨P, j, none⟩ = some v := by
  rw [World.cell?_setCell_other (h := by intro q; injection q with _ q2 _; exact h q2)]; exact c
theorem slc_put1 {w : World} {P i : Nat} {v : Value} {ao : Option Addr} {L : List Int} (h : Slc w ao L) (hb : ∀ x, ao = some x → x.block ≠ P) : Slc (w.setCell ⟨P, i, none⟩ v) ao L := fun k hk => by
  obtain ⟨x, hx, hc⟩ := h k hk
  refine ⟨x, hx, ?_⟩
  rw [World.cell?_setCell_other (h := by intro q; have := congrArg Addr.block q; rw [add_block] at this; exact hb x hx this.symm)]
  exact hc
theorem slc_put3 {w : World} {P : Nat} {x y z : Value} {o : Obj} {ao : Option Addr} {L : List Int} (h : Slc w ao L) (hb : ∀ x, ao = some x → x.block ≠ P) : Slc ((((w.setCell ⟨P, 0, none⟩ x).setCell ⟨P, 1, none⟩ y).setCell ⟨P, 2, none⟩ z).alloc o) ao L :=
  (slc_put1 (slc_put1 (slc_put1 h hb) hb) hb).bel ((Bel.refl _).alloc _)
theorem same_cell {w : World} {a : Addr} {u v : Value} (c : w.cell? a = some u) : (w.setCell a v).cell? a = some v := (World.cell?_setCell_same _ _ (h := c) _)
/-- Three cells are written, and a block is made. -/
theorem made_put {N Q P : Nat} {w : World} {l h : Int} {os : List UInt8} {r : List Int} {u0 u1 u2 : Value} {o : Obj} {ao : Option Addr} {n cap : Nat} (c0 : w.cell? ⟨P, 0, none⟩ = some u0) (c1 : w.cell? ⟨P, 1, none⟩ = some u1) (c2 : w.cell? ⟨P, 2, none⟩ = some u2)
    (f0 : w.frozen? ⟨P, 0, none⟩ = false) (f1 : w.frozen? ⟨P, 1, none⟩ = false) (f2 : w.frozen? ⟨P, 2, none⟩ = false) (f3 : w.frozen? ⟨P, 3, none⟩ = false) (c3 : w.cell? ⟨P, 3, none⟩ = some (.slice ao n cap))
    (hn : n = r.length) (hc : n ≤ cap) (hm : cap ≤ maxLen) (hs : Slc w ao r) (hb : ∀ x, ao = some x → x.block ≠ P ∧ x.block ≠ Q ∧ x.block < N) :
    PutSt N Q P ((((w.setCell ⟨P, 0, none⟩ (.int .i64 l)).setCell ⟨P, 1, none⟩ (.int .i64 h)).setCell ⟨P, 2, none⟩ (.string ⟨os.toArray⟩)).alloc o) (⟨l, h, os⟩, r) ∧
    Exc (fun k => k = P) w ((((w.setCell ⟨P, 0, none⟩ (.int .i64 l)).setCell ⟨P, 1, none⟩ (.int .i64 h)).setCell ⟨P, 2, none⟩ (.string ⟨os.toArray⟩)).alloc o) := by
  have fz : ∀ i, w.frozen? ⟨P, i, none⟩ = false → (((w.setCell ⟨P, 0, none⟩ (.int .i64 l)).setCell ⟨P, 1, none⟩ (.int .i64 h)).setCell ⟨P, 2, none⟩ (.string ⟨os.toArray⟩)).frozen? ⟨P, i, none⟩ = false := fun i hf => by
    rw [World.frozen?_setCell, World.frozen?_setCell, World.frozen?_setCell]; exact hf
  have B := (Bel.refl (((w.setCell ⟨P, 0, none⟩ (.int .i64 l)).setCell ⟨P, 1, none⟩ (.int .i64 h)).setCell ⟨P, 2, none⟩ (.string ⟨os.toArray⟩))).alloc o
  have e0 := other_cell (u := .string ⟨os.toArray⟩) (by decide : 2 ≠ 0) (other_cell (u := .int .i64 h) (by decide : 1 ≠ 0) (same_cell (v := .int .i64 l) c0))
  have e1 := other_cell (u := .string ⟨os.toArray⟩) (by decide : 2 ≠ 1) (same_cell (v := .int .i64 h) (other_cell (u := .int .i64 l) (by decide : 0 ≠ 1) c1))
  have e2 := same_cell (v := .string ⟨os.toArray⟩) (other_cell (u := .int .i64 h) (by decide : 1 ≠ 2) (other_cell (u := .int .i64 l) (by decide : 0 ≠ 2) c2))
  have e3 := other_cell (u := .string ⟨os.toArray⟩) (by decide : 2 ≠ 3) (other_cell (u := .int .i64 h) (by decide : 1 ≠ 3) (other_cell (u := .int .i64 l) (by decide : 0 ≠ 3) c3))
  refine ⟨⟨B.keep e0, B.keep e1, B.keep e2, B.free e0 (fz 0 f0), B.free e1 (fz 1 f1), B.free e2 (fz 2 f2), B.free e3 (fz 3 f3), ao, n, cap, B.keep e3, hn, hc, hm, slc_put3 hs (fun x hx => (hb x hx).1), hb⟩, ?_⟩
  exact ((((Exc.refl (fun k => k = P) w).setCell (a := ⟨P, 0, none⟩) (fun _ => rfl) _).setCell (a := ⟨P, 1, none⟩) (fun _ => rfl) _).setCell (a := ⟨P, 2, none⟩) (fun _ => rfl) _).alloc _

set_option maxHeartbeats 2000000 in
theorem put_ok (N Q P : Nat) (c : Cod) (x : Int) (r : List Int) (p : Int) (hb : Coder.Between c.l c.h) (hq : c.o.length ≤ 60000) (hx : x = 0 ∨ x = 1) (hp : 1 ≤ p ∧ p ≤ 4095) (w : World) (h : PutSt N Q P w (c, x :: r)) :
    Calls Tryz.prog 23 #[.pointer (some ⟨P, 0, none⟩), .int .i64 p] w fun e w' => e = .returned (.tuple #[.int .i64 x, .int .i64 0]) ∧ PutSt N Q P w' (codS c x p, r) ∧ Exc (fun k => k = P) w w' := by
  have C := Coder.bit_ok c.l c.h x p ⟨c.o.toArray⟩ (by rw [Deco.mk_size]; unfold maxLen; omega)
  rw [cod_is hb hq hx hp] at C
  obtain ⟨d0, d1, d2, g0, g1, g2, g3, ao, n, cap, d3, hn, hcap, hmax, hs, hblk⟩ := h
  have e0 := hs 0 (by simp)
  obtain ⟨a, rfl, hc⟩ := e0
  rw [show (x :: r).getD 0 0 = x from rfl] at hc
  simp only [List.length_cons] at hn
  obtain ⟨m, rfl⟩ : ∃ m, n = m + 1 := ⟨n - 1, by omega⟩
  obtain ⟨q1, q2, q3⟩ := hblk a rfl
  have pl := block_lt_of_cell d0
  have HR : Hid (Slc w (some (a.add 1)) r ∧ m = r.length ∧ a.block ≠ P ∧ a.block ≠ Q ∧ a.block < N) := ⟨fun k hk => ⟨_, rfl, by
    obtain ⟨y, hy, hc⟩ := hs (k + 1) (by simpa using hk)
    obtain rfl : a = y := Option.some.inj hy
    have e : (a.add 1).add k = a.add (k + 1) := by
      unfold Addr.add
      by_cases h : k = 0
      · simp [h]
      · simp [h]; omega
    rw [e, hc]
    simp⟩, by omega, q1, q2, q3⟩
  have CC : Hid (∀ w, Calls Tryz.prog 49 #[.agg #[.int .i64 c.l, .int .i64 c.h, .string ⟨c.o.toArray⟩], .int .i64 x, .int .i64 p] w fun e w' => e = .returned (.tuple #[.agg #[.int .i64 (codS c x p).l, .int .i64 (codS c x p).h, .string ⟨(codS c x p).o.toArray⟩], .int .i64 0]) ∧ Bel w w') := C
  clear C hn hs hblk q1 q2 q3 hb hq hx
  unfold maxLen at hmax
  obtain ⟨l, h, o⟩ := c
  generalize codS ⟨l, h, o⟩ x p = c' at *
  obtain ⟨l', h', o'⟩ := c'
  simp only at d0 d1 d2
  rw [show a.add 0 = a from by unfold Addr.add; simp] at hc
  by_cases hc1 : cap = 1
  · subst hc1
    obtain rfl : m = 0 := by omega
    have hr0 : r = [] := List.eq_nil_of_length_eq_zero HR.out.2.1.symm
    subst hr0
    have D0 : Hid ((w.setCell ⟨P, 3, none⟩ (.slice (some a) 0 0)).cell? ⟨P, 0, none⟩ = some (.int .i64 l)) := other_cell (by decide) d0
    have D1 : Hid ((w.setCell ⟨P, 3, none⟩ (.slice (some a) 0 0)).cell? ⟨P, 1, none⟩ = some (.int .i64 h)) := other_cell (by decide) d1
    have D2 : Hid ((w.setCell ⟨P, 3, none⟩ (.slice (some a) 0 0)).cell? ⟨P, 2, none⟩ = some (.string ⟨o.toArray⟩)) := other_cell (by decide) d2
    have D3 : Hid ((w.setCell ⟨P, 3, none⟩ (.slice (some a) 0 0)).cell? ⟨P, 3, none⟩ = some (.slice (some a) 0 0)) := same_cell d3
    have S3 : Hid (Slc (w.setCell ⟨P, 3, none⟩ (.slice (some a) 0 0)) ((some a)) []) := slc_nil _ _
    have FF : Hid (∀ i, (w.setCell ⟨P, 3, none⟩ (.slice (some a) 0 0)).frozen? ⟨P, i, none⟩ = w.frozen? ⟨P, i, none⟩) := fun i => World.frozen?_setCell _ _ _ _
    have X0 : Hid (Exc (fun k => k = P) w (w.setCell ⟨P, 3, none⟩ (.slice (some a) 0 0))) := (Exc.refl (fun k => k = P) w).setCell (a := ⟨P, 3, none⟩) (fun _ => rfl) _
    have G : Hid (w.frozen? ⟨P, 0, none⟩ = false ∧ w.frozen? ⟨P, 1, none⟩ = false ∧ w.frozen? ⟨P, 2, none⟩ = false ∧ w.frozen? ⟨P, 3, none⟩ = false) := ⟨g0, g1, g2, g3⟩
    go_enter Tryz.func23, Tryz.ntmps23
    go_wp2_with fail
    generalize w.setCell ⟨P, 3, none⟩ (.slice (some a) 0 0) = W at *
    refine (CC.out _).mono ?_
    rintro e w1 ⟨rfl, b1⟩
    have k0 := b1.keep D0.out
    have k1 := b1.keep D1.out
    have k2 := b1.keep D2.out
    have v0 := b1.free D0.out ((FF.out 0).trans G.out.1)
    have v1 := b1.free D1.out ((FF.out 1).trans G.out.2.1)
    have v2 := b1.free D2.out ((FF.out 2).trans G.out.2.2.1)
    have K3 : Hid (w1.cell? ⟨P, 3, none⟩ = some (.slice (some a) 0 0) ∧ w1.frozen? ⟨P, 3, none⟩ = false) := ⟨b1.keep D3.out, b1.free D3.out ((FF.out 3).trans G.out.2.2.2)⟩
    have S4 : Hid (Slc w1 ((some a)) []) := S3.out.bel b1
    have X1 : Hid (Exc (fun k => k = P) w w1) := X0.out.bel b1
    have PL : Hid (P < w1.heap.size) := block_lt_of_cell k0
    have pl1 : P < w1.heap.size := PL.out
    clear b1 D0 D1 D2 D3 S3 FF X0 d0 d1 d2 d3 g0 g1 g2 g3
    go_wp2
    go_ret2
    have MP := made_put (N := N) (Q := Q) (l := l') (h := h') (os := o') (o := .cells #[.int .i64 l', .int .i64 h', .string ⟨o'.toArray⟩] 51) k0 k1 k2 v0 v1 v2 K3.out.2 K3.out.1 HR.out.2.1 (by omega) (by unfold maxLen; omega) S4.out (fun y hy => by obtain rfl := Option.some.inj hy; exact HR.out.2.2)
    exact ⟨rfl, MP.1, X1.out.trans MP.2 (fun _ _ h => h)⟩
  · have hc2 : 1 < cap := by omega
    have D0 : Hid ((w.setCell ⟨P, 3, none⟩ (.slice (some ⟨a.block, a.off + 1, none⟩) m (cap - 1))).cell? ⟨P, 0, none⟩ = some (.int .i64 l)) := other_cell (by decide) d0
    have D1 : Hid ((w.setCell ⟨P, 3, none⟩ (.slice (some ⟨a.block, a.off + 1, none⟩) m (cap - 1))).cell? ⟨P, 1, none⟩ = some (.int .i64 h)) := other_cell (by decide) d1
    have D2 : Hid ((w.setCell ⟨P, 3, none⟩ (.slice (some ⟨a.block, a.off + 1, none⟩) m (cap - 1))).cell? ⟨P, 2, none⟩ = some (.string ⟨o.toArray⟩)) := other_cell (by decide) d2
    have D3 : Hid ((w.setCell ⟨P, 3, none⟩ (.slice (some ⟨a.block, a.off + 1, none⟩) m (cap - 1))).cell? ⟨P, 3, none⟩ = some (.slice (some ⟨a.block, a.off + 1, none⟩) m (cap - 1))) := same_cell d3
    have S3 : Hid (Slc (w.setCell ⟨P, 3, none⟩ (.slice (some ⟨a.block, a.off + 1, none⟩) m (cap - 1))) (some ⟨a.block, a.off + 1, none⟩) r) := slc_put1 (by have := HR.out.1; rwa [show a.add 1 = ⟨a.block, a.off + 1, none⟩ from by unfold Addr.add; simp] at this) (fun y hy => by obtain rfl := Option.some.inj hy; exact HR.out.2.2.1)
    have FF : Hid (∀ i, (w.setCell ⟨P, 3, none⟩ (.slice (some ⟨a.block, a.off + 1, none⟩) m (cap - 1))).frozen? ⟨P, i, none⟩ = w.frozen? ⟨P, i, none⟩) := fun i => World.frozen?_setCell _ _ _ _
    have X0 : Hid (Exc (fun k => k = P) w (w.setCell ⟨P, 3, none⟩ (.slice (some ⟨a.block, a.off + 1, none⟩) m (cap - 1)))) := (Exc.refl (fun k => k = P) w).setCell (a := ⟨P, 3, none⟩) (fun _ => rfl) _
    have G : Hid (w.frozen? ⟨P, 0, none⟩ = false ∧ w.frozen? ⟨P, 1, none⟩ = false ∧ w.frozen? ⟨P, 2, none⟩ = false ∧ w.frozen? ⟨P, 3, none⟩ = false) := ⟨g0, g1, g2, g3⟩
    go_enter Tryz.func23, Tryz.ntmps23
    go_wp2_with fail
    generalize w.setCell ⟨P, 3, none⟩ (.slice (some ⟨a.block, a.off + 1, none⟩) m (cap - 1)) = W at *
    refine (CC.out _).mono ?_
    rintro e w1 ⟨rfl, b1⟩
    have k0 := b1.keep D0.out
    have k1 := b1.keep D1.out
    have k2 := b1.keep D2.out
    have v0 := b1.free D0.out ((FF.out 0).trans G.out.1)
    have v1 := b1.free D1.out ((FF.out 1).trans G.out.2.1)
    have v2 := b1.free D2.out ((FF.out 2).trans G.out.2.2.1)
    have K3 : Hid (w1.cell? ⟨P, 3, none⟩ = some (.slice (some ⟨a.block, a.off + 1, none⟩) m (cap - 1)) ∧ w1.frozen? ⟨P, 3, none⟩ = false) := ⟨b1.keep D3.out, b1.free D3.out ((FF.out 3).trans G.out.2.2.2)⟩
    have S4 : Hid (Slc w1 (some ⟨a.block, a.off + 1, none⟩) r) := S3.out.bel b1
    have X1 : Hid (Exc (fun k => k = P) w w1) := X0.out.bel b1
    have PL : Hid (P < w1.heap.size) := block_lt_of_cell k0
    have pl1 : P < w1.heap.size := PL.out
    clear b1 D0 D1 D2 D3 S3 FF X0 d0 d1 d2 d3 g0 g1 g2 g3
    go_wp2
    go_ret2
    have MP := made_put (N := N) (Q := Q) (l := l') (h := h') (os := o') (o := .cells #[.int .i64 l', .int .i64 h', .string ⟨o'.toArray⟩] 51) k0 k1 k2 v0 v1 v2 K3.out.2 K3.out.1 HR.out.2.1 (by omega) (by unfold maxLen; omega) S4.out (fun y hy => by obtain rfl := Option.some.inj hy; exact HR.out.2.2)
    exact ⟨rfl, MP.1, X1.out.trans MP.2 (fun _ _ h => h)⟩

/-- A taker's variable: the decoder of t at a coder's place. -/
structure TakeSt (P : Nat) (t : ByteArray) (w : World) (c : Cod) : Prop where
  c0 : w.cell? ⟨P, 0, none⟩ = some (.int .i64 c.l)
  c1 : w.cell? ⟨P, 1, none⟩ = some (.int .i64 c.h)
  c2 : w.cell? ⟨P, 2, none⟩ = some (.int .i64 (Coder.win t c.o.length))
  c3 : w.cell? ⟨P, 3, none⟩ = some (.string t)
  c4 : w.cell? ⟨P, 4, none⟩ = some (.int .i64 ((c.o.length + 4 : Nat) : Int))
  f : ∀ i, i < 5 → w.frozen? ⟨P, i, none⟩ = false

theorem TakeSt.keep {N Q P : Nat} {t : ByteArray} {w w' : World} {c : Cod} (h : TakeSt P t w c) (hP : P < N) (hQ : P ≠ Q) (hB : ∀ k, k < N → k ≠ Q → w'.heap[k]? = w.heap[k]?) : TakeSt P t w' c := by
  have kc : ∀ i, w'.cell? ⟨P, i, none⟩ = w.cell? ⟨P, i, none⟩ := fun i => World.cell?_of_block (w := w) (hB P hP hQ)
  have kf : ∀ i, w'.frozen? ⟨P, i, none⟩ = w.frozen? ⟨P, i, none⟩ := fun i => World.frozen?_of_block (w := w) (hB P hP hQ)
  obtain ⟨c0, c1, c2, c3, c4, f⟩ := h
  exact ⟨by rw [kc]; exact c0, by rw [kc]; exact c1, by rw [kc]; exact c2, by rw [kc]; exact c3, by rw [kc]; exact c4, fun i hi => by rw [kf]; exact f i hi⟩

/-- Five cells are written, and a block is made. -/
theorem made_take {P : Nat} {w : World} {x0 x1 x2 x3 x4 u0 u1 u2 u3 u4 : Value} {o : Obj} (c0 : w.cell? ⟨P, 0, none⟩ = some u0) (c1 : w.cell? ⟨P, 1, none⟩ = some u1) (c2 : w.cell? ⟨P, 2, none⟩ = some u2) (c3 : w.cell? ⟨P, 3, none⟩ = some u3) (c4 : w.cell? ⟨P, 4, none⟩ = some u4)
    (f : ∀ i, i < 5 → w.frozen? ⟨P, i, none⟩ = false) (w' : World) (hw : w' = ((((((w.setCell ⟨P, 0, none⟩ x0).setCell ⟨P, 1, none⟩ x1).setCell ⟨P, 2, none⟩ x2).setCell ⟨P, 3, none⟩ x3).setCell ⟨P, 4, none⟩ x4).alloc o)) :
    w'.cell? ⟨P, 0, none⟩ = some x0 ∧ w'.cell? ⟨P, 1, none⟩ = some x1 ∧ w'.cell? ⟨P, 2, none⟩ = some x2 ∧ w'.cell? ⟨P, 3, none⟩ = some x3 ∧ w'.cell? ⟨P, 4, none⟩ = some x4 ∧ (∀ i, i < 5 → w'.frozen? ⟨P, i, none⟩ = false) ∧ Exc (fun k => k = P) w w' := by
  obtain ⟨W, hW⟩ : ∃ W, W = (((((w.setCell ⟨P, 0, none⟩ x0).setCell ⟨P, 1, none⟩ x1).setCell ⟨P, 2, none⟩ x2).setCell ⟨P, 3, none⟩ x3).setCell ⟨P, 4, none⟩ x4) := ⟨_, rfl⟩
  have fz : ∀ i, W.frozen? ⟨P, i, none⟩ = w.frozen? ⟨P, i, none⟩ := fun i => by
    rw [hW, World.frozen?_setCell, World.frozen?_setCell, World.frozen?_setCell, World.frozen?_setCell, World.frozen?_setCell]
  rw [← hW] at hw
  subst hw
  have B := (Bel.refl W).alloc o
  have e0 : W.cell? ⟨P, 0, none⟩ = some x0 := hW ▸ other_cell (by decide : 4 ≠ 0) (other_cell (by decide : 3 ≠ 0) (other_cell (by decide : 2 ≠ 0) (other_cell (by decide : 1 ≠ 0) (same_cell c0))))
  have e1 : W.cell? ⟨P, 1, none⟩ = some x1 := hW ▸ other_cell (by decide : 4 ≠ 1) (other_cell (by decide : 3 ≠ 1) (other_cell (by decide : 2 ≠ 1) (same_cell (other_cell (by decide : 0 ≠ 1) c1))))
  have e2 : W.cell? ⟨P, 2, none⟩ = some x2 := hW ▸ other_cell (by decide : 4 ≠ 2) (other_cell (by decide : 3 ≠ 2) (same_cell (other_cell (by decide : 1 ≠ 2) (other_cell (by decide : 0 ≠ 2) c2))))
  have e3 : W.cell? ⟨P, 3, none⟩ = some x3 := hW ▸ other_cell (by decide : 4 ≠ 3) (same_cell (other_cell (by decide : 2 ≠ 3) (other_cell (by decide : 1 ≠ 3) (other_cell (by decide : 0 ≠ 3) c3))))
  have e4 : W.cell? ⟨P, 4, none⟩ = some x4 := hW ▸ same_cell (other_cell (by decide : 3 ≠ 4) (other_cell (by decide : 2 ≠ 4) (other_cell (by decide : 1 ≠ 4) (other_cell (by decide : 0 ≠ 4) c4))))
  refine ⟨B.keep e0, B.keep e1, B.keep e2, B.keep e3, B.keep e4, fun i hi => ?_, ?_⟩
  · match i, hi with
    | 0, _ => exact B.free e0 ((fz 0).trans (f 0 (by decide)))
    | 1, _ => exact B.free e1 ((fz 1).trans (f 1 (by decide)))
    | 2, _ => exact B.free e2 ((fz 2).trans (f 2 (by decide)))
    | 3, _ => exact B.free e3 ((fz 3).trans (f 3 (by decide)))
    | 4, _ => exact B.free e4 ((fz 4).trans (f 4 (by decide)))
  · subst hW
    exact ((((((Exc.refl (fun k => k = P) w).setCell (a := ⟨P, 0, none⟩) (fun _ => rfl) _).setCell (a := ⟨P, 1, none⟩) (fun _ => rfl) _).setCell (a := ⟨P, 2, none⟩) (fun _ => rfl) _).setCell (a := ⟨P, 3, none⟩) (fun _ => rfl) _).setCell (a := ⟨P, 4, none⟩) (fun _ => rfl) _).alloc _

set_option maxHeartbeats 2000000 in
theorem take_ok (P : Nat) (t : ByteArray) (c : Cod) (p : Int) (hb : Coder.Between c.l c.h) (hs : t.size ≤ 65536) (hq : c.o.length ≤ 60000) (hp : 1 ≤ p ∧ p ≤ 4095) (hi : In t c) (w : World) (h : TakeSt P t w c) :
    Calls Tryz.prog 64 #[.pointer (some ⟨P, 0, none⟩), .int .i64 p] w fun e w' => e = .returned (.tuple #[.int .i64 (bitT t c p), .int .i64 0]) ∧ TakeSt P t w' (codS c (bitT t c p) p) ∧ Exc (fun k => k = P) w w' := by
  have C := Deco.bit_ok c.l c.h (Coder.win t c.o.length) p t ((c.o.length + 4 : Nat) : Int) (by unfold maxLen; omega)
  rw [dec_is hb hs hq hp hi] at C
  obtain ⟨d0, d1, d2, d3, d4, f⟩ := h
  have F : Hid (∀ i, i < 5 → w.frozen? ⟨P, i, none⟩ = false) := f
  clear f hb hs hq hi
  have mk : ∀ (w : World) (c : Cod), (w.cell? ⟨P, 0, none⟩ = some (.int .i64 c.l) ∧ w.cell? ⟨P, 1, none⟩ = some (.int .i64 c.h) ∧ w.cell? ⟨P, 2, none⟩ = some (.int .i64 (Coder.win t c.o.length)) ∧ w.cell? ⟨P, 3, none⟩ = some (.string t) ∧ w.cell? ⟨P, 4, none⟩ = some (.int .i64 ((c.o.length + 4 : Nat) : Int)) ∧ (∀ i, i < 5 → w.frozen? ⟨P, i, none⟩ = false)) → TakeSt P t w c := fun w c q => ⟨q.1, q.2.1, q.2.2.1, q.2.2.2.1, q.2.2.2.2.1, q.2.2.2.2.2⟩
  have MK : Hid (∀ (w : World), (w.cell? ⟨P, 0, none⟩ = some (.int .i64 (codS c (bitT t c p) p).l) ∧ w.cell? ⟨P, 1, none⟩ = some (.int .i64 (codS c (bitT t c p) p).h) ∧ w.cell? ⟨P, 2, none⟩ = some (.int .i64 (Coder.win t (codS c (bitT t c p) p).o.length)) ∧ w.cell? ⟨P, 3, none⟩ = some (.string t) ∧ w.cell? ⟨P, 4, none⟩ = some (.int .i64 (((codS c (bitT t c p) p).o.length + 4 : Nat) : Int)) ∧ (∀ i, i < 5 → w.frozen? ⟨P, i, none⟩ = false)) → TakeSt P t w (codS c (bitT t c p) p)) := fun w => mk w _
  have CC : Hid (∀ w, Calls Tryz.prog 99 #[.agg #[.int .i64 c.l, .int .i64 c.h, .int .i64 (Coder.win t c.o.length), .string t, .int .i64 ((c.o.length + 4 : Nat) : Int)], .int .i64 p] w fun e w' => e = .returned (.tuple #[.agg #[.int .i64 (codS c (bitT t c p) p).l, .int .i64 (codS c (bitT t c p) p).h, .int .i64 (Coder.win t (codS c (bitT t c p) p).o.length), .string t, .int .i64 (((codS c (bitT t c p) p).o.length + 4 : Nat) : Int)], .int .i64 (bitT t c p), .int .i64 0]) ∧ Bel w w') := C
  clear C mk
  generalize codS c (bitT t c p) p = c' at *
  generalize bitT t c p = y at *
  generalize Coder.win t c.o.length = n0 at *
  generalize ((c.o.length + 4 : Nat) : Int) = q0 at *
  generalize Coder.win t c'.o.length = n1 at *
  generalize ((c'.o.length + 4 : Nat) : Int) = q1 at *
  generalize c'.l = l' at *
  generalize c'.h = h' at *
  generalize c.l = l at *
  generalize c.h = h at *
  go_enter Tryz.func64, Tryz.ntmps64
  go_wp2_with fail
  refine (CC.out _).mono ?_
  rintro e w1 ⟨rfl, b1⟩
  have k0 := b1.keep d0
  have k1 := b1.keep d1
  have k2 := b1.keep d2
  have k3 := b1.keep d3
  have k4 := b1.keep d4
  have v0 := b1.free d0 (F.out 0 (by decide))
  have v1 := b1.free d1 (F.out 1 (by decide))
  have v2 := b1.free d2 (F.out 2 (by decide))
  have v3 := b1.free d3 (F.out 3 (by decide))
  have v4 := b1.free d4 (F.out 4 (by decide))
  have VV : Hid (∀ i, i < 5 → w1.frozen? ⟨P, i, none⟩ = false) := fun i hi => match i, hi with | 0, _ => v0 | 1, _ => v1 | 2, _ => v2 | 3, _ => v3 | 4, _ => v4
  have X1 : Hid (Exc (fun k => k = P) w w1) := Exc.of_bel b1
  have pl1 : P < w1.heap.size := block_lt_of_cell k0
  clear b1 d0 d1 d2 d3 d4
  go_wp2
  go_ret2
  have MP := made_take (x0 := .int .i64 l') (x1 := .int .i64 h') (x2 := .int .i64 n1) (x3 := .string t) (x4 := .int .i64 q1) (o := .cells #[.int .i64 l', .int .i64 h', .int .i64 n1, .string t, .int .i64 q1] 76) k0 k1 k2 k3 k4 VV.out _ rfl
  exact ⟨rfl, MK.out _ ⟨MP.1, MP.2.1, MP.2.2.1, MP.2.2.2.1, MP.2.2.2.2.1, MP.2.2.2.2.2.1⟩, X1.out.trans MP.2.2.2.2.2.2 (fun _ _ h => h)⟩

end Go.Proofs.YtocnlefpbcnlmaaGreatDoor.Res

namespace Go.Proofs.YtocnlefpbcnlmaaGreatDoor.Res
open Go.RowKit Go.Sort Go.Proofs.YtocnlefpbcnlmaaGreatDoor.Mod Go.Proofs.YtocnlefpbcnlmaaGreatDoor.Ints
set_option linter.unusedVariables false
set_option linter.unusedSimpArgs false

def lenOf : Value → Nat
  | .slice _ n _ => n
  | _ => 0

/-- What the way through a number's bits ends in. -/
def Ends {σ : Type} (N Lb P : Nat) (St : World → σ → Prop) (Inv : σ → List Int → Prop) (w' : World) (e : Ending) : Option (List Int × σ × List Int) → Prop
  | none => e = .returned (.tuple #[.slice none 0 0, .bool false])
  | some (M, t, bs) => (∃ ao cap, e = .returned (.tuple #[.slice ao bs.length cap, .bool true]) ∧ bs.length ≤ cap ∧ cap ≤ maxLen ∧ Slc w' ao bs ∧ ∀ x, ao = some x → N ≤ x.block) ∧
      Holds w' Lb (M ++ [((bs.length / 2 : Nat) : Int)]) ∧ St w' t ∧ M.length = 195 ∧ mayM M = true ∧ Inv t bs ∧ whole bs = true ∧ Ctx.Bits01 bs ∧ bs.length ≤ 64

/-- What holds at a round's beginning. -/
structure Way {σ : Type} (N Lb P : Nat) (St : World → σ → Prop) (Inv : σ → List Int → Prop) (nxt : σ → Int → Int × σ) (R : Option (List Int × σ × List Int)) (b : Int) (w wr : World) (M : List Int) (t : σ) (bs : List Int) (v : Value) : Prop where
  run : run nxt (65 - bs.length) M b t bs = R
  len : M.length = 195
  may : mayM M = true
  b01 : Ctx.Bits01 bs
  inv : Inv t bs
  mem : Holds wr Lb (M ++ [b])
  st : St wr t
  row : wr.ownsRow N 3 1 v bs.length (vals bs)
  exc : Exc (fun k => k = Lb ∨ k = P) w wr

section
variable {ops : Array Oper} {rest : List Oper} {dst : Option Tmp} {a : Act} {w : World} {ty : TypeId} {pos : String} {after : Array Edge} {x : Operand} {B : Nat} {M X : List Int}
/-- A learner's model, and a context, in a region that reads. -/
theorem quiet_load46 {Q : Act → Prop} (h : Holds w B (M ++ X)) (hM : M.length = 195) (hx : a.eval x = .pointer (some ⟨B, 0, none⟩))
    (k : wpQuiet Tryz.prog ops (fun w' => ∃ p : Regrown, w' = grow (redrawn w p.d) p.os) Q rest (a.put dst (mdl M))) :
    wpQuiet Tryz.prog ops (fun w' => ∃ p : Regrown, w' = grow (redrawn w p.d) p.os) Q ({ dst := dst, op := .load 46 x, type := ty, pos := pos, after := after, guard := none } :: rest) a :=
  quiet_load26 (holds_front h) hM hx k
end

theorem store46 {w : World} {B : Nat} {L M : List Int} {b : Int} (h : Holds w B (L ++ [b])) (hM : M.length = 195) (hL : L.length = 195) :
    (storeVar 46 ⟨B, 0, none⟩ (mdl M)).run Tryz.prog w = .ok () (w.setCells B 0 (vals M)) := by
  have hs : (vals M).toArray.size = 195 := by simp [vals_length, hM]
  have := run_storeVar_mid (P := Tryz.prog) w B 0 46 (vals M).toArray (by rw [hs]; exact h.there 0 195 (by rw [List.length_append, hL]; simp)) (by rw [size26, hs]) (vals_one M)
  simpa using this

theorem fuel {σ : Type} (nxt : σ → Int → Int × σ) (n : Nat) (hn : n ≤ 64) (M : List Int) (b : Int) (t : σ) (bs : List Int) : run nxt (65 - n) M b t bs = if whole bs then some (M, t, bs) else if 63 < bs.length then none else
      run nxt (64 - n) (lrn M b bs (nxt t (pOf M b bs)).1) b (nxt t (pOf M b bs)).2 (bs ++ [(nxt t (pOf M b bs)).1]) := by
  rw [show 65 - n = (64 - n) + 1 by omega, run]

theorem row_block {w : World} {N n m cap : Nat} {ao : Option Addr} {xs : List Value} (h : w.ownsRow N 3 1 (.slice ao n cap) m xs) : ∀ x, ao = some x → N ≤ x.block := fun x hx => by
  rcases h.2 with ⟨q, _⟩ | ⟨g, c, cur, q, hb, _⟩
  · injection q with q1 _ _; rw [hx] at q1; cases q1
  · injection q with q1 _ _; rw [hx] at q1; obtain rfl := Option.some.inj q1; exact hb

theorem set_last {M : List Int} (hM : M.length = 195) (b x : Int) : (M ++ [b]).set 195 x = M ++ [x] := by
  rw [List.set_append_right _ _ (by omega)]; simp [hM]
theorem get_last {M : List Int} (hM : M.length = 195) (b : Int) : (M ++ [b]).getD 195 0 = b := by
  simp [List.getD_eq_getElem?_getD, List.getElem?_append_right, hM]

end Go.Proofs.YtocnlefpbcnlmaaGreatDoor.Res

namespace Go.Proofs.YtocnlefpbcnlmaaGreatDoor.Res
open Go.RowKit Go.Sort Go.Proofs.YtocnlefpbcnlmaaGreatDoor.Mod Go.Proofs.YtocnlefpbcnlmaaGreatDoor.Ints
set_option linter.unusedVariables false
set_option linter.unusedSimpArgs false

set_option maxRecDepth 20000 in
set_option maxHeartbeats 4000000 in
theorem number_take {σ : Type} (N Lb P : Nat) (St : World → σ → Prop) (Inv : σ → List Int → Prop) (nxt : σ → Int → Int × σ)
    (hSt : ∀ w w' s, St w s → (∀ k, k < N → k ≠ Lb → w'.heap[k]? = w.heap[k]?) → St w' s)
    (hcall : ∀ w s bs p, whole bs = false → bs.length ≤ 63 → 1 ≤ p ∧ p ≤ 4095 → Inv s bs → St w s → Calls Tryz.prog 64 #[.pointer (some ⟨P, 0, none⟩), .int .i64 p] w fun e w' => e = .returned (.tuple #[.int .i64 (nxt s p).1, .int .i64 0]) ∧ St w' (nxt s p).2 ∧ Exc (fun k => k = P) w w')
    (hinv : ∀ s bs p, whole bs = false → bs.length ≤ 63 → 1 ≤ p ∧ p ≤ 4095 → Inv s bs → Inv (nxt s p).2 (bs ++ [(nxt s p).1]) ∧ ((nxt s p).1 = 0 ∨ (nxt s p).1 = 1))
    (L : List Int) (hL : L.length = 195) (hm : mayM L = true) (b : Int) (b0 : 0 ≤ b) (b63 : b ≤ 63) (s : σ) (hi : Inv s []) (R : Option (List Int × σ × List Int)) (hR : run nxt 65 L b s [] = R)
    (w : World) (hN : N = w.heap.size) (hLb : Lb < N) (hP : P < N) (hLP : Lb ≠ P) (h0 : 0 < Lb) (h1 : 0 < P) (T : Str.Tab w) (H : Holds w Lb (L ++ [b])) (hS : St w s) :
    Calls Tryz.prog 22 #[.pointer (some ⟨Lb, 0, none⟩), .func (.func 64) #[.pointer (some ⟨P, 0, none⟩)] #[]] w fun e w' =>
      Ends N Lb P St Inv w' e R ∧ Exc (fun k => k = Lb ∨ k = P) w w' := by
  obtain ⟨i0, hz, hz0, hz1, hz2⟩ := info_parts Ints.info_int
  have TT : Hid (Str.Tab w) := T
  have W0 : Hid (Way N Lb P St Inv nxt R b w w L s [] (.slice none 0 0)) := ⟨hR, hL, hm, Ctx.bits_nil, hi, H, hS, ⟨rfl, .inl ⟨rfl, rfl⟩⟩, Exc.refl _ _⟩
  have AT : Hid (N = w.heap.size ∧ Lb < N ∧ P < N ∧ Lb ≠ P ∧ 0 < Lb ∧ 0 < P) := ⟨hN, hLb, hP, hLP, h0, h1⟩
  have BB : Hid (0 ≤ b ∧ b ≤ 63) := ⟨b0, b63⟩
  have HS : Hid (∀ w w' s, St w s → (∀ k, k < N → k ≠ Lb → w'.heap[k]? = w.heap[k]?) → St w' s) := hSt
  have HC : Hid (∀ w s bs p, whole bs = false → bs.length ≤ 63 → 1 ≤ p ∧ p ≤ 4095 → Inv s bs → St w s → Calls Tryz.prog 64 #[.pointer (some ⟨P, 0, none⟩), .int .i64 p] w fun e w' => e = .returned (.tuple #[.int .i64 (nxt s p).1, .int .i64 0]) ∧ St w' (nxt s p).2 ∧ Exc (fun k => k = P) w w') := hcall
  have HI : Hid (∀ s bs p, whole bs = false → bs.length ≤ 63 → 1 ≤ p ∧ p ≤ 4095 → Inv s bs → Inv (nxt s p).2 (bs ++ [(nxt s p).1]) ∧ ((nxt s p).1 = 0 ∨ (nxt s p).1 = 1)) := hinv
  clear hSt hcall hinv hL hm b0 b63 hi hR hN hLb hP hLP h0 h1 T H hS
  go_enter Tryz.func22, Tryz.ntmps22
  go_wp2_with fail
  go_loopw [6] (fun v wr => ∃ (bs M : List Int) (t : σ) (n cap : Nat) (ao : Option Addr), v = .slice ao n cap ∧ n ≤ 64 ∧ Hid (n = bs.length ∧ n ≤ cap ∧ cap ≤ maxLen ∧ Slc wr ao bs ∧ Way N Lb P St Inv nxt R b w wr M t bs (.slice ao n cap))) (fun v _ => 64 - lenOf v)
  case atStart => exact ⟨[], L, s, 0, 0, none, rfl, by omega, ⟨rfl, Nat.le_refl _, Nat.zero_le _, slc_nil _ _, W0.out⟩⟩
  case round =>
    obtain ⟨bs, M, t, n, cap, ao, rfl, hn, K⟩ := hrel
    clear W0
    have IW : Hid (Calls Tryz.prog 45 #[.slice ao n cap] wr fun e w' => e = .returned (.bool (whole bs)) ∧ w' = wr) := isWhole_ok ao bs n cap K.out.1 hn K.out.2.2.2.2.b01 wr K.out.2.2.2.1
    have c5 := K.out.2.2.2.2.mem.cell 195 (by rw [List.length_append, K.out.2.2.2.2.len]; simp)
    rw [get_last K.out.2.2.2.2.len] at c5
    cases hw : whole bs
    · rw [hw] at IW
      by_cases h63 : n ≤ 63
      · have OF : Hid (Calls Tryz.prog 46 #[.int .i64 b, .slice ao n cap] wr fun e w' => e = .returned (.tuple #[.agg #[.int .i64 (x0 bs : Nat), .int .i64 (x1 b bs : Nat), .int .i64 (x2 bs : Nat)], .int .i64 0]) ∧ Bel wr w') := by
          have := Ctx.of_yes b ao bs n cap K.out.1 ⟨BB.out.1, BB.out.2, by rw [← K.out.1]; exact h63, K.out.2.2.2.2.b01⟩ wr K.out.2.2.2.1
          have e : Ctx.ctxV b bs = .agg #[.int .i64 (x0 bs : Nat), .int .i64 (x1 b bs : Nat), .int .i64 (x2 bs : Nat)] := by rw [(x0_is bs).1, (x1_is BB.out.1 bs).1, (x2_is bs).1]
          rwa [e] at this
        have PQ : Hid (∀ w, Str.Tab w → Calls Tryz.prog 47 #[mdl M, .agg #[.int .i64 (x0 bs : Nat), .int .i64 (x1 b bs : Nat), .int .i64 (x2 bs : Nat)]] w fun e w' => e = .returned (.tuple #[.int .i64 (pOf M b bs), .int .i64 0]) ∧ Bel w w') := fun w T => p_yes M K.out.2.2.2.2.len _ _ _ (x0_is bs).2 (x1_is BB.out.1 bs).2 (x2_is bs).2 K.out.2.2.2.2.may w T
        have LQ : Hid (∀ x w, (x = 0 ∨ x = 1) → Str.Tab w → Calls Tryz.prog 48 #[mdl M, .agg #[.int .i64 (x0 bs : Nat), .int .i64 (x1 b bs : Nat), .int .i64 (x2 bs : Nat)], .int .i64 x] w fun e w' => e = .returned (.tuple #[mdl (lrn M b bs x), .int .i64 0]) ∧ Bel w w') := fun x w hx T => learn_yes M K.out.2.2.2.2.len _ _ _ (x0_is bs).2 (x1_is BB.out.1 bs).2 (x2_is bs).2 x (decide_eq_true hx) K.out.2.2.2.2.may w T
        have PR : Hid (1 ≤ pOf M b bs ∧ pOf M b bs ≤ 4095) := pOf_in M b bs
        have HW : Hid (whole bs = false) := hw
        have RN := K.out.2.2.2.2.run
        rw [← K.out.1, fuel nxt n hn, hw, if_neg (by simp), if_neg (by rw [← K.out.1]; omega)] at RN
        have RR : Hid (run nxt (64 - n) (lrn M b bs (nxt t (pOf M b bs)).1) b (nxt t (pOf M b bs)).2 (bs ++ [(nxt t (pOf M b bs)).1]) = R) := RN
        have MM : Hid (∀ x, (lrn M b bs x).length = 195 ∧ mayM (lrn M b bs x) = true) := fun x => ⟨by rw [lrn_len]; exact K.out.2.2.2.2.len, lrn_may K.out.2.2.2.2.len BB.out.1 bs x K.out.2.2.2.2.may⟩
        clear RN hw
        generalize pOf M b bs = p at *
        generalize x0 bs = A at *
        generalize x1 b bs = B at *
        generalize x2 bs = C at *
        go_wp2_with fail
        refine IW.out.mono ?_
        rintro e w1 ⟨rfl, rfl⟩
        clear IW
        go_wp2_with fail
        refine OF.out.mono ?_
        rintro e w2 ⟨rfl, b2⟩
        clear OF
        have B3 : Hid (Bel w1 (w2.alloc (.cells #[.int .i64 (A : Int), .int .i64 (B : Int), .int .i64 (C : Int)] 44))) := b2.alloc _
        have H3 : Hid (Holds (w2.alloc (.cells #[.int .i64 (A : Int), .int .i64 (B : Int), .int .i64 (C : Int)] 44)) w2.heap.size [(A : Int), (B : Int), (C : Int)]) := holds_new w2 [(A : Int), (B : Int), (C : Int)] 44
        have S3 : Hid (w1.heap.size ≤ w2.heap.size) := b2.size
        clear b2 c5
        go_wp2_with fail
        generalize w2.alloc (.cells #[.int .i64 (A : Int), .int .i64 (B : Int), .int .i64 (C : Int)] 44) = W at *
        generalize w2.heap.size = Cb at *
        obtain ⟨kn, kc, kx, ks, kw⟩ := K.out
        have ne : N ≤ w1.heap.size := by have := kw.exc.size; have := AT.out.1; omega
        have a0 : W.cell? ⟨Cb, 0, none⟩ = some (.int .i64 (A : Int)) := H3.out.cell 0 (by simp)
        have a1 : W.cell? ⟨Cb, 1, none⟩ = some (.int .i64 (B : Int)) := H3.out.cell 1 (by simp)
        have a2 : W.cell? ⟨Cb, 2, none⟩ = some (.int .i64 (C : Int)) := H3.out.cell 2 (by simp)
        have HM : Hid (Holds W Lb (M ++ [b])) := kw.mem.bel B3.out
        have ML : Hid (M.length = 195) := kw.len
        have TW : Hid (Str.Tab W) := tab_bel (kw.exc.tab TT.out (by have := AT.out; omega)) B3.out
        have SW : Hid (St W t) := HS.out _ _ _ kw.st (fun k hk _ => B3.out.block k (by omega))
        have RW : Hid (W.ownsRow N 3 1 (.slice ao n cap) bs.length (vals bs)) := owns_bel kw.row B3.out
        have XW : Hid (Exc (fun k => k = Lb ∨ k = P) w W) := kw.exc.bel B3.out
        have KI : Hid (Inv t bs ∧ Ctx.Bits01 bs ∧ n = bs.length ∧ N ≤ Cb ∧ N ≤ W.heap.size) := ⟨kw.inv, kw.b01, kn, by have := S3.out; omega, by have := B3.out.size; omega⟩
        clear kn kc kx ks kw ne K B3 S3
        have k0 := cell_regrown a0
        have k1 := cell_regrown a1
        have k2 := cell_regrown a2
        refine wp_region_quiet_below (by kernel_rfl) (by kernel_rfl) ?_
        repeat (first
          | (with_reducible refine quiet_load46 HM.out ML.out rfl ?_)
          | quiet_step ((go_at_call 47; with_reducible exact Calls.regrown_of (PQ.out _ (tab_bel TW.out (below_regrown _ _ _))))))
        refine wpQuiet_nil ?_
        intro w3 hw'
        have bq : Bel W w3 := by obtain ⟨⟨dq, osq⟩, rfl⟩ := hw'; exact below_regrown W dq osq
        clear hw' k0 k1 k2 PQ
        have CQ : Hid (Calls Tryz.prog 64 #[.pointer (some ⟨P, 0, none⟩), .int .i64 p] w3 fun e w' => e = .returned (.tuple #[.int .i64 (nxt t p).1, .int .i64 0]) ∧ St w' (nxt t p).2 ∧ Exc (fun k => k = P) w3 w') := HC.out w3 t bs p HW.out (by have := KI.out.2.2.1; omega) PR.out KI.out.1 (HS.out _ _ _ SW.out (fun k hk _ => bq.block k (by have := KI.out; omega)))
        obtain ⟨i1, i2⟩ := HI.out t bs p HW.out (by have := KI.out.2.2.1; omega) PR.out KI.out.1
        have I2 : Hid (Inv (nxt t p).2 (bs ++ [(nxt t p).1]) ∧ ((nxt t p).1 = 0 ∨ (nxt t p).1 = 1)) := ⟨i1, i2⟩
        clear i1 i2
        have e0 := bq.keep a0
        have e1 := bq.keep a1
        have e2 := bq.keep a2
        have HM3 : Hid (Holds w3 Lb (M ++ [b])) := HM.out.bel bq
        have TW3 : Hid (Str.Tab w3) := tab_bel TW.out bq
        have RW3 : Hid (w3.ownsRow N 3 1 (.slice ao n cap) bs.length (vals bs)) := owns_bel RW.out bq
        have XW3 : Hid (Exc (fun k => k = Lb ∨ k = P) w w3) := XW.out.bel bq
        have N3 : Hid (N ≤ w3.heap.size) := (by have := bq.size; have := KI.out; omega : N ≤ w3.heap.size)
        have HC3 : Hid (Holds w3 Cb [(A : Int), (B : Int), (C : Int)]) := H3.out.bel bq
        clear bq a0 a1 a2 HM TW SW RW XW
        go_wp2_with fail
        refine CQ.out.mono ?_
        rintro e w4 ⟨rfl, st4, x4⟩
        generalize (nxt t p).1 = x at *
        generalize (nxt t p).2 = t' at *
        have e0 := x4.keep e0 (by have := KI.out; have := AT.out; show ¬ Cb = P; omega)
        have e1 := x4.keep e1 (by have := KI.out; have := AT.out; show ¬ Cb = P; omega)
        have e2 := x4.keep e2 (by have := KI.out; have := AT.out; show ¬ Cb = P; omega)
        have HM4 : Hid (Holds w4 Lb (M ++ [b])) := x4.holds HM3.out (by have := AT.out; omega)
        have TW4 : Hid (Str.Tab w4) := x4.tab TW3.out (by have := AT.out; omega)
        have RW4 : Hid (w4.ownsRow N 3 1 (.slice ao n cap) bs.length (vals bs)) := x4.owns RW3.out (fun k hk => by have := AT.out; omega)
        have XW4 : Hid (Exc (fun k => k = Lb ∨ k = P) w w4) := XW3.out.trans x4 (fun _ _ h => .inr h)
        have N4 : Hid (N ≤ w4.heap.size) := (by have := x4.size; have := N3.out; omega : N ≤ w4.heap.size)
        have ST4 : Hid (St w4 t') := st4
        have HC4 : Hid (Holds w4 Cb [(A : Int), (B : Int), (C : Int)]) := x4.holds HC3.out (by have := KI.out; have := AT.out; omega)
        clear st4 x4 HM3 TW3 RW3 XW3 N3 CQ
        go_wp2_with fail
        refine wp_region_any (by kernel_rfl) ?_
        change wpAny _ _ _ _ _ _ _ (World.drew _)
        refine wpAny_take (i := 0) (oi := { dst := some 44, op := .move (.tmp 0), type := _, pos := _, after := _, guard := none }) (v := ?_) rfl (by kernel_rfl) (by kernel_rfl) (by kernel_rfl) (fun _ _ _ h => h) (Or.inl ⟨by rfl, ?_⟩) ?_
        rotate_left
        · intro w; go_simp; with_reducible rfl
        simp only [Act.put, List.setIfInBounds_toArray, List.set_cons_zero, List.set_cons_succ]
        refine wpAny_take (i := 1) (oi := { dst := some 45, op := .move (.tmp 0), type := _, pos := _, after := _, guard := none }) (v := ?_) rfl (by kernel_rfl) (by kernel_rfl) (by kernel_rfl) (fun _ _ _ h => h) (Or.inl ⟨by rfl, ?_⟩) ?_
        rotate_left
        · intro w; go_simp; with_reducible rfl
        simp only [Act.put, List.setIfInBounds_toArray, List.set_cons_zero, List.set_cons_succ]
        refine wpAny_take (i := 2) (oi := { dst := some 46, op := .nilCheck (.tmp 45), type := _, pos := _, after := _, guard := none }) (v := ?_) rfl (by kernel_rfl) (by kernel_rfl) (by kernel_rfl) (fun _ _ _ h => h) (Or.inl ⟨by rfl, ?_⟩) ?_
        rotate_left
        · intro w; go_simp; with_reducible rfl
        simp only [Act.put, List.setIfInBounds_toArray, List.set_cons_zero, List.set_cons_succ]
        refine wpAny_take (i := 3) (oi := { dst := some 47, op := .fieldAddr 48 (.tmp 46) 0, type := _, pos := _, after := _, guard := none }) (v := ?_) rfl (by kernel_rfl) (by kernel_rfl) (by kernel_rfl) (fun _ _ _ h => h) (Or.inl ⟨by rfl, ?_⟩) ?_
        rotate_left
        · intro w; go_simp; with_reducible rfl
        simp only [Act.put, List.setIfInBounds_toArray, List.set_cons_zero, List.set_cons_succ]
        refine wpAny_take (i := 6) (oi := { dst := some 50, op := .move (.tmp 11), type := _, pos := _, after := _, guard := none }) (v := ?_) rfl (by kernel_rfl) (by kernel_rfl) (by kernel_rfl) (fun _ _ _ h => h) (Or.inl ⟨by rfl, ?_⟩) ?_
        rotate_left
        · intro w; go_simp; with_reducible rfl
        simp only [Act.put, List.setIfInBounds_toArray, List.set_cons_zero, List.set_cons_succ]
        refine wpAny_ready (rs := [4, 5]) (by kernel_rfl) (by simp) ?_
        refine AllReady.cons (o := { dst := some 48, op := .load 46 (.tmp 47), type := _, pos := _, after := _, guard := none }) rfl (fun K hK => ?_) (AllReady.cons (o := { dst := some 49, op := .load 44 (.tmp 7), type := _, pos := _, after := _, guard := none }) rfl (fun K hK => ?_) AllReady.nil)
        · rw [if_pos (by rfl)]
          refine wp_load_mid 46 _ rfl Lb 0 rfl (vals M) _ (holds_front HM4.out).drew.range Tryz.underlying46 rfl (by rw [size26, vals_length, ML.out]) ?_
          refine hK _ _ ?_
          clear hK K
          simp only [Act.put, List.setIfInBounds_toArray, List.set_cons_zero, List.set_cons_succ]
          refine wpAny_ready (rs := [5]) (by kernel_rfl) (by simp) ?_
          refine AllReady.cons (o := { dst := some 49, op := .load 44 (.tmp 7), type := _, pos := _, after := _, guard := none }) rfl (fun K hK => ?_) AllReady.nil
          rw [if_pos (by rfl)]
          refine wp_load_mid 44 _ rfl Cb 0 rfl (vals [(A : Int), (B : Int), (C : Int)]) _ HC4.out.drew.range Tryz.underlying44 rfl (by kernel_rfl) ?_
          refine hK _ _ ?_
          clear hK K
          simp only [Act.put, List.setIfInBounds_toArray, List.set_cons_zero, List.set_cons_succ]
          refine wpAny_ready (rs := [7]) (by kernel_rfl) (by simp) ?_
          refine AllReady.cons (o := { dst := some 51, op := .call { callee := .value (.func 48), args := #[.tmp 48, .tmp 49, .tmp 50], argTypes := _ }, type := _, pos := _, after := _, guard := none }) rfl (fun K hK => ?_) AllReady.nil
          go_simp
          refine (LQ.out x _ I2.out.2 (tab_bel TW4.out (Bel.refl _).drew)).mono ?_
          rintro e w5 ⟨rfl, b5⟩
          go_wp2_with fail
          refine wpAny_take (i := 8) (oi := { dst := some 43, op := .move (.tmp 51), type := _, pos := _, after := _, guard := none }) (v := ?_) rfl (by kernel_rfl) (by kernel_rfl) (by kernel_rfl) (fun _ _ _ h => h) (Or.inl ⟨by rfl, ?_⟩) ?_
          rotate_left
          · intro w; go_simp; with_reducible rfl
          simp only [Act.put, List.setIfInBounds_toArray, List.set_cons_zero, List.set_cons_succ]
          refine wpAny_take (i := 9) (oi := { dst := some 52, op := .extract (.tmp 43) 0, type := _, pos := _, after := _, guard := none }) (v := ?_) rfl (by kernel_rfl) (by kernel_rfl) (by kernel_rfl) (fun _ _ _ h => h) (Or.inl ⟨by rfl, ?_⟩) ?_
          rotate_left
          · intro w; go_simp; with_reducible rfl
          simp only [Act.put, List.setIfInBounds_toArray, List.set_cons_zero, List.set_cons_succ]
          refine wpAny_take (i := 10) (oi := { dst := some 53, op := .extract (.tmp 43) 1, type := _, pos := _, after := _, guard := none }) (v := ?_) rfl (by kernel_rfl) (by kernel_rfl) (by kernel_rfl) (fun _ _ _ h => h) (Or.inl ⟨by rfl, ?_⟩) ?_
          rotate_left
          · intro w; go_simp; with_reducible rfl
          simp only [Act.put, List.setIfInBounds_toArray, List.set_cons_zero, List.set_cons_succ]
          refine wpAny_take (i := 11) (oi := { dst := some 54, op := .nilCheck (.tmp 44), type := _, pos := _, after := _, guard := none }) (v := ?_) rfl (by kernel_rfl) (by kernel_rfl) (by kernel_rfl) (fun _ _ _ h => h) (Or.inl ⟨by rfl, ?_⟩) ?_
          rotate_left
          · intro w; go_simp; with_reducible rfl
          simp only [Act.put, List.setIfInBounds_toArray, List.set_cons_zero, List.set_cons_succ]
          refine wpAny_take (i := 12) (oi := { dst := some 55, op := .fieldAddr 48 (.tmp 54) 0, type := _, pos := _, after := _, guard := none }) (v := ?_) rfl (by kernel_rfl) (by kernel_rfl) (by kernel_rfl) (fun _ _ _ h => h) (Or.inl ⟨by rfl, ?_⟩) ?_
          rotate_left
          · intro w; go_simp; with_reducible rfl
          simp only [Act.put, List.setIfInBounds_toArray, List.set_cons_zero, List.set_cons_succ]
          refine wpAny_ready (rs := [13]) (by kernel_rfl) (by simp) ?_
          refine AllReady.cons (o := { dst := none, op := .store 46 (.tmp 55) (.tmp 52), type := _, pos := _, after := _, guard := none }) rfl (fun K hK => ?_) AllReady.nil
          rw [if_pos (by rfl)]
          refine wp_store_mid 46 _ _ rfl Lb 0 (vals (lrn M b bs x)).toArray rfl rfl (by rw [size_vals, (MM.out x).1]; exact (HM4.out.drew.bel b5).there 0 195 (by rw [List.length_append, ML.out]; simp)) (by rw [size26, size_vals, (MM.out x).1]) (vals_one _) ?_
          refine hK _ _ ?_
          clear hK K
          simp only [Act.put, List.setIfInBounds_toArray, List.set_cons_zero, List.set_cons_succ, List.toList_toArray]
          refine wpAny_done (by kernel_rfl) ?_ _
          have B5 : Bel w4 w5 := (Bel.refl w4).drew.trans b5
          have X5 : Exc (fun k => k = Lb) w4 (w5.setCells Lb 0 (vals (lrn M b bs x))) := Exc.setCells (S := fun k => k = Lb) (B := Lb) (fun _ => rfl) _ 0 (Exc.of_bel B5)
          have HM6 : Hid (Holds (w5.setCells Lb 0 (vals (lrn M b bs x))) Lb (lrn M b bs x ++ [b])) := holds_model (HM4.out.bel B5) ML.out _ (MM.out x).1
          have ST6 : Hid (St (w5.setCells Lb 0 (vals (lrn M b bs x))) t') := HS.out _ _ _ ST4.out (fun k hk hq => X5.block k (by have := N4.out; omega) hq)
          have RW6 : Hid ((w5.setCells Lb 0 (vals (lrn M b bs x))).ownsRow N 3 1 (.slice ao n cap) bs.length (vals bs)) := X5.owns RW4.out (fun k hk => by have := AT.out; omega)
          have XW6 : Hid (Exc (fun k => k = Lb ∨ k = P) w (w5.setCells Lb 0 (vals (lrn M b bs x)))) := XW4.out.trans X5 (fun _ _ h => .inl h)
          have N6 : Hid (N ≤ (w5.setCells Lb 0 (vals (lrn M b bs x))).heap.size) := (by have := X5.size; have := N4.out; omega : N ≤ (w5.setCells Lb 0 (vals (lrn M b bs x))).heap.size)
          clear b5 B5 X5 HM4 TW4 RW4 XW4 N4 ST4 HC4 e0 e1 e2 LQ PR
          generalize w5.setCells Lb 0 (vals (lrn M b bs x)) = w6 at *
          obtain ⟨e, ke⟩ : ∃ e, e = bs.length := ⟨_, rfl⟩
          have rw6 := RW6.out
          rw [← KI.out.2.2.1] at rw6
          have R6 : Hid (w6.ownsRow N 3 1 (.slice ao n cap) n (vals bs)) := rw6
          clear rw6 RW6 ke e
          have c3 : Hid (n + 1 ≤ maxLen) := (by unfold maxLen; omega : n + 1 ≤ maxLen)
          have c4 : Hid ((n + 1) * 8 ≤ 140737488355328) := (by omega : (n + 1) * 8 ≤ 140737488355328)
          have sz : Hid (N ≤ (w6.alloc (.cells #[.int .i64 x] 3)).heap.size) := (by have := N6.out; simp; omega : N ≤ (w6.alloc (.cells #[.int .i64 x] 3)).heap.size)
          go_wp2_with (at_builtin; refine wpList_append_own _ rfl (.tmp 56) (.tmp 58) 22 rfl N 3 i0 (.int .i64 0) 1 8 Tryz.underlying22 hz hz0 hz1 hz2 rfl (by decide) _ n _ rfl (R6.out.alloc _) ⟨w6.heap.size, 0, none⟩ 1 1 (vals [x]) rfl rfl (one_cell _ _) (ints_oneCell _ _) c3.out c4.out sz.out ?_)
          intro v' w7 ho hg _
          have ho2 : w7.ownsRow N 3 1 v' (n + 1) (vals (bs ++ [x])) := by rw [vals_append]; exact ho
          obtain ⟨ao2, cap2, rfl, q1, q2, q3, q4⟩ := owns_slc ho2
          have own : ∀ k, (Value.slice ao n cap).ownBlock = some k → N ≤ k := fun k hk => (R6.out.lt k hk).1
          have X7 : Exc (fun k => N ≤ k) w6 w7 := ((Exc.refl _ w6).alloc _).grown hg (fun k hk _ => own k hk)
          have WW : Hid (n + 1 = (bs ++ [x]).length ∧ n + 1 ≤ cap2 ∧ cap2 ≤ maxLen ∧ Slc w7 ao2 (bs ++ [x]) ∧ Way N Lb P St Inv nxt R b w w7 (lrn M b bs x) t' (bs ++ [x]) (.slice ao2 (n + 1) cap2)) :=
            ⟨q3, q1, q2, q4, ⟨by rw [← q3, show 65 - (n + 1) = 64 - n by omega]; exact RR.out, (MM.out x).1, (MM.out x).2, Ctx.bits_snoc KI.out.2.1 I2.out.2, I2.out.1, X7.holds HM6.out (by have := AT.out; omega), HS.out _ _ _ ST6.out (fun k hk _ => X7.block k (by have := N6.out; omega) (by omega)), by rw [← q3]; exact ho2, XW6.out.trans X7 (fun i hi h => by have := AT.out.1; omega)⟩⟩
          clear ho ho2 hg q1 q2 q3 q4 own X7 R6 XW6 HM6 ST6 RR KI I2 MM c3 c4 sz N6
          go_wp2
          go_roundw
          case rel => exact ⟨bs ++ [x], lrn M b bs x, t', n + 1, cap2, ao2, rfl, by omega, WW⟩
          case measure => simp [lenOf]; omega
        · rw [if_pos (by rfl)]
          refine wp_load_mid 44 _ rfl Cb 0 rfl (vals [(A : Int), (B : Int), (C : Int)]) _ HC4.out.drew.range Tryz.underlying44 rfl (by kernel_rfl) ?_
          refine hK _ _ ?_
          clear hK K
          simp only [Act.put, List.setIfInBounds_toArray, List.set_cons_zero, List.set_cons_succ]
          refine wpAny_ready (rs := [4]) (by kernel_rfl) (by simp) ?_
          refine AllReady.cons (o := { dst := some 48, op := .load 46 (.tmp 47), type := _, pos := _, after := _, guard := none }) rfl (fun K hK => ?_) AllReady.nil
          rw [if_pos (by rfl)]
          refine wp_load_mid 46 _ rfl Lb 0 rfl (vals M) _ (holds_front HM4.out).drew.range Tryz.underlying46 rfl (by rw [size26, vals_length, ML.out]) ?_
          refine hK _ _ ?_
          clear hK K
          simp only [Act.put, List.setIfInBounds_toArray, List.set_cons_zero, List.set_cons_succ]
          refine wpAny_ready (rs := [7]) (by kernel_rfl) (by simp) ?_
          refine AllReady.cons (o := { dst := some 51, op := .call { callee := .value (.func 48), args := #[.tmp 48, .tmp 49, .tmp 50], argTypes := _ }, type := _, pos := _, after := _, guard := none }) rfl (fun K hK => ?_) AllReady.nil
          go_simp
          refine (LQ.out x _ I2.out.2 (tab_bel TW4.out (Bel.refl _).drew)).mono ?_
          rintro e w5 ⟨rfl, b5⟩
          go_wp2_with fail
          refine wpAny_take (i := 8) (oi := { dst := some 43, op := .move (.tmp 51), type := _, pos := _, after := _, guard := none }) (v := ?_) rfl (by kernel_rfl) (by kernel_rfl) (by kernel_rfl) (fun _ _ _ h => h) (Or.inl ⟨by rfl, ?_⟩) ?_
          rotate_left
          · intro w; go_simp; with_reducible rfl
          simp only [Act.put, List.setIfInBounds_toArray, List.set_cons_zero, List.set_cons_succ]
          refine wpAny_take (i := 9) (oi := { dst := some 52, op := .extract (.tmp 43) 0, type := _, pos := _, after := _, guard := none }) (v := ?_) rfl (by kernel_rfl) (by kernel_rfl) (by kernel_rfl) (fun _ _ _ h => h) (Or.inl ⟨by rfl, ?_⟩) ?_
          rotate_left
          · intro w; go_simp; with_reducible rfl
          simp only [Act.put, List.setIfInBounds_toArray, List.set_cons_zero, List.set_cons_succ]
          refine wpAny_take (i := 10) (oi := { dst := some 53, op := .extract (.tmp 43) 1, type := _, pos := _, after := _, guard := none }) (v := ?_) rfl (by kernel_rfl) (by kernel_rfl) (by kernel_rfl) (fun _ _ _ h => h) (Or.inl ⟨by rfl, ?_⟩) ?_
          rotate_left
          · intro w; go_simp; with_reducible rfl
          simp only [Act.put, List.setIfInBounds_toArray, List.set_cons_zero, List.set_cons_succ]
          refine wpAny_take (i := 11) (oi := { dst := some 54, op := .nilCheck (.tmp 44), type := _, pos := _, after := _, guard := none }) (v := ?_) rfl (by kernel_rfl) (by kernel_rfl) (by kernel_rfl) (fun _ _ _ h => h) (Or.inl ⟨by rfl, ?_⟩) ?_
          rotate_left
          · intro w; go_simp; with_reducible rfl
          simp only [Act.put, List.setIfInBounds_toArray, List.set_cons_zero, List.set_cons_succ]
          refine wpAny_take (i := 12) (oi := { dst := some 55, op := .fieldAddr 48 (.tmp 54) 0, type := _, pos := _, after := _, guard := none }) (v := ?_) rfl (by kernel_rfl) (by kernel_rfl) (by kernel_rfl) (fun _ _ _ h => h) (Or.inl ⟨by rfl, ?_⟩) ?_
          rotate_left
          · intro w; go_simp; with_reducible rfl
          simp only [Act.put, List.setIfInBounds_toArray, List.set_cons_zero, List.set_cons_succ]
          refine wpAny_ready (rs := [13]) (by kernel_rfl) (by simp) ?_
          refine AllReady.cons (o := { dst := none, op := .store 46 (.tmp 55) (.tmp 52), type := _, pos := _, after := _, guard := none }) rfl (fun K hK => ?_) AllReady.nil
          rw [if_pos (by rfl)]
          refine wp_store_mid 46 _ _ rfl Lb 0 (vals (lrn M b bs x)).toArray rfl rfl (by rw [size_vals, (MM.out x).1]; exact (HM4.out.drew.bel b5).there 0 195 (by rw [List.length_append, ML.out]; simp)) (by rw [size26, size_vals, (MM.out x).1]) (vals_one _) ?_
          refine hK _ _ ?_
          clear hK K
          simp only [Act.put, List.setIfInBounds_toArray, List.set_cons_zero, List.set_cons_succ, List.toList_toArray]
          refine wpAny_done (by kernel_rfl) ?_ _
          have B5 : Bel w4 w5 := (Bel.refl w4).drew.trans b5
          have X5 : Exc (fun k => k = Lb) w4 (w5.setCells Lb 0 (vals (lrn M b bs x))) := Exc.setCells (S := fun k => k = Lb) (B := Lb) (fun _ => rfl) _ 0 (Exc.of_bel B5)
          have HM6 : Hid (Holds (w5.setCells Lb 0 (vals (lrn M b bs x))) Lb (lrn M b bs x ++ [b])) := holds_model (HM4.out.bel B5) ML.out _ (MM.out x).1
          have ST6 : Hid (St (w5.setCells Lb 0 (vals (lrn M b bs x))) t') := HS.out _ _ _ ST4.out (fun k hk hq => X5.block k (by have := N4.out; omega) hq)
          have RW6 : Hid ((w5.setCells Lb 0 (vals (lrn M b bs x))).ownsRow N 3 1 (.slice ao n cap) bs.length (vals bs)) := X5.owns RW4.out (fun k hk => by have := AT.out; omega)
          have XW6 : Hid (Exc (fun k => k = Lb ∨ k = P) w (w5.setCells Lb 0 (vals (lrn M b bs x)))) := XW4.out.trans X5 (fun _ _ h => .inl h)
          have N6 : Hid (N ≤ (w5.setCells Lb 0 (vals (lrn M b bs x))).heap.size) := (by have := X5.size; have := N4.out; omega : N ≤ (w5.setCells Lb 0 (vals (lrn M b bs x))).heap.size)
          clear b5 B5 X5 HM4 TW4 RW4 XW4 N4 ST4 HC4 e0 e1 e2 LQ PR
          generalize w5.setCells Lb 0 (vals (lrn M b bs x)) = w6 at *
          obtain ⟨e, ke⟩ : ∃ e, e = bs.length := ⟨_, rfl⟩
          have rw6 := RW6.out
          rw [← KI.out.2.2.1] at rw6
          have R6 : Hid (w6.ownsRow N 3 1 (.slice ao n cap) n (vals bs)) := rw6
          clear rw6 RW6 ke e
          have c3 : Hid (n + 1 ≤ maxLen) := (by unfold maxLen; omega : n + 1 ≤ maxLen)
          have c4 : Hid ((n + 1) * 8 ≤ 140737488355328) := (by omega : (n + 1) * 8 ≤ 140737488355328)
          have sz : Hid (N ≤ (w6.alloc (.cells #[.int .i64 x] 3)).heap.size) := (by have := N6.out; simp; omega : N ≤ (w6.alloc (.cells #[.int .i64 x] 3)).heap.size)
          go_wp2_with (at_builtin; refine wpList_append_own _ rfl (.tmp 56) (.tmp 58) 22 rfl N 3 i0 (.int .i64 0) 1 8 Tryz.underlying22 hz hz0 hz1 hz2 rfl (by decide) _ n _ rfl (R6.out.alloc _) ⟨w6.heap.size, 0, none⟩ 1 1 (vals [x]) rfl rfl (one_cell _ _) (ints_oneCell _ _) c3.out c4.out sz.out ?_)
          intro v' w7 ho hg _
          have ho2 : w7.ownsRow N 3 1 v' (n + 1) (vals (bs ++ [x])) := by rw [vals_append]; exact ho
          obtain ⟨ao2, cap2, rfl, q1, q2, q3, q4⟩ := owns_slc ho2
          have own : ∀ k, (Value.slice ao n cap).ownBlock = some k → N ≤ k := fun k hk => (R6.out.lt k hk).1
          have X7 : Exc (fun k => N ≤ k) w6 w7 := ((Exc.refl _ w6).alloc _).grown hg (fun k hk _ => own k hk)
          have WW : Hid (n + 1 = (bs ++ [x]).length ∧ n + 1 ≤ cap2 ∧ cap2 ≤ maxLen ∧ Slc w7 ao2 (bs ++ [x]) ∧ Way N Lb P St Inv nxt R b w w7 (lrn M b bs x) t' (bs ++ [x]) (.slice ao2 (n + 1) cap2)) :=
            ⟨q3, q1, q2, q4, ⟨by rw [← q3, show 65 - (n + 1) = 64 - n by omega]; exact RR.out, (MM.out x).1, (MM.out x).2, Ctx.bits_snoc KI.out.2.1 I2.out.2, I2.out.1, X7.holds HM6.out (by have := AT.out; omega), HS.out _ _ _ ST6.out (fun k hk _ => X7.block k (by have := N6.out; omega) (by omega)), by rw [← q3]; exact ho2, XW6.out.trans X7 (fun i hi h => by have := AT.out.1; omega)⟩⟩
          clear ho ho2 hg q1 q2 q3 q4 own X7 R6 XW6 HM6 ST6 RR KI I2 MM c3 c4 sz N6
          go_wp2
          go_roundw
          case rel => exact ⟨bs ++ [x], lrn M b bs x, t', n + 1, cap2, ao2, rfl, by omega, WW⟩
          case measure => simp [lenOf]; omega
      · have ON : Hid (Calls Tryz.prog 46 #[.int .i64 b, .slice ao n cap] wr fun e w' => e = .returned (.tuple #[.agg #[.int .i64 0, .int .i64 0, .int .i64 0], .int .i64 1200]) ∧ Bel wr w') := Ctx.of_no b ao bs n cap K.out.1 (by unfold maxLen; omega) (fun h => by have := h.2.2.1; rw [← K.out.1] at this; omega) wr K.out.2.2.2.1
        have RN := K.out.2.2.2.2.run
        rw [← K.out.1, fuel nxt n hn, hw, if_neg (by simp), if_pos (by rw [← K.out.1]; omega)] at RN
        have RR : Hid (none = R) := RN
        have XW : Hid (Exc (fun k => k = Lb ∨ k = P) w wr) := K.out.2.2.2.2.exc
        clear RN hw K
        go_wp2_with fail
        refine IW.out.mono ?_
        rintro e w1 ⟨rfl, rfl⟩
        clear IW
        go_wp2_with fail
        refine ON.out.mono ?_
        rintro e w2 ⟨rfl, b2⟩
        have X2 : Hid (Exc (fun k => k = Lb ∨ k = P) w w2) := XW.out.bel b2
        clear ON b2 XW c5
        go_wp2
        go_ret2
        refine ⟨?_, X2.out.alloc _⟩
        rw [← RR.out]
        rfl
    · rw [hw] at IW
      have RN := K.out.2.2.2.2.run
      rw [← K.out.1, fuel nxt n hn, hw, if_pos rfl] at RN
      have f5 := K.out.2.2.2.2.mem.free 195 (by rw [List.length_append, K.out.2.2.2.2.len]; simp)
      have HE : Hid (∀ y : Int, y = ((bs.length / 2 : Nat) : Int) → Ends N Lb P St Inv (wr.setCell ⟨Lb, 195, none⟩ (.int .i64 y)) (.returned (.tuple #[.slice ao n cap, .bool true])) R ∧ Exc (fun k => k = Lb ∨ k = P) w (wr.setCell ⟨Lb, 195, none⟩ (.int .i64 y))) := fun y hy => by
        obtain ⟨hN, hLb, hP, hLP, h0, h1⟩ := AT.out
        obtain ⟨k1, k2, k3, k4, k5⟩ := K.out
        have rb := row_block k5.row
        subst k1 hy RN
        have hh := k5.mem.set 195 (by rw [List.length_append, k5.len]; simp) ((bs.length / 2 : Nat) : Int)
        rw [set_last k5.len] at hh
        refine ⟨⟨⟨ao, cap, rfl, k2, k3, slc_put1 k4 (fun x hx => by have := rb x hx; omega), rb⟩, hh, HS.out _ _ _ k5.st (fun k hk hq => Below.heap_setCell _ _ _ _ hq), k5.len, k5.may, k5.inv, hw, k5.b01, hn⟩, k5.exc.setCell (fun _ => .inl rfl) _⟩
      have HD : Hid ((n : Int) / 2 = ((bs.length / 2 : Nat) : Int)) := (by rw [← K.out.1]; omega : (n : Int) / 2 = ((bs.length / 2 : Nat) : Int))
      clear K RN
      go_wp2_with fail
      refine IW.out.mono ?_
      rintro e w1 ⟨rfl, rfl⟩
      go_wp2
      go_ret2
      exact HE.out _ HD.out

end Go.Proofs.YtocnlefpbcnlmaaGreatDoor.Res
