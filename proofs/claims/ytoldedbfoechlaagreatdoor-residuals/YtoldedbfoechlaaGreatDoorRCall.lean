/-
  The contracts of the two steps that number is handed: put (a coder's) and take (a decoder's). Condition: what lies in the variable that each is bound to.
-/
import Derived.Test.YtoldedbfoechlaaGreatDoorRSmall
import Derived.Test.YtoldedbfoechlaaGreatDoorYBit
import Derived.Test.YtoldedbfoechlaaGreatDoorKEnd
namespace Go.Proofs.YtoldedbfoechlaaGreatDoor.Res
open Go.RowKit Go.Proofs.YtoldedbfoechlaaGreatDoor.Mod
set_option linter.unusedVariables false
set_option linter.unusedSimpArgs false

/-- A putter's variable: the coder, and the bits that are not coded yet, in a block below N that is not Q. -/
structure PutSt (N Q P : Nat) (w : World) (s : Cod × List Int) : Prop where
  c0 : w.cell? ⟨P, 0, none⟩ = some (.int .i64 s.1.l)
  c1 : w.cell? ⟨P, 1, none⟩ = some (.int .i64 s.1.h)
  c2 : w.cell? ⟨P, 2, none⟩ = some (.string ⟨s.1.o.toArray⟩)
  f0 : w.frozen? ⟨P, 0, none⟩ = false
  f1 : w.frozen? ⟨P, 1, none⟩ = false
  f2 : w.frozen? ⟨P, 2, none⟩ = false
  f3 : w.frozen? ⟨P, 3, none⟩ = false
  bits : ∃ ao n cap, w.cell? ⟨P, 3, none⟩ = some (.slice ao n cap) ∧ n = s.2.length ∧ n ≤ cap ∧ cap ≤ maxLen ∧ Slc w ao s.2 ∧ ∀ x, ao = some x → x.block ≠ P ∧ x.block ≠ Q ∧ x.block < N

theorem PutSt.keep {N Q P : Nat} {w w' : World} {s : Cod × List Int} (h : PutSt N Q P w s) (hP : P < N) (hQ : P ≠ Q) (hB : ∀ k, k < N → k ≠ Q → w'.heap[k]? = w.heap[k]?) : PutSt N Q P w' s := by
  have kc : ∀ i, w'.cell? ⟨P, i, none⟩ = w.cell? ⟨P, i, none⟩ := fun i => World.cell?_of_block (w := w) (hB P hP hQ)
  have kf : ∀ i, w'.frozen? ⟨P, i, none⟩ = w.frozen? ⟨P, i, none⟩ := fun i => World.frozen?_of_block (w := w) (hB P hP hQ)
  obtain ⟨c0, c1, c2, f0, f1, f2, f3, ao, n, cap, h1, h2, h3, h4, h5, h6⟩ := h
  refine ⟨by rw [kc]; exact c0, by rw [kc]; exact c1, by rw [kc]; exact c2, by rw [kf]; exact f0, by rw [kf]; exact f1, by rw [kf]; exact f2, by rw [kf]; exact f3, ao, n, cap, by rw [kc]; exact h1, h2, h3, h4, fun k hk => ?_, h6⟩
  obtain ⟨x, hx, hc⟩ := h5 k hk
  obtain ⟨_, q2, q3⟩ := h6 x hx
  refine ⟨x, hx, ?_⟩
  rw [World.cell?_of_block (w := w) (hB _ (by rw [add_block]; exact q3) (by rw [add_block]; exact q2))]
  exact hc

theorem other_cell {w : World} {P i j : Nat} {u v : Value} (h : i ≠ j) (c : w.cell? ⟨P, j, none⟩ = some v) : (w.setCell ⟨P, i, none⟩ u).cell? ⟨P, j, none⟩ = some v := by
  rw [World.cell?_setCell_other (h := by intro q; injection q with _ q2 _; exact h q2)]; exact c
theorem slc_put1 {w : World} {P i : Nat} {v : Value} {ao : Option Addr} {L : List Int} (h : Slc w ao L) (hb : ∀ x, ao = some x → x.block ≠ P) : Slc (w.setCell ⟨P, i, none⟩ v) ao L := fun k hk => by
  obtain ⟨x, hx, hc⟩ := h k hk
  refine ⟨x, hx, ?_⟩
  rw [World.cell?_setCell_other (h := by intro q; have := congrArg Addr.block q; rw [add_block] at this; exact hb x hx this.symm)]
  exact hc
theorem slc_put3 {w : World} {P : Nat} {x y z : Value} {o : Obj} {ao : Option Addr} {L : List Int} (h : Slc w ao L) (hb : ∀ x, ao = some x → x.block ≠ P) : Slc ((((w.setCell ⟨P, 0, none⟩ x).setCell ⟨P, 1, none⟩ y).setCell ⟨P, 2, none⟩ z).alloc o) ao L :=
  (slc_put1 (slc_put1 (slc_put1 h hb) hb) hb).bel ((Bel.refl _).alloc _)
theorem same_cell {w : World} {a : Addr} {u v : Value} (c : w.cell? a = some u) : (w.setCell a v).cell? a = some v := (World.cell?_setCell_same _ _ (h := c) _)
/-- Three cells are written, and a block is made. -/
theorem made_put {N Q P : Nat} {w : World} {l h : Int} {os : List UInt8} {r : List Int} {u0 u1 u2 : Value} {o : Obj} {ao : Option Addr} {n cap : Nat} (c0 : w.cell? ⟨P, 0, none⟩ = some u0) (c1 : w.cell? ⟨P, 1, none⟩ = some u1) (c2 : w.cell? ⟨P, 2, none⟩ = some u2)
    (f0 : w.frozen? ⟨P, 0, none⟩ = false) (f1 : w.frozen? ⟨P, 1, none⟩ = false) (f2 : w.frozen? ⟨P, 2, none⟩ = false) (f3 : w.frozen? ⟨P, 3, none⟩ = false) (c3 : w.cell? ⟨P, 3, none⟩ = some (.slice ao n cap))
    (hn : n = r.length) (hc : n ≤ cap) (hm : cap ≤ maxLen) (hs : Slc w ao r) (hb : ∀ x, ao = some x → x.block ≠ P ∧ x.block ≠ Q ∧ x.block < N) :
    PutSt N Q P ((((w.setCell ⟨P, 0, none⟩ (.int .i64 l)).setCell ⟨P, 1, none⟩ (.int .i64 h)).setCell ⟨P, 2, none⟩ (.string ⟨os.toArray⟩)).alloc o) (⟨l, h, os⟩, r) ∧
    Exc (fun k => k = P) w ((((w.setCell ⟨P, 0, none⟩ (.int .i64 l)).setCell ⟨P, 1, none⟩ (.int .i64 h)).setCell ⟨P, 2, none⟩ (.string ⟨os.toArray⟩)).alloc o) := by
  have fz : ∀ i, w.frozen? ⟨P, i, none⟩ = false → (((w.setCell ⟨P, 0, none⟩ (.int .i64 l)).setCell ⟨P, 1, none⟩ (.int .i64 h)).setCell ⟨P, 2, none⟩ (.string ⟨os.toArray⟩)).frozen? ⟨P, i, none⟩ = false := fun i hf => by
    rw [World.frozen?_setCell, World.frozen?_setCell, World.frozen?_setCell]; exact hf
  have B := (Bel.refl (((w.setCell ⟨P, 0, none⟩ (.int .i64 l)).setCell ⟨P, 1, none⟩ (.int .i64 h)).setCell ⟨P, 2, none⟩ (.string ⟨os.toArray⟩))).alloc o
  have e0 := other_cell (u := .string ⟨os.toArray⟩) (by decide : 2 ≠ 0) (other_cell (u := .int .i64 h) (by decide : 1 ≠ 0) (same_cell (v := .int .i64 l) c0))
  have e1 := other_cell (u := .string ⟨os.toArray⟩) (by decide : 2 ≠ 1) (same_cell (v := .int .i64 h) (other_cell (u := .int .i64 l) (by decide : 0 ≠ 1) c1))
  have e2 := same_cell (v := .string ⟨os.toArray⟩) (other_cell (u := .int .i64 h) (by decide : 1 ≠ 2) (other_cell (u := .int .i64 l) (by decide : 0 ≠ 2) c2))
  have e3 := other_cell (u := .string ⟨os.toArray⟩) (by decide : 2 ≠ 3) (other_cell (u := .int .i64 h) (by decide : 1 ≠ 3) (other_cell (u := .int .i64 l) (by decide : 0 ≠ 3) c3))
  refine ⟨⟨B.keep e0, B.keep e1, B.keep e2, B.free e0 (fz 0 f0), B.free e1 (fz 1 f1), B.free e2 (fz 2 f2), B.free e3 (fz 3 f3), ao, n, cap, B.keep e3, hn, hc, hm, slc_put3 hs (fun x hx => (hb x hx).1), hb⟩, ?_⟩
  exact ((((Exc.refl (fun k => k = P) w).setCell (a := ⟨P, 0, none⟩) (fun _ => rfl) _).setCell (a := ⟨P, 1, none⟩) (fun _ => rfl) _).setCell (a := ⟨P, 2, none⟩) (fun _ => rfl) _).alloc _

set_option maxHeartbeats 2000000 in
theorem put_ok (N Q P : Nat) (c : Cod) (x : Int) (r : List Int) (p : Int) (hb : Coder.Between c.l c.h) (hq : c.o.length ≤ 60000) (hx : x = 0 ∨ x = 1) (hp : 1 ≤ p ∧ p ≤ 4095) (w : World) (h : PutSt N Q P w (c, x :: r)) :
    Calls Tryz.prog 23 #[.pointer (some ⟨P, 0, none⟩), .int .i64 p] w fun e w' => e = .returned (.tuple #[.int .i64 x, .int .i64 0]) ∧ PutSt N Q P w' (codS c x p, r) ∧ Exc (fun k => k = P) w w' := by
  have C := Coder.bit_ok c.l c.h x p ⟨c.o.toArray⟩ (by rw [Deco.mk_size]; unfold maxLen; omega)
  rw [cod_is hb hq hx hp] at C
  obtain ⟨d0, d1, d2, g0, g1, g2, g3, ao, n, cap, d3, hn, hcap, hmax, hs, hblk⟩ := h
  have e0 := hs 0 (by simp)
  obtain ⟨a, rfl, hc⟩ := e0
  rw [show (x :: r).getD 0 0 = x from rfl] at hc
  simp only [List.length_cons] at hn
  obtain ⟨m, rfl⟩ : ∃ m, n = m + 1 := ⟨n - 1, by omega⟩
  obtain ⟨q1, q2, q3⟩ := hblk a rfl
  have pl := block_lt_of_cell d0
  have HR : Hid (Slc w (some (a.add 1)) r ∧ m = r.length ∧ a.block ≠ P ∧ a.block ≠ Q ∧ a.block < N) := ⟨fun k hk => ⟨_, rfl, by
    obtain ⟨y, hy, hc⟩ := hs (k + 1) (by simpa using hk)
    obtain rfl : a = y := Option.some.inj hy
    have e : (a.add 1).add k = a.add (k + 1) := by
      unfold Addr.add
      by_cases h : k = 0
      · simp [h]
      · simp [h]; omega
    rw [e, hc]
    simp⟩, by omega, q1, q2, q3⟩
  have CC : Hid (∀ w, Calls Tryz.prog 49 #[.agg #[.int .i64 c.l, .int .i64 c.h, .string ⟨c.o.toArray⟩], .int .i64 x, .int .i64 p] w fun e w' => e = .returned (.tuple #[.agg #[.int .i64 (codS c x p).l, .int .i64 (codS c x p).h, .string ⟨(codS c x p).o.toArray⟩], .int .i64 0]) ∧ Bel w w') := C
  clear C hn hs hblk q1 q2 q3 hb hq hx
  unfold maxLen at hmax
  obtain ⟨l, h, o⟩ := c
  generalize codS ⟨l, h, o⟩ x p = c' at *
  obtain ⟨l', h', o'⟩ := c'
  simp only at d0 d1 d2
  rw [show a.add 0 = a from by unfold Addr.add; simp] at hc
  by_cases hc1 : cap = 1
  · subst hc1
    obtain rfl : m = 0 := by omega
    have hr0 : r = [] := List.eq_nil_of_length_eq_zero HR.out.2.1.symm
    subst hr0
    have D0 : Hid ((w.setCell ⟨P, 3, none⟩ (.slice (some a) 0 0)).cell? ⟨P, 0, none⟩ = some (.int .i64 l)) := other_cell (by decide) d0
    have D1 : Hid ((w.setCell ⟨P, 3, none⟩ (.slice (some a) 0 0)).cell? ⟨P, 1, none⟩ = some (.int .i64 h)) := other_cell (by decide) d1
    have D2 : Hid ((w.setCell ⟨P, 3, none⟩ (.slice (some a) 0 0)).cell? ⟨P, 2, none⟩ = some (.string ⟨o.toArray⟩)) := other_cell (by decide) d2
    have D3 : Hid ((w.setCell ⟨P, 3, none⟩ (.slice (some a) 0 0)).cell? ⟨P, 3, none⟩ = some (.slice (some a) 0 0)) := same_cell d3
    have S3 : Hid (Slc (w.setCell ⟨P, 3, none⟩ (.slice (some a) 0 0)) ((some a)) []) := slc_nil _ _
    have FF : Hid (∀ i, (w.setCell ⟨P, 3, none⟩ (.slice (some a) 0 0)).frozen? ⟨P, i, none⟩ = w.frozen? ⟨P, i, none⟩) := fun i => World.frozen?_setCell _ _ _ _
    have X0 : Hid (Exc (fun k => k = P) w (w.setCell ⟨P, 3, none⟩ (.slice (some a) 0 0))) := (Exc.refl (fun k => k = P) w).setCell (a := ⟨P, 3, none⟩) (fun _ => rfl) _
    have G : Hid (w.frozen? ⟨P, 0, none⟩ = false ∧ w.frozen? ⟨P, 1, none⟩ = false ∧ w.frozen? ⟨P, 2, none⟩ = false ∧ w.frozen? ⟨P, 3, none⟩ = false) := ⟨g0, g1, g2, g3⟩
    go_enter Tryz.func23, Tryz.ntmps23
    go_wp2_with fail
    generalize w.setCell ⟨P, 3, none⟩ (.slice (some a) 0 0) = W at *
    refine (CC.out _).mono ?_
    rintro e w1 ⟨rfl, b1⟩
    have k0 := b1.keep D0.out
    have k1 := b1.keep D1.out
    have k2 := b1.keep D2.out
    have v0 := b1.free D0.out ((FF.out 0).trans G.out.1)
    have v1 := b1.free D1.out ((FF.out 1).trans G.out.2.1)
    have v2 := b1.free D2.out ((FF.out 2).trans G.out.2.2.1)
    have K3 : Hid (w1.cell? ⟨P, 3, none⟩ = some (.slice (some a) 0 0) ∧ w1.frozen? ⟨P, 3, none⟩ = false) := ⟨b1.keep D3.out, b1.free D3.out ((FF.out 3).trans G.out.2.2.2)⟩
    have S4 : Hid (Slc w1 ((some a)) []) := S3.out.bel b1
    have X1 : Hid (Exc (fun k => k = P) w w1) := X0.out.bel b1
    have PL : Hid (P < w1.heap.size) := block_lt_of_cell k0
    have pl1 : P < w1.heap.size := PL.out
    clear b1 D0 D1 D2 D3 S3 FF X0 d0 d1 d2 d3 g0 g1 g2 g3
    go_wp2
    go_ret2
    have MP := made_put (N := N) (Q := Q) (l := l') (h := h') (os := o') (o := .cells #[.int .i64 l', .int .i64 h', .string ⟨o'.toArray⟩] 51) k0 k1 k2 v0 v1 v2 K3.out.2 K3.out.1 HR.out.2.1 (by omega) (by unfold maxLen; omega) S4.out (fun y hy => by obtain rfl := Option.some.inj hy; exact HR.out.2.2)
    exact ⟨rfl, MP.1, X1.out.trans MP.2 (fun _ _ h => h)⟩
  · have hc2 : 1 < cap := by omega
    have D0 : Hid ((w.setCell ⟨P, 3, none⟩ (.slice (some ⟨a.block, a.off + 1, none⟩) m (cap - 1))).cell? ⟨P, 0, none⟩ = some (.int .i64 l)) := other_cell (by decide) d0
    have D1 : Hid ((w.setCell ⟨P, 3, none⟩ (.slice (some ⟨a.block, a.off + 1, none⟩) m (cap - 1))).cell? ⟨P, 1, none⟩ = some (.int .i64 h)) := other_cell (by decide) d1
    have D2 : Hid ((w.setCell ⟨P, 3, none⟩ (.slice (some ⟨a.block, a.off + 1, none⟩) m (cap - 1))).cell? ⟨P, 2, none⟩ = some (.string ⟨o.toArray⟩)) := other_cell (by decide) d2
    have D3 : Hid ((w.setCell ⟨P, 3, none⟩ (.slice (some ⟨a.block, a.off + 1, none⟩) m (cap - 1))).cell? ⟨P, 3, none⟩ = some (.slice (some ⟨a.block, a.off + 1, none⟩) m (cap - 1))) := same_cell d3
    have S3 : Hid (Slc (w.setCell ⟨P, 3, none⟩ (.slice (some ⟨a.block, a.off + 1, none⟩) m (cap - 1))) (some ⟨a.block, a.off + 1, none⟩) r) := slc_put1 (by have := HR.out.1; rwa [show a.add 1 = ⟨a.block, a.off + 1, none⟩ from by unfold Addr.add; simp] at this) (fun y hy => by obtain rfl := Option.some.inj hy; exact HR.out.2.2.1)
    have FF : Hid (∀ i, (w.setCell ⟨P, 3, none⟩ (.slice (some ⟨a.block, a.off + 1, none⟩) m (cap - 1))).frozen? ⟨P, i, none⟩ = w.frozen? ⟨P, i, none⟩) := fun i => World.frozen?_setCell _ _ _ _
    have X0 : Hid (Exc (fun k => k = P) w (w.setCell ⟨P, 3, none⟩ (.slice (some ⟨a.block, a.off + 1, none⟩) m (cap - 1)))) := (Exc.refl (fun k => k = P) w).setCell (a := ⟨P, 3, none⟩) (fun _ => rfl) _
    have G : Hid (w.frozen? ⟨P, 0, none⟩ = false ∧ w.frozen? ⟨P, 1, none⟩ = false ∧ w.frozen? ⟨P, 2, none⟩ = false ∧ w.frozen? ⟨P, 3, none⟩ = false) := ⟨g0, g1, g2, g3⟩
    go_enter Tryz.func23, Tryz.ntmps23
    go_wp2_with fail
    generalize w.setCell ⟨P, 3, none⟩ (.slice (some ⟨a.block, a.off + 1, none⟩) m (cap - 1)) = W at *
    refine (CC.out _).mono ?_
    rintro e w1 ⟨rfl, b1⟩
    have k0 := b1.keep D0.out
    have k1 := b1.keep D1.out
    have k2 := b1.keep D2.out
    have v0 := b1.free D0.out ((FF.out 0).trans G.out.1)
    have v1 := b1.free D1.out ((FF.out 1).trans G.out.2.1)
    have v2 := b1.free D2.out ((FF.out 2).trans G.out.2.2.1)
    have K3 : Hid (w1.cell? ⟨P, 3, none⟩ = some (.slice (some ⟨a.block, a.off + 1, none⟩) m (cap - 1)) ∧ w1.frozen? ⟨P, 3, none⟩ = false) := ⟨b1.keep D3.out, b1.free D3.out ((FF.out 3).trans G.out.2.2.2)⟩
    have S4 : Hid (Slc w1 (some ⟨a.block, a.off + 1, none⟩) r) := S3.out.bel b1
    have X1 : Hid (Exc (fun k => k = P) w w1) := X0.out.bel b1
    have PL : Hid (P < w1.heap.size) := block_lt_of_cell k0
    have pl1 : P < w1.heap.size := PL.out
    clear b1 D0 D1 D2 D3 S3 FF X0 d0 d1 d2 d3 g0 g1 g2 g3
    go_wp2
    go_ret2
    have MP := made_put (N := N) (Q := Q) (l := l') (h := h') (os := o') (o := .cells #[.int .i64 l', .int .i64 h', .string ⟨o'.toArray⟩] 51) k0 k1 k2 v0 v1 v2 K3.out.2 K3.out.1 HR.out.2.1 (by omega) (by unfold maxLen; omega) S4.out (fun y hy => by obtain rfl := Option.some.inj hy; exact HR.out.2.2)
    exact ⟨rfl, MP.1, X1.out.trans MP.2 (fun _ _ h => h)⟩

/-- A taker's variable: the decoder of t at a coder's place. -/
structure TakeSt (P : Nat) (t : ByteArray) (w : World) (c : Cod) : Prop where
  c0 : w.cell? ⟨P, 0, none⟩ = some (.int .i64 c.l)
  c1 : w.cell? ⟨P, 1, none⟩ = some (.int .i64 c.h)
  c2 : w.cell? ⟨P, 2, none⟩ = some (.int .i64 (Coder.win t c.o.length))
  c3 : w.cell? ⟨P, 3, none⟩ = some (.string t)
  c4 : w.cell? ⟨P, 4, none⟩ = some (.int .i64 ((c.o.length + 4 : Nat) : Int))
  f : ∀ i, i < 5 → w.frozen? ⟨P, i, none⟩ = false

theorem TakeSt.keep {N Q P : Nat} {t : ByteArray} {w w' : World} {c : Cod} (h : TakeSt P t w c) (hP : P < N) (hQ : P ≠ Q) (hB : ∀ k, k < N → k ≠ Q → w'.heap[k]? = w.heap[k]?) : TakeSt P t w' c := by
  have kc : ∀ i, w'.cell? ⟨P, i, none⟩ = w.cell? ⟨P, i, none⟩ := fun i => World.cell?_of_block (w := w) (hB P hP hQ)
  have kf : ∀ i, w'.frozen? ⟨P, i, none⟩ = w.frozen? ⟨P, i, none⟩ := fun i => World.frozen?_of_block (w := w) (hB P hP hQ)
  obtain ⟨c0, c1, c2, c3, c4, f⟩ := h
  exact ⟨by rw [kc]; exact c0, by rw [kc]; exact c1, by rw [kc]; exact c2, by rw [kc]; exact c3, by rw [kc]; exact c4, fun i hi => by rw [kf]; exact f i hi⟩

/-- Five cells are written, and a block is made. -/
theorem made_take {P : Nat} {w : World} {x0 x1 x2 x3 x4 u0 u1 u2 u3 u4 : Value} {o : Obj} (c0 : w.cell? ⟨P, 0, none⟩ = some u0) (c1 : w.cell? ⟨P, 1, none⟩ = some u1) (c2 : w.cell? ⟨P, 2, none⟩ = some u2) (c3 : w.cell? ⟨P, 3, none⟩ = some u3) (c4 : w.cell? ⟨P, 4, none⟩ = some u4)
    (f : ∀ i, i < 5 → w.frozen? ⟨P, i, none⟩ = false) (w' : World) (hw : w' = ((((((w.setCell ⟨P, 0, none⟩ x0).setCell ⟨P, 1, none⟩ x1).setCell ⟨P, 2, none⟩ x2).setCell ⟨P, 3, none⟩ x3).setCell ⟨P, 4, none⟩ x4).alloc o)) :
    w'.cell? ⟨P, 0, none⟩ = some x0 ∧ w'.cell? ⟨P, 1, none⟩ = some x1 ∧ w'.cell? ⟨P, 2, none⟩ = some x2 ∧ w'.cell? ⟨P, 3, none⟩ = some x3 ∧ w'.cell? ⟨P, 4, none⟩ = some x4 ∧ (∀ i, i < 5 → w'.frozen? ⟨P, i, none⟩ = false) ∧ Exc (fun k => k = P) w w' := by
  obtain ⟨W, hW⟩ : ∃ W, W = (((((w.setCell ⟨P, 0, none⟩ x0).setCell ⟨P, 1, none⟩ x1).setCell ⟨P, 2, none⟩ x2).setCell ⟨P, 3, none⟩ x3).setCell ⟨P, 4, none⟩ x4) := ⟨_, rfl⟩
  have fz : ∀ i, W.frozen? ⟨P, i, none⟩ = w.frozen? ⟨P, i, none⟩ := fun i => by
    rw [hW, World.frozen?_setCell, World.frozen?_setCell, World.frozen?_setCell, World.frozen?_setCell, World.frozen?_setCell]
  rw [← hW] at hw
  subst hw
  have B := (Bel.refl W).alloc o
  have e0 : W.cell? ⟨P, 0, none⟩ = some x0 := hW ▸ other_cell (by decide : 4 ≠ 0) (other_cell (by decide : 3 ≠ 0) (other_cell (by decide : 2 ≠ 0) (other_cell (by decide : 1 ≠ 0) (same_cell c0))))
  have e1 : W.cell? ⟨P, 1, none⟩ = some x1 := hW ▸ other_cell (by decide : 4 ≠ 1) (other_cell (by decide : 3 ≠ 1) (other_cell (by decide : 2 ≠ 1) (same_cell (other_cell (by decide : 0 ≠ 1) c1))))
  have e2 : W.cell? ⟨P, 2, none⟩ = some x2 := hW ▸ other_cell (by decide : 4 ≠ 2) (other_cell (by decide : 3 ≠ 2) (same_cell (other_cell (by decide : 1 ≠ 2) (other_cell (by decide : 0 ≠ 2) c2))))
  have e3 : W.cell? ⟨P, 3, none⟩ = some x3 := hW ▸ other_cell (by decide : 4 ≠ 3) (same_cell (other_cell (by decide : 2 ≠ 3) (other_cell (by decide : 1 ≠ 3) (other_cell (by decide : 0 ≠ 3) c3))))
  have e4 : W.cell? ⟨P, 4, none⟩ = some x4 := hW ▸ same_cell (other_cell (by decide : 3 ≠ 4) (other_cell (by decide : 2 ≠ 4) (other_cell (by decide : 1 ≠ 4) (other_cell (by decide : 0 ≠ 4) c4))))
  refine ⟨B.keep e0, B.keep e1, B.keep e2, B.keep e3, B.keep e4, fun i hi => ?_, ?_⟩
  · match i, hi with
    | 0, _ => exact B.free e0 ((fz 0).trans (f 0 (by decide)))
    | 1, _ => exact B.free e1 ((fz 1).trans (f 1 (by decide)))
    | 2, _ => exact B.free e2 ((fz 2).trans (f 2 (by decide)))
    | 3, _ => exact B.free e3 ((fz 3).trans (f 3 (by decide)))
    | 4, _ => exact B.free e4 ((fz 4).trans (f 4 (by decide)))
  · subst hW
    exact ((((((Exc.refl (fun k => k = P) w).setCell (a := ⟨P, 0, none⟩) (fun _ => rfl) _).setCell (a := ⟨P, 1, none⟩) (fun _ => rfl) _).setCell (a := ⟨P, 2, none⟩) (fun _ => rfl) _).setCell (a := ⟨P, 3, none⟩) (fun _ => rfl) _).setCell (a := ⟨P, 4, none⟩) (fun _ => rfl) _).alloc _

set_option maxHeartbeats 2000000 in
theorem take_ok (P : Nat) (t : ByteArray) (c : Cod) (p : Int) (hb : Coder.Between c.l c.h) (hs : t.size ≤ 65536) (hq : c.o.length ≤ 60000) (hp : 1 ≤ p ∧ p ≤ 4095) (hi : In t c) (w : World) (h : TakeSt P t w c) :
    Calls Tryz.prog 64 #[.pointer (some ⟨P, 0, none⟩), .int .i64 p] w fun e w' => e = .returned (.tuple #[.int .i64 (bitT t c p), .int .i64 0]) ∧ TakeSt P t w' (codS c (bitT t c p) p) ∧ Exc (fun k => k = P) w w' := by
  have C := Deco.bit_ok c.l c.h (Coder.win t c.o.length) p t ((c.o.length + 4 : Nat) : Int) (by unfold maxLen; omega)
  rw [dec_is hb hs hq hp hi] at C
  obtain ⟨d0, d1, d2, d3, d4, f⟩ := h
  have F : Hid (∀ i, i < 5 → w.frozen? ⟨P, i, none⟩ = false) := f
  clear f hb hs hq hi
  have mk : ∀ (w : World) (c : Cod), (w.cell? ⟨P, 0, none⟩ = some (.int .i64 c.l) ∧ w.cell? ⟨P, 1, none⟩ = some (.int .i64 c.h) ∧ w.cell? ⟨P, 2, none⟩ = some (.int .i64 (Coder.win t c.o.length)) ∧ w.cell? ⟨P, 3, none⟩ = some (.string t) ∧ w.cell? ⟨P, 4, none⟩ = some (.int .i64 ((c.o.length + 4 : Nat) : Int)) ∧ (∀ i, i < 5 → w.frozen? ⟨P, i, none⟩ = false)) → TakeSt P t w c := fun w c q => ⟨q.1, q.2.1, q.2.2.1, q.2.2.2.1, q.2.2.2.2.1, q.2.2.2.2.2⟩
  have MK : Hid (∀ (w : World), (w.cell? ⟨P, 0, none⟩ = some (.int .i64 (codS c (bitT t c p) p).l) ∧ w.cell? ⟨P, 1, none⟩ = some (.int .i64 (codS c (bitT t c p) p).h) ∧ w.cell? ⟨P, 2, none⟩ = some (.int .i64 (Coder.win t (codS c (bitT t c p) p).o.length)) ∧ w.cell? ⟨P, 3, none⟩ = some (.string t) ∧ w.cell? ⟨P, 4, none⟩ = some (.int .i64 (((codS c (bitT t c p) p).o.length + 4 : Nat) : Int)) ∧ (∀ i, i < 5 → w.frozen? ⟨P, i, none⟩ = false)) → TakeSt P t w (codS c (bitT t c p) p)) := fun w => mk w _
  have CC : Hid (∀ w, Calls Tryz.prog 99 #[.agg #[.int .i64 c.l, .int .i64 c.h, .int .i64 (Coder.win t c.o.length), .string t, .int .i64 ((c.o.length + 4 : Nat) : Int)], .int .i64 p] w fun e w' => e = .returned (.tuple #[.agg #[.int .i64 (codS c (bitT t c p) p).l, .int .i64 (codS c (bitT t c p) p).h, .int .i64 (Coder.win t (codS c (bitT t c p) p).o.length), .string t, .int .i64 (((codS c (bitT t c p) p).o.length + 4 : Nat) : Int)], .int .i64 (bitT t c p), .int .i64 0]) ∧ Bel w w') := C
  clear C mk
  generalize codS c (bitT t c p) p = c' at *
  generalize bitT t c p = y at *
  generalize Coder.win t c.o.length = n0 at *
  generalize ((c.o.length + 4 : Nat) : Int) = q0 at *
  generalize Coder.win t c'.o.length = n1 at *
  generalize ((c'.o.length + 4 : Nat) : Int) = q1 at *
  generalize c'.l = l' at *
  generalize c'.h = h' at *
  generalize c.l = l at *
  generalize c.h = h at *
  go_enter Tryz.func64, Tryz.ntmps64
  go_wp2_with fail
  refine (CC.out _).mono ?_
  rintro e w1 ⟨rfl, b1⟩
  have k0 := b1.keep d0
  have k1 := b1.keep d1
  have k2 := b1.keep d2
  have k3 := b1.keep d3
  have k4 := b1.keep d4
  have v0 := b1.free d0 (F.out 0 (by decide))
  have v1 := b1.free d1 (F.out 1 (by decide))
  have v2 := b1.free d2 (F.out 2 (by decide))
  have v3 := b1.free d3 (F.out 3 (by decide))
  have v4 := b1.free d4 (F.out 4 (by decide))
  have VV : Hid (∀ i, i < 5 → w1.frozen? ⟨P, i, none⟩ = false) := fun i hi => match i, hi with | 0, _ => v0 | 1, _ => v1 | 2, _ => v2 | 3, _ => v3 | 4, _ => v4
  have X1 : Hid (Exc (fun k => k = P) w w1) := Exc.of_bel b1
  have pl1 : P < w1.heap.size := block_lt_of_cell k0
  clear b1 d0 d1 d2 d3 d4
  go_wp2
  go_ret2
  have MP := made_take (x0 := .int .i64 l') (x1 := .int .i64 h') (x2 := .int .i64 n1) (x3 := .string t) (x4 := .int .i64 q1) (o := .cells #[.int .i64 l', .int .i64 h', .int .i64 n1, .string t, .int .i64 q1] 76) k0 k1 k2 k3 k4 VV.out _ rfl
  exact ⟨rfl, MK.out _ ⟨MP.1, MP.2.1, MP.2.2.1, MP.2.2.2.1, MP.2.2.2.2.1, MP.2.2.2.2.2.1⟩, X1.out.trans MP.2.2.2.2.2.2 (fun _ _ h => h)⟩

end Go.Proofs.YtoldedbfoechlaaGreatDoor.Res
