/-
  The contract of Put. Condition: the package's table is laid as its text lays it.
-/
import Derived.Test.YtoldedbfoechlaaGreatDoorRNumP
import Derived.Test.YtoldedbfoechlaaGreatDoorGBits
namespace Go.Proofs.YtoldedbfoechlaaGreatDoor.Res
open Go.RowKit Go.Sort Go.Proofs.YtoldedbfoechlaaGreatDoor.Mod Go.Proofs.YtoldedbfoechlaaGreatDoor.Ints
set_option linter.unusedVariables false
set_option linter.unusedSimpArgs false

/-- One number's bits are coded. -/
theorem number_coded (N Lb P : Nat) (s : Sta) (k : Nat) (hk : k ≤ 256) (ho : Ok s k) (u : Nat) (hu : u ≤ 33554432) (w : World) (hN : N = w.heap.size) (hLb : Lb < N) (hP : P < N) (hLP : Lb ≠ P) (h0 : 0 < Lb) (h1 : 0 < P) (T : Str.Tab w)
    (H : Holds w Lb (s.1 ++ [s.2.2])) (hS : PutSt N Lb P w (s.2.1, Gam.bitsOf u)) :
    Calls Tryz.prog 22 #[.pointer (some ⟨Lb, 0, none⟩), .func (.func 23) #[.pointer (some ⟨P, 0, none⟩)] #[]] w fun e w' =>
      (∃ v, e = .returned v) ∧ Holds w' Lb ((codeBits s.1 s.2.1 s.2.2 [] (Gam.bitsOf u)).1 ++ [((Gam.many u : Nat) : Int)]) ∧ PutSt N Lb P w' ((codeBits s.1 s.2.1 s.2.2 [] (Gam.bitsOf u)).2, []) ∧ Exc (fun k => k = Lb ∨ k = P) w w' := by
  have h25 := Gam.many_25 u hu
  have hl := Gam.bitsOf_length u
  have oo := ho.out
  have parts : ∀ (s1 : Cod × List Int) (bs : List Int), whole bs = false → bs ++ s1.2 = Gam.bitsOf u → ∃ x r, s1.2 = x :: r ∧ (x = 0 ∨ x = 1) ∧ bs.length < 51 := fun s1 bs hw e => by
    rw [whole_pre e] at hw
    have hne := of_decide_eq_false hw
    obtain ⟨x, r, er⟩ := List.exists_cons_of_ne_nil hne
    have le := congrArg List.length e
    rw [List.length_append, er, List.length_cons] at le
    refine ⟨x, r, er, ?_, by omega⟩
    have g := bitsOf_01 u bs.length (by omega)
    rw [← e, er, List.getD_eq_getElem?_getD, List.getElem?_append_right (Nat.le_refl _)] at g
    simpa using g
  refine (number_put N Lb P (PutSt N Lb P) (fun s1 bs => bs ++ s1.2 = Gam.bitsOf u ∧ Coder.Between s1.1.l s1.1.h ∧ s1.1.o.length ≤ 204 * k + 4 * bs.length) nxtP
    (fun w w' s1 h hB => h.keep hP (fun e => hLP e.symm) hB) ?_ ?_ s.1 ho.len ho.may s.2.2 ho.b0 ho.b1 (s.2.1, Gam.bitsOf u) ⟨rfl, ho.bet, by simpa using oo⟩ _ (run_put hu (Gam.bitsOf u) [] s.1 s.2.1 s.2.2 64 rfl (by simp)) w hN hLb hP hLP h0 h1 T H hS).mono ?_
  · rintro w1 ⟨c, rest⟩ bs p hw h63 hp ⟨e1, e2, e3⟩ hs
    obtain ⟨x, r, er, hx, hl2⟩ := parts _ bs hw e1
    simp only at er e2 e3
    subst er
    exact put_ok N Lb P c x r p e2 (by omega) hx hp w1 hs
  · rintro ⟨c, rest⟩ bs p hw h63 hp ⟨e1, e2, e3⟩
    obtain ⟨x, r, er, hx, hl2⟩ := parts _ bs hw e1
    simp only at er e1 e2 e3
    subst er
    have q := codS_ok e2 x hp
    refine ⟨⟨?_, q.1, ?_⟩, hx⟩
    · show (bs ++ [x]) ++ r = _
      rw [← e1]; simp
    · show (codS c x p).o.length ≤ _
      rw [List.length_append]
      simp only [List.length_cons, List.length_nil]
      have := q.2
      omega
  · rintro e w' ⟨⟨⟨ao, cap, re, _⟩, hh, st, _⟩, xx⟩
    rw [Gam.bitsOf_half] at hh
    exact ⟨⟨_, re⟩, hh, st, xx⟩

/-- A learner is stored; what else there was stays. -/
theorem wpl_store48x {ops : Array Oper} {rest : List Oper} {dst : Option Tmp} {a : Act} {w : World} {Q : Exit → Act → World → Prop} {ty : TypeId} {pos : String} {after : Array Edge} {x y : Operand} {B : Nat} {L M : List Int}
    (h : Holds w B L) (hL : L.length = 196) (hM : M.length = 196) (hx : a.eval x = .pointer (some ⟨B, 0, none⟩)) (hy : a.eval y = mdl M) (k : ∀ W, Holds W B M → Exc (fun k => k = B) w W → wpList Tryz.prog ops Q rest (a.put dst undef) W) :
    wpList Tryz.prog ops Q ({ dst := dst, op := .store 48 x y, type := ty, pos := pos, after := after, guard := none } :: rest) a w :=
  wpl_store48 h hL hM hx hy (k _ (holds_all h M (hL.trans hM.symm)) (Exc.setCells (S := fun k => k = B) (fun _ => rfl) _ 0 (Exc.refl _ w)))

theorem fresh4 (w : World) (o : Obj) (v0 v1 v2 v3 : Value) (ty : TypeId) : ∀ W, W = (w.alloc o).alloc (.cells #[v0, v1, v2, v3] ty) →
    (W.cell? ⟨w.heap.size + 1, 0, none⟩ = some v0 ∧ W.cell? ⟨w.heap.size + 1, 1, none⟩ = some v1 ∧ W.cell? ⟨w.heap.size + 1, 2, none⟩ = some v2 ∧ W.cell? ⟨w.heap.size + 1, 3, none⟩ = some v3) ∧
    (W.frozen? ⟨w.heap.size + 1, 0, none⟩ = false ∧ W.frozen? ⟨w.heap.size + 1, 1, none⟩ = false ∧ W.frozen? ⟨w.heap.size + 1, 2, none⟩ = false ∧ W.frozen? ⟨w.heap.size + 1, 3, none⟩ = false) := by
  rintro W rfl
  refine ⟨⟨?_, ?_, ?_, ?_⟩, ?_, ?_, ?_, ?_⟩ <;> simp

/-- Four cells are written. -/
theorem put4 {w : World} {P : Nat} {x0 x1 x2 x3 u0 u1 u2 u3 : Value} (c : (w.cell? ⟨P, 0, none⟩ = some u0 ∧ w.cell? ⟨P, 1, none⟩ = some u1 ∧ w.cell? ⟨P, 2, none⟩ = some u2 ∧ w.cell? ⟨P, 3, none⟩ = some u3) ∧ (w.frozen? ⟨P, 0, none⟩ = false ∧ w.frozen? ⟨P, 1, none⟩ = false ∧ w.frozen? ⟨P, 2, none⟩ = false ∧ w.frozen? ⟨P, 3, none⟩ = false)) :
    ∀ W, W = (((w.setCell ⟨P, 0, none⟩ x0).setCell ⟨P, 1, none⟩ x1).setCell ⟨P, 2, none⟩ x2).setCell ⟨P, 3, none⟩ x3 →
    ((W.cell? ⟨P, 0, none⟩ = some x0 ∧ W.cell? ⟨P, 1, none⟩ = some x1 ∧ W.cell? ⟨P, 2, none⟩ = some x2 ∧ W.cell? ⟨P, 3, none⟩ = some x3) ∧ (W.frozen? ⟨P, 0, none⟩ = false ∧ W.frozen? ⟨P, 1, none⟩ = false ∧ W.frozen? ⟨P, 2, none⟩ = false ∧ W.frozen? ⟨P, 3, none⟩ = false)) ∧ Exc (fun k => k = P) w W := by
  rintro W rfl
  obtain ⟨⟨c0, c1, c2, c3⟩, f0, f1, f2, f3⟩ := c
  have fz : ∀ i, w.frozen? ⟨P, i, none⟩ = false → ((((w.setCell ⟨P, 0, none⟩ x0).setCell ⟨P, 1, none⟩ x1).setCell ⟨P, 2, none⟩ x2).setCell ⟨P, 3, none⟩ x3).frozen? ⟨P, i, none⟩ = false := fun i hf => by
    rw [World.frozen?_setCell, World.frozen?_setCell, World.frozen?_setCell, World.frozen?_setCell]; exact hf
  exact ⟨⟨⟨other_cell (by decide : 3 ≠ 0) (other_cell (by decide : 2 ≠ 0) (other_cell (by decide : 1 ≠ 0) (same_cell c0))), other_cell (by decide : 3 ≠ 1) (other_cell (by decide : 2 ≠ 1) (same_cell (other_cell (by decide : 0 ≠ 1) c1))),
    other_cell (by decide : 3 ≠ 2) (same_cell (other_cell (by decide : 1 ≠ 2) (other_cell (by decide : 0 ≠ 2) c2))), same_cell (other_cell (by decide : 2 ≠ 3) (other_cell (by decide : 1 ≠ 3) (other_cell (by decide : 0 ≠ 3) c3)))⟩, fz 0 f0, fz 1 f1, fz 2 f2, fz 3 f3⟩,
    ((((Exc.refl (fun k => k = P) w).setCell (a := ⟨P, 0, none⟩) (fun _ => rfl) _).setCell (a := ⟨P, 1, none⟩) (fun _ => rfl) _).setCell (a := ⟨P, 2, none⟩) (fun _ => rfl) _).setCell (a := ⟨P, 3, none⟩) (fun _ => rfl) _⟩

theorem Exc.four {S : Nat → Prop} {w W : World} {P : Nat} {u0 u1 u2 u3 : Value} (x : Exc S w W) (hS : ¬ S P) (c : (w.cell? ⟨P, 0, none⟩ = some u0 ∧ w.cell? ⟨P, 1, none⟩ = some u1 ∧ w.cell? ⟨P, 2, none⟩ = some u2 ∧ w.cell? ⟨P, 3, none⟩ = some u3) ∧ (w.frozen? ⟨P, 0, none⟩ = false ∧ w.frozen? ⟨P, 1, none⟩ = false ∧ w.frozen? ⟨P, 2, none⟩ = false ∧ w.frozen? ⟨P, 3, none⟩ = false)) :
    (W.cell? ⟨P, 0, none⟩ = some u0 ∧ W.cell? ⟨P, 1, none⟩ = some u1 ∧ W.cell? ⟨P, 2, none⟩ = some u2 ∧ W.cell? ⟨P, 3, none⟩ = some u3) ∧ (W.frozen? ⟨P, 0, none⟩ = false ∧ W.frozen? ⟨P, 1, none⟩ = false ∧ W.frozen? ⟨P, 2, none⟩ = false ∧ W.frozen? ⟨P, 3, none⟩ = false) := by
  obtain ⟨⟨c0, c1, c2, c3⟩, f0, f1, f2, f3⟩ := c
  exact ⟨⟨x.keep c0 hS, x.keep c1 hS, x.keep c2 hS, x.keep c3 hS⟩, x.free c0 hS f0, x.free c1 hS f1, x.free c2 hS f2, x.free c3 hS f3⟩

/-- What holds in Put when k numbers are told. -/
structure PutInv (Lb P : Nat) (rs : List Int) (k : Nat) (w wr : World) : Prop where
  mem : Holds wr Lb ((puts s0 (rs.take k)).1 ++ [(puts s0 (rs.take k)).2.2])
  c0 : wr.cell? ⟨P, 0, none⟩ = some (.int .i64 (puts s0 (rs.take k)).2.1.l)
  c1 : wr.cell? ⟨P, 1, none⟩ = some (.int .i64 (puts s0 (rs.take k)).2.1.h)
  c2 : wr.cell? ⟨P, 2, none⟩ = some (.string ⟨(puts s0 (rs.take k)).2.1.o.toArray⟩)
  c3 : ∃ v, wr.cell? ⟨P, 3, none⟩ = some v
  f0 : wr.frozen? ⟨P, 0, none⟩ = false
  f1 : wr.frozen? ⟨P, 1, none⟩ = false
  f2 : wr.frozen? ⟨P, 2, none⟩ = false
  f3 : wr.frozen? ⟨P, 3, none⟩ = false
  bel : Bel w wr

theorem take_fits {rs : List Int} (h : AllFit rs) (k : Nat) : ∀ x ∈ rs.take k, Fits x := fun x hx => by
  obtain ⟨i, hi, e⟩ := List.getElem_of_mem (List.mem_of_mem_take hx)
  have := h i hi
  rwa [List.getD_eq_getElem?_getD, List.getElem?_eq_getElem hi, Option.getD_some, e] at this

theorem puts_snoc (rs : List Int) (k : Nat) (hk : k < rs.length) : puts s0 (rs.take (k + 1)) = numS (puts s0 (rs.take k)) (rs.getD k 0) := by
  rw [List.take_succ_eq_append_getElem hk]
  unfold puts
  rw [List.foldl_append, List.getD_eq_getElem?_getD, List.getElem?_eq_getElem hk]
  rfl

theorem puts_at {rs : List Int} (h : AllFit rs) (k : Nat) (hk : k ≤ rs.length) : Ok (puts s0 (rs.take k)) k := by
  have := (puts_ok (rs.take k) s0 0 s0_ok (take_fits h k)).1
  rwa [List.length_take, Nat.min_eq_left hk, Nat.zero_add] at this

/-- A number's bits are laid beside the coder. -/
theorem put_ready {Lb k u g m c : Nat} {rs : List Int} {w0 w3 w4 : World} (K : PutInv Lb (Lb + 1) rs k w0 w3) (b4 : Bel w3 w4) (h0 : 0 < w0.heap.size) (hL : w0.heap.size ≤ Lb) (T : Str.Tab w0)
    (hg1 : w3.heap.size ≤ g) (hg2 : g < w4.heap.size) (hm : m = (Gam.bitsOf u).length) (hc1 : m ≤ c) (hc2 : c ≤ maxLen) (hg3 : Holds w4 g (Gam.bitsOf u)) :
    ∀ W, W = w4.setCell ⟨Lb + 1, 3, none⟩ (.slice (some ⟨g, 0, none⟩) m c) → Str.Tab W ∧ Holds W Lb ((puts s0 (rs.take k)).1 ++ [(puts s0 (rs.take k)).2.2]) ∧ PutSt W.heap.size Lb (Lb + 1) W ((puts s0 (rs.take k)).2.1, Gam.bitsOf u) ∧ Lb + 1 < W.heap.size ∧ Bel w0 W := by
  rintro W rfl
  have x : Exc (fun i => i = Lb + 1) w4 (w4.setCell ⟨Lb + 1, 3, none⟩ (.slice (some ⟨g, 0, none⟩) m c)) := (Exc.refl (fun i => i = Lb + 1) w4).setCell (a := ⟨Lb + 1, 3, none⟩) (fun _ => rfl) _
  obtain ⟨v3, k3⟩ := K.c3
  have p3 := block_lt_of_cell K.c0
  simp only at p3
  have e0 := other_cell (i := 3) (u := .slice (some ⟨g, 0, none⟩) m c) (by decide) (b4.keep K.c0)
  have p4 := block_lt_of_cell e0
  simp only at p4
  have sz : (w4.setCell ⟨Lb + 1, 3, none⟩ (.slice (some ⟨g, 0, none⟩) m c)).heap.size = w4.heap.size := by simp [World.setCell]
  refine ⟨x.tab (tab_bel (tab_bel T K.bel) b4) (by omega), x.holds (K.mem.bel b4) (by omega), ⟨e0, other_cell (by decide) (b4.keep K.c1), other_cell (by decide) (b4.keep K.c2), by rw [World.frozen?_setCell]; exact b4.free K.c0 K.f0, by rw [World.frozen?_setCell]; exact b4.free K.c1 K.f1, by rw [World.frozen?_setCell]; exact b4.free K.c2 K.f2, by rw [World.frozen?_setCell]; exact b4.free k3 K.f3,
    some ⟨g, 0, none⟩, m, c, same_cell (b4.keep k3), hm, hc1, hc2, slc_put1 hg3.slc (fun y hy => by obtain rfl := Option.some.inj hy; show g ≠ Lb + 1; omega), fun y hy => by obtain rfl := Option.some.inj hy; rw [sz]; refine ⟨?_, ?_, hg2⟩ <;> simp only <;> omega⟩, p4, (K.bel.trans b4).setCell (by show w0.heap.size ≤ Lb + 1; omega) _⟩

set_option maxRecDepth 20000 in
set_option maxHeartbeats 4000000 in
theorem put_yes (ao : Option Addr) (rs : List Int) (n cap : Nat) (hn : n = rs.length) (h256 : n ≤ 256) (hf : AllFit rs) (w : World) (T : Str.Tab w) (hA : Slc w ao rs) :
    Calls Tryz.prog 6 #[.slice ao n cap] w fun e w' => e = .returned (.tuple #[.string (told rs), .int .i64 0]) ∧ Bel w w' := by
  have CT : Hid (∀ w', Bel w w' → Calls Tryz.prog 16 #[.slice ao n cap, .func (.func 17) #[] #[]] w' fun e w'' => e = .returned (.bool false) ∧ w'' = w') := fun w' b => contains_ok ao rs n cap hn h256 false ⟨fun h => absurd h (by decide), fun h => absurd hf h⟩ w' (hA.bel b)
  have NQ : Hid (∀ w, Calls Tryz.prog 18 #[] w fun e w' => e = .returned (mdl (newM ++ [0])) ∧ Bel w w') := newLearner_ok
  have CN : Hid (∀ w, Calls Tryz.prog 19 #[] w fun e w' => e = .returned (.agg #[.int .i64 0, .int .i64 4294967295, .string ⟨#[]⟩]) ∧ Bel w w') := fun w => (Coder.new_ok w).mono fun _ _ h => ⟨h.1, h.2⟩
  have z := zero48
  have ml : (newM ++ [0]).length = 196 := by rw [List.length_append, newM_len]; rfl
  have ML : Hid ((newM ++ [0]).length = 196) := ml
  clear ml
  have Z6 : Hid (zeros6.length = 196) := zeros6_len
  have HA : Hid (Slc w ao rs) := hA
  have HN : Hid (n = rs.length ∧ AllFit rs) := ⟨hn, hf⟩
  have TT : Hid (Str.Tab w) := T
  clear hA hn hf T
  have hd : decide ((256 : Int) < (n : Int)) = false := decide_eq_false (by omega)
  go_enter Tryz.func6, Tryz.ntmps6
  go_wp2_with (first | (go_at_call 16; (with_reducible refine (CT.out _ (Bel.refl _)).mono ?_); rintro e w0 ⟨rfl, rfl⟩))
  refine (NQ.out _).mono ?_
  rintro e w1 ⟨rfl, b1⟩
  go_wp2_with fail
  refine (CN.out _).mono ?_
  rintro e w2 ⟨rfl, b2⟩
  have B2 : Hid (Bel w0 w2) := b1.trans b2
  clear b1 b2 NQ CN CT
  obtain ⟨M0, hM0⟩ : ∃ M0, newM ++ [0] = M0 := ⟨_, rfl⟩
  rw [hM0] at ML
  simp only [hM0]
  have M1 : Hid (newM ++ [0] = M0) := hM0
  clear hM0
  generalize zeros6 = Z at *
  have H0 : Hid (Holds ((w2.alloc (.cells (vals Z).toArray 48)).alloc (.cells #[.int .i64 0, .int .i64 0, .string ⟨#[]⟩, .slice none 0 0] 54)) w2.heap.size Z) := (holds_new w2 Z 48).bel ((Bel.refl _).alloc _)
  have P0 := fresh4 w2 (.cells (vals Z).toArray 48) (.int .i64 0) (.int .i64 0) (.string ⟨#[]⟩) (.slice none 0 0) 54 _ rfl
  have P1 : Hid _ := P0
  have B3 : Hid (Bel w0 ((w2.alloc (.cells (vals Z).toArray 48)).alloc (.cells #[.int .i64 0, .int .i64 0, .string ⟨#[]⟩, .slice none 0 0] 54))) := (B2.out.alloc _).alloc _
  have S2 : Hid (w0.heap.size ≤ w2.heap.size) := B2.out.size
  clear P0
  go_wp2_with (first | ((with_reducible refine wpl_store48x (B := w2.heap.size) (L := Z) H0.out Z6.out ML.out rfl rfl ?_); intro W hW hX; have Q4 : Hid _ := Exc.four hX (by omega) P1.out; obtain ⟨⟨q0, q1, q2, q3⟩, g0, g1, g2, g3⟩ := Q4.out; have HW : Hid (Holds W w2.heap.size M0) := hW; have BX : Hid (Bel w0 W) := Exc.from hX B3.out (fun i hi => by have := S2.out; omega); clear hX hW H0 P1 B3))
  have F4 := put4 (x0 := .int .i64 0) (x1 := .int .i64 4294967295) (x2 := .string ⟨#[]⟩) (x3 := .slice none 0 0) Q4.out _ rfl
  have F5 : Hid _ := F4
  clear F4 Q4 q0 q1 q2 q3 g0 g1 g2 g3
  have PI : Hid (PutInv w2.heap.size (w2.heap.size + 1) rs 0 w0 ((((W.setCell ⟨w2.heap.size + 1, 0, none⟩ (.int .i64 0)).setCell ⟨w2.heap.size + 1, 1, none⟩ (.int .i64 4294967295)).setCell ⟨w2.heap.size + 1, 2, none⟩ (.string ⟨#[]⟩)).setCell ⟨w2.heap.size + 1, 3, none⟩ (.slice none 0 0))) :=
    ⟨F5.out.2.holds (M1.out ▸ HW.out) (by omega), F5.out.1.1.1, F5.out.1.1.2.1, F5.out.1.1.2.2.1, ⟨_, F5.out.1.1.2.2.2⟩, F5.out.1.2.1, F5.out.1.2.2.1, F5.out.1.2.2.2.1, F5.out.1.2.2.2.2, Exc.from F5.out.2 BX.out (fun i hi => by have := S2.out; omega)⟩
  have PS : Hid (0 < w0.heap.size ∧ w0.heap.size ≤ w2.heap.size) := ⟨tab_pos TT.out, S2.out⟩
  clear F5 HW BX S2 B2 M1 ML Z6
  generalize w2.heap.size = Lb at *
  go_loopw [22] (fun i wr => ∃ k : Nat, k ≤ n ∧ i = .int .i64 (k : Int) ∧ Hid (PutInv Lb (Lb + 1) rs k w0 wr)) (fun i _ => n - (intOf i).toNat)
  case atStart => exact ⟨0, by omega, rfl, PI⟩
  case round =>
    obtain ⟨k, hk, rfl, K⟩ := hrel
    clear PI
    by_cases hlt : k < n
    · have hd2 : decide ((k : Int) < (n : Int)) = true := decide_eq_true (by omega)
      obtain ⟨a, rfl, hc⟩ := HA.out k (HN.out.1 ▸ hlt)
      have hc := K.out.bel.keep hc
      have fx := HN.out.2 k (HN.out.1 ▸ hlt)
      have hu := folded_le fx
      have PQ : Hid (∀ w, Calls Tryz.prog 20 #[.int .i64 (rs.getD k 0)] w fun e w' => e = .returned (.tuple #[.int .i64 ((folded (rs.getD k 0) : Nat) : Int), .int .i64 0]) ∧ w' = w) := put_fits _ fx
      have KS : Hid (puts s0 (rs.take (k + 1)) = numS (puts s0 (rs.take k)) (rs.getD k 0)) := puts_snoc rs k (HN.out.1 ▸ hlt)
      have OK : Hid (Ok (puts s0 (rs.take k)) k) := puts_at HN.out.2 k (by have := HN.out.1; omega)
      obtain ⟨u, eu⟩ : ∃ u, folded (rs.getD k 0) = u := ⟨_, rfl⟩
      unfold numS at KS
      rw [eu] at KS PQ hu
      have BQ : Hid (∀ w, Calls Tryz.prog 21 #[.int .i64 (u : Int)] w fun e w' => ∃ g c, e = .returned (.tuple #[.slice (some ⟨g, 0, none⟩) (2 * Gam.many u + 1) c, .int .i64 0]) ∧ w.heap.size ≤ g ∧ g < w'.heap.size ∧ 2 * Gam.many u + 1 ≤ c ∧ c ≤ maxLen ∧ Holds w' g (Gam.bitsOf u) ∧ Bel w w') := fun w => Gam.bits_ok u _ hu rfl w
      have HU : Hid (u ≤ 33554432) := hu
      obtain ⟨v3, k3⟩ := K.out.c3
      have g3 := K.out.f3
      clear eu hu fx
      generalize rs.getD k 0 = x at *
      go_wp2_with fail
      refine (PQ.out _).mono ?_
      rintro e w3 ⟨rfl, rfl⟩
      clear PQ
      go_wp2_with fail
      refine (BQ.out _).mono ?_
      rintro e w4 ⟨g, c, rfl, hg1, hg2, hc1, hc2, hg3, b4⟩
      clear BQ hc
      have k3 := b4.keep k3
      have f3 := b4.free (by assumption) g3
      have F : Hid (∀ W, W = w4.setCell ⟨Lb + 1, 3, none⟩ (.slice (some ⟨g, 0, none⟩) (2 * Gam.many u + 1) c) → Str.Tab W ∧ Holds W Lb ((puts s0 (rs.take k)).1 ++ [(puts s0 (rs.take k)).2.2]) ∧ PutSt W.heap.size Lb (Lb + 1) W ((puts s0 (rs.take k)).2.1, Gam.bitsOf u) ∧ Lb + 1 < W.heap.size ∧ Bel w0 W) :=
        put_ready K.out b4 PS.out.1 PS.out.2 TT.out hg1 hg2 (Gam.bitsOf_length u).symm hc1 hc2 hg3
      clear K b4 hg1 hg2 hc1 hc2 hg3
      go_wp2_with fail
      obtain ⟨W, hW⟩ : ∃ W, W = w4.setCell ⟨Lb + 1, 3, none⟩ (.slice (some ⟨g, 0, none⟩) (2 * Gam.many u + 1) c) := ⟨_, rfl⟩
      have G : Hid _ := F.out W hW
      rw [← hW]
      clear hW F k3 f3
      refine (number_coded W.heap.size Lb (Lb + 1) (puts s0 (rs.take k)) k (by omega) OK.out u HU.out W rfl (by have := G.out.2.2.2.1; omega) G.out.2.2.2.1 (by omega) (by have := PS.out; omega) (by omega) G.out.1 G.out.2.1 G.out.2.2.1).mono ?_
      rintro e w6 ⟨⟨v, rfl⟩, hh, st, xx⟩
      have K2 : Hid (PutInv Lb (Lb + 1) rs (k + 1) w0 w6) := by
        obtain ⟨ao, n1, cap1, s3, _⟩ := st.bits
        refine ⟨by rw [KS.out]; exact hh, by rw [KS.out]; exact st.c0, by rw [KS.out]; exact st.c1, by rw [KS.out]; exact st.c2, ⟨_, s3⟩, st.f0, st.f1, st.f2, st.f3, Exc.from xx G.out.2.2.2.2 (fun i hi => by have := PS.out; omega)⟩
      clear hh st xx G KS OK HU
      go_wp2
      go_roundw
      case rel => exact ⟨k + 1, by omega, by go_num, K2⟩
      case measure => simp [intOf]; omega
    · obtain rfl : k = n := by omega
      have hd2 : decide ((k : Int) < (k : Int)) = false := decide_eq_false (by omega)
      have OK := puts_at HN.out.2 k (by have := HN.out.1; omega)
      have tk : rs.take k = rs := List.take_of_length_le (by have := HN.out.1; omega)
      obtain ⟨k0, k1, k2⟩ : _ ∧ _ ∧ _ := ⟨K.out.c0, K.out.c1, K.out.c2⟩
      have BW : Hid (Bel w0 wr) := K.out.bel
      rw [tk] at k0 k1 k2 OK
      have TD : Hid (told rs = ⟨(puts s0 rs).2.1.o.toArray⟩ ++ Coder.four (puts s0 rs).2.1.l) := rfl
      have EQ : Hid (∀ w, Calls Tryz.prog 24 #[.agg #[.int .i64 (puts s0 rs).2.1.l, .int .i64 (puts s0 rs).2.1.h, .string ⟨(puts s0 rs).2.1.o.toArray⟩]] w fun e w' => e = .returned (.tuple #[.string (⟨(puts s0 rs).2.1.o.toArray⟩ ++ Coder.four (puts s0 rs).2.1.l), .int .i64 0]) ∧ Bel w w') := fun w => Coder.end_may _ _ _ OK.bet (by rw [Deco.mk_size]; have := OK.out; omega) w
      rw [← TD.out] at EQ
      obtain ⟨s, hs⟩ : ∃ s, told rs = s := ⟨_, rfl⟩
      rw [hs] at EQ
      have SS : Hid (told rs = s) := hs
      clear hs
      generalize (puts s0 rs).2.1.l = l at *
      generalize (puts s0 rs).2.1.h = h at *
      generalize (puts s0 rs).2.1.o = o at *
      clear K TD OK tk
      go_wp2_with fail
      refine (EQ.out _).mono ?_
      rintro e w5 ⟨rfl, b5⟩
      clear EQ k0 k1 k2
      go_wp2
      go_ret2
      refine ⟨?_, BW.out.trans b5⟩
      rw [SS.out]
      rfl

set_option maxHeartbeats 1000000 in
theorem put_no (ao : Option Addr) (rs : List Int) (n cap : Nat) (hn : n = rs.length) (hx : n ≤ maxLen) (hno : ¬ (n ≤ 256 ∧ AllFit rs)) (w : World) (hA : Slc w ao rs) :
    Calls Tryz.prog 6 #[.slice ao n cap] w fun e w' => e = .returned (.tuple #[.string ⟨#[]⟩, .int .i64 1300]) ∧ w' = w := by
  unfold maxLen at hx
  by_cases h256 : n ≤ 256
  · have CT : Hid (Calls Tryz.prog 16 #[.slice ao n cap, .func (.func 17) #[] #[]] w fun e w'' => e = .returned (.bool true) ∧ w'' = w) := contains_ok ao rs n cap hn h256 true ⟨fun _ h => hno ⟨h256, h⟩, fun _ => rfl⟩ w hA
    have hd : decide ((256 : Int) < (n : Int)) = false := decide_eq_false (by omega)
    clear hA hn hno
    go_enter Tryz.func6, Tryz.ntmps6
    go_wp2_with (first | (go_at_call 16; (with_reducible refine CT.out.mono ?_); rintro e w0 ⟨rfl, rfl⟩))
    go_ret2
    exact ⟨rfl, rfl⟩
  · have hd : decide ((256 : Int) < (n : Int)) = true := decide_eq_true (by omega)
    clear hA hn hno
    go_enter Tryz.func6, Tryz.ntmps6
    go_wp2
    go_ret2
    exact ⟨rfl, rfl⟩

end Go.Proofs.YtoldedbfoechlaaGreatDoor.Res
