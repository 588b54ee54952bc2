/-
  The contract of taken. Condition: the package's table is laid as its text lays it.
  The contract of Get. Condition: the package's table is laid as its text lays it.
  Plain facts: a text's numbers are as many as were told. No condition.
  The check of layer 13. Condition: the package's table is laid as its text lays it.
-/
import Derived.Test.YtocnlefpbcnlmaaDoorPk14
import Derived.Test.YtocnlefpbcnlmaaDoorPk15
import Derived.Test.YtocnlefpbcnlmaaDoorPk10
import Derived.Deep.RegionHeld3
import Derived.OwnWalk
import Derived.Laws.OwnMore
import Derived.Test.YtocnlefpbcnlmaaDoorPk11

namespace Go.Proofs.YtocnlefpbcnlmaaDoor.Res
open Go.RowKit Go.Sort Go.Proofs.YtocnlefpbcnlmaaDoor.Mod Go.Proofs.YtocnlefpbcnlmaaDoor.Ints
set_option linter.unusedVariables false
set_option linter.unusedSimpArgs false

/-- What a decoder finds first, laid beside a learner. -/
def Laid (t : ByteArray) (w wx : World) (v8 v9 : Value) : Prop :=
  ∃ Lb P, v8 = .pointer (some ⟨Lb, 0, none⟩) ∧ v9 = .pointer (some ⟨P, 0, none⟩) ∧ w.heap.size ≤ Lb ∧ w.heap.size ≤ P ∧ Lb ≠ P ∧ Holds wx Lb (newM ++ [0]) ∧ TakeSt P t wx c0 ∧ Bel w wx

theorem there_bel {w w' : World} {B n : Nat} (h : w.there B 0 n) (b : Bel w w') : w'.there B 0 n := fun j hj => by
  obtain ⟨h1, h2⟩ := h j hj
  obtain ⟨v, hv⟩ := Option.isSome_iff_exists.1 h1
  exact ⟨by rw [b.keep hv]; rfl, b.free hv h2⟩
theorem there_exc {S : Nat → Prop} {w w' : World} {B n : Nat} (h : w.there B 0 n) (x : Exc S w w') (hB : ¬ S B) : w'.there B 0 n := fun j hj => by
  obtain ⟨h1, h2⟩ := h j hj
  obtain ⟨v, hv⟩ := Option.isSome_iff_exists.1 h1
  exact ⟨by rw [x.keep hv hB]; rfl, x.free hv hB h2⟩
theorem fresh5 (w : World) (v0 v1 v2 v3 v4 : Value) (ty : TypeId) : ∀ W, W = w.alloc (.cells #[v0, v1, v2, v3, v4] ty) →
    W.cell? ⟨w.heap.size, 0, none⟩ = some v0 ∧ W.cell? ⟨w.heap.size, 1, none⟩ = some v1 ∧ W.cell? ⟨w.heap.size, 2, none⟩ = some v2 ∧ W.cell? ⟨w.heap.size, 3, none⟩ = some v3 ∧ W.cell? ⟨w.heap.size, 4, none⟩ = some v4 := by
  rintro W rfl
  refine ⟨?_, ?_, ?_, ?_, ?_⟩ <;> simp
theorem there_new {w : World} {B : Nat} (hB : B = w.heap.size) (v0 v1 v2 v3 v4 : Value) (ty : TypeId) : (w.alloc (.cells #[v0, v1, v2, v3, v4] ty)).there B 0 5 := fun j hj => by
  subst hB
  obtain ⟨c0, c1, c2, c3, c4⟩ := fresh5 w v0 v1 v2 v3 v4 ty _ rfl
  match j, hj with
  | 0, _ => exact ⟨by rw [Nat.add_zero, c0]; rfl, by simp⟩
  | 1, _ => exact ⟨by rw [Nat.zero_add, c1]; rfl, by simp⟩
  | 2, _ => exact ⟨by rw [Nat.zero_add, c2]; rfl, by simp⟩
  | 3, _ => exact ⟨by rw [Nat.zero_add, c3]; rfl, by simp⟩
  | 4, _ => exact ⟨by rw [Nat.zero_add, c4]; rfl, by simp⟩
theorem take_laid {t : ByteArray} {w : World} {P : Nat} (n0 : Int) (h : w.there P 0 5) : n0 = Coder.win t 0 → TakeSt P t (w.setCells P 0 [.int .i64 0, .int .i64 4294967295, .int .i64 n0, .string t, .int .i64 4]) c0 := by
  rintro rfl
  obtain ⟨v0, k0⟩ := Option.isSome_iff_exists.1 (h 0 (by decide)).1
  obtain ⟨v1, k1⟩ := Option.isSome_iff_exists.1 (h 1 (by decide)).1
  obtain ⟨v2, k2⟩ := Option.isSome_iff_exists.1 (h 2 (by decide)).1
  obtain ⟨v3, k3⟩ := Option.isSome_iff_exists.1 (h 3 (by decide)).1
  obtain ⟨v4, k4⟩ := Option.isSome_iff_exists.1 (h 4 (by decide)).1
  have fr : ∀ i, i < 5 → w.frozen? ⟨P, i, none⟩ = false := fun i hi => by have := (h i hi).2; rwa [Nat.zero_add] at this
  have e0 : ∀ {a b c d e : Value}, (w.setCells P 0 [a, b, c, d, e]) = ((((w.setCell ⟨P, 0, none⟩ a).setCell ⟨P, 1, none⟩ b).setCell ⟨P, 2, none⟩ c).setCell ⟨P, 3, none⟩ d).setCell ⟨P, 4, none⟩ e := rfl
  rw [e0]
  exact ⟨other_cell (by decide : 4 ≠ 0) (other_cell (by decide : 3 ≠ 0) (other_cell (by decide : 2 ≠ 0) (other_cell (by decide : 1 ≠ 0) (same_cell k0)))), other_cell (by decide : 4 ≠ 1) (other_cell (by decide : 3 ≠ 1) (other_cell (by decide : 2 ≠ 1) (same_cell (other_cell (by decide : 0 ≠ 1) k1)))),
    other_cell (by decide : 4 ≠ 2) (other_cell (by decide : 3 ≠ 2) (same_cell (other_cell (by decide : 1 ≠ 2) (other_cell (by decide : 0 ≠ 2) k2)))), other_cell (by decide : 4 ≠ 3) (same_cell (other_cell (by decide : 2 ≠ 3) (other_cell (by decide : 1 ≠ 3) (other_cell (by decide : 0 ≠ 3) k3)))),
    same_cell (other_cell (by decide : 3 ≠ 4) (other_cell (by decide : 2 ≠ 4) (other_cell (by decide : 1 ≠ 4) (other_cell (by decide : 0 ≠ 4) k4)))), fun i hi => by rw [World.frozen?_setCell, World.frozen?_setCell, World.frozen?_setCell, World.frozen?_setCell, World.frozen?_setCell]; exact fr i hi⟩

theorem made_zeros (n : Nat) : (madeCells #[.int .i64 0] n).toList = vals (List.replicate n 0) := by
  refine List.ext_getElem (by simp [madeCells, vals]) fun i a b => ?_
  simp [madeCells, vals, Nat.mod_one]
theorem holds_zeros {w : World} {base g n : Nat} (h : w.ownsRow base 3 1 (.slice (some ⟨g, 0, none⟩) n n) n (madeCells #[.int .i64 0] n).toList) : Holds w g (List.replicate n 0) := by
  rw [made_zeros] at h
  rcases Nat.eq_zero_or_pos n with h0 | h0
  · subst h0; exact ⟨fun k hk => absurd hk (by simp), fun k hk => absurd hk (by simp)⟩
  · obtain ⟨g', cap, e, _, _, _, _, _, hh⟩ := owns_shape h h0
    injection e with e1
    injection e1 with e2
    injection e2 with e3
    rw [e3]
    exact hh

theorem fget_ok (v : Int) (h0 : 0 ≤ v) (h1 : v ≤ 33554432) (w : World) :
    Calls Tryd.prog 39 #[.int .i64 v] w fun e w' => e = .returned (.tuple #[.int .i64 (unfolded v), .int .i64 0]) ∧ w' = w := by
  by_cases h : v % 2 = 0
  · exact Fld.get_even v _ h0 h1 (by unfold unfolded; rw [if_pos h]; omega) w
  · exact Fld.get_odd v _ h0 h1 (by unfold unfolded; rw [if_neg h]; omega) w

theorem numP_fine {bs : List Int} (h : (Gam.numP bs).2 = 0) : 0 ≤ (Gam.numP bs).1 ∧ (Gam.numP bs).1 ≤ 33554432 ∧ bs.length ≤ 51 := by
  by_cases q : bs.length = 2 * (bs.length / 2) + 1 ∧ bs.length / 2 ≤ 25 ∧ Gam.headOk bs
  · cases e : Gam.take01 1 (bs.drop (bs.length / 2 + 1)) with
    | none => rw [Gam.numP_none e] at h; exact absurd h (by decide)
    | some v =>
      by_cases hv : v ≤ 33554433
      · rw [Gam.numP_some q.1 q.2.1 q.2.2 e hv]
        have := Gam.take01_bound _ 1 v (by decide) e
        simp only
        omega
      · rw [Gam.numP_great e (by omega)] at h; exact absurd h (by decide)
  · rw [Gam.numP_no q] at h; exact absurd h (by decide)
theorem numP_err {bs : List Int} (h : ¬ (Gam.numP bs).2 = 0) : Gam.numP bs = (0, 1100) := by
  by_cases q : bs.length = 2 * (bs.length / 2) + 1 ∧ bs.length / 2 ≤ 25 ∧ Gam.headOk bs
  · cases e : Gam.take01 1 (bs.drop (bs.length / 2 + 1)) with
    | none => exact Gam.numP_none e
    | some v =>
      by_cases hv : v ≤ 33554433
      · rw [Gam.numP_some q.1 q.2.1 q.2.2 e hv] at h; exact absurd rfl h
      · exact Gam.numP_great e (by omega)
  · exact Gam.numP_no q

/-- One number's bits are found. -/
theorem number_taken (N Lb P : Nat) (t : ByteArray) (ht : t.size ≤ 65536) (s : Sta) (k : Nat) (hk : k ≤ 256) (ho : Ok s k) (hi : In t s.2.1) (w : World) (hN : N = w.heap.size) (hLb : Lb < N) (hP : P < N) (hLP : Lb ≠ P) (h0 : 0 < Lb) (h1 : 0 < P) (T : Str.Tab w)
    (H : Holds w Lb (s.1 ++ [s.2.2])) (hS : TakeSt P t w s.2.1) :
    Calls Tryd.prog 20 #[.pointer (some ⟨Lb, 0, none⟩), .func (.func 37) #[.pointer (some ⟨P, 0, none⟩)] #[]] w fun e w' =>
      Ends N Lb P (TakeSt P t) (fun c bs => Coder.Between c.l c.h ∧ In t c ∧ c.o.length ≤ 204 * k + 4 * bs.length) w' e (run (nxtT t) 65 s.1 s.2.2 s.2.1 []) ∧ Exc (fun k => k = Lb ∨ k = P) w w' := by
  have oo := ho.out
  refine number_take N Lb P (TakeSt P t) (fun c bs => Coder.Between c.l c.h ∧ In t c ∧ c.o.length ≤ 204 * k + 4 * bs.length) (nxtT t)
    (fun w w' s1 h hB => h.keep hP (fun e => hLP e.symm) hB) ?_ ?_ s.1 ho.len ho.may s.2.2 ho.b0 ho.b1 s.2.1 ⟨ho.bet, hi, by simpa using oo⟩ _ rfl w hN hLb hP hLP h0 h1 T H hS
  · rintro w1 c bs p hw h63 hp ⟨e1, e2, e3⟩ hs
    exact take_ok P t c p e1 ht (by omega) hp e2 w1 hs
  · rintro c bs p hw h63 hp ⟨e1, e2, e3⟩
    have q := codS_ok e1 (bitT t c p) hp
    refine ⟨⟨q.1, in_next e1 hp e2, ?_⟩, bitT_01 t c p⟩
    show (codS c (bitT t c p) p).o.length ≤ _
    rw [List.length_append]
    simp only [List.length_cons, List.length_nil]
    have := q.2
    omega

/-- What holds in taken when k numbers are found. -/
structure TakeInv (Lb P G : Nat) (t : ByteArray) (m : Nat) (R : Option (List Int)) (k : Nat) (w wr : World) (s : Sta) (done : List Int) : Prop where
  len : done.length = k
  ans : (takes t (m - k) s).map (done ++ ·) = R
  ok : Ok s k
  inn : In t s.2.1
  mem : Holds wr Lb (s.1 ++ [s.2.2])
  st : TakeSt P t wr s.2.1
  row : Holds wr G (done ++ List.replicate (m - k) 0)
  bel : Bel w wr
  size : Lb < wr.heap.size ∧ P < wr.heap.size ∧ G < wr.heap.size

/-- What taken answers. -/
def Found (m : Nat) (w w' : World) (e : Ending) : Option (List Int) → Prop
  | none => e = .returned (.tuple #[.slice none 0 0, .bool false])
  | some rs => ∃ g, e = .returned (.tuple #[.slice (some ⟨g, 0, none⟩) m m, .bool true]) ∧ w.heap.size ≤ g ∧ Holds w' g rs

set_option maxRecDepth 20000 in
set_option maxHeartbeats 4000000 in
theorem taken_ok (t : ByteArray) (m : Nat) (hm : m ≤ 256) (ht : t.size ≤ 65536) (R : Option (List Int)) (hR : takes t m s0 = R) (w : World) (T : Str.Tab w) :
    Calls Tryd.prog 23 #[.string t, .int .i64 (m : Int)] w fun e w' => Found m w w' e R ∧ Bel w w' := by
  have DN : Hid (∀ w, Calls Tryd.prog 36 #[.string t] w fun e w' => e = .returned (.tuple #[.agg #[.int .i64 0, .int .i64 4294967295, .int .i64 (Coder.win t 0), .string t, .int .i64 4], .int .i64 0]) ∧ Bel w w') := fun w => by
    have := Deco.new_ok t (by unfold maxLen; omega) w
    rw [Deco.newAns, if_pos ht] at this
    exact this
  have NQ : Hid (∀ w, Calls Tryd.prog 16 #[] w fun e w' => e = .returned (mdl (newM ++ [0])) ∧ Bel w w') := newLearner_ok
  have TT : Hid (Str.Tab w) := T
  have HR : Hid (takes t m s0 = R) := hR
  have HT : Hid (t.size ≤ 65536) := ht
  clear T hR ht
  go_enter Tryd.func23, Tryd.ntmps23
  go_wp2_with fail
  refine (DN.out _).mono ?_
  rintro e w1 ⟨rfl, b1⟩
  obtain ⟨n0, hn0⟩ : ∃ n, Coder.win t 0 = n := ⟨_, rfl⟩
  simp only [hn0]
  have NW : Hid (n0 = Coder.win t 0) := hn0.symm
  clear hn0
  go_wp2_with fail
  have d0 := (fresh5 w1 (.int .i64 0) (.int .i64 4294967295) (.int .i64 n0) (.string t) (.int .i64 4) 78 _ rfl).1
  have d1 := (fresh5 w1 (.int .i64 0) (.int .i64 4294967295) (.int .i64 n0) (.string t) (.int .i64 4) 78 _ rfl).2.1
  have d2 := (fresh5 w1 (.int .i64 0) (.int .i64 4294967295) (.int .i64 n0) (.string t) (.int .i64 4) 78 _ rfl).2.2.1
  have d3 := (fresh5 w1 (.int .i64 0) (.int .i64 4294967295) (.int .i64 n0) (.string t) (.int .i64 4) 78 _ rfl).2.2.2.1
  have d4 := (fresh5 w1 (.int .i64 0) (.int .i64 4294967295) (.int .i64 n0) (.string t) (.int .i64 4) 78 _ rfl).2.2.2.2
  have BW : Hid (Bel w (w1.alloc (.cells #[.int .i64 0, .int .i64 4294967295, .int .i64 n0, .string t, .int .i64 4] 78))) := b1.alloc _
  have SW : Hid (w.heap.size ≤ (w1.alloc (.cells #[.int .i64 0, .int .i64 4294967295, .int .i64 n0, .string t, .int .i64 4] 78)).heap.size) := BW.out.size
  clear b1 DN
  generalize w1.alloc (.cells #[.int .i64 0, .int .i64 4294967295, .int .i64 n0, .string t, .int .i64 4] 78) = W2 at *
  generalize w1.heap.size = D0 at *
  go_cut [8, 9] from 21 to 23 (fun v8 v9 wx => Laid t w wx v8 v9)
  case first =>
    have z := zero48
    have ml : (newM ++ [0]).length = 196 := by rw [List.length_append, newM_len]; rfl
    obtain ⟨M0, hM0⟩ : ∃ M0, newM ++ [0] = M0 := ⟨_, rfl⟩
    rw [hM0] at ml NQ
    have ML : Hid (M0.length = 196) := ml
    have M1 : Hid (M0 = newM ++ [0]) := hM0.symm
    have Z6 : Hid (zeros6.length = 196) := zeros6_len
    clear ml hM0
    generalize zeros6 = Z at *
    have sw : w.heap.size ≤ W2.heap.size := SW.out
    refine wp_region_held_drew (S := fun wx => Bel W2 wx) (by kernel_rfl) (Bel.refl W2).drew (fun hHeld => ?_)
    refine wpAnyH_take (i := 1) (oi := { dst := some 22, op := .load 78 (.tmp 6), type := _, pos := _, after := _, guard := none }) (v := ?_) rfl (by kernel_rfl) (by kernel_rfl) (by kernel_rfl) (fun _ _ _ h => h) (Or.inl ⟨by rfl, ?_⟩) hHeld ?_
    rotate_left
    · intro wx hSw; have y0 := Bel.keep hSw d0; have y1 := Bel.keep hSw d1; have y2 := Bel.keep hSw d2; have y3 := Bel.keep hSw d3; have y4 := Bel.keep hSw d4; clear hSw; go_simp; with_reducible rfl
    try simp only [Act.put, List.setIfInBounds_toArray, List.set_cons_zero, List.set_cons_succ]
    refine wpAnyH_take (i := 2) (oi := { dst := some 23, op := .build 82 #[(0, .tmp 22)], type := _, pos := _, after := _, guard := none }) (v := ?_) rfl (by kernel_rfl) (by kernel_rfl) (by kernel_rfl) (fun _ _ _ h => h) (Or.inl ⟨by rfl, ?_⟩) hHeld ?_
    rotate_left
    · intro wx hSw; clear hSw; go_simp; with_reducible rfl
    try simp only [Act.put, List.setIfInBounds_toArray, List.set_cons_zero, List.set_cons_succ]
    obtain ⟨V0, hV0⟩ : ∃ V, V = W2.drew := ⟨_, rfl⟩
    have BV0 : Bel W2 V0 := hV0 ▸ hHeld
    have esw : V0.heap.size = W2.heap.size := by rw [hV0]; rfl
    have ESW : Hid (V0.heap.size = W2.heap.size) := esw
    clear esw
    rw [← hV0]
    clear hHeld hV0
    refine wpAnyH_ready (rs := [0, 3, 4]) (by kernel_rfl) (by simp) ?_
    refine (AllReadyH.cons (o := { dst := some 21, op := .call { callee := .value (.func 16), args := #[], argTypes := #[] }, type := _, pos := _, after := _, guard := none }) rfl (fun K hK => ?_) (AllReadyH.cons (o := { dst := some 8, op := .alloc 48, type := _, pos := _, after := _, guard := none }) rfl (fun K hK => ?_) (AllReadyH.cons (o := { dst := some 9, op := .alloc 82, type := _, pos := _, after := _, guard := none }) rfl (fun K hK => ?_) AllReadyH.nil)))
    · go_simp
      refine (NQ.out _).mono ?_
      rintro e w3 ⟨rfl, b3⟩
      go_wp2_with fail
      have Bw3 : Bel W2 w3 := BV0.trans b3
      have SZw3 : Hid (V0.heap.size ≤ w3.heap.size) := b3.size
      refine hK.out _ _ (Bw3) (fun _ => ?_)
      clear hK K
      try simp only [Act.put, List.setIfInBounds_toArray, List.set_cons_zero, List.set_cons_succ]
      refine wpAnyH_ready (rs := [3, 4]) (by kernel_rfl) (by simp) ?_
      refine (AllReadyH.cons (o := { dst := some 8, op := .alloc 48, type := _, pos := _, after := _, guard := none }) rfl (fun K hK => ?_) (AllReadyH.cons (o := { dst := some 9, op := .alloc 82, type := _, pos := _, after := _, guard := none }) rfl (fun K hK => ?_) AllReadyH.nil))
      · go_simp
        refine hK.out _ _ (Bw3.alloc _) (fun _ => ?_)
        clear hK K
        try simp only [Act.put, List.setIfInBounds_toArray, List.set_cons_zero, List.set_cons_succ]
        obtain ⟨V33, hV33⟩ : ∃ V, V = World.alloc w3 (.cells (vals Z).toArray 48) := ⟨_, rfl⟩
        have BV33 : Bel W2 V33 := hV33 ▸ Bw3.alloc _
        have HLV33 : Holds V33 (w3.heap.size) Z := hV33 ▸ holds_new w3 Z 48
        have esV33 : V33.heap.size = w3.heap.size + 1 := by rw [hV33, World.size_alloc]
        have ESV33 : Hid (V33.heap.size = w3.heap.size + 1) := esV33
        rw [← hV33]
        clear hV33 esV33
        refine wpAnyH_ready (rs := [4]) (by kernel_rfl) (by simp) ?_
        refine (AllReadyH.cons (o := { dst := some 9, op := .alloc 82, type := _, pos := _, after := _, guard := none }) rfl (fun K hK => ?_) AllReadyH.nil)
        · go_simp
          refine hK.out _ _ (BV33.alloc _) (fun _ => ?_)
          clear hK K
          try simp only [Act.put, List.setIfInBounds_toArray, List.set_cons_zero, List.set_cons_succ]
          obtain ⟨V433, hV433⟩ : ∃ V, V = World.alloc V33 (.cells #[.int .i64 0, .int .i64 0, .int .i64 0, .string ⟨#[]⟩, .int .i64 0] 82) := ⟨_, rfl⟩
          have BV433 : Bel W2 V433 := hV433 ▸ BV33.alloc _
          have HPV433 : V433.there (V33.heap.size) 0 5 := hV433 ▸ there_new rfl _ _ _ _ _ _
          have HLV433 : Holds V433 (w3.heap.size) Z := HLV33.bel (hV433 ▸ (Bel.refl _).alloc _ : Bel V33 V433)
          have esV433 : V433.heap.size = V33.heap.size + 1 := by rw [hV433, World.size_alloc]
          have ESV433 : Hid (V433.heap.size = V33.heap.size + 1) := esV433
          rw [← hV433]
          clear hV433 esV433
          refine wpAnyH_ready (rs := [5]) (by kernel_rfl) (by simp) ?_
          refine (AllReadyH.cons (o := { dst := none, op := .store 48 (.tmp 8) (.tmp 21), type := _, pos := _, after := _, guard := none }) rfl (fun K hK => ?_) AllReadyH.nil)
          rw [if_pos (by rfl)]
          refine wp_store_mid 48 _ _ rfl (w3.heap.size) 0 (vals M0).toArray rfl rfl (by rw [size_vals, ML.out]; exact HLV433.there 0 196 (by rw [Z6.out]; omega)) (by rw [size48, size_vals, ML.out]) (vals_one _) ?_
          have X5 : Exc (fun k => k = w3.heap.size) V433 (World.setCells V433 (w3.heap.size) 0 (vals M0)) := Exc.setCells (S := fun k => k = w3.heap.size) (B := w3.heap.size) (fun _ => rfl) _ 0 (Exc.refl _ _)
          have B5 : Bel W2 (World.setCells V433 (w3.heap.size) 0 (vals M0)) := Bel.setCells (by have := ESW.out; have := SZw3.out; have := ESV33.out; have := ESV433.out; omega) _ _ BV433
          have H5 : Holds (World.setCells V433 (w3.heap.size) 0 (vals M0)) (w3.heap.size) M0 := holds_all HLV433 M0 (Z6.out.trans ML.out.symm)
          have P5 : (World.setCells V433 (w3.heap.size) 0 (vals M0)).there (V33.heap.size) 0 5 := there_exc HPV433 X5 (by show ¬ (V33.heap.size = w3.heap.size); have := ESW.out; have := SZw3.out; have := ESV33.out; have := ESV433.out; omega)
          refine hK.out _ _ (B5) (fun _ => ?_)
          clear hK K
          try simp only [Act.put, List.setIfInBounds_toArray, List.set_cons_zero, List.set_cons_succ]
          try simp only [List.toList_toArray]
          generalize World.setCells V433 (w3.heap.size) 0 (vals M0) = V5 at *
          refine wpAnyH_ready (rs := [6]) (by kernel_rfl) (by simp) ?_
          refine (AllReadyH.cons (o := { dst := none, op := .store 82 (.tmp 9) (.tmp 23), type := _, pos := _, after := _, guard := none }) rfl (fun K hK => ?_) AllReadyH.nil)
          rw [if_pos (by rfl)]
          refine wp_store_mid 82 _ _ rfl (V33.heap.size) 0 #[.int .i64 0, .int .i64 4294967295, .int .i64 n0, .string t, .int .i64 4] rfl rfl P5 (by kernel_rfl) (by kernel_rfl) ?_
          have B6 : Bel W2 (V5.setCells (V33.heap.size) 0 [.int .i64 0, .int .i64 4294967295, .int .i64 n0, .string t, .int .i64 4]) := Bel.setCells (by have := ESW.out; have := SZw3.out; have := ESV33.out; have := ESV433.out; omega) _ _ B5
          refine hK.out _ _ (B6) (fun _ => ?_)
          clear hK K
          try simp only [Act.put, List.setIfInBounds_toArray, List.set_cons_zero, List.set_cons_succ]
          refine wpAnyH_done (by kernel_rfl) ?_ _
          go_wp2_with fail
          go_meet
          exact ⟨w3.heap.size, V33.heap.size, rfl, rfl, by have := ESW.out; have := SZw3.out; have := ESV33.out; have := ESV433.out; omega, by have := ESW.out; have := SZw3.out; have := ESV33.out; have := ESV433.out; omega, by have := ESW.out; have := SZw3.out; have := ESV33.out; have := ESV433.out; omega, M1.out ▸ Holds.others (by have := ESW.out; have := SZw3.out; have := ESV33.out; have := ESV433.out; omega) _ _ H5, take_laid n0 P5 NW.out, BW.out.trans B6⟩
      · go_simp
        refine hK.out _ _ (Bw3.alloc _) (fun _ => ?_)
        clear hK K
        try simp only [Act.put, List.setIfInBounds_toArray, List.set_cons_zero, List.set_cons_succ]
        obtain ⟨V43, hV43⟩ : ∃ V, V = World.alloc w3 (.cells #[.int .i64 0, .int .i64 0, .int .i64 0, .string ⟨#[]⟩, .int .i64 0] 82) := ⟨_, rfl⟩
        have BV43 : Bel W2 V43 := hV43 ▸ Bw3.alloc _
        have HPV43 : V43.there (w3.heap.size) 0 5 := hV43 ▸ there_new rfl _ _ _ _ _ _
        have esV43 : V43.heap.size = w3.heap.size + 1 := by rw [hV43, World.size_alloc]
        have ESV43 : Hid (V43.heap.size = w3.heap.size + 1) := esV43
        rw [← hV43]
        clear hV43 esV43
        refine wpAnyH_ready (rs := [3]) (by kernel_rfl) (by simp) ?_
        refine (AllReadyH.cons (o := { dst := some 8, op := .alloc 48, type := _, pos := _, after := _, guard := none }) rfl (fun K hK => ?_) AllReadyH.nil)
        · go_simp
          refine hK.out _ _ (BV43.alloc _) (fun _ => ?_)
          clear hK K
          try simp only [Act.put, List.setIfInBounds_toArray, List.set_cons_zero, List.set_cons_succ]
          obtain ⟨V343, hV343⟩ : ∃ V, V = World.alloc V43 (.cells (vals Z).toArray 48) := ⟨_, rfl⟩
          have BV343 : Bel W2 V343 := hV343 ▸ BV43.alloc _
          have HLV343 : Holds V343 (V43.heap.size) Z := hV343 ▸ holds_new V43 Z 48
          have HPV343 : V343.there (w3.heap.size) 0 5 := there_bel HPV43 (hV343 ▸ (Bel.refl _).alloc _ : Bel V43 V343)
          have esV343 : V343.heap.size = V43.heap.size + 1 := by rw [hV343, World.size_alloc]
          have ESV343 : Hid (V343.heap.size = V43.heap.size + 1) := esV343
          rw [← hV343]
          clear hV343 esV343
          refine wpAnyH_ready (rs := [5]) (by kernel_rfl) (by simp) ?_
          refine (AllReadyH.cons (o := { dst := none, op := .store 48 (.tmp 8) (.tmp 21), type := _, pos := _, after := _, guard := none }) rfl (fun K hK => ?_) AllReadyH.nil)
          rw [if_pos (by rfl)]
          refine wp_store_mid 48 _ _ rfl (V43.heap.size) 0 (vals M0).toArray rfl rfl (by rw [size_vals, ML.out]; exact HLV343.there 0 196 (by rw [Z6.out]; omega)) (by rw [size48, size_vals, ML.out]) (vals_one _) ?_
          have X5 : Exc (fun k => k = V43.heap.size) V343 (World.setCells V343 (V43.heap.size) 0 (vals M0)) := Exc.setCells (S := fun k => k = V43.heap.size) (B := V43.heap.size) (fun _ => rfl) _ 0 (Exc.refl _ _)
          have B5 : Bel W2 (World.setCells V343 (V43.heap.size) 0 (vals M0)) := Bel.setCells (by have := ESW.out; have := SZw3.out; have := ESV43.out; have := ESV343.out; omega) _ _ BV343
          have H5 : Holds (World.setCells V343 (V43.heap.size) 0 (vals M0)) (V43.heap.size) M0 := holds_all HLV343 M0 (Z6.out.trans ML.out.symm)
          have P5 : (World.setCells V343 (V43.heap.size) 0 (vals M0)).there (w3.heap.size) 0 5 := there_exc HPV343 X5 (by show ¬ (w3.heap.size = V43.heap.size); have := ESW.out; have := SZw3.out; have := ESV43.out; have := ESV343.out; omega)
          refine hK.out _ _ (B5) (fun _ => ?_)
          clear hK K
          try simp only [Act.put, List.setIfInBounds_toArray, List.set_cons_zero, List.set_cons_succ]
          try simp only [List.toList_toArray]
          generalize World.setCells V343 (V43.heap.size) 0 (vals M0) = V5 at *
          refine wpAnyH_ready (rs := [6]) (by kernel_rfl) (by simp) ?_
          refine (AllReadyH.cons (o := { dst := none, op := .store 82 (.tmp 9) (.tmp 23), type := _, pos := _, after := _, guard := none }) rfl (fun K hK => ?_) AllReadyH.nil)
          rw [if_pos (by rfl)]
          refine wp_store_mid 82 _ _ rfl (w3.heap.size) 0 #[.int .i64 0, .int .i64 4294967295, .int .i64 n0, .string t, .int .i64 4] rfl rfl P5 (by kernel_rfl) (by kernel_rfl) ?_
          have B6 : Bel W2 (V5.setCells (w3.heap.size) 0 [.int .i64 0, .int .i64 4294967295, .int .i64 n0, .string t, .int .i64 4]) := Bel.setCells (by have := ESW.out; have := SZw3.out; have := ESV43.out; have := ESV343.out; omega) _ _ B5
          refine hK.out _ _ (B6) (fun _ => ?_)
          clear hK K
          try simp only [Act.put, List.setIfInBounds_toArray, List.set_cons_zero, List.set_cons_succ]
          refine wpAnyH_done (by kernel_rfl) ?_ _
          go_wp2_with fail
          go_meet
          exact ⟨V43.heap.size, w3.heap.size, rfl, rfl, by have := ESW.out; have := SZw3.out; have := ESV43.out; have := ESV343.out; omega, by have := ESW.out; have := SZw3.out; have := ESV43.out; have := ESV343.out; omega, by have := ESW.out; have := SZw3.out; have := ESV43.out; have := ESV343.out; omega, M1.out ▸ Holds.others (by have := ESW.out; have := SZw3.out; have := ESV43.out; have := ESV343.out; omega) _ _ H5, take_laid n0 P5 NW.out, BW.out.trans B6⟩
    · go_simp
      refine hK.out _ _ (BV0.alloc _) (fun _ => ?_)
      clear hK K
      try simp only [Act.put, List.setIfInBounds_toArray, List.set_cons_zero, List.set_cons_succ]
      obtain ⟨V30, hV30⟩ : ∃ V, V = World.alloc V0 (.cells (vals Z).toArray 48) := ⟨_, rfl⟩
      have BV30 : Bel W2 V30 := hV30 ▸ BV0.alloc _
      have HLV30 : Holds V30 (V0.heap.size) Z := hV30 ▸ holds_new V0 Z 48
      have esV30 : V30.heap.size = V0.heap.size + 1 := by rw [hV30, World.size_alloc]
      have ESV30 : Hid (V30.heap.size = V0.heap.size + 1) := esV30
      rw [← hV30]
      clear hV30 esV30
      refine wpAnyH_ready (rs := [0, 4]) (by kernel_rfl) (by simp) ?_
      refine (AllReadyH.cons (o := { dst := some 21, op := .call { callee := .value (.func 16), args := #[], argTypes := #[] }, type := _, pos := _, after := _, guard := none }) rfl (fun K hK => ?_) (AllReadyH.cons (o := { dst := some 9, op := .alloc 82, type := _, pos := _, after := _, guard := none }) rfl (fun K hK => ?_) AllReadyH.nil))
      · go_simp
        refine (NQ.out _).mono ?_
        rintro e w3 ⟨rfl, b3⟩
        go_wp2_with fail
        have Bw3 : Bel W2 w3 := BV30.trans b3
        have HLw3 : Holds w3 (V0.heap.size) Z := HLV30.bel b3
        have SZw3 : Hid (V30.heap.size ≤ w3.heap.size) := b3.size
        refine hK.out _ _ (Bw3) (fun _ => ?_)
        clear hK K
        try simp only [Act.put, List.setIfInBounds_toArray, List.set_cons_zero, List.set_cons_succ]
        refine wpAnyH_ready (rs := [4]) (by kernel_rfl) (by simp) ?_
        refine (AllReadyH.cons (o := { dst := some 9, op := .alloc 82, type := _, pos := _, after := _, guard := none }) rfl (fun K hK => ?_) AllReadyH.nil)
        · go_simp
          refine hK.out _ _ (Bw3.alloc _) (fun _ => ?_)
          clear hK K
          try simp only [Act.put, List.setIfInBounds_toArray, List.set_cons_zero, List.set_cons_succ]
          obtain ⟨V43, hV43⟩ : ∃ V, V = World.alloc w3 (.cells #[.int .i64 0, .int .i64 0, .int .i64 0, .string ⟨#[]⟩, .int .i64 0] 82) := ⟨_, rfl⟩
          have BV43 : Bel W2 V43 := hV43 ▸ Bw3.alloc _
          have HPV43 : V43.there (w3.heap.size) 0 5 := hV43 ▸ there_new rfl _ _ _ _ _ _
          have HLV43 : Holds V43 (V0.heap.size) Z := HLw3.bel (hV43 ▸ (Bel.refl _).alloc _ : Bel w3 V43)
          have esV43 : V43.heap.size = w3.heap.size + 1 := by rw [hV43, World.size_alloc]
          have ESV43 : Hid (V43.heap.size = w3.heap.size + 1) := esV43
          rw [← hV43]
          clear hV43 esV43
          refine wpAnyH_ready (rs := [5]) (by kernel_rfl) (by simp) ?_
          refine (AllReadyH.cons (o := { dst := none, op := .store 48 (.tmp 8) (.tmp 21), type := _, pos := _, after := _, guard := none }) rfl (fun K hK => ?_) AllReadyH.nil)
          rw [if_pos (by rfl)]
          refine wp_store_mid 48 _ _ rfl (V0.heap.size) 0 (vals M0).toArray rfl rfl (by rw [size_vals, ML.out]; exact HLV43.there 0 196 (by rw [Z6.out]; omega)) (by rw [size48, size_vals, ML.out]) (vals_one _) ?_
          have X5 : Exc (fun k => k = V0.heap.size) V43 (World.setCells V43 (V0.heap.size) 0 (vals M0)) := Exc.setCells (S := fun k => k = V0.heap.size) (B := V0.heap.size) (fun _ => rfl) _ 0 (Exc.refl _ _)
          have B5 : Bel W2 (World.setCells V43 (V0.heap.size) 0 (vals M0)) := Bel.setCells (by have := ESW.out; have := ESV30.out; have := SZw3.out; have := ESV43.out; omega) _ _ BV43
          have H5 : Holds (World.setCells V43 (V0.heap.size) 0 (vals M0)) (V0.heap.size) M0 := holds_all HLV43 M0 (Z6.out.trans ML.out.symm)
          have P5 : (World.setCells V43 (V0.heap.size) 0 (vals M0)).there (w3.heap.size) 0 5 := there_exc HPV43 X5 (by show ¬ (w3.heap.size = V0.heap.size); have := ESW.out; have := ESV30.out; have := SZw3.out; have := ESV43.out; omega)
          refine hK.out _ _ (B5) (fun _ => ?_)
          clear hK K
          try simp only [Act.put, List.setIfInBounds_toArray, List.set_cons_zero, List.set_cons_succ]
          try simp only [List.toList_toArray]
          generalize World.setCells V43 (V0.heap.size) 0 (vals M0) = V5 at *
          refine wpAnyH_ready (rs := [6]) (by kernel_rfl) (by simp) ?_
          refine (AllReadyH.cons (o := { dst := none, op := .store 82 (.tmp 9) (.tmp 23), type := _, pos := _, after := _, guard := none }) rfl (fun K hK => ?_) AllReadyH.nil)
          rw [if_pos (by rfl)]
          refine wp_store_mid 82 _ _ rfl (w3.heap.size) 0 #[.int .i64 0, .int .i64 4294967295, .int .i64 n0, .string t, .int .i64 4] rfl rfl P5 (by kernel_rfl) (by kernel_rfl) ?_
          have B6 : Bel W2 (V5.setCells (w3.heap.size) 0 [.int .i64 0, .int .i64 4294967295, .int .i64 n0, .string t, .int .i64 4]) := Bel.setCells (by have := ESW.out; have := ESV30.out; have := SZw3.out; have := ESV43.out; omega) _ _ B5
          refine hK.out _ _ (B6) (fun _ => ?_)
          clear hK K
          try simp only [Act.put, List.setIfInBounds_toArray, List.set_cons_zero, List.set_cons_succ]
          refine wpAnyH_done (by kernel_rfl) ?_ _
          go_wp2_with fail
          go_meet
          exact ⟨V0.heap.size, w3.heap.size, rfl, rfl, by have := ESW.out; have := ESV30.out; have := SZw3.out; have := ESV43.out; omega, by have := ESW.out; have := ESV30.out; have := SZw3.out; have := ESV43.out; omega, by have := ESW.out; have := ESV30.out; have := SZw3.out; have := ESV43.out; omega, M1.out ▸ Holds.others (by have := ESW.out; have := ESV30.out; have := SZw3.out; have := ESV43.out; omega) _ _ H5, take_laid n0 P5 NW.out, BW.out.trans B6⟩
      · go_simp
        refine hK.out _ _ (BV30.alloc _) (fun _ => ?_)
        clear hK K
        try simp only [Act.put, List.setIfInBounds_toArray, List.set_cons_zero, List.set_cons_succ]
        obtain ⟨V430, hV430⟩ : ∃ V, V = World.alloc V30 (.cells #[.int .i64 0, .int .i64 0, .int .i64 0, .string ⟨#[]⟩, .int .i64 0] 82) := ⟨_, rfl⟩
        have BV430 : Bel W2 V430 := hV430 ▸ BV30.alloc _
        have HPV430 : V430.there (V30.heap.size) 0 5 := hV430 ▸ there_new rfl _ _ _ _ _ _
        have HLV430 : Holds V430 (V0.heap.size) Z := HLV30.bel (hV430 ▸ (Bel.refl _).alloc _ : Bel V30 V430)
        have esV430 : V430.heap.size = V30.heap.size + 1 := by rw [hV430, World.size_alloc]
        have ESV430 : Hid (V430.heap.size = V30.heap.size + 1) := esV430
        rw [← hV430]
        clear hV430 esV430
        refine wpAnyH_ready (rs := [0]) (by kernel_rfl) (by simp) ?_
        refine (AllReadyH.cons (o := { dst := some 21, op := .call { callee := .value (.func 16), args := #[], argTypes := #[] }, type := _, pos := _, after := _, guard := none }) rfl (fun K hK => ?_) AllReadyH.nil)
        · go_simp
          refine (NQ.out _).mono ?_
          rintro e w3 ⟨rfl, b3⟩
          go_wp2_with fail
          have Bw3 : Bel W2 w3 := BV430.trans b3
          have HLw3 : Holds w3 (V0.heap.size) Z := HLV430.bel b3
          have HPw3 : w3.there (V30.heap.size) 0 5 := there_bel HPV430 b3
          have SZw3 : Hid (V430.heap.size ≤ w3.heap.size) := b3.size
          refine hK.out _ _ (Bw3) (fun _ => ?_)
          clear hK K
          try simp only [Act.put, List.setIfInBounds_toArray, List.set_cons_zero, List.set_cons_succ]
          refine wpAnyH_ready (rs := [5]) (by kernel_rfl) (by simp) ?_
          refine (AllReadyH.cons (o := { dst := none, op := .store 48 (.tmp 8) (.tmp 21), type := _, pos := _, after := _, guard := none }) rfl (fun K hK => ?_) AllReadyH.nil)
          rw [if_pos (by rfl)]
          refine wp_store_mid 48 _ _ rfl (V0.heap.size) 0 (vals M0).toArray rfl rfl (by rw [size_vals, ML.out]; exact HLw3.there 0 196 (by rw [Z6.out]; omega)) (by rw [size48, size_vals, ML.out]) (vals_one _) ?_
          have X5 : Exc (fun k => k = V0.heap.size) w3 (World.setCells w3 (V0.heap.size) 0 (vals M0)) := Exc.setCells (S := fun k => k = V0.heap.size) (B := V0.heap.size) (fun _ => rfl) _ 0 (Exc.refl _ _)
          have B5 : Bel W2 (World.setCells w3 (V0.heap.size) 0 (vals M0)) := Bel.setCells (by have := ESW.out; have := ESV30.out; have := ESV430.out; have := SZw3.out; omega) _ _ Bw3
          have H5 : Holds (World.setCells w3 (V0.heap.size) 0 (vals M0)) (V0.heap.size) M0 := holds_all HLw3 M0 (Z6.out.trans ML.out.symm)
          have P5 : (World.setCells w3 (V0.heap.size) 0 (vals M0)).there (V30.heap.size) 0 5 := there_exc HPw3 X5 (by show ¬ (V30.heap.size = V0.heap.size); have := ESW.out; have := ESV30.out; have := ESV430.out; have := SZw3.out; omega)
          refine hK.out _ _ (B5) (fun _ => ?_)
          clear hK K
          try simp only [Act.put, List.setIfInBounds_toArray, List.set_cons_zero, List.set_cons_succ]
          try simp only [List.toList_toArray]
          generalize World.setCells w3 (V0.heap.size) 0 (vals M0) = V5 at *
          refine wpAnyH_ready (rs := [6]) (by kernel_rfl) (by simp) ?_
          refine (AllReadyH.cons (o := { dst := none, op := .store 82 (.tmp 9) (.tmp 23), type := _, pos := _, after := _, guard := none }) rfl (fun K hK => ?_) AllReadyH.nil)
          rw [if_pos (by rfl)]
          refine wp_store_mid 82 _ _ rfl (V30.heap.size) 0 #[.int .i64 0, .int .i64 4294967295, .int .i64 n0, .string t, .int .i64 4] rfl rfl P5 (by kernel_rfl) (by kernel_rfl) ?_
          have B6 : Bel W2 (V5.setCells (V30.heap.size) 0 [.int .i64 0, .int .i64 4294967295, .int .i64 n0, .string t, .int .i64 4]) := Bel.setCells (by have := ESW.out; have := ESV30.out; have := ESV430.out; have := SZw3.out; omega) _ _ B5
          refine hK.out _ _ (B6) (fun _ => ?_)
          clear hK K
          try simp only [Act.put, List.setIfInBounds_toArray, List.set_cons_zero, List.set_cons_succ]
          refine wpAnyH_done (by kernel_rfl) ?_ _
          go_wp2_with fail
          go_meet
          exact ⟨V0.heap.size, V30.heap.size, rfl, rfl, by have := ESW.out; have := ESV30.out; have := ESV430.out; have := SZw3.out; omega, by have := ESW.out; have := ESV30.out; have := ESV430.out; have := SZw3.out; omega, by have := ESW.out; have := ESV30.out; have := ESV430.out; have := SZw3.out; omega, M1.out ▸ Holds.others (by have := ESW.out; have := ESV30.out; have := ESV430.out; have := SZw3.out; omega) _ _ H5, take_laid n0 P5 NW.out, BW.out.trans B6⟩
    · go_simp
      refine hK.out _ _ (BV0.alloc _) (fun _ => ?_)
      clear hK K
      try simp only [Act.put, List.setIfInBounds_toArray, List.set_cons_zero, List.set_cons_succ]
      obtain ⟨V40, hV40⟩ : ∃ V, V = World.alloc V0 (.cells #[.int .i64 0, .int .i64 0, .int .i64 0, .string ⟨#[]⟩, .int .i64 0] 82) := ⟨_, rfl⟩
      have BV40 : Bel W2 V40 := hV40 ▸ BV0.alloc _
      have HPV40 : V40.there (V0.heap.size) 0 5 := hV40 ▸ there_new rfl _ _ _ _ _ _
      have esV40 : V40.heap.size = V0.heap.size + 1 := by rw [hV40, World.size_alloc]
      have ESV40 : Hid (V40.heap.size = V0.heap.size + 1) := esV40
      rw [← hV40]
      clear hV40 esV40
      refine wpAnyH_ready (rs := [0, 3]) (by kernel_rfl) (by simp) ?_
      refine (AllReadyH.cons (o := { dst := some 21, op := .call { callee := .value (.func 16), args := #[], argTypes := #[] }, type := _, pos := _, after := _, guard := none }) rfl (fun K hK => ?_) (AllReadyH.cons (o := { dst := some 8, op := .alloc 48, type := _, pos := _, after := _, guard := none }) rfl (fun K hK => ?_) AllReadyH.nil))
      · go_simp
        refine (NQ.out _).mono ?_
        rintro e w3 ⟨rfl, b3⟩
        go_wp2_with fail
        have Bw3 : Bel W2 w3 := BV40.trans b3
        have HPw3 : w3.there (V0.heap.size) 0 5 := there_bel HPV40 b3
        have SZw3 : Hid (V40.heap.size ≤ w3.heap.size) := b3.size
        refine hK.out _ _ (Bw3) (fun _ => ?_)
        clear hK K
        try simp only [Act.put, List.setIfInBounds_toArray, List.set_cons_zero, List.set_cons_succ]
        refine wpAnyH_ready (rs := [3]) (by kernel_rfl) (by simp) ?_
        refine (AllReadyH.cons (o := { dst := some 8, op := .alloc 48, type := _, pos := _, after := _, guard := none }) rfl (fun K hK => ?_) AllReadyH.nil)
        · go_simp
          refine hK.out _ _ (Bw3.alloc _) (fun _ => ?_)
          clear hK K
          try simp only [Act.put, List.setIfInBounds_toArray, List.set_cons_zero, List.set_cons_succ]
          obtain ⟨V33, hV33⟩ : ∃ V, V = World.alloc w3 (.cells (vals Z).toArray 48) := ⟨_, rfl⟩
          have BV33 : Bel W2 V33 := hV33 ▸ Bw3.alloc _
          have HLV33 : Holds V33 (w3.heap.size) Z := hV33 ▸ holds_new w3 Z 48
          have HPV33 : V33.there (V0.heap.size) 0 5 := there_bel HPw3 (hV33 ▸ (Bel.refl _).alloc _ : Bel w3 V33)
          have esV33 : V33.heap.size = w3.heap.size + 1 := by rw [hV33, World.size_alloc]
          have ESV33 : Hid (V33.heap.size = w3.heap.size + 1) := esV33
          rw [← hV33]
          clear hV33 esV33
          refine wpAnyH_ready (rs := [5]) (by kernel_rfl) (by simp) ?_
          refine (AllReadyH.cons (o := { dst := none, op := .store 48 (.tmp 8) (.tmp 21), type := _, pos := _, after := _, guard := none }) rfl (fun K hK => ?_) AllReadyH.nil)
          rw [if_pos (by rfl)]
          refine wp_store_mid 48 _ _ rfl (w3.heap.size) 0 (vals M0).toArray rfl rfl (by rw [size_vals, ML.out]; exact HLV33.there 0 196 (by rw [Z6.out]; omega)) (by rw [size48, size_vals, ML.out]) (vals_one _) ?_
          have X5 : Exc (fun k => k = w3.heap.size) V33 (World.setCells V33 (w3.heap.size) 0 (vals M0)) := Exc.setCells (S := fun k => k = w3.heap.size) (B := w3.heap.size) (fun _ => rfl) _ 0 (Exc.refl _ _)
          have B5 : Bel W2 (World.setCells V33 (w3.heap.size) 0 (vals M0)) := Bel.setCells (by have := ESW.out; have := ESV40.out; have := SZw3.out; have := ESV33.out; omega) _ _ BV33
          have H5 : Holds (World.setCells V33 (w3.heap.size) 0 (vals M0)) (w3.heap.size) M0 := holds_all HLV33 M0 (Z6.out.trans ML.out.symm)
          have P5 : (World.setCells V33 (w3.heap.size) 0 (vals M0)).there (V0.heap.size) 0 5 := there_exc HPV33 X5 (by show ¬ (V0.heap.size = w3.heap.size); have := ESW.out; have := ESV40.out; have := SZw3.out; have := ESV33.out; omega)
          refine hK.out _ _ (B5) (fun _ => ?_)
          clear hK K
          try simp only [Act.put, List.setIfInBounds_toArray, List.set_cons_zero, List.set_cons_succ]
          try simp only [List.toList_toArray]
          generalize World.setCells V33 (w3.heap.size) 0 (vals M0) = V5 at *
          refine wpAnyH_ready (rs := [6]) (by kernel_rfl) (by simp) ?_
          refine (AllReadyH.cons (o := { dst := none, op := .store 82 (.tmp 9) (.tmp 23), type := _, pos := _, after := _, guard := none }) rfl (fun K hK => ?_) AllReadyH.nil)
          rw [if_pos (by rfl)]
          refine wp_store_mid 82 _ _ rfl (V0.heap.size) 0 #[.int .i64 0, .int .i64 4294967295, .int .i64 n0, .string t, .int .i64 4] rfl rfl P5 (by kernel_rfl) (by kernel_rfl) ?_
          have B6 : Bel W2 (V5.setCells (V0.heap.size) 0 [.int .i64 0, .int .i64 4294967295, .int .i64 n0, .string t, .int .i64 4]) := Bel.setCells (by have := ESW.out; have := ESV40.out; have := SZw3.out; have := ESV33.out; omega) _ _ B5
          refine hK.out _ _ (B6) (fun _ => ?_)
          clear hK K
          try simp only [Act.put, List.setIfInBounds_toArray, List.set_cons_zero, List.set_cons_succ]
          refine wpAnyH_done (by kernel_rfl) ?_ _
          go_wp2_with fail
          go_meet
          exact ⟨w3.heap.size, V0.heap.size, rfl, rfl, by have := ESW.out; have := ESV40.out; have := SZw3.out; have := ESV33.out; omega, by have := ESW.out; have := ESV40.out; have := SZw3.out; have := ESV33.out; omega, by have := ESW.out; have := ESV40.out; have := SZw3.out; have := ESV33.out; omega, M1.out ▸ Holds.others (by have := ESW.out; have := ESV40.out; have := SZw3.out; have := ESV33.out; omega) _ _ H5, take_laid n0 P5 NW.out, BW.out.trans B6⟩
      · go_simp
        refine hK.out _ _ (BV40.alloc _) (fun _ => ?_)
        clear hK K
        try simp only [Act.put, List.setIfInBounds_toArray, List.set_cons_zero, List.set_cons_succ]
        obtain ⟨V340, hV340⟩ : ∃ V, V = World.alloc V40 (.cells (vals Z).toArray 48) := ⟨_, rfl⟩
        have BV340 : Bel W2 V340 := hV340 ▸ BV40.alloc _
        have HLV340 : Holds V340 (V40.heap.size) Z := hV340 ▸ holds_new V40 Z 48
        have HPV340 : V340.there (V0.heap.size) 0 5 := there_bel HPV40 (hV340 ▸ (Bel.refl _).alloc _ : Bel V40 V340)
        have esV340 : V340.heap.size = V40.heap.size + 1 := by rw [hV340, World.size_alloc]
        have ESV340 : Hid (V340.heap.size = V40.heap.size + 1) := esV340
        rw [← hV340]
        clear hV340 esV340
        refine wpAnyH_ready (rs := [0]) (by kernel_rfl) (by simp) ?_
        refine (AllReadyH.cons (o := { dst := some 21, op := .call { callee := .value (.func 16), args := #[], argTypes := #[] }, type := _, pos := _, after := _, guard := none }) rfl (fun K hK => ?_) AllReadyH.nil)
        · go_simp
          refine (NQ.out _).mono ?_
          rintro e w3 ⟨rfl, b3⟩
          go_wp2_with fail
          have Bw3 : Bel W2 w3 := BV340.trans b3
          have HLw3 : Holds w3 (V40.heap.size) Z := HLV340.bel b3
          have HPw3 : w3.there (V0.heap.size) 0 5 := there_bel HPV340 b3
          have SZw3 : Hid (V340.heap.size ≤ w3.heap.size) := b3.size
          refine hK.out _ _ (Bw3) (fun _ => ?_)
          clear hK K
          try simp only [Act.put, List.setIfInBounds_toArray, List.set_cons_zero, List.set_cons_succ]
          refine wpAnyH_ready (rs := [5]) (by kernel_rfl) (by simp) ?_
          refine (AllReadyH.cons (o := { dst := none, op := .store 48 (.tmp 8) (.tmp 21), type := _, pos := _, after := _, guard := none }) rfl (fun K hK => ?_) AllReadyH.nil)
          rw [if_pos (by rfl)]
          refine wp_store_mid 48 _ _ rfl (V40.heap.size) 0 (vals M0).toArray rfl rfl (by rw [size_vals, ML.out]; exact HLw3.there 0 196 (by rw [Z6.out]; omega)) (by rw [size48, size_vals, ML.out]) (vals_one _) ?_
          have X5 : Exc (fun k => k = V40.heap.size) w3 (World.setCells w3 (V40.heap.size) 0 (vals M0)) := Exc.setCells (S := fun k => k = V40.heap.size) (B := V40.heap.size) (fun _ => rfl) _ 0 (Exc.refl _ _)
          have B5 : Bel W2 (World.setCells w3 (V40.heap.size) 0 (vals M0)) := Bel.setCells (by have := ESW.out; have := ESV40.out; have := ESV340.out; have := SZw3.out; omega) _ _ Bw3
          have H5 : Holds (World.setCells w3 (V40.heap.size) 0 (vals M0)) (V40.heap.size) M0 := holds_all HLw3 M0 (Z6.out.trans ML.out.symm)
          have P5 : (World.setCells w3 (V40.heap.size) 0 (vals M0)).there (V0.heap.size) 0 5 := there_exc HPw3 X5 (by show ¬ (V0.heap.size = V40.heap.size); have := ESW.out; have := ESV40.out; have := ESV340.out; have := SZw3.out; omega)
          refine hK.out _ _ (B5) (fun _ => ?_)
          clear hK K
          try simp only [Act.put, List.setIfInBounds_toArray, List.set_cons_zero, List.set_cons_succ]
          try simp only [List.toList_toArray]
          generalize World.setCells w3 (V40.heap.size) 0 (vals M0) = V5 at *
          refine wpAnyH_ready (rs := [6]) (by kernel_rfl) (by simp) ?_
          refine (AllReadyH.cons (o := { dst := none, op := .store 82 (.tmp 9) (.tmp 23), type := _, pos := _, after := _, guard := none }) rfl (fun K hK => ?_) AllReadyH.nil)
          rw [if_pos (by rfl)]
          refine wp_store_mid 82 _ _ rfl (V0.heap.size) 0 #[.int .i64 0, .int .i64 4294967295, .int .i64 n0, .string t, .int .i64 4] rfl rfl P5 (by kernel_rfl) (by kernel_rfl) ?_
          have B6 : Bel W2 (V5.setCells (V0.heap.size) 0 [.int .i64 0, .int .i64 4294967295, .int .i64 n0, .string t, .int .i64 4]) := Bel.setCells (by have := ESW.out; have := ESV40.out; have := ESV340.out; have := SZw3.out; omega) _ _ B5
          refine hK.out _ _ (B6) (fun _ => ?_)
          clear hK K
          try simp only [Act.put, List.setIfInBounds_toArray, List.set_cons_zero, List.set_cons_succ]
          refine wpAnyH_done (by kernel_rfl) ?_ _
          go_wp2_with fail
          go_meet
          exact ⟨V40.heap.size, V0.heap.size, rfl, rfl, by have := ESW.out; have := ESV40.out; have := ESV340.out; have := SZw3.out; omega, by have := ESW.out; have := ESV40.out; have := ESV340.out; have := SZw3.out; omega, by have := ESW.out; have := ESV40.out; have := ESV340.out; have := SZw3.out; omega, M1.out ▸ Holds.others (by have := ESW.out; have := ESV40.out; have := ESV340.out; have := SZw3.out; omega) _ _ H5, take_laid n0 P5 NW.out, BW.out.trans B6⟩
  obtain ⟨Lb, P, rfl, rfl, l1, l2, l3, hL, hP, hB⟩ := hcut
  have IN : In t c0 := ⟨by have := (Coder.win_in t 0).1; exact this, by have := (Coder.win_in t 0).2; exact this, fun i hi => absurd hi (by simp [c0])⟩
  obtain ⟨i0, hz, hz0, hz1, hz2⟩ := info_parts Ints.info_int
  have PS : Hid (0 < w.heap.size ∧ w.heap.size ≤ Lb ∧ w.heap.size ≤ P ∧ Lb ≠ P) := ⟨tab_pos TT.out, l1, l2, l3⟩
  have C0 : Hid (Holds wc Lb (newM ++ [0]) ∧ TakeSt P t wc c0 ∧ Bel w wc ∧ In t c0) := ⟨hL, hP, hB, IN⟩
  have m1 : Hid (i0.bytes * m ≤ 281474976710656) := (by rw [hz2]; omega : i0.bytes * m ≤ 281474976710656)
  have m3 : Hid (m ≤ maxLen) := (by unfold maxLen; omega : m ≤ maxLen)
  clear l1 l2 l3 hL hP hB IN NQ d0 d1 d2 d3 d4 BW SW NW
  go_wp2_with (at_make; refine wpList_make_full _ rfl _ _ 22 rfl wc.heap.size 3 i0 (.int .i64 0) 1 Tryd.underlying22 hz hz0 hz1 .i64 .i64 _ _ m rfl rfl rfl rfl m1.out m3.out (Nat.le_refl _) ?_)
  intro w3 ho hg
  have b3 : Bel wc w3 := Below.grown (Bel.refl _) hg (Nat.le_refl _) (fun k hk => by cases hk)
  have hzr := holds_zeros (by simpa using ho)
  have gl : wc.heap.size < w3.heap.size := by
    rcases ho.2 with ⟨q, _⟩ | ⟨g, cap, cur, q, _, hg2, _⟩
    · cases q
    · injection q with q1; injection q1 with q2; injection q2 with q3; subst q3; exact (Array.getElem?_eq_some_iff.1 hg2).1
  have K0 : Hid (TakeInv Lb P wc.heap.size t m R 0 w w3 s0 []) := ⟨rfl, by rw [Nat.sub_zero, HR.out]; cases R <;> simp, s0_ok, C0.out.2.2.2, C0.out.1.bel b3, C0.out.2.1.keep (N := wc.heap.size) (Q := wc.heap.size) (block_lt_of_cell C0.out.2.1.c0) (by have := block_lt_of_cell C0.out.2.1.c0; simp only at this; omega) (fun k hk _ => b3.block k hk), by simpa using hzr, C0.out.2.2.1.trans b3, by
    have q1 := block_lt_of_cell (C0.out.1.cell 0 (by simp))
    have q2 := block_lt_of_cell C0.out.2.1.c0
    simp only at q1 q2
    omega⟩
  have GS : Hid (w.heap.size ≤ wc.heap.size ∧ Lb ≠ wc.heap.size ∧ P ≠ wc.heap.size) := by
    have q0 := C0.out.2.2.1.size
    have q1 := block_lt_of_cell (C0.out.1.cell 0 (by simp))
    have q2 := block_lt_of_cell C0.out.2.1.c0
    simp only at q1 q2
    exact ⟨q0, by omega, by omega⟩
  clear ho hg b3 hzr gl C0 m1
  generalize wc.heap.size = G at *
  go_wp2_with fail
  go_loopw [28] (fun i wr => ∃ (k : Nat) (s : Sta) (done : List Int), k ≤ m ∧ i = .int .i64 (k : Int) ∧ Hid (TakeInv Lb P G t m R k w wr s done)) (fun i _ => m - (intOf i).toNat)
  case atStart => exact ⟨0, s0, [], by omega, rfl, K0⟩
  case round =>
    obtain ⟨k, s, done, hk, rfl, K⟩ := hrel
    clear K0
    by_cases hlt : k < m
    · have hd2 : decide ((k : Int) < (m : Int)) = true := decide_eq_true (by omega)
      have AN := K.out.ans
      rw [show m - k = (m - k - 1) + 1 by omega, takes] at AN
      have NT : Hid (Calls Tryd.prog 20 #[.pointer (some ⟨Lb, 0, none⟩), .func (.func 37) #[.pointer (some ⟨P, 0, none⟩)] #[]] wr fun e w' =>
          Ends wr.heap.size Lb P (TakeSt P t) (fun c bs => Coder.Between c.l c.h ∧ In t c ∧ c.o.length ≤ 204 * k + 4 * bs.length) w' e (run (nxtT t) 65 s.1 s.2.2 s.2.1 []) ∧ Exc (fun k => k = Lb ∨ k = P) wr w') :=
        number_taken wr.heap.size Lb P t HT.out s k (by omega) K.out.ok K.out.inn wr rfl K.out.size.1 K.out.size.2.1 PS.out.2.2.2 (by have := PS.out; omega) (by have := PS.out; omega) (tab_bel TT.out K.out.bel) K.out.mem K.out.st
      cases hr : run (nxtT t) 65 s.1 s.2.2 s.2.1 [] with
      | none =>
        rw [hr] at NT AN
        have AA : Hid (R = none) := AN.symm
        have BX : Hid (Bel w wr) := K.out.bel
        clear AN K hr
        go_wp2_with fail
        refine NT.out.mono ?_
        rintro e w4 ⟨rfl, x4⟩
        have B4 : Hid (Bel w w4) := Exc.from x4 BX.out (fun i hi => by have := PS.out; omega)
        clear x4 NT
        go_wp2
        go_ret2
        refine ⟨?_, B4.out⟩
        rw [AA.out]
        rfl
      | some q =>
        obtain ⟨M, c, bs⟩ := q
        rw [hr] at NT AN
        simp only at AN
        clear hr
        go_wp2_with fail
        refine NT.out.mono ?_
        rintro e w4 ⟨⟨⟨ao, cap, rfl, hc1, hc2, hs, hao⟩, hm4, ht4, n4, y4, ⟨i1, i2, i3⟩, hw, h01, h64⟩, x4⟩
        clear NT
        have B4 : Hid (Bel w w4) := Exc.from x4 K.out.bel (fun i hi => by have := PS.out; omega)
        have NB : Hid (Calls Tryd.prog 38 #[.slice ao bs.length cap] w4 fun e w' => e = .returned (.tuple #[.int .i64 (Gam.numP bs).1, .int .i64 (Gam.numP bs).2]) ∧ w' = w4) := Gam.number_ok ao bs bs.length cap rfl hc1 hc2 w4 hs
        by_cases he : (Gam.numP bs).2 = 0
        · rw [if_pos he] at AN
          obtain ⟨v0, v1, v51⟩ := numP_fine he
          have FG : Hid (∀ w, Calls Tryd.prog 39 #[.int .i64 (Gam.numP bs).1] w fun e w' => e = .returned (.tuple #[.int .i64 (unfolded (Gam.numP bs).1), .int .i64 0]) ∧ w' = w) := fget_ok _ v0 v1
          rw [he] at NB
          have hrow := x4.holds K.out.row (by have := GS.out; omega)
          have cl : (done ++ List.replicate (m - k) 0).length = m := by rw [List.length_append, K.out.len, List.length_replicate]; omega
          have cg := hrow.cell k (by rw [cl]; exact hlt)
          have fg := hrow.free k (by rw [cl]; exact hlt)
          have K5 : Hid (∀ y, y = unfolded (Gam.numP bs).1 → TakeInv Lb P G t m R (k + 1) w (w4.setCell ⟨G, k, none⟩ (.int .i64 y)) (M, c, ((bs.length / 2 : Nat) : Int)) (done ++ [y])) := by
            rintro y rfl
            have sr := hrow.set k (by rw [cl]; exact hlt) (unfolded (Gam.numP bs).1)
            have es : (done ++ List.replicate (m - k) (0 : Int)).set k (unfolded (Gam.numP bs).1) = (done ++ [unfolded (Gam.numP bs).1]) ++ List.replicate (m - (k + 1)) 0 := by
              rw [List.set_append_right _ _ (by rw [K.out.len]; exact Nat.le_refl _), K.out.len, Nat.sub_self, show m - k = (m - (k + 1)) + 1 by omega, List.replicate_succ, List.set_cons_zero, List.append_assoc]
              rfl
            rw [es] at sr
            have xs : Exc (fun i => i = G) w4 (w4.setCell ⟨G, k, none⟩ (.int .i64 (unfolded (Gam.numP bs).1))) := (Exc.refl (fun i => i = G) w4).setCell (a := ⟨G, k, none⟩) (fun _ => rfl) _
            have sz : (w4.setCell ⟨G, k, none⟩ (.int .i64 (unfolded (Gam.numP bs).1))).heap.size = w4.heap.size := by simp [World.setCell]
            have s4 := x4.size
            have gs := GS.out
            have ks := K.out.size
            refine ⟨by rw [List.length_append, K.out.len]; rfl, ?_, ⟨n4, y4, i1, ?_, ?_, ?_⟩, i2, xs.holds hm4 (by omega), ht4.keep (N := w4.heap.size) (Q := G) (by omega) (by omega) (fun i hi hq => xs.block i hi hq), sr, B4.out.setCell (by show w.heap.size ≤ G; omega) _, by rw [sz]; omega⟩
            · rw [← AN, show m - (k + 1) = m - k - 1 by omega, Option.map_map]
              congr 1
              funext l
              simp
            · show c.o.length ≤ _
              omega
            · show (0 : Int) ≤ ((bs.length / 2 : Nat) : Int)
              omega
            · show ((bs.length / 2 : Nat) : Int) ≤ 63
              omega
          clear K AN hm4 ht4 n4 y4 i1 i2 i3 hw h01 h64 x4 hc1 hc2 hs hao v0 v1 v51 he hrow
          generalize (done ++ List.replicate (m - k) 0).getD k 0 = old at *
          generalize unfolded (Gam.numP bs).1 = y at *
          generalize (Gam.numP bs).1 = v at *
          generalize bs.length = nb at *
          go_wp2_with fail
          refine NB.out.mono ?_
          rintro e w5 ⟨rfl, rfl⟩
          clear NB
          go_wp2_with fail
          refine (FG.out _).mono ?_
          rintro e w6 ⟨rfl, rfl⟩
          clear FG
          go_wp2
          go_roundw
          case rel => exact ⟨k + 1, _, _, by omega, by go_num, K5.out y rfl⟩
          case measure => simp [intOf]; omega
        · rw [if_neg he] at AN
          rw [numP_err he] at NB
          have AA : Hid (R = none) := AN.symm
          clear AN K hm4 ht4 n4 y4 i1 i2 i3 hw h01 h64 x4 he hc1 hc2 hs hao
          generalize bs.length = nb at *
          go_wp2_with fail
          refine NB.out.mono ?_
          rintro e w5 ⟨rfl, rfl⟩
          clear NB
          go_wp2
          go_ret2
          refine ⟨?_, B4.out⟩
          rw [AA.out]
          rfl
    · obtain rfl : k = m := by omega
      have hd2 : decide ((k : Int) < (k : Int)) = false := decide_eq_false (by omega)
      have AN := K.out.ans
      rw [Nat.sub_self, takes] at AN
      have rw0 := K.out.row
      rw [Nat.sub_self, List.replicate_zero, List.append_nil] at rw0
      have AA : Hid (R = some done ∧ Holds wr G done ∧ Bel w wr) := ⟨by rw [← AN]; simp, rw0, K.out.bel⟩
      clear AN K rw0
      go_wp2
      go_ret2
      refine ⟨?_, AA.out.2.2⟩
      rw [AA.out.1]
      exact ⟨G, rfl, GS.out.1, AA.out.2.1⟩

end Go.Proofs.YtocnlefpbcnlmaaDoor.Res

namespace Go.Proofs.YtocnlefpbcnlmaaDoor.Res
open Go.RowKit Go.Sort Go.Proofs.YtocnlefpbcnlmaaDoor.Mod Go.Proofs.YtocnlefpbcnlmaaDoor.Ints
set_option linter.unusedVariables false
set_option linter.unusedSimpArgs false

theorem str_ne {s t : ByteArray} (h : ¬ s = t) : (s.toList == t.toList) = false := by
  refine Bool.eq_false_iff.2 fun e => h ?_
  have := eq_of_beq e
  rw [ByteArray.toList_eq, ByteArray.toList_eq] at this
  exact ByteArray.ext (Array.toList_inj.1 this)

theorem takes_fits (t : ByteArray) : ∀ (m : Nat) (s : Sta) (rs : List Int), takes t m s = some rs → rs.length = m ∧ AllFit rs
  | 0, s, rs, h => by
    rw [takes] at h
    obtain rfl := Option.some.inj h
    exact ⟨rfl, fun k hk => absurd hk (by simp)⟩
  | m + 1, s, rs, h => by
    rw [takes] at h
    split at h
    · cases h
    · rename_i L c bs _
      by_cases he : (Gam.numP bs).2 = 0
      · rw [if_pos he] at h
        obtain ⟨xs, hx, rfl⟩ := Option.map_eq_some_iff.1 h
        obtain ⟨i1, i2⟩ := takes_fits t m _ xs hx
        refine ⟨by simp [i1], fun k hk => ?_⟩
        match k with
        | 0 => exact unfolded_fits (numP_fine he).1 (numP_fine he).2.1
        | k + 1 => simpa using i2 k (by simpa using hk)
      · rw [if_neg he] at h
        cases h

/-- What Get finds. -/
def getP (t : ByteArray) (many : Int) : Option (List Int) :=
  if 0 ≤ many ∧ many ≤ 256 ∧ t.size ≤ 65536 then
    match takes t many.toNat s0 with
    | some rs => if told rs = t then some rs else none
    | none => none
  else none

/-- What Get answers. -/
def Got (w w' : World) (e : Ending) : Option (List Int) → Prop
  | none => e = .returned (.tuple #[.slice none 0 0, .int .i64 1300])
  | some rs => ∃ g, e = .returned (.tuple #[.slice (some ⟨g, 0, none⟩) rs.length rs.length, .int .i64 0]) ∧ w.heap.size ≤ g ∧ Holds w' g rs

theorem getP_bad {t : ByteArray} {many : Int} (h : ¬ (0 ≤ many ∧ many ≤ 256 ∧ t.size ≤ 65536)) : getP t many = none := if_neg h
theorem getP_none {t : ByteArray} {m : Nat} (h : takes t m s0 = none) : getP t (m : Int) = none := by
  unfold getP
  split
  · rw [Int.toNat_natCast, h]
  · rfl
theorem getP_yes {t : ByteArray} {m : Nat} {rs : List Int} (hm : m ≤ 256) (ht : t.size ≤ 65536) (h : takes t m s0 = some rs) (he : told rs = t) : getP t (m : Int) = some rs := by
  unfold getP
  rw [if_pos ⟨by omega, by omega, ht⟩, Int.toNat_natCast, h]
  simp [he]
theorem getP_not {t : ByteArray} {m : Nat} {rs : List Int} (h : takes t m s0 = some rs) (he : ¬ told rs = t) : getP t (m : Int) = none := by
  unfold getP
  split
  · rw [Int.toNat_natCast, h]
    simp [he]
  · rfl

theorem get_bad (t : ByteArray) (hs : t.size ≤ maxLen) (many : Int) (h : ¬ (0 ≤ many ∧ many ≤ 256 ∧ t.size ≤ 65536)) (w : World) :
    Calls Tryd.prog 10 #[.string t, .int .i64 many] w fun e w' => e = .returned (.tuple #[.slice none 0 0, .int .i64 1300]) ∧ w' = w := by
  unfold maxLen at hs
  by_cases h1 : many < 0
  · clear h hs
    have hd : decide (many < 0) = true := decide_eq_true h1
    go_enter Tryd.func10, Tryd.ntmps10
    go_wp2
    go_ret2
    exact ⟨rfl, rfl⟩
  · have hd : decide (many < 0) = false := decide_eq_false h1
    by_cases h2 : 256 < many
    · have hd2 : decide (256 < many) = true := decide_eq_true h2
      clear h hs h1
      go_enter Tryd.func10, Tryd.ntmps10
      go_wp2
      go_ret2
      exact ⟨rfl, rfl⟩
    · have hd2 : decide (256 < many) = false := decide_eq_false h2
      have hd3 : decide (65536 < (t.size : Int)) = true := decide_eq_true (by omega)
      clear h h1 h2
      go_enter Tryd.func10, Tryd.ntmps10
      go_wp2
      go_ret2
      exact ⟨rfl, rfl⟩

set_option maxHeartbeats 1000000 in
theorem get_fine (t : ByteArray) (m : Nat) (hm : m ≤ 256) (ht : t.size ≤ 65536) (w : World) (T : Str.Tab w) :
    Calls Tryd.prog 10 #[.string t, .int .i64 (m : Int)] w fun e w' => Got w w' e (getP t (m : Int)) ∧ Bel w w' := by
  have TT : Hid (Str.Tab w) := T
  have TK : Hid (Calls Tryd.prog 23 #[.string t, .int .i64 (m : Int)] w fun e w' => Found m w w' e (takes t m s0) ∧ Bel w w') := taken_ok t m hm ht _ rfl w T
  have hd : decide ((m : Int) < 0) = false := decide_eq_false (by omega)
  have hd2 : decide (256 < (m : Int)) = false := decide_eq_false (by omega)
  have hd3 : decide (65536 < (t.size : Int)) = false := decide_eq_false (by omega)
  cases ht2 : takes t m s0 with
  | none =>
    rw [ht2] at TK
    have GP : Hid (getP t (m : Int) = none) := getP_none ht2
    clear ht2 T ht hm
    go_enter Tryd.func10, Tryd.ntmps10
    go_wp2_with fail
    refine TK.out.mono ?_
    rintro e w1 ⟨rfl, b1⟩
    clear TK
    go_wp2
    go_ret2
    refine ⟨?_, b1⟩
    rw [GP.out]
    rfl
  | some rs =>
    rw [ht2] at TK
    obtain ⟨rl, rf⟩ := takes_fits t m s0 rs ht2
    have PY : Hid (∀ (g : Nat) w, Str.Tab w → Holds w g rs → Calls Tryd.prog 8 #[.slice (some ⟨g, 0, none⟩) m m] w fun e w' => e = .returned (.tuple #[.string (told rs), .int .i64 0]) ∧ Bel w w') := fun g w T h => put_yes _ rs m m rl.symm hm rf w T h.slc
    by_cases he : told rs = t
    · have GP : Hid (getP t (m : Int) = some rs ∧ rs.length = m) := ⟨getP_yes hm ht ht2 he, rl⟩
      rw [he] at PY
      clear ht2 T ht hm rl rf he
      go_enter Tryd.func10, Tryd.ntmps10
      go_wp2_with fail
      refine TK.out.mono ?_
      rintro e w1 ⟨⟨g, rfl, hg, hh⟩, b1⟩
      clear TK
      have G1 : Hid (w.heap.size ≤ g ∧ Holds w1 g rs ∧ Bel w w1) := ⟨hg, hh, b1⟩
      clear hg hh b1
      go_wp2_with fail
      refine (PY.out g _ (tab_bel TT.out G1.out.2.2) G1.out.2.1).mono ?_
      rintro e w2 ⟨rfl, b2⟩
      clear PY
      have B2 : Hid (Bel w1 w2) := b2
      clear b2
      go_wp2
      go_ret2
      refine ⟨?_, G1.out.2.2.trans B2.out⟩
      rw [GP.out.1]
      refine ⟨g, ?_, G1.out.1, G1.out.2.1.bel B2.out⟩
      rw [GP.out.2]
      rfl
    · have GP : Hid (getP t (m : Int) = none) := getP_not ht2 he
      have hne : ((told rs).toList == t.toList) = false := str_ne he
      generalize told rs = s at *
      clear ht2 T ht hm rl rf he
      go_enter Tryd.func10, Tryd.ntmps10
      go_wp2_with fail
      refine TK.out.mono ?_
      rintro e w1 ⟨⟨g, rfl, hg, hh⟩, b1⟩
      clear TK
      have G1 : Hid (w.heap.size ≤ g ∧ Holds w1 g rs ∧ Bel w w1) := ⟨hg, hh, b1⟩
      clear hg hh b1
      go_wp2_with fail
      refine (PY.out g _ (tab_bel TT.out G1.out.2.2) G1.out.2.1).mono ?_
      rintro e w2 ⟨rfl, b2⟩
      clear PY
      have B2 : Hid (Bel w1 w2) := b2
      clear b2
      go_wp2
      go_ret2
      refine ⟨?_, G1.out.2.2.trans B2.out⟩
      rw [GP.out]
      rfl

/-- Get, of any text and number. -/
theorem get_ok (t : ByteArray) (hs : t.size ≤ maxLen) (many : Int) (w : World) (T : Str.Tab w) :
    Calls Tryd.prog 10 #[.string t, .int .i64 many] w fun e w' => Got w w' e (getP t many) ∧ Bel w w' := by
  by_cases h : 0 ≤ many ∧ many ≤ 256 ∧ t.size ≤ 65536
  · obtain ⟨m, rfl⟩ := Int.eq_ofNat_of_zero_le h.1
    exact get_fine t m (by omega) h.2.2 w T
  · rw [getP_bad h]
    exact (get_bad t hs many h w).mono fun _ _ k => ⟨k.1, k.2 ▸ Bel.refl _⟩

end Go.Proofs.YtocnlefpbcnlmaaDoor.Res

namespace Go.Proofs.YtocnlefpbcnlmaaDoor.Res
open Go.RowKit
set_option linter.unusedVariables false

/-- Behind a text's end, at the least that is left: what is settled leaves the least again. -/
theorem settle_low (t : ByteArray) : ∀ (n : Nat) (u v : Int) (a : Nat), Coder.win t a = u → (∀ j, a + 4 ≤ j → Coder.bz t j = 0) →
    Coder.win t (a + (Coder.settle n u v).1.length) = (Coder.settle n u v).2.1 := by
  intro n
  induction n with
  | zero => intro u v a h hz; exact h
  | succ n ihn =>
    intro u v a h hz
    rw [Coder.settle]
    split
    · have hn := Coder.win_next t a
      rw [hz (a + 4) (Nat.le_refl _), h, Int.add_zero] at hn
      have ih := ihn (u * 256 % 4294967296) (v * 256 % 4294967296 + 255) (a + 1) hn.symm (fun j hj => hz j (by omega))
      simp only [List.length_cons]
      rw [show a + ((Coder.settle n (u * 256 % 4294967296) (v * 256 % 4294967296 + 255)).1.length + 1) = a + 1 + (Coder.settle n (u * 256 % 4294967296) (v * 256 % 4294967296 + 255)).1.length by omega]
      exact ih
    · exact h

/-- At the least that is left, and behind a text's end. -/
def Least (t : ByteArray) (c : Cod) : Prop := Coder.win t c.o.length = c.l ∧ ∀ j, c.o.length + 4 ≤ j → Coder.bz t j = 0

theorem least_bit {t : ByteArray} {c : Cod} (hb : Coder.Between c.l c.h) {p : Int} (hp : 1 ≤ p ∧ p ≤ 4095) (h : Least t c) : bitT t c p = 1 ∧ Least t (codS c 1 p) := by
  have n := Coder.narrow_in hb 1 p hp.1 hp.2
  have e1 : (Coder.narrow c.l c.h 1 p).1 = c.l := by unfold Coder.narrow; rw [if_pos rfl]
  have e2 : (Coder.narrow c.l c.h 1 p).2 = Coder.mid c.l c.h p := by unfold Coder.narrow; rw [if_pos rfl]
  refine ⟨?_, ?_, fun j hj => h.2 j ?_⟩
  · unfold bitT Coder.bitOf
    rw [h.1, if_pos (by omega)]
  · have := settle_low t 5 (Coder.narrow c.l c.h 1 p).1 (Coder.narrow c.l c.h 1 p).2 c.o.length (h.1.trans e1.symm) h.2
    unfold codS
    rw [List.length_append]
    exact this
  · unfold codS at hj
    rw [List.length_append] at hj
    omega

theorem whole_ones (k : Nat) : whole (List.replicate k 1) = false := by
  have e : Gam.ones (List.replicate k 1) = k := Gam.ones_is _ k (by simp) (fun i hi => by simp [List.getD_eq_getElem?_getD, hi]) (.inl (by simp))
  unfold whole Ctx.has0
  rw [e, List.length_replicate, decide_eq_false (by omega)]
  rfl

theorem run_least {t : ByteArray} : ∀ (n k : Nat) (L : List Int) (c : Cod) (b : Int), Coder.Between c.l c.h → Least t c → run (nxtT t) n L b c (List.replicate k 1) = none := by
  intro n
  induction n with
  | zero => intro k L c b hb h; rfl
  | succ n ihn =>
    intro k L c b hb h
    rw [run, whole_ones, if_neg (by simp)]
    split
    · rfl
    · have q := least_bit hb (pOf_in L b (List.replicate k 1)) h
      have e : nxtT t c (pOf L b (List.replicate k 1)) = (1, codS c 1 (pOf L b (List.replicate k 1))) := by unfold nxtT; rw [q.1]
      rw [e]
      simp only
      rw [show List.replicate k (1 : Int) ++ [1] = List.replicate (k + 1) 1 by rw [List.replicate_succ']]
      exact ihn (k + 1) _ _ b (codS_ok hb 1 (pOf_in L b (List.replicate k 1))).1 q.2

theorem puts_app (s : Sta) (rs xs : List Int) : puts s (rs ++ xs) = puts (puts s rs) xs := List.foldl_append

/-- A text's first numbers. -/
theorem takes_front {t : ByteArray} : ∀ (rs : List Int) (s : Sta) (k m : Nat), Ok s k → (∀ x ∈ rs, Fits x) → In t (puts s rs).2.1 → takes t (rs.length + m) s = (takes t m (puts s rs)).map (rs ++ ·)
  | [], s, k, m, h, hr, hi => by
    rw [List.length_nil, Nat.zero_add]
    show _ = Option.map (fun x => x) (takes t m s)
    simp
  | x :: r, s, k, m, h, hr, hi => by
    have hx := hr x (by simp)
    obtain ⟨o1, _⟩ := numS_ok h hx
    have hi' := in_puts r (numS s x) (k + 1) o1 (fun y hy => hr y (by simp [hy])) hi
    have ih := takes_front r (numS s x) (k + 1) m o1 (fun y hy => hr y (by simp [hy])) hi
    have rt := run_take (folded_le hx) (Gam.bitsOf (folded x)) [] s.1 s.2.1 s.2.2 64 rfl (by simp) h.bet hi'
    rw [List.length_cons, show r.length + 1 + m = (r.length + m) + 1 by omega, takes, rt]
    simp only [Gam.numP_bits _ (folded_le hx), if_true, Gam.bitsOf_half]
    rw [show (((codeBits s.1 s.2.1 s.2.2 [] (Gam.bitsOf (folded x))).1, (codeBits s.1 s.2.1 s.2.2 [] (Gam.bitsOf (folded x))).2, ((Gam.many (folded x) : Nat) : Int)) : Sta) = numS s x from rfl, ih, unfolded_folded hx]
    rw [Option.map_map]
    rfl

theorem told_least {rs : List Int} (hr : ∀ x ∈ rs, Fits x) : Least (told rs) (puts s0 rs).2.1 := by
  obtain ⟨o, _⟩ := puts_ok rs s0 0 s0_ok hr
  obtain ⟨b0, b1, b2⟩ := o.bet
  refine ⟨Deco.win_four _ _ b0 (by omega), fun j hj => Coder.bz_out _ _ ?_⟩
  rw [told_size]
  exact hj

/-- No text is told of more numbers, too. -/
theorem takes_more {rs : List Int} (hr : ∀ x ∈ rs, Fits x) (m : Nat) : takes (told rs) (rs.length + (m + 1)) s0 = none := by
  have hi := in_told hr ⟨#[]⟩
  rw [app_nil] at hi
  obtain ⟨o, _⟩ := puts_ok rs s0 0 s0_ok hr
  rw [takes_front rs s0 0 (m + 1) s0_ok hr hi, takes]
  rw [show ([] : List Int) = List.replicate 0 1 from rfl, run_least 65 0 _ _ _ o.bet (told_least hr)]
  rfl

theorem told_front {rs xs : List Int} (hr : ∀ x ∈ rs ++ xs, Fits x) (hx : xs ≠ []) : told rs ≠ told (rs ++ xs) := fun e => by
  have h1 := told_takes hr
  obtain ⟨y, ys, rfl⟩ := List.exists_cons_of_ne_nil hx
  have h2 := takes_more (rs := rs) (fun x hx => hr x (by simp [hx])) ys.length
  rw [← e, List.length_append, List.length_cons, h2] at h1
  cases h1

/-- A text's first numbers, fewer than it tells. -/
theorem takes_fewer {rs xs : List Int} (hr : ∀ x ∈ rs ++ xs, Fits x) : takes (told (rs ++ xs)) rs.length s0 = some rs := by
  have hi := in_told hr ⟨#[]⟩
  rw [app_nil, puts_app] at hi
  have hf : ∀ x ∈ rs, Fits x := fun x hx => hr x (by simp [hx])
  obtain ⟨o, _⟩ := puts_ok rs s0 0 s0_ok hf
  exact takes_back rs s0 0 s0_ok hf (in_puts xs (puts s0 rs) _ o (fun x hx => hr x (by simp [hx])) hi)

theorem told_bound {rs : List Int} (hr : ∀ x ∈ rs, Fits x) : 4 ≤ (told rs).size ∧ (told rs).size ≤ 204 * rs.length + 4 := by
  obtain ⟨o, _⟩ := puts_ok rs s0 0 s0_ok hr
  have := o.out
  rw [told_size]
  omega

end Go.Proofs.YtocnlefpbcnlmaaDoor.Res

namespace Go.Proofs.YtocnlefpbcnlmaaDoor.Res
open Go.RowKit Go.Sort Go.Proofs.YtocnlefpbcnlmaaDoor.Mod Go.Proofs.YtocnlefpbcnlmaaDoor.Ints
set_option linter.unusedVariables false
set_option linter.unusedSimpArgs false

theorem fits_of {rs : List Int} (h : AllFit rs) : ∀ x ∈ rs, Fits x := fun x hx => by
  have := take_fits h rs.length
  rw [List.take_of_length_le (Nat.le_refl _)] at this
  exact this x hx
theorem all_of {rs : List Int} (h : ∀ x ∈ rs, Fits x) : AllFit rs := fun k hk => by
  rw [List.getD_eq_getElem?_getD, List.getElem?_eq_getElem hk]
  exact h _ (List.getElem_mem hk)

/-- What is told comes back. -/
theorem getP_told {rs : List Int} (hr : ∀ x ∈ rs, Fits x) (hl : rs.length ≤ 256) : getP (told rs) (rs.length : Nat) = some rs :=
  getP_yes hl (by have := told_bound hr; omega) (told_takes hr) rfl
/-- Nothing comes back of what is longer. -/
theorem getP_longer {rs : List Int} (hr : ∀ x ∈ rs, Fits x) (e : ByteArray) (he : 0 < e.size) : getP (told rs ++ e) (rs.length : Nat) = none :=
  getP_not (takes_told hr e) (fun h => by have := congrArg ByteArray.size h; rw [ByteArray.size_append] at this; omega)
/-- Nor of fewer. -/
theorem getP_fewer {rs xs : List Int} (hr : ∀ x ∈ rs ++ xs, Fits x) (hx : xs ≠ []) : getP (told (rs ++ xs)) (rs.length : Nat) = none :=
  getP_not (takes_fewer hr) (told_front hr hx)

def rowA : List Int := [0, -1, 5, 1000, 0]
theorem rowA_fits : ∀ x ∈ rowA, Fits x := by
  intro x hx
  simp only [rowA, List.mem_cons, List.not_mem_nil, or_false] at hx
  unfold Fits
  omega

set_option maxRecDepth 20000 in
set_option maxHeartbeats 2000000 in
theorem awake_ok (w : World) (T : Str.Tab w) : Calls Tryd.prog 7 #[] w fun e w' => e = .returned (.bool true) ∧ Bel w w' := by
  have TT : Hid (Str.Tab w) := T
  have sz := told_bound rowA_fits
  rw [show 204 * rowA.length + 4 = 1024 from rfl] at sz
  have PY : Hid (∀ w ao, Str.Tab w → Slc w ao rowA → Calls Tryd.prog 8 #[.slice ao 5 5] w fun e w' => e = .returned (.tuple #[.string (told rowA), .int .i64 0]) ∧ Bel w w') := fun w ao T h => put_yes ao rowA 5 5 rfl (by decide) (all_of rowA_fits) w T h
  have PN : Hid (∀ w ao, Slc w ao [16777217] → Calls Tryd.prog 8 #[.slice ao 1 1] w fun e w' => e = .returned (.tuple #[.string ⟨#[]⟩, .int .i64 1300]) ∧ w' = w) := fun w ao h => put_no ao [16777217] 1 1 rfl (by decide) (fun h => by have := h.2 0 (by decide); unfold Fits at this; simp at this) w h
  have G1 : Hid (∀ w, Str.Tab w → Calls Tryd.prog 10 #[.string (told rowA), .int .i64 5] w fun e w' => (∃ g, e = .returned (.tuple #[.slice (some ⟨g, 0, none⟩) 5 5, .int .i64 0]) ∧ w.heap.size ≤ g ∧ Holds w' g rowA) ∧ Bel w w') := fun w T => by
    have := get_ok (told rowA) (by unfold maxLen; omega) 5 w T
    rwa [show getP (told rowA) 5 = some rowA from getP_told rowA_fits (by decide)] at this
  have G2 : Hid (∀ w, Str.Tab w → Calls Tryd.prog 10 #[.string (told rowA ++ ⟨#[120]⟩), .int .i64 5] w fun e w' => e = .returned (.tuple #[.slice none 0 0, .int .i64 1300]) ∧ Bel w w') := fun w T => by
    have := get_ok (told rowA ++ ⟨#[120]⟩) (by rw [ByteArray.size_append, show ByteArray.size ⟨#[120]⟩ = 1 from rfl]; unfold maxLen; omega) 5 w T
    rwa [show getP (told rowA ++ ⟨#[120]⟩) 5 = none from getP_longer rowA_fits ⟨#[120]⟩ (by decide)] at this
  have G3 : Hid (∀ w, Str.Tab w → Calls Tryd.prog 10 #[.string (told rowA), .int .i64 4] w fun e w' => e = .returned (.tuple #[.slice none 0 0, .int .i64 1300]) ∧ Bel w w') := fun w T => by
    have := get_ok (told rowA) (by unfold maxLen; omega) 4 w T
    rwa [show getP (told rowA) 4 = none from getP_fewer (rs := [0, -1, 5, 1000]) (xs := [0]) rowA_fits (by simp)] at this
  have H0 : Hid (Holds (w.alloc (.cells #[.int .i64 0, .int .i64 (-1), .int .i64 5, .int .i64 1000, .int .i64 0] 3)) w.heap.size rowA) := holds_new w rowA 3
  have B0 : Hid (Bel w (w.alloc (.cells #[.int .i64 0, .int .i64 (-1), .int .i64 5, .int .i64 1000, .int .i64 0] 3))) := (Bel.refl w).alloc _
  generalize told rowA = s at *
  have hs0 : s.size ≤ 1024 := sz.2
  clear sz T
  go_enter Tryd.func7, Tryd.ntmps7
  go_wp2_with fail
  generalize w.alloc (.cells #[.int .i64 0, .int .i64 (-1), .int .i64 5, .int .i64 1000, .int .i64 0] 3) = W0 at *
  generalize w.heap.size = A0 at *
  refine (PY.out _ _ (tab_bel TT.out B0.out) H0.out.slc).mono ?_
  rintro e w1 ⟨rfl, b1⟩
  have B1 : Hid (Bel w w1) := B0.out.trans b1
  have H1 : Hid (Holds w1 A0 rowA) := H0.out.bel b1
  clear b1 B0 H0 PY
  go_wp2_with fail
  refine (G1.out _ (tab_bel TT.out B1.out)).mono ?_
  rintro e w2 ⟨⟨g, rfl, hg, hh⟩, b2⟩
  have B2 : Hid (Bel w w2) := B1.out.trans b2
  have H2 : Hid (Holds w2 A0 rowA ∧ Holds w2 g rowA) := ⟨H1.out.bel b2, hh⟩
  clear b2 B1 H1 G1 hg hh
  go_wp2_with fail
  have H3 : Hid (Holds (w2.alloc (.cells #[.int .i64 16777217] 3)) w2.heap.size [16777217]) := holds_new w2 [16777217] 3
  have B3 : Hid (Bel w (w2.alloc (.cells #[.int .i64 16777217] 3)) ∧ Bel w2 (w2.alloc (.cells #[.int .i64 16777217] 3))) := ⟨B2.out.alloc _, (Bel.refl _).alloc _⟩
  generalize w2.alloc (.cells #[.int .i64 16777217] 3) = W3 at *
  generalize w2.heap.size = A3 at *
  refine (PN.out _ _ H3.out.slc).mono ?_
  rintro e w3 ⟨rfl, rfl⟩
  have H4 : Hid (Holds w3 A0 rowA ∧ Holds w3 g rowA) := ⟨H2.out.1.bel B3.out.2, H2.out.2.bel B3.out.2⟩
  have B4 : Hid (Bel w w3) := B3.out.1
  clear H3 B3 B2 H2 PN
  go_wp2_with fail
  refine (G2.out _ (tab_bel TT.out B4.out)).mono ?_
  rintro e w4 ⟨rfl, b4⟩
  have H5 : Hid (Holds w4 A0 rowA ∧ Holds w4 g rowA) := ⟨H4.out.1.bel b4, H4.out.2.bel b4⟩
  have B5 : Hid (Bel w w4) := B4.out.trans b4
  clear b4 H4 B4 G2
  go_wp2_with fail
  refine (G3.out _ (tab_bel TT.out B5.out)).mono ?_
  rintro e w5 ⟨rfl, b5⟩
  have H6 : Hid (Holds w5 A0 rowA ∧ Holds w5 g rowA) := ⟨H5.out.1.bel b5, H5.out.2.bel b5⟩
  have B6 : Hid (Bel w w5) := B5.out.trans b5
  clear b5 H5 B5 G3
  have SI : Hid (Calls Tryd.prog 11 #[.slice (some ⟨g, 0, none⟩) 5 5, .slice (some ⟨A0, 0, none⟩) 5 5] w5 fun e w' => e = .returned (.bool true) ∧ ∃ q, w' = w5.drewN q) := by
    have := same_ok (some ⟨g, 0, none⟩) (some ⟨A0, 0, none⟩) rowA rowA 5 5 5 5 rfl rfl (by decide) (by decide) w5 H6.out.2.slc H6.out.1.slc
    rwa [decide_eq_true rfl] at this
  have NM : Hid (∀ n w, Calls Tryd.prog 9 #[.int .i64 n] w fun e w' => e = .returned (.int .i64 n) ∧ w' = w) := Ints.num_ok
  go_wp2_with (first
    | (go_at_call 9; (with_reducible refine (NM.out _ _).mono ?_); rintro e w9 ⟨rfl, hw9⟩; replace hw9 := hw9.symm; subst hw9)
    | (go_at_call 11; (with_reducible refine SI.out.mono ?_); rintro e w6 ⟨rfl, q6, hw6⟩; have B7 : Hid (Bel w w6) := hw6 ▸ B6.out.drewN q6; clear hw6))
  go_ret
  exact ⟨rfl, B7.out⟩

end Go.Proofs.YtocnlefpbcnlmaaDoor.Res
