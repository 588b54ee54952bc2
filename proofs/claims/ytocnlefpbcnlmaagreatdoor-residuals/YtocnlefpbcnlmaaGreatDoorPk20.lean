/-
  The reference's PutResiduals. Condition: none.
-/
import Derived.Test.YtocnlefpbcnlmaaGreatDoorPk15
import Derived.Test.YtocnlefpbcnlmaaGreatDoorPk17
import Derived.Test.YtocnlefpbcnlmaaGreatDoorPk18
import Derived.Test.YtocnlefpbcnlmaaGreatDoorPk19

namespace Go.Proofs.YtocnlefpbcnlmaaGreatDoor.Res
open Go.RowKit Go.Sort Go.Proofs.YtocnlefpbcnlmaaGreatDoor.Mod Go.Proofs.YtocnlefpbcnlmaaGreatDoor.Ints
set_option linter.unusedVariables false
set_option linter.unusedSimpArgs false

theorem codeBits_snoc : ∀ (A : List Int) (L : List Int) (c : Cod) (b : Int) (done : List Int) (x : Int),
    codeBits L c b done (A ++ [x]) = (lrn (codeBits L c b done A).1 b (done ++ A) x, codS (codeBits L c b done A).2 x (pOf (codeBits L c b done A).1 b (done ++ A)))
  | [], L, c, b, done, x => by simp [codeBits]
  | a :: r, L, c, b, done, x => by
    rw [List.cons_append, codeBits, codeBits_snoc r, codeBits]
    simp

theorem rfold_fits (x : Int) (h : Fits x) (w : World) :
    Calls Tryz.prog 27 #[.int .i64 x] w fun e w' => e = .returned (.tuple #[.int .i64 ((folded x : Nat) : Int), .int .i64 0]) ∧ w' = w := by
  obtain ⟨h1, h2⟩ := h
  rcases Int.lt_or_le x 0 with h0 | h0
  · exact Fld.rput_neg x _ h0 h1 (by unfold folded; rw [if_pos h0]; omega) w
  · exact Fld.rput_pos x _ h0 h2 (by unfold folded; rw [if_neg (by omega)]; omega) w

theorem there_new3 (w : World) (v0 v1 v2 : Value) (ty : TypeId) : (w.alloc (.cells #[v0, v1, v2] ty)).there w.heap.size 0 3 := fun j hj => by
  match j, hj with
  | 0, _ => exact ⟨by simp, by simp⟩
  | 1, _ => exact ⟨by simp, by simp⟩
  | 2, _ => exact ⟨by simp, by simp⟩

/-- A coder in a variable. -/
def CodAt (w : World) (B : Nat) (l h : Int) (o : ByteArray) : Prop :=
  (w.cell? ⟨B, 0, none⟩ = some (.int .i64 l) ∧ w.cell? ⟨B, 1, none⟩ = some (.int .i64 h) ∧ w.cell? ⟨B, 2, none⟩ = some (.string o)) ∧ w.there B 0 3
theorem CodAt.bel {w w' : World} {B : Nat} {l h : Int} {o : ByteArray} (c : CodAt w B l h o) (b : Bel w w') : CodAt w' B l h o := ⟨⟨b.keep c.1.1, b.keep c.1.2.1, b.keep c.1.2.2⟩, there_bel c.2 b⟩
theorem CodAt.exc {S : Nat → Prop} {w w' : World} {B : Nat} {l h : Int} {o : ByteArray} (c : CodAt w B l h o) (x : Exc S w w') (hB : ¬ S B) : CodAt w' B l h o := ⟨⟨x.keep c.1.1 hB, x.keep c.1.2.1 hB, x.keep c.1.2.2 hB⟩, there_exc c.2 x hB⟩
theorem coder_laid {w : World} {B : Nat} {l h : Int} {o : ByteArray} (t : w.there B 0 3) : CodAt (w.setCells B 0 [.int .i64 l, .int .i64 h, .string o]) B l h o := by
  obtain ⟨v0, k0⟩ := Option.isSome_iff_exists.1 (t 0 (by decide)).1
  obtain ⟨v1, k1⟩ := Option.isSome_iff_exists.1 (t 1 (by decide)).1
  obtain ⟨v2, k2⟩ := Option.isSome_iff_exists.1 (t 2 (by decide)).1
  have e0 : ∀ {a b c : Value}, (w.setCells B 0 [a, b, c]) = ((w.setCell ⟨B, 0, none⟩ a).setCell ⟨B, 1, none⟩ b).setCell ⟨B, 2, none⟩ c := rfl
  rw [e0]
  have q0 : (((w.setCell ⟨B, 0, none⟩ (.int .i64 l)).setCell ⟨B, 1, none⟩ (.int .i64 h)).setCell ⟨B, 2, none⟩ (.string o)).cell? ⟨B, 0, none⟩ = some (.int .i64 l) := other_cell (by decide : 2 ≠ 0) (other_cell (by decide : 1 ≠ 0) (same_cell k0))
  have q1 : (((w.setCell ⟨B, 0, none⟩ (.int .i64 l)).setCell ⟨B, 1, none⟩ (.int .i64 h)).setCell ⟨B, 2, none⟩ (.string o)).cell? ⟨B, 1, none⟩ = some (.int .i64 h) := other_cell (by decide : 2 ≠ 1) (same_cell (other_cell (by decide : 0 ≠ 1) k1))
  have q2 : (((w.setCell ⟨B, 0, none⟩ (.int .i64 l)).setCell ⟨B, 1, none⟩ (.int .i64 h)).setCell ⟨B, 2, none⟩ (.string o)).cell? ⟨B, 2, none⟩ = some (.string o) := same_cell (other_cell (by decide : 1 ≠ 2) (other_cell (by decide : 0 ≠ 2) k2))
  refine ⟨⟨q0, q1, q2⟩, fun j hj => ?_⟩
  have fz := (t j hj).2
  rw [World.frozen?_setCell, World.frozen?_setCell, World.frozen?_setCell]
  refine ⟨?_, fz⟩
  match j, hj with
  | 0, _ => rw [Nat.add_zero, q0]; rfl
  | 1, _ => rw [Nat.zero_add, q1]; rfl
  | 2, _ => rw [Nat.zero_add, q2]; rfl

section
variable {ops : Array Oper} {rest : List Oper} {dst : Option Tmp} {a : Act} {w : World} {Q : Exit → Act → World → Prop} {ty : TypeId} {pos : String} {after : Array Edge} {x y : Operand} {B : Nat} {L M : List Int}
/-- A model is stored; what else there was stays. -/
theorem wpl_store26x (h : Holds w B L) (hL : L.length = 195) (hM : M.length = 195) (hx : a.eval x = .pointer (some ⟨B, 0, none⟩)) (hy : a.eval y = mdl M) (k : ∀ W, Holds W B M → Exc (fun k => k = B) w W → wpList Tryz.prog ops Q rest (a.put dst undef) W) :
    wpList Tryz.prog ops Q ({ dst := dst, op := .store 46 x y, type := ty, pos := pos, after := after, guard := none } :: rest) a w :=
  wpl_store26 h hL hM hx hy (k _ (holds_all h M (hL.trans hM.symm)) (Exc.setCells (S := fun k => k = B) (fun _ => rfl) _ 0 (Exc.refl _ w)))
/-- So is a coder. -/
theorem wpl_storeC {l h : Int} {o : ByteArray} (t : w.there B 0 3) (hx : a.eval x = .pointer (some ⟨B, 0, none⟩)) (hy : a.eval y = .agg #[.int .i64 l, .int .i64 h, .string o]) (k : ∀ W, CodAt W B l h o → Exc (fun k => k = B) w W → wpList Tryz.prog ops Q rest (a.put dst undef) W) :
    wpList Tryz.prog ops Q ({ dst := dst, op := .store 51 x y, type := ty, pos := pos, after := after, guard := none } :: rest) a w :=
  wpList_store_mid rfl 51 x y rfl B 0 #[.int .i64 l, .int .i64 h, .string o] hx hy t (by kernel_rfl) (by kernel_rfl) (k _ (coder_laid t) (Exc.setCells (S := fun k => k = B) (fun _ => rfl) _ 0 (Exc.refl _ w)))
end

/-- What holds in the reference when j bits of a number are coded. -/
structure RIn (Lm Cb g : Nat) (s : Sta) (bits : List Int) (j : Nat) (w wr : World) : Prop where
  mem : Holds wr Lm (codeBits s.1 s.2.1 s.2.2 [] (bits.take j)).1
  cod : CodAt wr Cb (codeBits s.1 s.2.1 s.2.2 [] (bits.take j)).2.l (codeBits s.1 s.2.1 s.2.2 [] (bits.take j)).2.h ⟨(codeBits s.1 s.2.1 s.2.2 [] (bits.take j)).2.o.toArray⟩
  row : Holds wr g bits
  bel : Bel w wr

/-- One bit in the reference's inner loop: all that the round needs, under letters. -/
theorem ref_bits {s : Sta} {k : Nat} (ho : Ok s k) (hk : k ≤ 256) {u : Nat} (hu : u ≤ 33554432) (j : Nat) (hj : j < (Gam.bitsOf u).length) :
    ∃ (M M' : List Int) (c c' : Cod) (p x : Int), codeBits s.1 s.2.1 s.2.2 [] ((Gam.bitsOf u).take j) = (M, c) ∧ codeBits s.1 s.2.1 s.2.2 [] ((Gam.bitsOf u).take (j + 1)) = (M', c') ∧ M.length = 195 ∧ M'.length = 195 ∧ (Gam.bitsOf u).getD j 0 = x ∧
      (∀ w ao cap, Slc w ao ((Gam.bitsOf u).take j) → Calls Tryz.prog 29 #[.int .i64 s.2.2, .slice ao j cap] w fun e w' => e = .returned (.tuple #[.agg #[.int .i64 (x0 ((Gam.bitsOf u).take j) : Nat), .int .i64 (x1 s.2.2 ((Gam.bitsOf u).take j) : Nat), .int .i64 (x2 ((Gam.bitsOf u).take j) : Nat)], .int .i64 0]) ∧ Bel w w') ∧
      (∀ w, Calls Tryz.prog 30 #[mdl M, .agg #[.int .i64 (x0 ((Gam.bitsOf u).take j) : Nat), .int .i64 (x1 s.2.2 ((Gam.bitsOf u).take j) : Nat), .int .i64 (x2 ((Gam.bitsOf u).take j) : Nat)]] w fun e w' => e = .returned (.tuple #[.int .i64 p, .int .i64 0]) ∧ Bel w w') ∧
      (∀ w, Calls Tryz.prog 31 #[.agg #[.int .i64 c.l, .int .i64 c.h, .string ⟨c.o.toArray⟩], .int .i64 x, .int .i64 p] w fun e w' => e = .returned (.tuple #[.agg #[.int .i64 c'.l, .int .i64 c'.h, .string ⟨c'.o.toArray⟩], .int .i64 0]) ∧ Bel w w') ∧
      (∀ w, Calls Tryz.prog 32 #[mdl M, .agg #[.int .i64 (x0 ((Gam.bitsOf u).take j) : Nat), .int .i64 (x1 s.2.2 ((Gam.bitsOf u).take j) : Nat), .int .i64 (x2 ((Gam.bitsOf u).take j) : Nat)], .int .i64 x] w fun e w' => e = .returned (.tuple #[mdl M', .int .i64 0]) ∧ Bel w w') := by
  have h25 := Gam.many_25 u hu
  have hl := Gam.bitsOf_length u
  obtain ⟨a1, a2, a3, a4, _⟩ := codeBits_ok ((Gam.bitsOf u).take j) s.1 s.2.1 s.2.2 [] ho.b0 ho.len ho.may ho.bet
  have e01 : Ctx.Bits01 ((Gam.bitsOf u).take j) := pre_01 (B := (Gam.bitsOf u).drop j) (List.take_append_drop _ _)
  have x01 := bitsOf_01 u j hj
  have tl : ((Gam.bitsOf u).take j).length = j := by rw [List.length_take]; omega
  have oo := ho.out
  rw [tl] at a4
  have es : (Gam.bitsOf u).take (j + 1) = (Gam.bitsOf u).take j ++ [(Gam.bitsOf u).getD j 0] := by
    rw [List.take_succ_eq_append_getElem hj, List.getD_eq_getElem?_getD, List.getElem?_eq_getElem hj]
    rfl
  have sn := codeBits_snoc ((Gam.bitsOf u).take j) s.1 s.2.1 s.2.2 [] ((Gam.bitsOf u).getD j 0)
  rw [List.nil_append] at sn
  rw [es, sn]
  refine ⟨_, _, _, _, pOf (codeBits s.1 s.2.1 s.2.2 [] ((Gam.bitsOf u).take j)).1 s.2.2 ((Gam.bitsOf u).take j), (Gam.bitsOf u).getD j 0, rfl, rfl, a1, by rw [lrn_len]; exact a1, rfl, ?_, ?_, ?_, ?_⟩
  · intro w ao cap h
    have := Ctx.rctx_yes s.2.2 ao ((Gam.bitsOf u).take j) j cap tl.symm ⟨ho.b0, ho.b1, by omega, e01⟩ w h
    have e : Ctx.ctxV s.2.2 ((Gam.bitsOf u).take j) = .agg #[.int .i64 (x0 ((Gam.bitsOf u).take j) : Nat), .int .i64 (x1 s.2.2 ((Gam.bitsOf u).take j) : Nat), .int .i64 (x2 ((Gam.bitsOf u).take j) : Nat)] := by rw [(x0_is _).1, (x1_is ho.b0 _).1, (x2_is _).1]
    rwa [e] at this
  · intro w
    exact ref_p_yes _ a1 _ _ _ (x0_is _).2 (x1_is ho.b0 _).2 (x2_is _).2 a2 w
  · intro w
    have := Coder.codeBit_ok (codeBits s.1 s.2.1 s.2.2 [] ((Gam.bitsOf u).take j)).2.l (codeBits s.1 s.2.1 s.2.2 [] ((Gam.bitsOf u).take j)).2.h ((Gam.bitsOf u).getD j 0) (pOf (codeBits s.1 s.2.1 s.2.2 [] ((Gam.bitsOf u).take j)).1 s.2.2 ((Gam.bitsOf u).take j)) ⟨(codeBits s.1 s.2.1 s.2.2 [] ((Gam.bitsOf u).take j)).2.o.toArray⟩ (by rw [Deco.mk_size]; unfold maxLen; omega) w
    rwa [cod_is a3 (by omega) x01 (pOf_in _ _ _)] at this
  · intro w
    exact ref_learn_yes _ a1 _ _ _ (x0_is _).2 (x1_is ho.b0 _).2 (x2_is _).2 _ (decide_eq_true x01) a2 w

/-- What holds in the reference when k numbers are told. -/
structure ROut (Lm Cb : Nat) (rs : List Int) (k : Nat) (w wr : World) : Prop where
  fit : ∀ i, i < k → Fits (rs.getD i 0)
  mem : Holds wr Lm (puts s0 (rs.take k)).1
  cod : CodAt wr Cb (puts s0 (rs.take k)).2.1.l (puts s0 (rs.take k)).2.1.h ⟨(puts s0 (rs.take k)).2.1.o.toArray⟩
  bel : Bel w wr

theorem fits_take {rs : List Int} {k : Nat} (hk : k ≤ rs.length) (h : ∀ i, i < k → Fits (rs.getD i 0)) : AllFit (rs.take k) := fun i hi => by
  have hi' : i < k := by rw [List.length_take] at hi; omega
  have := h i hi'
  rwa [List.getD_eq_getElem?_getD, List.getElem?_take, if_pos hi', ← List.getD_eq_getElem?_getD]
theorem ok_take {rs : List Int} {k : Nat} (hk : k ≤ rs.length) (h : ∀ i, i < k → Fits (rs.getD i 0)) : Ok (puts s0 (rs.take k)) k := by
  have := (puts_ok (rs.take k) s0 0 s0_ok (fits_of (fits_take hk h))).1
  rwa [List.length_take, Nat.min_eq_left hk, Nat.zero_add] at this

set_option maxRecDepth 20000 in
set_option maxHeartbeats 8000000 in
theorem rput_is (ao : Option Addr) (rs : List Int) (n cap : Nat) (hn : n = rs.length) (hx : n ≤ maxLen) (w : World) (hA : Slc w ao rs) :
    Calls Tryz.prog 7 #[.slice ao n cap] w fun e w' => e = .returned (.tuple #[.string (putS rs), .int .i64 (putE rs)]) ∧ Bel w w' := by
  unfold maxLen at hx
  by_cases h256 : n ≤ 256
  · have hd : decide ((256 : Int) < (n : Int)) = false := decide_eq_false (by omega)
    have HN : Hid (n = rs.length) := hn
    have HA : Hid (Slc w ao rs) := hA
    have MN : Hid (∀ w, Calls Tryz.prog 25 #[] w fun e w' => e = .returned (mdl newM) ∧ Bel w w') := ref_new_ok
    have CN : Hid (∀ w, Calls Tryz.prog 26 #[] w fun e w' => e = .returned (.agg #[.int .i64 0, .int .i64 4294967295, .string ⟨#[]⟩]) ∧ Bel w w') := fun w => (Coder.newCoder_ok w).mono fun _ _ h => ⟨h.1, h.2⟩
    have z := zero26
    have ZL : Hid (zeros.length = 195) := zeros_len
    have NL : Hid (newM.length = 195) := newM_len
    clear hn hA
    obtain ⟨M0, hM0⟩ : ∃ M0, newM = M0 := ⟨_, rfl⟩
    rw [hM0] at NL MN
    have M1 : Hid (newM = M0) := hM0
    clear hM0
    generalize zeros = Z at *
    go_enter Tryz.func7, Tryz.ntmps7
    go_wp2_with fail
    refine (MN.out _).mono ?_
    rintro e w1 ⟨rfl, b1⟩
    go_wp2_with fail
    refine (CN.out _).mono ?_
    rintro e w2 ⟨rfl, b2⟩
    have B2 : Hid (Bel w w2) := b1.trans b2
    clear b1 b2 MN CN
    have H0 : Hid (Holds ((w2.alloc (.cells (vals Z).toArray 46)).alloc (.cells #[.int .i64 0, .int .i64 0, .string ⟨#[]⟩] 51)) w2.heap.size Z) := (holds_new w2 Z 46).bel ((Bel.refl _).alloc _)
    have T0 : Hid (((w2.alloc (.cells (vals Z).toArray 46)).alloc (.cells #[.int .i64 0, .int .i64 0, .string ⟨#[]⟩] 51)).there (w2.heap.size + 1) 0 3) := by
      have := there_new3 (w2.alloc (.cells (vals Z).toArray 46)) (.int .i64 0) (.int .i64 0) (.string ⟨#[]⟩) 51
      rwa [World.size_alloc] at this
    have B3 : Hid (Bel w ((w2.alloc (.cells (vals Z).toArray 46)).alloc (.cells #[.int .i64 0, .int .i64 0, .string ⟨#[]⟩] 51))) := (B2.out.alloc _).alloc _
    have S2 : Hid (w.heap.size ≤ w2.heap.size) := B2.out.size
    go_wp2_with (first
      | ((with_reducible refine wpl_store26x (B := w2.heap.size) (L := Z) H0.out ZL.out NL.out rfl rfl ?_); intro W1 hW1 hX1; have T1 : Hid (W1.there (w2.heap.size + 1) 0 3) := there_exc T0.out hX1 (by omega); have K1 : Hid (Holds W1 w2.heap.size M0 ∧ Bel w W1) := ⟨hW1, Exc.from hX1 B3.out (fun i hi => by have := S2.out; omega)⟩; clear hW1 hX1 H0 T0 B3)
      | ((with_reducible refine wpl_storeC (B := w2.heap.size + 1) T1.out rfl rfl ?_); intro W2 hW2 hX2; have K2 : Hid (Holds W2 w2.heap.size M0 ∧ CodAt W2 (w2.heap.size + 1) 0 4294967295 ⟨#[]⟩ ∧ Bel w W2) := ⟨hX2.holds K1.out.1 (by omega), hW2, Exc.from hX2 K1.out.2 (fun i hi => by have := S2.out; omega)⟩; clear hW2 hX2 K1 T1))
    have R0 : Hid (ROut w2.heap.size (w2.heap.size + 1) rs 0 w W2) := ⟨fun i hi => absurd hi (by omega), by have h := K2.out.1; rw [← M1.out] at h; exact h, K2.out.2.1, K2.out.2.2⟩
    clear K2 B2 M1
    generalize w2.heap.size = Lm at *
    go_loopw [6, 7] (fun b6 i7 wr => ∃ k : Nat, k ≤ n ∧ i7 = .int .i64 (k : Int) ∧ b6 = .int .i64 (puts s0 (rs.take k)).2.2 ∧ Hid (ROut Lm (Lm + 1) rs k w wr)) (fun _ i _ => n - (intOf i).toNat)
    case atStart => exact ⟨0, by omega, rfl, rfl, R0⟩
    case round =>
      obtain ⟨k, hk, rfl, rfl, K⟩ := hrel
      clear R0
      by_cases hlt : k < n
      · have hd2 : decide ((k : Int) < (n : Int)) = true := decide_eq_true (by omega)
        obtain ⟨a, rfl, hc⟩ := HA.out k (HN.out ▸ hlt)
        have hc := K.out.bel.keep hc
        by_cases fx : Fits (rs.getD k 0)
        · have hu := folded_le fx
          have FQ : Hid (∀ w, Calls Tryz.prog 27 #[.int .i64 (rs.getD k 0)] w fun e w' => e = .returned (.tuple #[.int .i64 ((folded (rs.getD k 0) : Nat) : Int), .int .i64 0]) ∧ w' = w) := rfold_fits _ fx
          have KS : Hid (puts s0 (rs.take (k + 1)) = numS (puts s0 (rs.take k)) (rs.getD k 0)) := puts_snoc rs k (HN.out ▸ hlt)
          have OK : Hid (Ok (puts s0 (rs.take k)) k) := ok_take (by have := HN.out; omega) K.out.fit
          have FI : Hid (∀ i, i < k + 1 → Fits (rs.getD i 0)) := fun i hi => by
            rcases Nat.lt_or_ge i k with h | h
            · exact K.out.fit i h
            · obtain rfl : i = k := by omega
              exact fx
          obtain ⟨u, eu⟩ : ∃ u, folded (rs.getD k 0) = u := ⟨_, rfl⟩
          unfold numS at KS
          rw [eu] at KS FQ hu
          have HU : Hid (u ≤ 33554432) := hu
          obtain ⟨m, em⟩ : ∃ m, 2 * Gam.many u + 1 = m := ⟨_, rfl⟩
          have HM : Hid (m = (Gam.bitsOf u).length ∧ m ≤ 51) := ⟨by rw [Gam.bitsOf_length]; exact em.symm, by have := Gam.many_25 u hu; omega⟩
          have BQ : Hid (∀ w, Calls Tryz.prog 28 #[.int .i64 (u : Int)] w fun e w' => ∃ g c, e = .returned (.tuple #[.slice (some ⟨g, 0, none⟩) m c, .int .i64 0]) ∧ w.heap.size ≤ g ∧ g < w'.heap.size ∧ m ≤ c ∧ c ≤ maxLen ∧ Holds w' g (Gam.bitsOf u) ∧ Bel w w') := fun w => Gam.rbits_ok u m hu em.symm w
          have m51 : m ≤ 51 := HM.out.2
          clear eu hu fx em
          generalize rs.getD k 0 = x at *
          obtain ⟨s, hs⟩ : ∃ s, puts s0 (rs.take k) = s := ⟨_, rfl⟩
          have K3 : Hid (Holds wr Lm s.1 ∧ CodAt wr (Lm + 1) s.2.1.l s.2.1.h ⟨s.2.1.o.toArray⟩ ∧ Bel w wr) := hs ▸ ⟨K.out.mem, K.out.cod, K.out.bel⟩
          rw [hs] at KS OK
          simp only [hs]
          clear hs K
          go_wp2_with fail
          refine (FQ.out _).mono ?_
          rintro e w3 ⟨rfl, rfl⟩
          clear FQ
          go_wp2_with fail
          refine (BQ.out _).mono ?_
          rintro e w4 ⟨g, c, rfl, hg1, hg2, hc1, hc2, hg3, b4⟩
          clear BQ hc
          have I0 : Hid (RIn Lm (Lm + 1) g s (Gam.bitsOf u) 0 w w4) := ⟨K3.out.1.bel b4, K3.out.2.1.bel b4, hg3, K3.out.2.2.trans b4⟩
          have GL : Hid (Lm + 1 < g ∧ w.heap.size ≤ Lm) := ⟨by have := block_lt_of_cell K3.out.2.1.1.1; simp only at this; omega, S2.out⟩
          have cx : c ≤ maxLen := hc2
          unfold maxLen at cx
          clear hg1 hg2 hc2 hg3 b4 K3
          go_wp2_with fail
          go_loopw [12] (fun i wr => ∃ j : Nat, j ≤ m ∧ i = .int .i64 (j : Int) ∧ Hid (RIn Lm (Lm + 1) g s (Gam.bitsOf u) j w wr)) (fun i _ => m - (intOf i).toNat)
          case atStart => exact ⟨0, by omega, rfl, I0⟩
          case round =>
            obtain ⟨j, hj, rfl, KI⟩ := hrel
            clear I0
            by_cases hlj : j < m
            · have hdj : decide ((j : Int) < (m : Int)) = true := decide_eq_true (by omega)
              obtain ⟨M, M', cc, cc', p, xb, e1, e2, nl, nl', ex, cx1, pq1, cq1, lq1⟩ := ref_bits OK.out (by omega) HU.out j (by rw [← HM.out.1]; exact hlj)
              have KM : Hid (Holds wr Lm M ∧ CodAt wr (Lm + 1) cc.l cc.h ⟨cc.o.toArray⟩ ∧ Holds wr g (Gam.bitsOf u) ∧ Bel w wr) := by
                have q := KI.out
                refine ⟨?_, ?_, q.row, q.bel⟩
                · have := q.mem; rwa [e1] at this
                · have := q.cod; rwa [e1] at this
              have KN : Hid (∀ W, Holds W Lm M' → CodAt W (Lm + 1) cc'.l cc'.h ⟨cc'.o.toArray⟩ → Holds W g (Gam.bitsOf u) → Bel w W → RIn Lm (Lm + 1) g s (Gam.bitsOf u) (j + 1) w W) := fun W h1 h2 h3 h4 => ⟨by rw [e2]; exact h1, by rw [e2]; exact h2, h3, h4⟩
              have kb := KM.out.2.2.1.cell j (by rw [← HM.out.1]; exact hlj)
              rw [ex] at kb
              have KB : Hid (wr.cell? ⟨g, j, none⟩ = some (.int .i64 xb)) := kb
              clear kb
              have SJ : Hid (Slc wr (some ⟨g, 0, none⟩) ((Gam.bitsOf u).take j)) := (KM.out.2.2.1.take j).slc
              have ML : Hid (M.length = 195) := nl
              have ML' : Hid (M'.length = 195) := nl'
              have CX : Hid _ := cx1
              have PQ : Hid _ := pq1
              have CQ : Hid _ := cq1
              have LQ : Hid _ := lq1
              clear e1 e2 nl nl' ex cx1 pq1 cq1 lq1 KI
              generalize x0 ((Gam.bitsOf u).take j) = A at *
              generalize x1 s.2.2 ((Gam.bitsOf u).take j) = B at *
              generalize x2 ((Gam.bitsOf u).take j) = C at *
              generalize (⟨cc.o.toArray⟩ : ByteArray) = o at *
              generalize (⟨cc'.o.toArray⟩ : ByteArray) = o' at *
              generalize cc.l = l at *
              generalize cc.h = h at *
              generalize cc'.l = l' at *
              generalize cc'.h = h' at *
              go_wp2_with fail
              refine (CX.out _ _ _ SJ.out).mono ?_
              rintro e w5 ⟨rfl, b5⟩
              clear CX SJ
              have HM3 : Hid (Holds (w5.alloc (.cells #[.int .i64 (A : Int), .int .i64 (B : Int), .int .i64 (C : Int)] 44)) Lm M) := (KM.out.1.bel b5).bel ((Bel.refl _).alloc _)
              have B5 : Hid (Bel wr (w5.alloc (.cells #[.int .i64 (A : Int), .int .i64 (B : Int), .int .i64 (C : Int)] 44))) := b5.alloc _
              have H5 : Hid (Holds (w5.alloc (.cells #[.int .i64 (A : Int), .int .i64 (B : Int), .int .i64 (C : Int)] 44)) w5.heap.size [(A : Int), (B : Int), (C : Int)]) := holds_new w5 [(A : Int), (B : Int), (C : Int)] 44
              have SZ5 : Hid (wr.heap.size ≤ w5.heap.size) := b5.size
              clear b5
              go_wp2_with (first | (with_reducible refine wpl_load26' HM3.out ML.out rfl ?_))
              refine (PQ.out _).mono ?_
              rintro e W4 ⟨rfl, b6⟩
              clear PQ
              have BW4 : Hid (Bel wr W4) := B5.out.trans b6
              have HC4 : Hid (Holds W4 w5.heap.size [(A : Int), (B : Int), (C : Int)]) := H5.out.bel b6
              clear HM3 B5 H5 b6
              have C4 : Hid (CodAt W4 (Lm + 1) l h o) := KM.out.2.1.bel BW4.out
              obtain ⟨⟨k0, k1, k2⟩, -⟩ := C4.out
              have kb := BW4.out.keep KB.out
              go_wp2_with fail
              go_cut [17] from 69 to 78 (fun v17 wx => ∃ X, v17 = .pointer (some ⟨X, 0, none⟩) ∧ W4.heap.size ≤ X ∧ CodAt wx X l' h' o' ∧ Bel W4 wx)
              case first =>
                refine wp_region_held_drew (S := fun wx => Bel W4 wx) (by kernel_rfl) (Bel.refl W4).drew (fun hHeld => ?_)
                obtain ⟨V0, hV0⟩ : ∃ V, V = World.drew W4 := ⟨_, rfl⟩
                rw [← hV0] at hHeld ⊢
                have esw : V0.heap.size = (W4).heap.size := by rw [hV0]; rfl
                have ESW : Hid (V0.heap.size = (W4).heap.size) := esw
                clear esw hV0
                refine wpAnyH_take (i := 1) (oi := { dst := some 71, op := .move (.tmp 10), type := _, pos := _, after := _, guard := none }) (v := ?_) rfl (by kernel_rfl) (by kernel_rfl) (by kernel_rfl) (fun _ _ _ h => h) (Or.inl ⟨by rfl, ?_⟩) hHeld ?_
                rotate_left
                · intro wx hSw; clear hSw; go_simp; with_reducible rfl
                try simp only [Act.put, List.setIfInBounds_toArray, List.set_cons_zero, List.set_cons_succ]
                refine wpAnyH_take (i := 2) (oi := { dst := some 72, op := .move (.tmp 12), type := _, pos := _, after := _, guard := none }) (v := ?_) rfl (by kernel_rfl) (by kernel_rfl) (by kernel_rfl) (fun _ _ _ h => h) (Or.inl ⟨by rfl, ?_⟩) hHeld ?_
                rotate_left
                · intro wx hSw; clear hSw; go_simp; with_reducible rfl
                try simp only [Act.put, List.setIfInBounds_toArray, List.set_cons_zero, List.set_cons_succ]
                refine wpAnyH_take (i := 5) (oi := { dst := some 75, op := .move (.tmp 15), type := _, pos := _, after := _, guard := none }) (v := ?_) rfl (by kernel_rfl) (by kernel_rfl) (by kernel_rfl) (fun _ _ _ h => h) (Or.inl ⟨by rfl, ?_⟩) hHeld ?_
                rotate_left
                · intro wx hSw; clear hSw; go_simp; with_reducible rfl
                try simp only [Act.put, List.setIfInBounds_toArray, List.set_cons_zero, List.set_cons_succ]
                refine wpAnyH_take (i := 0) (oi := { dst := some 70, op := .load 51 (.tmp 5), type := _, pos := _, after := _, guard := none }) (v := ?_) rfl (by kernel_rfl) (by kernel_rfl) (by kernel_rfl) (fun _ _ _ h => h) (Or.inl ⟨by rfl, ?_⟩) hHeld ?_
                rotate_left
                · intro wx hSw; have y0 := Bel.keep hSw k0; have y1 := Bel.keep hSw k1; have y2 := Bel.keep hSw k2; clear hSw; go_simp; with_reducible rfl
                try simp only [Act.put, List.setIfInBounds_toArray, List.set_cons_zero, List.set_cons_succ]
                refine wpAnyH_take (i := 3) (oi := { dst := some 73, op := .indexAddr 22 (.tmp 71) (.tmp 72), type := _, pos := _, after := _, guard := none }) (v := ?_) rfl (by kernel_rfl) (by kernel_rfl) (by kernel_rfl) (fun _ _ _ h => h) (Or.inl ⟨by rfl, ?_⟩) hHeld ?_
                rotate_left
                · intro wx hSw; clear hSw; go_simp; with_reducible rfl
                try simp only [Act.put, List.setIfInBounds_toArray, List.set_cons_zero, List.set_cons_succ]
                refine wpAnyH_take (i := 4) (oi := { dst := some 74, op := .load 3 (.tmp 73), type := _, pos := _, after := _, guard := none }) (v := ?_) rfl (by kernel_rfl) (by kernel_rfl) (by kernel_rfl) (fun _ _ _ h => h) (Or.inl ⟨by rfl, ?_⟩) hHeld ?_
                rotate_left
                · intro wx hSw; have y0 := Bel.keep hSw kb; clear hSw; go_simp; with_reducible rfl
                try simp only [Act.put, List.setIfInBounds_toArray, List.set_cons_zero, List.set_cons_succ]
                have BV0 : Bel W4 V0 := hHeld
                clear hHeld
                refine wpAnyH_ready (rs := [6, 10]) (by kernel_rfl) (by simp) ?_
                refine (AllReadyH.cons (o := { dst := some 76, op := .call { callee := .value (.func 31), args := #[.tmp 70, .tmp 74, .tmp 75], argTypes := _ }, type := _, pos := _, after := _, guard := none }) rfl (fun K hK => ?_) (AllReadyH.cons (o := { dst := some 17, op := .alloc 51, type := _, pos := _, after := _, guard := none }) rfl (fun K hK => ?_) AllReadyH.nil))
                · go_simp
                  refine (CQ.out _).mono ?_
                  rintro e w3 ⟨rfl, b3⟩
                  go_wp2_with fail
                  have B3 : Bel W4 w3 := BV0.trans b3
                  have SZ : Hid (V0.heap.size ≤ w3.heap.size) := b3.size
                  refine hK.out _ _ (B3) (fun _ => ?_)
                  clear hK K
                  try simp only [Act.put, List.setIfInBounds_toArray, List.set_cons_zero, List.set_cons_succ]
                  refine wpAnyH_take (i := 7) (oi := { dst := some 69, op := .move (.tmp 76), type := _, pos := _, after := _, guard := none }) (v := ?_) rfl (by kernel_rfl) (by kernel_rfl) (by kernel_rfl) (fun _ _ _ h => h) (Or.inl ⟨by rfl, ?_⟩) B3 ?_
                  rotate_left
                  · intro wx hSw; clear hSw; go_simp; with_reducible rfl
                  try simp only [Act.put, List.setIfInBounds_toArray, List.set_cons_zero, List.set_cons_succ]
                  refine wpAnyH_take (i := 8) (oi := { dst := some 77, op := .extract (.tmp 69) 0, type := _, pos := _, after := _, guard := none }) (v := ?_) rfl (by kernel_rfl) (by kernel_rfl) (by kernel_rfl) (fun _ _ _ h => h) (Or.inl ⟨by rfl, ?_⟩) B3 ?_
                  rotate_left
                  · intro wx hSw; clear hSw; go_simp; with_reducible rfl
                  try simp only [Act.put, List.setIfInBounds_toArray, List.set_cons_zero, List.set_cons_succ]
                  refine wpAnyH_take (i := 9) (oi := { dst := some 78, op := .extract (.tmp 69) 1, type := _, pos := _, after := _, guard := none }) (v := ?_) rfl (by kernel_rfl) (by kernel_rfl) (by kernel_rfl) (fun _ _ _ h => h) (Or.inl ⟨by rfl, ?_⟩) B3 ?_
                  rotate_left
                  · intro wx hSw; clear hSw; go_simp; with_reducible rfl
                  try simp only [Act.put, List.setIfInBounds_toArray, List.set_cons_zero, List.set_cons_succ]
                  refine wpAnyH_ready (rs := [10]) (by kernel_rfl) (by simp) ?_
                  refine (AllReadyH.cons (o := { dst := some 17, op := .alloc 51, type := _, pos := _, after := _, guard := none }) rfl (fun K hK => ?_) AllReadyH.nil)
                  have Bw3 : Bel W4 w3 := B3
                  go_simp
                  refine hK.out _ _ (Bw3.alloc _) (fun _ => ?_)
                  clear hK K
                  try simp only [Act.put, List.setIfInBounds_toArray, List.set_cons_zero, List.set_cons_succ]
                  obtain ⟨V1, hV1⟩ : ∃ V, V = World.alloc w3 (.cells #[.int .i64 0, .int .i64 0, .string ⟨#[]⟩] 51) := ⟨_, rfl⟩
                  have BV1 : Bel W4 V1 := hV1 ▸ Bw3.alloc _
                  have HT : V1.there (w3.heap.size) 0 3 := hV1 ▸ there_new3 _ _ _ _ _
                  rw [← hV1]
                  clear hV1
                  refine wpAnyH_ready (rs := [11]) (by kernel_rfl) (by simp) ?_
                  refine (AllReadyH.cons (o := { dst := none, op := .store 51 (.tmp 17) (.tmp 77), type := _, pos := _, after := _, guard := none }) rfl (fun K hK => ?_) AllReadyH.nil)
                  rw [if_pos (by rfl)]
                  refine wp_store_mid 51 _ _ rfl (w3.heap.size) 0 #[.int .i64 l', .int .i64 h', .string o'] rfl rfl HT (by kernel_rfl) (by kernel_rfl) ?_
                  have B6 : Bel W4 (World.setCells V1 (w3.heap.size) 0 [.int .i64 l', .int .i64 h', .string o']) := Bel.setCells (by have := ESW.out; have := SZ.out; omega) _ _ BV1
                  refine hK.out _ _ (B6) (fun _ => ?_)
                  clear hK K
                  try simp only [Act.put, List.setIfInBounds_toArray, List.set_cons_zero, List.set_cons_succ]
                  try simp only [List.toList_toArray]
                  refine wpAnyH_take (i := 12) (oi := { dst := some 18, op := .assign (.tmp 78), type := _, pos := _, after := _, guard := none }) (v := ?_) rfl (by kernel_rfl) (by kernel_rfl) (by kernel_rfl) (fun _ _ _ h => h) (Or.inl ⟨by rfl, ?_⟩) B6 ?_
                  rotate_left
                  · intro wx hSw; clear hSw; go_simp; with_reducible rfl
                  try simp only [Act.put, List.setIfInBounds_toArray, List.set_cons_zero, List.set_cons_succ]
                  refine wpAnyH_done (by kernel_rfl) ?_ _
                  go_wp2_with fail
                  go_meet
                  exact ⟨w3.heap.size, rfl, by have := ESW.out; have := SZ.out; omega, coder_laid HT, B6⟩
                · go_simp
                  refine hK.out _ _ (BV0.alloc _) (fun _ => ?_)
                  clear hK K
                  try simp only [Act.put, List.setIfInBounds_toArray, List.set_cons_zero, List.set_cons_succ]
                  obtain ⟨V1, hV1⟩ : ∃ V, V = World.alloc V0 (.cells #[.int .i64 0, .int .i64 0, .string ⟨#[]⟩] 51) := ⟨_, rfl⟩
                  have BV1 : Bel W4 V1 := hV1 ▸ BV0.alloc _
                  have HT : V1.there (V0.heap.size) 0 3 := hV1 ▸ there_new3 _ _ _ _ _
                  rw [← hV1]
                  clear hV1
                  refine wpAnyH_ready (rs := [6]) (by kernel_rfl) (by simp) ?_
                  refine (AllReadyH.cons (o := { dst := some 76, op := .call { callee := .value (.func 31), args := #[.tmp 70, .tmp 74, .tmp 75], argTypes := _ }, type := _, pos := _, after := _, guard := none }) rfl (fun K hK => ?_) AllReadyH.nil)
                  go_simp
                  refine (CQ.out _).mono ?_
                  rintro e w3 ⟨rfl, b3⟩
                  go_wp2_with fail
                  have B3 : Bel W4 w3 := BV1.trans b3
                  have HT := there_bel HT b3
                  refine hK.out _ _ (B3) (fun _ => ?_)
                  clear hK K
                  try simp only [Act.put, List.setIfInBounds_toArray, List.set_cons_zero, List.set_cons_succ]
                  refine wpAnyH_take (i := 7) (oi := { dst := some 69, op := .move (.tmp 76), type := _, pos := _, after := _, guard := none }) (v := ?_) rfl (by kernel_rfl) (by kernel_rfl) (by kernel_rfl) (fun _ _ _ h => h) (Or.inl ⟨by rfl, ?_⟩) B3 ?_
                  rotate_left
                  · intro wx hSw; clear hSw; go_simp; with_reducible rfl
                  try simp only [Act.put, List.setIfInBounds_toArray, List.set_cons_zero, List.set_cons_succ]
                  refine wpAnyH_take (i := 8) (oi := { dst := some 77, op := .extract (.tmp 69) 0, type := _, pos := _, after := _, guard := none }) (v := ?_) rfl (by kernel_rfl) (by kernel_rfl) (by kernel_rfl) (fun _ _ _ h => h) (Or.inl ⟨by rfl, ?_⟩) B3 ?_
                  rotate_left
                  · intro wx hSw; clear hSw; go_simp; with_reducible rfl
                  try simp only [Act.put, List.setIfInBounds_toArray, List.set_cons_zero, List.set_cons_succ]
                  refine wpAnyH_take (i := 9) (oi := { dst := some 78, op := .extract (.tmp 69) 1, type := _, pos := _, after := _, guard := none }) (v := ?_) rfl (by kernel_rfl) (by kernel_rfl) (by kernel_rfl) (fun _ _ _ h => h) (Or.inl ⟨by rfl, ?_⟩) B3 ?_
                  rotate_left
                  · intro wx hSw; clear hSw; go_simp; with_reducible rfl
                  try simp only [Act.put, List.setIfInBounds_toArray, List.set_cons_zero, List.set_cons_succ]
                  refine wpAnyH_ready (rs := [11]) (by kernel_rfl) (by simp) ?_
                  refine (AllReadyH.cons (o := { dst := none, op := .store 51 (.tmp 17) (.tmp 77), type := _, pos := _, after := _, guard := none }) rfl (fun K hK => ?_) AllReadyH.nil)
                  rw [if_pos (by rfl)]
                  refine wp_store_mid 51 _ _ rfl (V0.heap.size) 0 #[.int .i64 l', .int .i64 h', .string o'] rfl rfl HT (by kernel_rfl) (by kernel_rfl) ?_
                  have B6 : Bel W4 (World.setCells w3 (V0.heap.size) 0 [.int .i64 l', .int .i64 h', .string o']) := Bel.setCells (by have := ESW.out; omega) _ _ B3
                  refine hK.out _ _ (B6) (fun _ => ?_)
                  clear hK K
                  try simp only [Act.put, List.setIfInBounds_toArray, List.set_cons_zero, List.set_cons_succ]
                  try simp only [List.toList_toArray]
                  refine wpAnyH_take (i := 12) (oi := { dst := some 18, op := .assign (.tmp 78), type := _, pos := _, after := _, guard := none }) (v := ?_) rfl (by kernel_rfl) (by kernel_rfl) (by kernel_rfl) (fun _ _ _ h => h) (Or.inl ⟨by rfl, ?_⟩) B6 ?_
                  rotate_left
                  · intro wx hSw; clear hSw; go_simp; with_reducible rfl
                  try simp only [Act.put, List.setIfInBounds_toArray, List.set_cons_zero, List.set_cons_succ]
                  refine wpAnyH_done (by kernel_rfl) ?_ _
                  go_wp2_with fail
                  go_meet
                  exact ⟨V0.heap.size, rfl, by have := ESW.out; omega, coder_laid HT, B6⟩
              obtain ⟨X, rfl, hX, hC, b7⟩ := hcut
              clear k0 k1 k2 kb
              have C5 : Hid (CodAt wc X l' h' o' ∧ (Lm + 1 < W4.heap.size ∧ W4.heap.size ≤ X) ∧ Bel wr wc ∧ CodAt wc (Lm + 1) l h o) := ⟨hC, ⟨by have := block_lt_of_cell C4.out.1.1; simp only at this; omega, hX⟩, BW4.out.trans b7, C4.out.bel b7⟩
              have HC5 : Hid (Holds wc w5.heap.size [(A : Int), (B : Int), (C : Int)]) := HC4.out.bel b7
              clear hX hC b7 HC4 C4
              obtain ⟨⟨k0, k1, k2⟩, -⟩ := C5.out.1
              have TC : Hid (wc.there (Lm + 1) 0 3) := C5.out.2.2.2.2
              go_wp2_with (first
                | ((with_reducible refine wpl_storeC (B := Lm + 1) TC.out rfl rfl ?_); intro W5 hW5 hX5; have K5 : Hid (CodAt W5 (Lm + 1) l' h' o' ∧ Exc (fun i => i = Lm + 1) wc W5) := ⟨hW5, hX5⟩; clear hW5 hX5 k0 k1 k2))
              have gl := GL.out
              have x5 := K5.out.2
              have HM5 : Hid (Holds W5 Lm M) := x5.holds (KM.out.1.bel C5.out.2.2.1) (by omega)
              have HR5 : Hid (Holds W5 g (Gam.bitsOf u)) := x5.holds (KM.out.2.2.1.bel C5.out.2.2.1) (by omega)
              have HC6 : Hid (Holds W5 w5.heap.size [(A : Int), (B : Int), (C : Int)]) := x5.holds HC5.out (by have := SZ5.out; have := block_lt_of_cell KM.out.2.1.1.1; simp only at this; omega)
              have BW5 : Hid (Bel w W5) := Exc.from x5 (KM.out.2.2.2.trans C5.out.2.2.1) (fun i hi => by omega)
              have kb := x5.keep (C5.out.2.2.1.keep KB.out) (by show ¬ (g = Lm + 1); omega)
              have a0 : W5.cell? ⟨w5.heap.size, 0, none⟩ = some (.int .i64 (A : Int)) := HC6.out.cell 0 (by simp)
              have a1 : W5.cell? ⟨w5.heap.size, 1, none⟩ = some (.int .i64 (B : Int)) := HC6.out.cell 1 (by simp)
              have a2 : W5.cell? ⟨w5.heap.size, 2, none⟩ = some (.int .i64 (C : Int)) := HC6.out.cell 2 (by simp)
              have LW : Hid (Lm < W5.heap.size ∧ Lm + 1 < W5.heap.size ∧ g < W5.heap.size) := ⟨by have := block_lt_of_cell K5.out.1.1.1; simp only at this; omega, by have := block_lt_of_cell K5.out.1.1.1; simp only at this; omega, block_lt_of_cell kb⟩
              clear gl x5 C5 HC5 HC6 KM BW4 SZ5
              go_wp2_with fail
              try simp only [Act.put, List.setIfInBounds_toArray, List.set_cons_zero, List.set_cons_succ]
              go_cut [19] from 80 to 89 (fun v19 wx => ∃ X, v19 = .pointer (some ⟨X, 0, none⟩) ∧ W5.heap.size ≤ X ∧ Holds wx X M' ∧ Bel W5 wx)
              case first =>
                refine wp_region_held_drew (S := fun wx => Bel W5 wx) (by kernel_rfl) (Bel.refl W5).drew (fun hHeld => ?_)
                obtain ⟨V0, hV0⟩ : ∃ V, V = World.drew W5 := ⟨_, rfl⟩
                rw [← hV0] at hHeld ⊢
                have esw : V0.heap.size = (W5).heap.size := by rw [hV0]; rfl
                have ESW : Hid (V0.heap.size = (W5).heap.size) := esw
                clear esw hV0
                refine wpAnyH_take (i := 2) (oi := { dst := some 83, op := .move (.tmp 10), type := _, pos := _, after := _, guard := none }) (v := ?_) rfl (by kernel_rfl) (by kernel_rfl) (by kernel_rfl) (fun _ _ _ h => h) (Or.inl ⟨by rfl, ?_⟩) hHeld ?_
                rotate_left
                · intro wx hSw; clear hSw; go_simp; with_reducible rfl
                try simp only [Act.put, List.setIfInBounds_toArray, List.set_cons_zero, List.set_cons_succ]
                refine wpAnyH_take (i := 3) (oi := { dst := some 84, op := .move (.tmp 12), type := _, pos := _, after := _, guard := none }) (v := ?_) rfl (by kernel_rfl) (by kernel_rfl) (by kernel_rfl) (fun _ _ _ h => h) (Or.inl ⟨by rfl, ?_⟩) hHeld ?_
                rotate_left
                · intro wx hSw; clear hSw; go_simp; with_reducible rfl
                try simp only [Act.put, List.setIfInBounds_toArray, List.set_cons_zero, List.set_cons_succ]
                refine wpAnyH_take (i := 0) (oi := { dst := some 81, op := .load 46 (.tmp 4), type := _, pos := _, after := _, guard := none }) (v := _) rfl (by kernel_rfl) (by kernel_rfl) (by kernel_rfl) (fun _ _ _ h => h) (yieldsIf_load_mid (by rfl) 46 _ rfl Lm 0 rfl (vals M) _ (fun wx hSw => (HM5.out.bel hSw).range) Tryz.underlying46 rfl (by rw [size26, vals_length, ML.out])) hHeld ?_
                try simp only [Act.put, List.setIfInBounds_toArray, List.set_cons_zero, List.set_cons_succ]
                refine wpAnyH_take (i := 1) (oi := { dst := some 82, op := .load 44 (.tmp 13), type := _, pos := _, after := _, guard := none }) (v := ?_) rfl (by kernel_rfl) (by kernel_rfl) (by kernel_rfl) (fun _ _ _ h => h) (Or.inl ⟨by rfl, ?_⟩) hHeld ?_
                rotate_left
                · intro wx hSw; have y0 := Bel.keep hSw a0; have y1 := Bel.keep hSw a1; have y2 := Bel.keep hSw a2; clear hSw; go_simp; with_reducible rfl
                try simp only [Act.put, List.setIfInBounds_toArray, List.set_cons_zero, List.set_cons_succ]
                refine wpAnyH_take (i := 4) (oi := { dst := some 85, op := .indexAddr 22 (.tmp 83) (.tmp 84), type := _, pos := _, after := _, guard := none }) (v := ?_) rfl (by kernel_rfl) (by kernel_rfl) (by kernel_rfl) (fun _ _ _ h => h) (Or.inl ⟨by rfl, ?_⟩) hHeld ?_
                rotate_left
                · intro wx hSw; clear hSw; go_simp; with_reducible rfl
                try simp only [Act.put, List.setIfInBounds_toArray, List.set_cons_zero, List.set_cons_succ]
                refine wpAnyH_take (i := 5) (oi := { dst := some 86, op := .load 3 (.tmp 85), type := _, pos := _, after := _, guard := none }) (v := ?_) rfl (by kernel_rfl) (by kernel_rfl) (by kernel_rfl) (fun _ _ _ h => h) (Or.inl ⟨by rfl, ?_⟩) hHeld ?_
                rotate_left
                · intro wx hSw; have y0 := Bel.keep hSw kb; clear hSw; go_simp; with_reducible rfl
                try simp only [Act.put, List.setIfInBounds_toArray, List.set_cons_zero, List.set_cons_succ]
                have BV0 : Bel W5 V0 := hHeld
                clear hHeld
                refine wpAnyH_ready (rs := [6, 10]) (by kernel_rfl) (by simp) ?_
                refine (AllReadyH.cons (o := { dst := some 87, op := .call { callee := .value (.func 32), args := #[.tmp 81, .tmp 82, .tmp 86], argTypes := _ }, type := _, pos := _, after := _, guard := none }) rfl (fun K hK => ?_) (AllReadyH.cons (o := { dst := some 19, op := .alloc 46, type := _, pos := _, after := _, guard := none }) rfl (fun K hK => ?_) AllReadyH.nil))
                · go_simp
                  refine (LQ.out _).mono ?_
                  rintro e w3 ⟨rfl, b3⟩
                  go_wp2_with fail
                  have B3 : Bel W5 w3 := BV0.trans b3
                  have SZ : Hid (V0.heap.size ≤ w3.heap.size) := b3.size
                  refine hK.out _ _ (B3) (fun _ => ?_)
                  clear hK K
                  try simp only [Act.put, List.setIfInBounds_toArray, List.set_cons_zero, List.set_cons_succ]
                  refine wpAnyH_take (i := 7) (oi := { dst := some 80, op := .move (.tmp 87), type := _, pos := _, after := _, guard := none }) (v := ?_) rfl (by kernel_rfl) (by kernel_rfl) (by kernel_rfl) (fun _ _ _ h => h) (Or.inl ⟨by rfl, ?_⟩) B3 ?_
                  rotate_left
                  · intro wx hSw; clear hSw; go_simp; with_reducible rfl
                  try simp only [Act.put, List.setIfInBounds_toArray, List.set_cons_zero, List.set_cons_succ]
                  refine wpAnyH_take (i := 8) (oi := { dst := some 88, op := .extract (.tmp 80) 0, type := _, pos := _, after := _, guard := none }) (v := ?_) rfl (by kernel_rfl) (by kernel_rfl) (by kernel_rfl) (fun _ _ _ h => h) (Or.inl ⟨by rfl, ?_⟩) B3 ?_
                  rotate_left
                  · intro wx hSw; clear hSw; go_simp; with_reducible rfl
                  try simp only [Act.put, List.setIfInBounds_toArray, List.set_cons_zero, List.set_cons_succ]
                  refine wpAnyH_take (i := 9) (oi := { dst := some 89, op := .extract (.tmp 80) 1, type := _, pos := _, after := _, guard := none }) (v := ?_) rfl (by kernel_rfl) (by kernel_rfl) (by kernel_rfl) (fun _ _ _ h => h) (Or.inl ⟨by rfl, ?_⟩) B3 ?_
                  rotate_left
                  · intro wx hSw; clear hSw; go_simp; with_reducible rfl
                  try simp only [Act.put, List.setIfInBounds_toArray, List.set_cons_zero, List.set_cons_succ]
                  refine wpAnyH_ready (rs := [10]) (by kernel_rfl) (by simp) ?_
                  refine (AllReadyH.cons (o := { dst := some 19, op := .alloc 46, type := _, pos := _, after := _, guard := none }) rfl (fun K hK => ?_) AllReadyH.nil)
                  have Bw3 : Bel W5 w3 := B3
                  go_simp
                  refine hK.out _ _ (Bw3.alloc _) (fun _ => ?_)
                  clear hK K
                  try simp only [Act.put, List.setIfInBounds_toArray, List.set_cons_zero, List.set_cons_succ]
                  obtain ⟨V1, hV1⟩ : ∃ V, V = World.alloc w3 (.cells (vals Z).toArray 46) := ⟨_, rfl⟩
                  have BV1 : Bel W5 V1 := hV1 ▸ Bw3.alloc _
                  have HT : Holds V1 (w3.heap.size) Z := hV1 ▸ holds_new w3 Z 46
                  rw [← hV1]
                  clear hV1
                  refine wpAnyH_ready (rs := [11]) (by kernel_rfl) (by simp) ?_
                  refine (AllReadyH.cons (o := { dst := none, op := .store 46 (.tmp 19) (.tmp 88), type := _, pos := _, after := _, guard := none }) rfl (fun K hK => ?_) AllReadyH.nil)
                  rw [if_pos (by rfl)]
                  refine wp_store_mid 46 _ _ rfl (w3.heap.size) 0 (vals M').toArray rfl rfl (by rw [size_vals, ML'.out]; exact HT.there 0 195 (by rw [ZL.out]; omega)) (by rw [size26, size_vals, ML'.out]) (vals_one _) ?_
                  have B6 : Bel W5 (World.setCells V1 (w3.heap.size) 0 (vals M')) := Bel.setCells (by have := ESW.out; have := SZ.out; omega) _ _ BV1
                  refine hK.out _ _ (B6) (fun _ => ?_)
                  clear hK K
                  try simp only [Act.put, List.setIfInBounds_toArray, List.set_cons_zero, List.set_cons_succ]
                  try simp only [List.toList_toArray]
                  refine wpAnyH_take (i := 12) (oi := { dst := some 20, op := .assign (.tmp 89), type := _, pos := _, after := _, guard := none }) (v := ?_) rfl (by kernel_rfl) (by kernel_rfl) (by kernel_rfl) (fun _ _ _ h => h) (Or.inl ⟨by rfl, ?_⟩) B6 ?_
                  rotate_left
                  · intro wx hSw; clear hSw; go_simp; with_reducible rfl
                  try simp only [Act.put, List.setIfInBounds_toArray, List.set_cons_zero, List.set_cons_succ]
                  refine wpAnyH_done (by kernel_rfl) ?_ _
                  go_wp2_with fail
                  go_meet
                  exact ⟨w3.heap.size, rfl, by have := ESW.out; have := SZ.out; omega, holds_all HT M' (ZL.out.trans ML'.out.symm), B6⟩
                · go_simp
                  refine hK.out _ _ (BV0.alloc _) (fun _ => ?_)
                  clear hK K
                  try simp only [Act.put, List.setIfInBounds_toArray, List.set_cons_zero, List.set_cons_succ]
                  obtain ⟨V1, hV1⟩ : ∃ V, V = World.alloc V0 (.cells (vals Z).toArray 46) := ⟨_, rfl⟩
                  have BV1 : Bel W5 V1 := hV1 ▸ BV0.alloc _
                  have HT : Holds V1 (V0.heap.size) Z := hV1 ▸ holds_new V0 Z 46
                  rw [← hV1]
                  clear hV1
                  refine wpAnyH_ready (rs := [6]) (by kernel_rfl) (by simp) ?_
                  refine (AllReadyH.cons (o := { dst := some 87, op := .call { callee := .value (.func 32), args := #[.tmp 81, .tmp 82, .tmp 86], argTypes := _ }, type := _, pos := _, after := _, guard := none }) rfl (fun K hK => ?_) AllReadyH.nil)
                  go_simp
                  refine (LQ.out _).mono ?_
                  rintro e w3 ⟨rfl, b3⟩
                  go_wp2_with fail
                  have B3 : Bel W5 w3 := BV1.trans b3
                  have HT := HT.bel b3
                  refine hK.out _ _ (B3) (fun _ => ?_)
                  clear hK K
                  try simp only [Act.put, List.setIfInBounds_toArray, List.set_cons_zero, List.set_cons_succ]
                  refine wpAnyH_take (i := 7) (oi := { dst := some 80, op := .move (.tmp 87), type := _, pos := _, after := _, guard := none }) (v := ?_) rfl (by kernel_rfl) (by kernel_rfl) (by kernel_rfl) (fun _ _ _ h => h) (Or.inl ⟨by rfl, ?_⟩) B3 ?_
                  rotate_left
                  · intro wx hSw; clear hSw; go_simp; with_reducible rfl
                  try simp only [Act.put, List.setIfInBounds_toArray, List.set_cons_zero, List.set_cons_succ]
                  refine wpAnyH_take (i := 8) (oi := { dst := some 88, op := .extract (.tmp 80) 0, type := _, pos := _, after := _, guard := none }) (v := ?_) rfl (by kernel_rfl) (by kernel_rfl) (by kernel_rfl) (fun _ _ _ h => h) (Or.inl ⟨by rfl, ?_⟩) B3 ?_
                  rotate_left
                  · intro wx hSw; clear hSw; go_simp; with_reducible rfl
                  try simp only [Act.put, List.setIfInBounds_toArray, List.set_cons_zero, List.set_cons_succ]
                  refine wpAnyH_take (i := 9) (oi := { dst := some 89, op := .extract (.tmp 80) 1, type := _, pos := _, after := _, guard := none }) (v := ?_) rfl (by kernel_rfl) (by kernel_rfl) (by kernel_rfl) (fun _ _ _ h => h) (Or.inl ⟨by rfl, ?_⟩) B3 ?_
                  rotate_left
                  · intro wx hSw; clear hSw; go_simp; with_reducible rfl
                  try simp only [Act.put, List.setIfInBounds_toArray, List.set_cons_zero, List.set_cons_succ]
                  refine wpAnyH_ready (rs := [11]) (by kernel_rfl) (by simp) ?_
                  refine (AllReadyH.cons (o := { dst := none, op := .store 46 (.tmp 19) (.tmp 88), type := _, pos := _, after := _, guard := none }) rfl (fun K hK => ?_) AllReadyH.nil)
                  rw [if_pos (by rfl)]
                  refine wp_store_mid 46 _ _ rfl (V0.heap.size) 0 (vals M').toArray rfl rfl (by rw [size_vals, ML'.out]; exact HT.there 0 195 (by rw [ZL.out]; omega)) (by rw [size26, size_vals, ML'.out]) (vals_one _) ?_
                  have B6 : Bel W5 (World.setCells w3 (V0.heap.size) 0 (vals M')) := Bel.setCells (by have := ESW.out; omega) _ _ B3
                  refine hK.out _ _ (B6) (fun _ => ?_)
                  clear hK K
                  try simp only [Act.put, List.setIfInBounds_toArray, List.set_cons_zero, List.set_cons_succ]
                  try simp only [List.toList_toArray]
                  refine wpAnyH_take (i := 12) (oi := { dst := some 20, op := .assign (.tmp 89), type := _, pos := _, after := _, guard := none }) (v := ?_) rfl (by kernel_rfl) (by kernel_rfl) (by kernel_rfl) (fun _ _ _ h => h) (Or.inl ⟨by rfl, ?_⟩) B6 ?_
                  rotate_left
                  · intro wx hSw; clear hSw; go_simp; with_reducible rfl
                  try simp only [Act.put, List.setIfInBounds_toArray, List.set_cons_zero, List.set_cons_succ]
                  refine wpAnyH_done (by kernel_rfl) ?_ _
                  go_wp2_with fail
                  go_meet
                  exact ⟨V0.heap.size, rfl, by have := ESW.out; omega, holds_all HT M' (ZL.out.trans ML'.out.symm), B6⟩
              obtain ⟨Y, rfl, hY, hH, b9⟩ := hcut
              have H9 : Hid (Holds wc Y M') := hH
              have L9 : Hid (Holds wc Lm M) := HM5.out.bel b9
              have D9 : Hid (CodAt wc (Lm + 1) l' h' o' ∧ Holds wc g (Gam.bitsOf u) ∧ Bel w wc) := ⟨K5.out.1.bel b9, HR5.out.bel b9, BW5.out.trans b9⟩
              clear hY hH b9 kb a0 a1 a2 HM5 HR5 BW5 K5 LW
              go_wp2_with (first
                | (with_reducible refine wpl_load26' H9.out ML'.out rfl ?_)
                | ((with_reducible refine wpl_store26x (B := Lm) (L := M) L9.out ML.out ML'.out rfl rfl ?_); intro W7 hW7 hX7; have K7 : Hid (RIn Lm (Lm + 1) g s (Gam.bitsOf u) (j + 1) w W7) := (by have gl := GL.out; exact KN.out W7 hW7 (D9.out.1.exc hX7 (by omega)) (hX7.holds D9.out.2.1 (by omega)) (Exc.from hX7 D9.out.2.2 (fun i hi => by omega)))); clear hW7 hX7)
              go_roundw
              case rel => exact ⟨j + 1, by omega, by go_num, K7⟩
              case measure => simp [intOf]; omega
            · obtain rfl : j = m := by omega
              have hdj : decide ((j : Int) < (j : Int)) = false := decide_eq_false (by omega)
              have tk : (Gam.bitsOf u).take j = Gam.bitsOf u := List.take_of_length_le (by have := HM.out.1; omega)
              have ON : Hid (Calls Tryz.prog 33 #[.slice (some ⟨g, 0, none⟩) j c] wr fun e w' => e = .returned (.int .i64 ((Gam.many u : Nat) : Int)) ∧ w' = wr) := by
                have := Ctx.ones_ok (some ⟨g, 0, none⟩) (Gam.bitsOf u) j c HM.out.1 (by unfold maxLen; omega) wr KI.out.row.slc
                rwa [show Gam.ones (Gam.bitsOf u) = Gam.many u from Gam.ones_is _ _ (by rw [Gam.bitsOf_length]; omega) (fun i hi => Gam.getD_one u i hi) (.inr (by rw [Gam.getD_mid]; decide))] at this
              have K2 : Hid (ROut Lm (Lm + 1) rs (k + 1) w wr ∧ (puts s0 (rs.take (k + 1))).2.2 = ((Gam.many u : Nat) : Int)) := by
                obtain ⟨q1, q2, q3, q4⟩ := KI.out
                rw [tk] at q1 q2
                refine ⟨⟨FI.out, by rw [KS.out]; exact q1, by rw [KS.out]; exact q2, q4⟩, by rw [KS.out]⟩
              clear KI tk KS OK FI
              go_wp2_with fail
              refine ON.out.mono ?_
              rintro e w6 ⟨rfl, rfl⟩
              clear ON
              go_wp2
              go_roundw
              case rel => exact ⟨k + 1, by omega, by go_num, by rw [K2.out.2], K2.out.1⟩
              case measure => simp [intOf]; omega
        · have FQ : Hid (∀ w, Calls Tryz.prog 27 #[.int .i64 (rs.getD k 0)] w fun e w' => e = .returned (.tuple #[.int .i64 0, .int .i64 1000]) ∧ w' = w) := Fld.rput_no _ (by unfold Fits at fx; omega)
          have eo : okB rs = false := by
            cases h : okB rs
            · rfl
            · exact absurd (((okB_iff rs).1 h).2 k (HN.out ▸ hlt)) fx
          have ES : Hid (putS rs = ⟨#[]⟩ ∧ putE rs = 1300 ∧ Bel w wr) := ⟨by unfold putS; rw [eo]; rfl, by unfold putE; rw [eo]; rfl, K.out.bel⟩
          clear eo fx K
          generalize rs.getD k 0 = x at *
          go_wp2_with fail
          refine (FQ.out _).mono ?_
          rintro e w3 ⟨rfl, rfl⟩
          clear FQ
          go_wp2
          go_ret2
          refine ⟨?_, ES.out.2.2⟩
          rw [ES.out.1, ES.out.2.1]
          rfl
      · obtain rfl : k = n := by omega
        have hd2 : decide ((k : Int) < (k : Int)) = false := decide_eq_false (by omega)
        have tk : rs.take k = rs := List.take_of_length_le (by have := HN.out; omega)
        have af : AllFit rs := fun i hi => K.out.fit i (by have := HN.out; omega)
        have OK := ok_take (by have := HN.out; omega) K.out.fit
        rw [tk] at OK
        have eo : okB rs = true := (okB_iff rs).2 ⟨by have := HN.out; omega, af⟩
        have kc := K.out.cod
        rw [tk] at kc
        obtain ⟨⟨k0, k1, k2⟩, -⟩ := kc
        have EQ : Hid (∀ w, Calls Tryz.prog 34 #[.agg #[.int .i64 (puts s0 rs).2.1.l, .int .i64 (puts s0 rs).2.1.h, .string ⟨(puts s0 rs).2.1.o.toArray⟩]] w fun e w' => e = .returned (.tuple #[.string (told rs), .int .i64 0]) ∧ Bel w w') := fun w => Coder.endCoder_may _ _ _ OK.bet (by rw [Deco.mk_size]; have := OK.out; omega) w
        have ES : Hid (putS rs = told rs ∧ putE rs = 0 ∧ Bel w wr) := ⟨by unfold putS; rw [eo]; rfl, by unfold putE; rw [eo]; rfl, K.out.bel⟩
        obtain ⟨s, hs⟩ : ∃ s, told rs = s := ⟨_, rfl⟩
        rw [hs] at EQ ES
        simp only [tk]
        generalize (puts s0 rs).2.1.l = l at *
        generalize (puts s0 rs).2.1.h = h at *
        generalize (puts s0 rs).2.1.o = o at *
        generalize (puts s0 rs).2.2 = b at *
        clear K OK tk af eo hs
        go_wp2_with fail
        refine (EQ.out _).mono ?_
        rintro e w5 ⟨rfl, b5⟩
        clear EQ k0 k1 k2
        go_wp2
        go_ret2
        refine ⟨?_, ES.out.2.2.trans b5⟩
        rw [ES.out.1, ES.out.2.1]
        rfl
  · have hd : decide ((256 : Int) < (n : Int)) = true := decide_eq_true (by omega)
    have eo : okB rs = false := by cases h : okB rs; rfl; have := ((okB_iff rs).1 h).1; omega
    have es : putS rs = ⟨#[]⟩ := by unfold putS; rw [eo]; rfl
    have ee : putE rs = 1300 := by unfold putE; rw [eo]; rfl
    rw [es, ee]
    clear hA hn eo es ee
    go_enter Tryz.func7, Tryz.ntmps7
    go_wp2
    go_ret2
    exact ⟨rfl, Bel.refl _⟩

end Go.Proofs.YtocnlefpbcnlmaaGreatDoor.Res
