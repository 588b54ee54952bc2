/-
  Plain facts on the reference's way through a number's bits, and rows and decoders in memory. No condition.
-/
import Derived.Test.YtocnlefpbcnlmaaGreatDoorPk20
import Derived.Test.YtocnlefpbcnlmaaGreatDoorYRefDec
import Derived.Test.YtocnlefpbcnlmaaGreatDoorGRNum
namespace Go.Proofs.YtocnlefpbcnlmaaGreatDoor.Res
open Go.RowKit Go.Sort Go.Proofs.YtocnlefpbcnlmaaGreatDoor.Mod Go.Proofs.YtocnlefpbcnlmaaGreatDoor.Ints
set_option linter.unusedVariables false
set_option linter.unusedSimpArgs false

theorem ones_app (x : Int) : ∀ (bs : List Int), Gam.ones (bs ++ [x]) = if Gam.ones bs < bs.length then Gam.ones bs else if x = 1 then bs.length + 1 else bs.length
  | [] => by simp [Gam.ones]
  | b :: r => by
    have ih := ones_app x r
    rw [List.cons_append, Gam.ones, Gam.ones]
    by_cases hb : b = 1
    · rw [if_pos hb, if_pos hb, ih, List.length_cons]
      repeat' split
      all_goals omega
    · rw [if_neg hb, if_neg hb, if_pos (by rw [List.length_cons]; omega)]

/-- Bits none of which are too many. -/
def NW (bs : List Int) : Prop := Gam.ones bs < bs.length → bs.length ≤ 2 * Gam.ones bs + 1
theorem nw_nil : NW [] := fun h => absurd h (by simp)
theorem nw_snoc {bs : List Int} (h : NW bs) (hw : whole bs = false) (x : Int) : NW (bs ++ [x]) := by
  intro hl
  have hle := Gam.ones_le bs
  rw [ones_app] at hl ⊢
  rw [List.length_append] at hl ⊢
  simp only [List.length_cons, List.length_nil] at hl ⊢
  by_cases q : Gam.ones bs < bs.length
  · rw [if_pos q] at hl ⊢
    have := h q
    have hne : ¬ bs.length = 2 * Gam.ones bs + 1 := fun e => by
      unfold whole Ctx.has0 at hw
      rw [decide_eq_true q, decide_eq_true e] at hw
      cases hw
    omega
  · rw [if_neg q] at hl ⊢
    split <;> omega
/-- Which of the four it is. -/
theorem nw_cases {bs : List Int} (h : NW bs) (hw : whole bs = false) : bs.length = 0 ∨ (0 < bs.length ∧ Gam.ones bs = bs.length) ∨ (0 < bs.length ∧ Gam.ones bs < bs.length ∧ bs.length < 2 * Gam.ones bs + 1) := by
  have hle := Gam.ones_le bs
  by_cases h0 : bs.length = 0
  · exact .inl h0
  · by_cases q : Gam.ones bs < bs.length
    · right; right
      have := h q
      have hne : ¬ bs.length = 2 * Gam.ones bs + 1 := fun e => by
        unfold whole Ctx.has0 at hw
        rw [decide_eq_true q, decide_eq_true e] at hw
        cases hw
      omega
    · exact .inr (.inl ⟨by omega, by omega⟩)
theorem whole_is {bs : List Int} (hw : whole bs = true) : Gam.ones bs < bs.length ∧ bs.length = 2 * Gam.ones bs + 1 := by
  unfold whole Ctx.has0 at hw
  rw [Bool.and_eq_true, decide_eq_true_eq, decide_eq_true_eq] at hw
  exact hw

theorem run_len {σ : Type} (nxt : σ → Int → Int × σ) : ∀ (n : Nat) (M : List Int) (b : Int) (s : σ) (bs : List Int) (q : List Int × σ × List Int), run nxt n M b s bs = some q → bs.length ≤ q.2.2.length := by
  intro n
  induction n with
  | zero => intro M b s bs q h; cases h
  | succ n ihn =>
    intro M b s bs q h
    rw [run] at h
    split at h
    · obtain rfl := Option.some.inj h
      exact Nat.le_refl _
    · split at h
      · cases h
      · have := ihn _ _ _ _ _ h
        rw [List.length_append] at this
        omega

/-- Bits that go on beyond the 51st tell no number. -/
theorem takes_long {t : ByteArray} {s : Sta} {f k : Nat} {M : List Int} {b : Int} {c : Cod} {bs : List Int} {R : Option (List Int × Cod × List Int)} (h1 : run (nxtT t) 65 s.1 s.2.2 s.2.1 [] = R) (h2 : run (nxtT t) f M b c bs = R) (hl : 51 < bs.length) : takes t (k + 1) s = none := by
  rw [takes, h1]
  cases R with
  | none => rfl
  | some q =>
    have := run_len (nxtT t) _ _ _ _ _ _ h2
    obtain ⟨q1, q2, q3⟩ := q
    simp only at this ⊢
    rw [if_neg fun e => by have := (numP_fine e).2.2; omega]

theorem rget13_ok (v : Int) (h0 : 0 ≤ v) (h1 : v ≤ 33554432) (w : World) :
    Calls Tryz.prog 40 #[.int .i64 v] w fun e w' => e = .returned (.tuple #[.int .i64 (unfolded v), .int .i64 0]) ∧ w' = w := by
  by_cases h : v % 2 = 0
  · exact Fld.rget_even v _ h0 h1 (by unfold unfolded; rw [if_pos h]; omega) w
  · exact Fld.rget_odd v _ h0 h1 (by unfold unfolded; rw [if_neg h]; omega) w

/-- A decoder in a variable. -/
def DecAt (t : ByteArray) (w : World) (B : Nat) (c : Cod) : Prop :=
  (w.cell? ⟨B, 0, none⟩ = some (.int .i64 c.l) ∧ w.cell? ⟨B, 1, none⟩ = some (.int .i64 c.h) ∧ w.cell? ⟨B, 2, none⟩ = some (.int .i64 (Coder.win t c.o.length)) ∧ w.cell? ⟨B, 3, none⟩ = some (.string t) ∧ w.cell? ⟨B, 4, none⟩ = some (.int .i64 ((c.o.length + 4 : Nat) : Int))) ∧ w.there B 0 5
theorem DecAt.bel {t : ByteArray} {w w' : World} {B : Nat} {c : Cod} (d : DecAt t w B c) (b : Bel w w') : DecAt t w' B c := ⟨⟨b.keep d.1.1, b.keep d.1.2.1, b.keep d.1.2.2.1, b.keep d.1.2.2.2.1, b.keep d.1.2.2.2.2⟩, there_bel d.2 b⟩
theorem DecAt.exc {S : Nat → Prop} {t : ByteArray} {w w' : World} {B : Nat} {c : Cod} (d : DecAt t w B c) (x : Exc S w w') (hB : ¬ S B) : DecAt t w' B c := ⟨⟨x.keep d.1.1 hB, x.keep d.1.2.1 hB, x.keep d.1.2.2.1 hB, x.keep d.1.2.2.2.1 hB, x.keep d.1.2.2.2.2 hB⟩, there_exc d.2 x hB⟩
theorem dec_laid {t : ByteArray} {w : World} {B : Nat} (c : Cod) (h : w.there B 0 5) (l hh n q : Int) (e0 : l = c.l) (e1 : hh = c.h) (e2 : n = Coder.win t c.o.length) (e3 : q = ((c.o.length + 4 : Nat) : Int)) :
    DecAt t (w.setCells B 0 [.int .i64 l, .int .i64 hh, .int .i64 n, .string t, .int .i64 q]) B c := by
  subst e0 e1 e2 e3
  obtain ⟨v0, k0⟩ := Option.isSome_iff_exists.1 (h 0 (by decide)).1
  obtain ⟨v1, k1⟩ := Option.isSome_iff_exists.1 (h 1 (by decide)).1
  obtain ⟨v2, k2⟩ := Option.isSome_iff_exists.1 (h 2 (by decide)).1
  obtain ⟨v3, k3⟩ := Option.isSome_iff_exists.1 (h 3 (by decide)).1
  obtain ⟨v4, k4⟩ := Option.isSome_iff_exists.1 (h 4 (by decide)).1
  have e0 : ∀ {a b c d e : Value}, (w.setCells B 0 [a, b, c, d, e]) = ((((w.setCell ⟨B, 0, none⟩ a).setCell ⟨B, 1, none⟩ b).setCell ⟨B, 2, none⟩ c).setCell ⟨B, 3, none⟩ d).setCell ⟨B, 4, none⟩ e := rfl
  obtain ⟨W, hW⟩ : ∃ W, W = w.setCells B 0 [.int .i64 c.l, .int .i64 c.h, .int .i64 (Coder.win t c.o.length), .string t, .int .i64 ((c.o.length + 4 : Nat) : Int)] := ⟨_, rfl⟩
  have q0 : W.cell? ⟨B, 0, none⟩ = some (.int .i64 c.l) := by rw [hW, e0]; exact other_cell (by decide : 4 ≠ 0) (other_cell (by decide : 3 ≠ 0) (other_cell (by decide : 2 ≠ 0) (other_cell (by decide : 1 ≠ 0) (same_cell k0))))
  have q1 : W.cell? ⟨B, 1, none⟩ = some (.int .i64 c.h) := by rw [hW, e0]; exact other_cell (by decide : 4 ≠ 1) (other_cell (by decide : 3 ≠ 1) (other_cell (by decide : 2 ≠ 1) (same_cell (other_cell (by decide : 0 ≠ 1) k1))))
  have q2 : W.cell? ⟨B, 2, none⟩ = some (.int .i64 (Coder.win t c.o.length)) := by rw [hW, e0]; exact other_cell (by decide : 4 ≠ 2) (other_cell (by decide : 3 ≠ 2) (same_cell (other_cell (by decide : 1 ≠ 2) (other_cell (by decide : 0 ≠ 2) k2))))
  have q3 : W.cell? ⟨B, 3, none⟩ = some (.string t) := by rw [hW, e0]; exact other_cell (by decide : 4 ≠ 3) (same_cell (other_cell (by decide : 2 ≠ 3) (other_cell (by decide : 1 ≠ 3) (other_cell (by decide : 0 ≠ 3) k3))))
  have q4 : W.cell? ⟨B, 4, none⟩ = some (.int .i64 ((c.o.length + 4 : Nat) : Int)) := by rw [hW, e0]; exact same_cell (other_cell (by decide : 3 ≠ 4) (other_cell (by decide : 2 ≠ 4) (other_cell (by decide : 1 ≠ 4) (other_cell (by decide : 0 ≠ 4) k4))))
  rw [← hW]
  refine ⟨⟨q0, q1, q2, q3, q4⟩, fun j hj => ?_⟩
  have fz := (h j hj).2
  have ff : W.frozen? ⟨B, 0 + j, none⟩ = false := by rw [hW, e0, World.frozen?_setCell, World.frozen?_setCell, World.frozen?_setCell, World.frozen?_setCell, World.frozen?_setCell]; exact fz
  refine ⟨?_, ff⟩
  match j, hj with
  | 0, _ => rw [Nat.add_zero, q0]; rfl
  | 1, _ => rw [Nat.zero_add, q1]; rfl
  | 2, _ => rw [Nat.zero_add, q2]; rfl
  | 3, _ => rw [Nat.zero_add, q3]; rfl
  | 4, _ => rw [Nat.zero_add, q4]; rfl

section
variable {ops : Array Oper} {rest : List Oper} {a : Act} {w : World} {Q : Exit → Act → World → Prop}
theorem wpl_storeD {dst : Option Tmp} {ty : TypeId} {pos : String} {after : Array Edge} {x y : Operand} {B : Nat} {t : ByteArray} (c : Cod) {l hh n q : Int} (h : w.there B 0 5) (e0 : l = c.l) (e1 : hh = c.h) (e2 : n = Coder.win t c.o.length) (e3 : q = ((c.o.length + 4 : Nat) : Int)) (hx : a.eval x = .pointer (some ⟨B, 0, none⟩)) (hy : a.eval y = .agg #[.int .i64 l, .int .i64 hh, .int .i64 n, .string t, .int .i64 q])
    (k : ∀ W, DecAt t W B c → Exc (fun k => k = B) w W → wpList Tryz.prog ops Q rest (a.put dst undef) W) :
    wpList Tryz.prog ops Q ({ dst := dst, op := .store 76 x y, type := ty, pos := pos, after := after, guard := none } :: rest) a w :=
  wpList_store_mid rfl 76 x y rfl B 0 #[.int .i64 l, .int .i64 hh, .int .i64 n, .string t, .int .i64 q] hx hy h (by kernel_rfl) (by kernel_rfl) (k _ (dec_laid c h l hh n q e0 e1 e2 e3) (Exc.setCells (S := fun k => k = B) (fun _ => rfl) _ 0 (Exc.refl _ w)))

/-- One more is appended; what else there was stays. -/
theorem wpl_grow {o : Oper} (w : World) (hgd : o.guard = none) (s x : Operand)
    (ho : o.op = .call { callee := .builtin .append, args := #[s, x], argTypes := #[22, 22] }) (B n : Nat) (hB : B ≤ w.heap.size) (v : Value) (L : List Int) (y : Int) (hs : a.eval s = v) (hx : a.eval x = .slice (some ⟨w.heap.size, 0, none⟩) 1 1)
    (hown : w.ownsRow B 3 1 v n (vals L)) (h8 : n ≤ 1000)
    (k : ∀ v' w1, w1.ownsRow B 3 1 v' (n + 1) (vals (L ++ [y])) → Exc (fun i => v.ownBlock = some i) w w1 → wpList Tryz.prog ops Q rest (a.put o.dst v') w1) :
    wpList Tryz.prog ops Q (o :: rest) a (w.alloc (.cells #[.int .i64 y] 3)) := by
  obtain ⟨i0, hi, hz0, hz1, hz2⟩ := info_parts Ints.info_int
  refine wpList_append_own _ hgd s x 22 ho B 3 i0 (.int .i64 0) 1 8 Tryz.underlying22 hi hz0 hz1 hz2 rfl (by decide) _ n _ hs (hown.alloc _) ⟨w.heap.size, 0, none⟩ 1 1 (vals [y]) hx rfl (one_cell _ _) (ints_oneCell _ _) (by unfold maxLen; omega) (by omega) (by simp; omega) ?_
  intro v' w1 ho1 hg _
  exact k v' w1 (by rw [vals_append]; exact ho1) (((Exc.refl _ w).alloc _).grown hg (fun k hk _ => hk))
end

end Go.Proofs.YtocnlefpbcnlmaaGreatDoor.Res
