/-
  The contract of number, of whichever step it is handed. Conditions: the package's table is laid as its text lays it; what the step does.
-/
import Derived.Test.YtoldedbfoechlaaGreatDoorRCall
import Derived.Test.YtoldedbfoechlaaGreatDoorNLearnY
import Derived.Deep.RegionWith
import Derived.Deep.CutRange
namespace Go.Proofs.YtoldedbfoechlaaGreatDoor.Res
open Go.RowKit Go.Sort Go.Proofs.YtoldedbfoechlaaGreatDoor.Mod Go.Proofs.YtoldedbfoechlaaGreatDoor.Ints
set_option linter.unusedVariables false
set_option linter.unusedSimpArgs false

def lenOf : Value → Nat
  | .slice _ n _ => n
  | _ => 0

/-- What the way through a number's bits ends in. -/
def Ends {σ : Type} (N Lb P : Nat) (St : World → σ → Prop) (Inv : σ → List Int → Prop) (w' : World) (e : Ending) : Option (List Int × σ × List Int) → Prop
  | none => e = .returned (.tuple #[.slice none 0 0, .bool false])
  | some (M, t, bs) => (∃ ao cap, e = .returned (.tuple #[.slice ao bs.length cap, .bool true]) ∧ bs.length ≤ cap ∧ cap ≤ maxLen ∧ Slc w' ao bs ∧ ∀ x, ao = some x → N ≤ x.block) ∧
      Holds w' Lb (M ++ [((bs.length / 2 : Nat) : Int)]) ∧ St w' t ∧ M.length = 195 ∧ mayM M = true ∧ Inv t bs ∧ whole bs = true ∧ Ctx.Bits01 bs ∧ bs.length ≤ 64

/-- What holds at a round's beginning. -/
structure Way {σ : Type} (N Lb P : Nat) (St : World → σ → Prop) (Inv : σ → List Int → Prop) (nxt : σ → Int → Int × σ) (R : Option (List Int × σ × List Int)) (b : Int) (w wr : World) (M : List Int) (t : σ) (bs : List Int) (v : Value) : Prop where
  run : run nxt (65 - bs.length) M b t bs = R
  len : M.length = 195
  may : mayM M = true
  b01 : Ctx.Bits01 bs
  inv : Inv t bs
  mem : Holds wr Lb (M ++ [b])
  st : St wr t
  row : wr.ownsRow N 3 1 v bs.length (vals bs)
  exc : Exc (fun k => k = Lb ∨ k = P) w wr

section
variable {ops : Array Oper} {rest : List Oper} {dst : Option Tmp} {a : Act} {w : World} {ty : TypeId} {pos : String} {after : Array Edge} {x : Operand} {B : Nat} {M X : List Int}
/-- A learner's model, and a context, in a region that reads. -/
theorem quiet_load46 {Q : Act → Prop} (h : Holds w B (M ++ X)) (hM : M.length = 195) (hx : a.eval x = .pointer (some ⟨B, 0, none⟩))
    (k : wpQuiet Tryz.prog ops (fun w' => ∃ p : Regrown, w' = grow (redrawn w p.d) p.os) Q rest (a.put dst (mdl M))) :
    wpQuiet Tryz.prog ops (fun w' => ∃ p : Regrown, w' = grow (redrawn w p.d) p.os) Q ({ dst := dst, op := .load 46 x, type := ty, pos := pos, after := after, guard := none } :: rest) a :=
  quiet_load26 (holds_front h) hM hx k
end

theorem store46 {w : World} {B : Nat} {L M : List Int} {b : Int} (h : Holds w B (L ++ [b])) (hM : M.length = 195) (hL : L.length = 195) :
    (storeVar 46 ⟨B, 0, none⟩ (mdl M)).run Tryz.prog w = .ok () (w.setCells B 0 (vals M)) := by
  have hs : (vals M).toArray.size = 195 := by simp [vals_length, hM]
  have := run_storeVar_mid (P := Tryz.prog) w B 0 46 (vals M).toArray (by rw [hs]; exact h.there 0 195 (by rw [List.length_append, hL]; simp)) (by rw [size26, hs]) (vals_one M)
  simpa using this

theorem fuel {σ : Type} (nxt : σ → Int → Int × σ) (n : Nat) (hn : n ≤ 64) (M : List Int) (b : Int) (t : σ) (bs : List Int) : run nxt (65 - n) M b t bs = if whole bs then some (M, t, bs) else if 63 < bs.length then none else
      run nxt (64 - n) (lrn M b bs (nxt t (pOf M b bs)).1) b (nxt t (pOf M b bs)).2 (bs ++ [(nxt t (pOf M b bs)).1]) := by
  rw [show 65 - n = (64 - n) + 1 by omega, run]

theorem row_block {w : World} {N n m cap : Nat} {ao : Option Addr} {xs : List Value} (h : w.ownsRow N 3 1 (.slice ao n cap) m xs) : ∀ x, ao = some x → N ≤ x.block := fun x hx => by
  rcases h.2 with ⟨q, _⟩ | ⟨g, c, cur, q, hb, _⟩
  · injection q with q1 _ _; rw [hx] at q1; cases q1
  · injection q with q1 _ _; rw [hx] at q1; obtain rfl := Option.some.inj q1; exact hb

theorem set_last {M : List Int} (hM : M.length = 195) (b x : Int) : (M ++ [b]).set 195 x = M ++ [x] := by
  rw [List.set_append_right _ _ (by omega)]; simp [hM]
theorem get_last {M : List Int} (hM : M.length = 195) (b : Int) : (M ++ [b]).getD 195 0 = b := by
  simp [List.getD_eq_getElem?_getD, List.getElem?_append_right, hM]

end Go.Proofs.YtoldedbfoechlaaGreatDoor.Res
