/-
  Great values stored where some blocks may be written: the world under a letter, with what it holds and what may have turned. No condition.
-/
import Derived.Test.YtamefddgpdhccaaGVal
import Derived.Test.YtamefddgpdhccaaGExc
namespace Go.Proofs.Ytamefddgpdhccaa.Mod
open Go.RowKit Go.Sort
set_option linter.unusedVariables false

section
variable {ops : Array Oper} {rest : List Oper} {dst : Option Tmp} {a : Act} {w : World} {Q : Exit → Act → World → Prop} {ty : TypeId} {pos : String} {after : Array Edge} {x y : Operand} {B n : Nat} {L M : List Int} {t : TypeId}

theorem wpl_store_widex (T : Wide t n) (h : Holds w B L) (hL : L.length = n) (hM : M.length = n) (hx : a.eval x = .pointer (some ⟨B, 0, none⟩)) (hy : a.eval y = mdl M)
    (k : ∀ W, Hid (Holds W B M) → Hid (Exc (fun k => k = B) w W) → wpList Try.prog ops Q rest (a.put dst undef) W) :
    wpList Try.prog ops Q ({ dst := dst, op := .store t x y, type := ty, pos := pos, after := after, guard := none } :: rest) a w :=
  wpl_store_wide (o := 0) T h (by omega) hM hx hy (k _ (holds_all h M (hL.trans hM.symm)) (Exc.setCells (S := fun k => k = B) (fun _ => rfl) _ 0 (Exc.refl _ w)))
end

end Go.Proofs.Ytamefddgpdhccaa.Mod
