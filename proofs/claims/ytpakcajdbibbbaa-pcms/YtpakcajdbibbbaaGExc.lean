/-
  What stays where some blocks may be written: worlds that are one but for these. No condition.
-/
import Derived.Test.YtpakcajdbibbbaaGRow
namespace Go.Proofs.Ytpakcajdbibbbaa.Mod
open Go.RowKit
set_option linter.unusedVariables false

/-- Of what was there, only the blocks of S may have turned. -/
structure Exc (S : Nat → Prop) (w w' : World) : Prop where
  os : w'.os = w.os
  tape : w'.tape = w.tape
  output : w'.output = w.output
  size : w.heap.size ≤ w'.heap.size
  block : ∀ k, k < w.heap.size → ¬ S k → w'.heap[k]? = w.heap[k]?

theorem Exc.refl (S : Nat → Prop) (w : World) : Exc S w w := ⟨rfl, rfl, rfl, Nat.le_refl _, fun _ _ _ => rfl⟩
theorem Exc.of_bel {S : Nat → Prop} {w w' : World} (h : Bel w w') : Exc S w w' := ⟨h.os, h.tape, h.output, h.size, fun k hk _ => h.block k hk⟩
/-- What is turned later may be new, too. -/
theorem Exc.trans {S T : Nat → Prop} {a b c : World} (h : Exc S a b) (k : Exc T b c) (hT : ∀ i, i < a.heap.size → T i → S i) : Exc S a c :=
  ⟨k.os.trans h.os, k.tape.trans h.tape, k.output.trans h.output, Nat.le_trans h.size k.size, fun i hi hs => (k.block i (Nat.lt_of_lt_of_le hi h.size) (fun t => hs (hT i hi t))).trans (h.block i hi hs)⟩
theorem Exc.bel {S : Nat → Prop} {a b c : World} (h : Exc S a b) (k : Bel b c) : Exc S a c := h.trans (T := fun _ => False) (Exc.of_bel k) (fun _ _ f => f.elim)
theorem Exc.mono {S T : Nat → Prop} {w w' : World} (h : Exc S w w') (hS : ∀ i, i < w.heap.size → S i → T i) : Exc T w w' := ⟨h.os, h.tape, h.output, h.size, fun k hk ht => h.block k hk (fun s => ht (hS k hk s))⟩
theorem Exc.drew {S : Nat → Prop} {w w' : World} (h : Exc S w w') : Exc S w w'.drew := ⟨h.os, h.tape, h.output, h.size, h.block⟩
theorem Exc.drewN {S : Nat → Prop} {w w' : World} (h : Exc S w w') (n : Nat) : Exc S w (w'.drewN n) := ⟨h.os, h.tape, h.output, h.size, h.block⟩
theorem Exc.alloc {S : Nat → Prop} {w w' : World} (h : Exc S w w') (o : Obj) : Exc S w (w'.alloc o) := h.bel ((Bel.refl _).alloc o)
theorem Exc.setCell {S : Nat → Prop} {w w' : World} (h : Exc S w w') {a : Addr} (ha : a.block < w.heap.size → S a.block) (v : Value) : Exc S w (w'.setCell a v) :=
  ⟨h.os, h.tape, h.output, by have := h.size; simpa [World.setCell] using this, fun k hk hs => by
    rw [Below.heap_setCell _ _ _ _ (by rintro rfl; exact hs (ha hk))]; exact h.block k hk hs⟩
theorem Exc.setCells {S : Nat → Prop} {w : World} {B : Nat} (hB : B < w.heap.size → S B) : ∀ (vs : List Value) (o : Nat) {w' : World}, Exc S w w' → Exc S w (w'.setCells B o vs)
  | [], _, _, h => h
  | v :: r, o, _, h => Exc.setCells hB r (o + 1) (h.setCell (a := ⟨B, o, none⟩) hB v)
/-- Behind append. -/
theorem Exc.grown {S : Nat → Prop} {a w w' : World} {row : Option Nat} (h : Exc S a w) (hg : w.grownBy w' row) (hr : ∀ k, row = some k → k < a.heap.size → S k) : Exc S a w' :=
  h.trans (T := fun k => row = some k) ⟨hg.os, hg.tape, hg.output, hg.size, fun k hk hs => hg.block k hk (fun e => hs e.symm)⟩ (fun i hi e => hr i e hi)

theorem Exc.keep {S : Nat → Prop} {w w' : World} (h : Exc S w w') {a : Addr} {v : Value} (c : w.cell? a = some v) (ha : ¬ S a.block) : w'.cell? a = some v := by
  rw [World.cell?_of_block (w := w) (h.block a.block (block_lt_of_cell c) ha)]; exact c
theorem Exc.free {S : Nat → Prop} {w w' : World} (h : Exc S w w') {a : Addr} {v : Value} (c : w.cell? a = some v) (ha : ¬ S a.block) (f : w.frozen? a = false) : w'.frozen? a = false := by
  rw [World.frozen?_of_block (w := w) (h.block a.block (block_lt_of_cell c) ha)]; exact f
theorem Exc.holds {S : Nat → Prop} {w w' : World} (h : Exc S w w') {B : Nat} {L : List Int} (c : Holds w B L) (hB : ¬ S B) : Holds w' B L :=
  ⟨fun k hk => h.keep (c.cell k hk) hB, fun k hk => h.free (c.cell k hk) hB (c.free k hk)⟩
theorem add_block (x : Addr) (k : Nat) : (x.add k).block = x.block := by unfold Addr.add; split <;> rfl
theorem Exc.slc {S : Nat → Prop} {w w' : World} (h : Exc S w w') {ao : Option Addr} {L : List Int} (c : Slc w ao L) (hB : ∀ x, ao = some x → ¬ S x.block) : Slc w' ao L := fun k hk => by
  obtain ⟨x, hx, hc⟩ := c k hk
  exact ⟨x, hx, h.keep hc (by rw [add_block]; exact hB x hx)⟩
theorem Exc.owns {S : Nat → Prop} {w w' : World} (h : Exc S w w') {base n : Nat} {v : Value} {xs : List Value} (c : w.ownsRow base 3 1 v n xs) (hB : ∀ k, base ≤ k → ¬ S k) : w'.ownsRow base 3 1 v n xs := by
  refine ⟨c.1, ?_⟩
  rcases c.2 with q | ⟨g, cap, cur, h1, h2, h3, h4⟩
  · exact .inl q
  · exact .inr ⟨g, cap, cur, h1, h2, by rw [h.block g (Array.getElem?_eq_some_iff.1 h3).1 (hB g h2)]; exact h3, h4⟩
/-- Where all that may turn is new to an elder world. -/
theorem Exc.from {S : Nat → Prop} {a b c : World} (k : Exc S b c) (h : Bel a b) (hS : ∀ i, S i → a.heap.size ≤ i) : Bel a c :=
  ⟨k.os.trans h.os, k.tape.trans h.tape, k.output.trans h.output, Nat.le_trans h.size k.size, fun i hi => (k.block i (Nat.lt_of_lt_of_le hi h.size) (fun s => by have := hS i s; omega)).trans (h.block i hi)⟩

end Go.Proofs.Ytpakcajdbibbbaa.Mod
