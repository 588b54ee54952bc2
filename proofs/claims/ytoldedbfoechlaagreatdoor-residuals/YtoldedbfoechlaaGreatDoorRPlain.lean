/-
  Plain facts: a text's numbers are as many as were told. No condition.
-/
import Derived.Test.YtoldedbfoechlaaGreatDoorRNum
namespace Go.Proofs.YtoldedbfoechlaaGreatDoor.Res
open Go.RowKit
set_option linter.unusedVariables false

/-- Behind a text's end, at the least that is left: what is settled leaves the least again. -/
theorem settle_low (t : ByteArray) : ∀ (n : Nat) (u v : Int) (a : Nat), Coder.win t a = u → (∀ j, a + 4 ≤ j → Coder.bz t j = 0) →
    Coder.win t (a + (Coder.settle n u v).1.length) = (Coder.settle n u v).2.1 := by
  intro n
  induction n with
  | zero => intro u v a h hz; exact h
  | succ n ihn =>
    intro u v a h hz
    rw [Coder.settle]
    split
    · have hn := Coder.win_next t a
      rw [hz (a + 4) (Nat.le_refl _), h, Int.add_zero] at hn
      have ih := ihn (u * 256 % 4294967296) (v * 256 % 4294967296 + 255) (a + 1) hn.symm (fun j hj => hz j (by omega))
      simp only [List.length_cons]
      rw [show a + ((Coder.settle n (u * 256 % 4294967296) (v * 256 % 4294967296 + 255)).1.length + 1) = a + 1 + (Coder.settle n (u * 256 % 4294967296) (v * 256 % 4294967296 + 255)).1.length by omega]
      exact ih
    · exact h

/-- At the least that is left, and behind a text's end. -/
def Least (t : ByteArray) (c : Cod) : Prop := Coder.win t c.o.length = c.l ∧ ∀ j, c.o.length + 4 ≤ j → Coder.bz t j = 0

theorem least_bit {t : ByteArray} {c : Cod} (hb : Coder.Between c.l c.h) {p : Int} (hp : 1 ≤ p ∧ p ≤ 4095) (h : Least t c) : bitT t c p = 1 ∧ Least t (codS c 1 p) := by
  have n := Coder.narrow_in hb 1 p hp.1 hp.2
  have e1 : (Coder.narrow c.l c.h 1 p).1 = c.l := by unfold Coder.narrow; rw [if_pos rfl]
  have e2 : (Coder.narrow c.l c.h 1 p).2 = Coder.mid c.l c.h p := by unfold Coder.narrow; rw [if_pos rfl]
  refine ⟨?_, ?_, fun j hj => h.2 j ?_⟩
  · unfold bitT Coder.bitOf
    rw [h.1, if_pos (by omega)]
  · have := settle_low t 5 (Coder.narrow c.l c.h 1 p).1 (Coder.narrow c.l c.h 1 p).2 c.o.length (h.1.trans e1.symm) h.2
    unfold codS
    rw [List.length_append]
    exact this
  · unfold codS at hj
    rw [List.length_append] at hj
    omega

theorem whole_ones (k : Nat) : whole (List.replicate k 1) = false := by
  have e : Gam.ones (List.replicate k 1) = k := Gam.ones_is _ k (by simp) (fun i hi => by simp [List.getD_eq_getElem?_getD, hi]) (.inl (by simp))
  unfold whole Ctx.has0
  rw [e, List.length_replicate, decide_eq_false (by omega)]
  rfl

theorem run_least {t : ByteArray} : ∀ (n k : Nat) (L : List Int) (c : Cod) (b : Int), Coder.Between c.l c.h → Least t c → run (nxtT t) n L b c (List.replicate k 1) = none := by
  intro n
  induction n with
  | zero => intro k L c b hb h; rfl
  | succ n ihn =>
    intro k L c b hb h
    rw [run, whole_ones, if_neg (by simp)]
    split
    · rfl
    · have q := least_bit hb (pOf_in L b (List.replicate k 1)) h
      have e : nxtT t c (pOf L b (List.replicate k 1)) = (1, codS c 1 (pOf L b (List.replicate k 1))) := by unfold nxtT; rw [q.1]
      rw [e]
      simp only
      rw [show List.replicate k (1 : Int) ++ [1] = List.replicate (k + 1) 1 by rw [List.replicate_succ']]
      exact ihn (k + 1) _ _ b (codS_ok hb 1 (pOf_in L b (List.replicate k 1))).1 q.2

theorem puts_app (s : Sta) (rs xs : List Int) : puts s (rs ++ xs) = puts (puts s rs) xs := List.foldl_append

/-- A text's first numbers. -/
theorem takes_front {t : ByteArray} : ∀ (rs : List Int) (s : Sta) (k m : Nat), Ok s k → (∀ x ∈ rs, Fits x) → In t (puts s rs).2.1 → takes t (rs.length + m) s = (takes t m (puts s rs)).map (rs ++ ·)
  | [], s, k, m, h, hr, hi => by
    rw [List.length_nil, Nat.zero_add]
    show _ = Option.map (fun x => x) (takes t m s)
    simp
  | x :: r, s, k, m, h, hr, hi => by
    have hx := hr x (by simp)
    obtain ⟨o1, _⟩ := numS_ok h hx
    have hi' := in_puts r (numS s x) (k + 1) o1 (fun y hy => hr y (by simp [hy])) hi
    have ih := takes_front r (numS s x) (k + 1) m o1 (fun y hy => hr y (by simp [hy])) hi
    have rt := run_take (folded_le hx) (Gam.bitsOf (folded x)) [] s.1 s.2.1 s.2.2 64 rfl (by simp) h.bet hi'
    rw [List.length_cons, show r.length + 1 + m = (r.length + m) + 1 by omega, takes, rt]
    simp only [Gam.numP_bits _ (folded_le hx), if_true, Gam.bitsOf_half]
    rw [show (((codeBits s.1 s.2.1 s.2.2 [] (Gam.bitsOf (folded x))).1, (codeBits s.1 s.2.1 s.2.2 [] (Gam.bitsOf (folded x))).2, ((Gam.many (folded x) : Nat) : Int)) : Sta) = numS s x from rfl, ih, unfolded_folded hx]
    rw [Option.map_map]
    rfl

theorem told_least {rs : List Int} (hr : ∀ x ∈ rs, Fits x) : Least (told rs) (puts s0 rs).2.1 := by
  obtain ⟨o, _⟩ := puts_ok rs s0 0 s0_ok hr
  obtain ⟨b0, b1, b2⟩ := o.bet
  refine ⟨Deco.win_four _ _ b0 (by omega), fun j hj => Coder.bz_out _ _ ?_⟩
  rw [told_size]
  exact hj

/-- No text is told of more numbers, too. -/
theorem takes_more {rs : List Int} (hr : ∀ x ∈ rs, Fits x) (m : Nat) : takes (told rs) (rs.length + (m + 1)) s0 = none := by
  have hi := in_told hr ⟨#[]⟩
  rw [app_nil] at hi
  obtain ⟨o, _⟩ := puts_ok rs s0 0 s0_ok hr
  rw [takes_front rs s0 0 (m + 1) s0_ok hr hi, takes]
  rw [show ([] : List Int) = List.replicate 0 1 from rfl, run_least 65 0 _ _ _ o.bet (told_least hr)]
  rfl

theorem told_front {rs xs : List Int} (hr : ∀ x ∈ rs ++ xs, Fits x) (hx : xs ≠ []) : told rs ≠ told (rs ++ xs) := fun e => by
  have h1 := told_takes hr
  obtain ⟨y, ys, rfl⟩ := List.exists_cons_of_ne_nil hx
  have h2 := takes_more (rs := rs) (fun x hx => hr x (by simp [hx])) ys.length
  rw [← e, List.length_append, List.length_cons, h2] at h1
  cases h1

/-- A text's first numbers, fewer than it tells. -/
theorem takes_fewer {rs xs : List Int} (hr : ∀ x ∈ rs ++ xs, Fits x) : takes (told (rs ++ xs)) rs.length s0 = some rs := by
  have hi := in_told hr ⟨#[]⟩
  rw [app_nil, puts_app] at hi
  have hf : ∀ x ∈ rs, Fits x := fun x hx => hr x (by simp [hx])
  obtain ⟨o, _⟩ := puts_ok rs s0 0 s0_ok hf
  exact takes_back rs s0 0 s0_ok hf (in_puts xs (puts s0 rs) _ o (fun x hx => hr x (by simp [hx])) hi)

theorem told_bound {rs : List Int} (hr : ∀ x ∈ rs, Fits x) : 4 ≤ (told rs).size ∧ (told rs).size ≤ 204 * rs.length + 4 := by
  obtain ⟨o, _⟩ := puts_ok rs s0 0 s0_ok hr
  have := o.out
  rw [told_size]
  omega

end Go.Proofs.YtoldedbfoechlaaGreatDoor.Res
