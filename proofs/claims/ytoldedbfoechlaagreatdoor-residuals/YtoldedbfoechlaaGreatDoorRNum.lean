/-
  Plain facts on numbers in few bytes: a coder's and a decoder's way through the bits of numbers, and that each number comes back. No condition.
-/
import Derived.Test.YtoldedbfoechlaaGreatDoorNQuiet
import Derived.Test.YtoldedbfoechlaaGreatDoorXNum
import Derived.Test.YtoldedbfoechlaaGreatDoorYStep
namespace Go.Proofs.YtoldedbfoechlaaGreatDoor.Res
open Go.RowKit
set_option linter.unusedVariables false

/-- A context's three places. -/
def x0 (bs : List Int) : Nat := (Ctx.c0 bs).toNat
def x1 (b : Int) (bs : List Int) : Nat := (Ctx.c1 b bs).toNat
def x2 (bs : List Int) : Nat := (Ctx.c2 bs).toNat
theorem x0_is (bs : List Int) : ((x0 bs : Nat) : Int) = Ctx.c0 bs ∧ x0 bs < 64 := by
  have h1 := Ctx.upto31_range (Gam.ones bs : Int) (by omega)
  have h2 := Ctx.oneB_range (Ctx.has0 bs)
  unfold x0 Ctx.c0
  omega
theorem x1_is {b : Int} (hb : 0 ≤ b) (bs : List Int) : ((x1 b bs : Nat) : Int) = Ctx.c1 b bs ∧ x1 b bs < 64 := by
  have h1 := Ctx.upto31_range b hb
  have h2 := Ctx.oneB_range (Ctx.has0 bs)
  unfold x1 Ctx.c1
  omega
theorem x2_is (bs : List Int) : ((x2 bs : Nat) : Int) = Ctx.c2 bs ∧ x2 bs < 64 := by
  have h1 := Ctx.upto31_range (bs.length : Int) (by omega)
  have h2 := Ctx.oneB_range (Ctx.last1 bs)
  unfold x2 Ctx.c2
  omega

/-- The chance that a model tells of the next bit, and the model behind it. -/
def pOf (L : List Int) (b : Int) (bs : List Int) : Int := Mod.tell L (x0 bs) (x1 b bs) (x2 bs)
def lrn (L : List Int) (b : Int) (bs : List Int) (x : Int) : List Int := Mod.learn L (x0 bs) (x1 b bs) (x2 bs) x
theorem pOf_in (L : List Int) (b : Int) (bs : List Int) : 1 ≤ pOf L b bs ∧ pOf L b bs ≤ 4095 := Mix.dot_range _ _ _ _ _ _
theorem lrn_len (L : List Int) (b : Int) (bs : List Int) (x : Int) : (lrn L b bs x).length = L.length := Mod.learn_len _ _ _ _ _
theorem lrn_may {L : List Int} (hL : L.length = 195) {b : Int} (hb : 0 ≤ b) (bs : List Int) (x : Int) (hm : Mod.mayM L = true) : Mod.mayM (lrn L b bs x) = true :=
  Mod.may_learn L hL _ _ _ (x0_is bs).2 (x1_is hb bs).2 (x2_is bs).2 x hm

/-- A coder: what is left, and the bytes that it told. -/
structure Cod where
  l : Int
  h : Int
  o : List UInt8
def c0 : Cod := ⟨0, 4294967295, []⟩
theorem c0_between : Coder.Between c0.l c0.h := by unfold Coder.Between c0; simp

/-- A bit is coded. -/
def codS (c : Cod) (bit p : Int) : Cod :=
  ⟨(Coder.settle 5 (Coder.narrow c.l c.h bit p).1 (Coder.narrow c.l c.h bit p).2).2.1, (Coder.settle 5 (Coder.narrow c.l c.h bit p).1 (Coder.narrow c.l c.h bit p).2).2.2,
    c.o ++ (Coder.settle 5 (Coder.narrow c.l c.h bit p).1 (Coder.narrow c.l c.h bit p).2).1⟩

theorem codS_ok {c : Cod} (hb : Coder.Between c.l c.h) (bit : Int) {p : Int} (hp : 1 ≤ p ∧ p ≤ 4095) :
    Coder.Between (codS c bit p).l (codS c bit p).h ∧ (codS c bit p).o.length ≤ c.o.length + 4 := by
  have n := Coder.narrow_in hb bit p hp.1 hp.2
  have f := Coder.settle_facts n.1 n.2.1 n.2.2
  refine ⟨f.2, ?_⟩
  have f1 := f.1
  unfold codS
  rw [List.length_append]
  omega

/-- A text goes on from a coder's bytes between what it has left. -/
structure In (t : ByteArray) (c : Cod) : Prop where
  lo : c.l ≤ Coder.win t c.o.length
  hi : Coder.win t c.o.length ≤ c.h
  own : ∀ i, i < c.o.length → ((c.o.getD i 0).toNat : Int) = Coder.bz t i

theorem getD_left {A B : List UInt8} {i : Nat} (h : i < A.length) : (A ++ B).getD i 0 = A.getD i 0 := by
  rw [List.getD_eq_getElem?_getD, List.getElem?_append_left h, ← List.getD_eq_getElem?_getD]
theorem getD_right (A B : List UInt8) (i : Nat) : (A ++ B).getD (A.length + i) 0 = B.getD i 0 := by
  rw [List.getD_eq_getElem?_getD, List.getElem?_append_right (by omega), Nat.add_sub_cancel_left, ← List.getD_eq_getElem?_getD]

/-- The bit that the text tells. -/
def bitT (t : ByteArray) (c : Cod) (p : Int) : Int := Coder.bitOf c.l c.h (Coder.win t c.o.length) p
theorem bitT_01 (t : ByteArray) (c : Cod) (p : Int) : bitT t c p = 0 ∨ bitT t c p = 1 := by
  unfold bitT Coder.bitOf
  split
  · exact .inr rfl
  · exact .inl rfl

theorem in_back {t : ByteArray} {c : Cod} {bit p : Int} (hb : Coder.Between c.l c.h) (hbit : bit = 0 ∨ bit = 1) (hp : 1 ≤ p ∧ p ≤ 4095) (h : In t (codS c bit p)) : In t c ∧ bitT t c p = bit := by
  have n := Coder.narrow_in hb bit p hp.1 hp.2
  obtain ⟨lo, hi, own⟩ := h
  unfold codS at lo hi own
  simp only [List.length_append] at lo hi own
  have sb := Coder.settle_back t 5 _ _ c.o.length n.1 n.2.1 n.2.2 (fun i hi => by
    have := own (c.o.length + i) (by omega)
    rwa [getD_right] at this) lo hi
  have s := Coder.narrow_sub (bit := bit) hb hp.1 hp.2
  refine ⟨⟨by omega, by omega, fun i hi => ?_⟩, Coder.bitOf_narrow hbit sb.1 sb.2⟩
  have := own i (by omega)
  rwa [getD_left hi] at this

theorem in_next {t : ByteArray} {c : Cod} {p : Int} (hb : Coder.Between c.l c.h) (hp : 1 ≤ p ∧ p ≤ 4095) (h : In t c) : In t (codS c (bitT t c p) p) := by
  have n := Coder.narrow_in hb (bitT t c p) p hp.1 hp.2
  obtain ⟨lo, hi, own⟩ := h
  obtain ⟨n1, n2⟩ := Coder.narrow_now (p := p) lo hi
  have sn := Coder.settle_now t 5 _ _ (Coder.win t c.o.length) (c.o.length + 4) n.1 n.2.2 n1 n2
  have so := Coder.settle_own t 5 _ _ c.o.length n.1 n.2.2 n1 n2
  rw [Coder.nowAt_win] at sn
  unfold codS
  refine ⟨by simp only [List.length_append]; exact sn.1, by simp only [List.length_append]; exact sn.2, fun i hi => ?_⟩
  simp only [List.length_append] at hi
  by_cases q : i < c.o.length
  · simp only []
    rw [getD_left q]
    exact own i q
  · obtain ⟨j, rfl⟩ : ∃ j, i = c.o.length + j := ⟨i - c.o.length, by omega⟩
    simp only []
    rw [getD_right]
    exact so j (by omega)

/-- What the decoder's Bit answers. -/
theorem dec_is {t : ByteArray} {c : Cod} {p : Int} (hb : Coder.Between c.l c.h) (hs : t.size ≤ 65536) (hq : c.o.length ≤ 60000) (hp : 1 ≤ p ∧ p ≤ 4095) (h : In t c) :
    Deco.decBit c.l c.h (Coder.win t c.o.length) t ((c.o.length + 4 : Nat) : Int) p =
      .tuple #[.agg #[.int .i64 (codS c (bitT t c p) p).l, .int .i64 (codS c (bitT t c p) p).h, .int .i64 (Coder.win t (codS c (bitT t c p) p).o.length), .string t, .int .i64 (((codS c (bitT t c p) p).o.length + 4 : Nat) : Int)], .int .i64 (bitT t c p), .int .i64 0] := by
  obtain ⟨cs, u, v, he, hd, _⟩ := Deco.dec_step hb h.lo h.hi hs hq hp
  rw [hd]
  have e : codS c (bitT t c p) p = ⟨u, v, c.o ++ cs⟩ := by unfold codS bitT; rw [he]
  rw [e]
  simp only [List.length_append]
  rfl

/-- What the coder's Bit answers. -/
theorem cod_is {c : Cod} {bit p : Int} (hb : Coder.Between c.l c.h) (hq : c.o.length ≤ 60000) (hbit : bit = 0 ∨ bit = 1) (hp : 1 ≤ p ∧ p ≤ 4095) :
    Coder.codeBit c.l c.h bit p ⟨c.o.toArray⟩ = .tuple #[.agg #[.int .i64 (codS c bit p).l, .int .i64 (codS c bit p).h, .string ⟨(codS c bit p).o.toArray⟩], .int .i64 0] :=
  Deco.cod_step hb hq hbit hp rfl

/-- Are these all the bits of a number? -/
def whole (bs : List Int) : Bool := Ctx.has0 bs && decide (bs.length = 2 * Gam.ones bs + 1)

theorem bitsOf_01 (u : Nat) : Ctx.Bits01 (Gam.bitsOf u) := fun k hk => by
  rw [Gam.bitsOf_length] at hk
  rcases Nat.lt_trichotomy k (Gam.many u) with q | q | q
  · exact .inr (Gam.getD_one u k q)
  · subst q; exact .inl (Gam.getD_mid u)
  · obtain ⟨j, rfl⟩ : ∃ j, k = Gam.many u + 1 + j := ⟨k - (Gam.many u + 1), by omega⟩
    rw [Gam.getD_tail u j (by omega)]
    unfold Gam.bitAt
    omega

theorem pre_get {A B C : List Int} (h : A ++ B = C) (i : Nat) (hi : i < A.length) : A.getD i 0 = C.getD i 0 := by
  subst h
  rw [List.getD_eq_getElem?_getD, List.getD_eq_getElem?_getD, List.getElem?_append_left hi]

theorem pre_01 {u : Nat} {A B : List Int} (h : A ++ B = Gam.bitsOf u) : Ctx.Bits01 A := fun k hk => by
  rw [pre_get h k hk]
  refine bitsOf_01 u k ?_
  rw [← h, List.length_append]
  omega

theorem whole_pre {u : Nat} {A B : List Int} (h : A ++ B = Gam.bitsOf u) : whole A = decide (B = []) := by
  have hl := congrArg List.length h
  rw [List.length_append, Gam.bitsOf_length] at hl
  by_cases q : A.length ≤ Gam.many u
  · have e : Gam.ones A = A.length := Ctx.no0 (pre_01 h) fun i hi => by
      rw [pre_get h i hi, Gam.getD_one u i (by omega)]; decide
    have hB : B ≠ [] := by rintro rfl; simp at hl; omega
    rw [decide_eq_false hB]
    unfold whole Ctx.has0
    rw [e, decide_eq_false (by omega)]
    rfl
  · have e : Gam.ones A = Gam.many u := Ctx.first0 (pre_01 h) _ (by omega) (by rw [pre_get h _ (by omega)]; exact Gam.getD_mid u) fun i hi => by
      rw [pre_get h i (by omega), Gam.getD_one u i hi]; decide
    unfold whole Ctx.has0
    rw [e, decide_eq_true (by omega : Gam.many u < A.length), Bool.true_and]
    refine decide_eq_decide.2 ⟨fun k => List.length_eq_zero_iff.1 (by omega), fun k => ?_⟩
    subst k
    simpa using hl

/-- One number's bits are coded, behind those that are done. -/
def codeBits : List Int → Cod → Int → List Int → List Int → List Int × Cod
  | L, c, _, _, [] => (L, c)
  | L, c, b, done, x :: r => codeBits (lrn L b done x) (codS c x (pOf L b done)) b (done ++ [x]) r

theorem codeBits_ok : ∀ (r : List Int) (L : List Int) (c : Cod) (b : Int) (done : List Int), 0 ≤ b → L.length = 195 → Mod.mayM L = true → Coder.Between c.l c.h →
    (codeBits L c b done r).1.length = 195 ∧ Mod.mayM (codeBits L c b done r).1 = true ∧ Coder.Between (codeBits L c b done r).2.l (codeBits L c b done r).2.h ∧ (codeBits L c b done r).2.o.length ≤ c.o.length + 4 * r.length ∧ ∃ e, (codeBits L c b done r).2.o = c.o ++ e
  | [], L, c, b, done, hb, hL, hm, hc => ⟨hL, hm, hc, by simp [codeBits], [], by simp [codeBits]⟩
  | x :: r, L, c, b, done, hb, hL, hm, hc => by
    have k := codS_ok hc x (pOf_in L b done)
    obtain ⟨a1, a2, a3, a4, e, a5⟩ := codeBits_ok r (lrn L b done x) (codS c x (pOf L b done)) b (done ++ [x]) hb (by rw [lrn_len, hL]) (lrn_may hL hb done x hm) k.1
    rw [codeBits]
    refine ⟨a1, a2, a3, ?_, _, a5.trans (List.append_assoc _ _ _)⟩
    rw [List.length_cons]
    omega

theorem in_codeBits {t : ByteArray} : ∀ (r : List Int) (L : List Int) (c : Cod) (b : Int) (done : List Int), (∀ k, k < r.length → r.getD k 0 = 0 ∨ r.getD k 0 = 1) → Coder.Between c.l c.h → In t (codeBits L c b done r).2 → In t c
  | [], L, c, b, done, h, hc, hi => hi
  | x :: r, L, c, b, done, h, hc, hi => by
    have k := codS_ok hc x (pOf_in L b done)
    have i1 := in_codeBits r _ _ b _ (fun k hk => by have := h (k + 1) (by simpa using hk); simpa using this) k.1 hi
    exact (in_back hc (by simpa using h 0 (by simp)) (pOf_in L b done) i1).1

/-- The way through one number's bits. -/
def run {σ : Type} (nxt : σ → Int → Int × σ) : Nat → List Int → Int → σ → List Int → Option (List Int × σ × List Int)
  | 0, _, _, _, _ => none
  | n + 1, L, b, s, bs => if whole bs then some (L, s, bs) else if 63 < bs.length then none else
      run nxt n (lrn L b bs (nxt s (pOf L b bs)).1) b (nxt s (pOf L b bs)).2 (bs ++ [(nxt s (pOf L b bs)).1])

def nxtP (s : Cod × List Int) (p : Int) : Int × (Cod × List Int) := (s.2.headD 0, (codS s.1 (s.2.headD 0) p, s.2.tail))
def nxtT (t : ByteArray) (c : Cod) (p : Int) : Int × Cod := (bitT t c p, codS c (bitT t c p) p)

theorem run_put {u : Nat} (hu : u ≤ 33554432) : ∀ (r done : List Int) (L : List Int) (c : Cod) (b : Int) (n : Nat), done ++ r = Gam.bitsOf u → 64 ≤ n + done.length →
    run nxtP (n + 1) L b (c, r) done = some ((codeBits L c b done r).1, ((codeBits L c b done r).2, []), Gam.bitsOf u)
  | [], done, L, c, b, n, h, hn => by
    rw [run, whole_pre h, decide_eq_true rfl, if_pos rfl, codeBits, ← h, List.append_nil]
  | x :: r, done, L, c, b, n, h, hn => by
    have hl := congrArg List.length h
    rw [List.length_append, Gam.bitsOf_length, List.length_cons] at hl
    have h25 := Gam.many_25 u hu
    obtain ⟨m, rfl⟩ : ∃ m, n = m + 1 := ⟨n - 1, by omega⟩
    have ih := run_put hu r (done ++ [x]) (lrn L b done x) (codS c x (pOf L b done)) b m (by rw [← h]; simp) (by simp; omega)
    rw [run, whole_pre h, decide_eq_false (by simp), if_neg (by simp), if_neg (by omega), codeBits]
    exact ih

theorem run_take {t : ByteArray} {u : Nat} (hu : u ≤ 33554432) : ∀ (r done : List Int) (L : List Int) (c : Cod) (b : Int) (n : Nat), done ++ r = Gam.bitsOf u → 64 ≤ n + done.length → Coder.Between c.l c.h → In t (codeBits L c b done r).2 →
    run (nxtT t) (n + 1) L b c done = some ((codeBits L c b done r).1, (codeBits L c b done r).2, Gam.bitsOf u)
  | [], done, L, c, b, n, h, hn, hc, hi => by
    rw [run, whole_pre h, decide_eq_true rfl, if_pos rfl, codeBits, ← h, List.append_nil]
  | x :: r, done, L, c, b, n, h, hn, hc, hi => by
    have hl := congrArg List.length h
    rw [List.length_append, Gam.bitsOf_length, List.length_cons] at hl
    have h25 := Gam.many_25 u hu
    obtain ⟨m, rfl⟩ : ∃ m, n = m + 1 := ⟨n - 1, by omega⟩
    have k := codS_ok hc x (pOf_in L b done)
    have h' : (done ++ [x]) ++ r = Gam.bitsOf u := by rw [← h]; simp
    have g : ∀ j, j < (x :: r).length → (x :: r).getD j 0 = 0 ∨ (x :: r).getD j 0 = 1 := fun j hj => by
      have := bitsOf_01 u (done.length + j) (by rw [← h, List.length_append]; omega)
      rw [← h, List.getD_eq_getElem?_getD, List.getElem?_append_right (by omega), Nat.add_sub_cancel_left, ← List.getD_eq_getElem?_getD] at this
      exact this
    have i1 := in_codeBits r _ _ b _ (fun j hj => by have := g (j + 1) (by simpa using hj); simpa using this) k.1 hi
    obtain ⟨_, eb⟩ := in_back hc (by simpa using g 0 (by simp)) (pOf_in L b done) i1
    have ih := run_take hu r (done ++ [x]) (lrn L b done x) (codS c x (pOf L b done)) b m h' (by simp; omega) k.1 hi
    rw [run, whole_pre h, decide_eq_false (by simp), if_neg (by simp), if_neg (by omega), codeBits]
    unfold nxtT
    simp only [eb]
    exact ih

/-- A number, folded and unfolded. -/
def folded (x : Int) : Nat := (if x < 0 then 2 * -x - 1 else 2 * x).toNat
def unfolded (u : Int) : Int := if u % 2 = 0 then u / 2 else -((u + 1) / 2)
def Fits (x : Int) : Prop := -16777216 ≤ x ∧ x ≤ 16777216
theorem folded_le {x : Int} (h : Fits x) : folded x ≤ 33554432 := by unfold folded; obtain ⟨h1, h2⟩ := h; split <;> omega
theorem unfolded_folded {x : Int} (h : Fits x) : unfolded ((folded x : Nat) : Int) = x := by
  unfold folded unfolded
  obtain ⟨h1, h2⟩ := h
  split
  · rw [if_neg (by omega)]; omega
  · rw [if_pos (by omega)]; omega
theorem unfolded_fits {u : Int} (h0 : 0 ≤ u) (h1 : u ≤ 33554432) : Fits (unfolded u) := by
  unfold unfolded Fits
  split <;> omega

/-- A model, a coder, how many 1 the number ahead began with. -/
abbrev Sta := List Int × Cod × Int
def s0 : Sta := (Mod.newM, c0, 0)
def numS (s : Sta) (x : Int) : Sta := ((codeBits s.1 s.2.1 s.2.2 [] (Gam.bitsOf (folded x))).1, (codeBits s.1 s.2.1 s.2.2 [] (Gam.bitsOf (folded x))).2, ((Gam.many (folded x) : Nat) : Int))
def puts (s : Sta) (rs : List Int) : Sta := rs.foldl numS s
/-- What is told of numbers. -/
def told (rs : List Int) : ByteArray := ⟨(puts s0 rs).2.1.o.toArray⟩ ++ Coder.four (puts s0 rs).2.1.l

/-- A state behind some numbers. -/
structure Ok (s : Sta) (k : Nat) : Prop where
  len : s.1.length = 195
  may : Mod.mayM s.1 = true
  bet : Coder.Between s.2.1.l s.2.1.h
  out : s.2.1.o.length ≤ 204 * k
  b0 : 0 ≤ s.2.2
  b1 : s.2.2 ≤ 63
theorem s0_ok : Ok s0 0 := ⟨Mod.newM_len, Mod.newM_may, c0_between, by simp [s0, c0], by simp [s0], by simp [s0]⟩

theorem numS_ok {s : Sta} {k : Nat} (h : Ok s k) {x : Int} (hx : Fits x) : Ok (numS s x) (k + 1) ∧ ∃ e, (numS s x).2.1.o = s.2.1.o ++ e := by
  obtain ⟨a1, a2, a3, a4, e, a5⟩ := codeBits_ok (Gam.bitsOf (folded x)) s.1 s.2.1 s.2.2 [] h.b0 h.len h.may h.bet
  have h25 := Gam.many_25 _ (folded_le hx)
  rw [Gam.bitsOf_length] at a4
  have := h.out
  exact ⟨⟨a1, a2, a3, by show (codeBits _ _ _ _ _).2.o.length ≤ _; omega, by simp [numS], by show ((Gam.many (folded x) : Nat) : Int) ≤ 63; omega⟩, e, a5⟩

theorem puts_ok : ∀ (rs : List Int) (s : Sta) (k : Nat), Ok s k → (∀ x ∈ rs, Fits x) → Ok (puts s rs) (k + rs.length) ∧ ∃ e, (puts s rs).2.1.o = s.2.1.o ++ e
  | [], s, k, h, hr => ⟨h, [], by simp [puts]⟩
  | x :: r, s, k, h, hr => by
    obtain ⟨o1, e1, q1⟩ := numS_ok h (hr x (by simp))
    obtain ⟨o2, e2, q2⟩ := puts_ok r (numS s x) (k + 1) o1 (fun y hy => hr y (by simp [hy]))
    refine ⟨by rw [List.length_cons, show k + (r.length + 1) = k + 1 + r.length by omega]; exact o2, e1 ++ e2, ?_⟩
    rw [← List.append_assoc, ← q1]
    exact q2

theorem in_puts {t : ByteArray} : ∀ (rs : List Int) (s : Sta) (k : Nat), Ok s k → (∀ x ∈ rs, Fits x) → In t (puts s rs).2.1 → In t s.2.1
  | [], s, k, h, hr, hi => hi
  | x :: r, s, k, h, hr, hi => by
    obtain ⟨o1, _⟩ := numS_ok h (hr x (by simp))
    have := in_puts r (numS s x) (k + 1) o1 (fun y hy => hr y (by simp [hy])) hi
    exact in_codeBits _ _ _ _ _ (bitsOf_01 _) h.bet this

theorem told_size (rs : List Int) : (told rs).size = (puts s0 rs).2.1.o.length + 4 := by
  unfold told
  rw [ByteArray.size_append, Deco.mk_size]
  have : (Coder.four (puts s0 rs).2.1.l).size = 4 := strOfNums_size _
  omega

theorem bz_app (a b : ByteArray) (i : Nat) (h : i < a.size) : Coder.bz (a ++ b) i = Coder.bz a i := by
  unfold Coder.bz
  rw [ByteArray.data_append, Array.toList_append, List.getD_eq_getElem?_getD, List.getElem?_append_left (by simpa using h), ← List.getD_eq_getElem?_getD]

/-- What is told of numbers leads a decoder through them, whatever stands behind it. -/
theorem in_told {rs : List Int} (hr : ∀ x ∈ rs, Fits x) (e : ByteArray) : In (told rs ++ e) (puts s0 rs).2.1 := by
  obtain ⟨o, _⟩ := puts_ok rs s0 0 s0_ok hr
  have hz := told_size rs
  obtain ⟨b0, b1, b2⟩ := o.bet
  have w : Coder.win (told rs ++ e) (puts s0 rs).2.1.o.length = (puts s0 rs).2.1.l := by
    have := Deco.win_four (puts s0 rs).2.1.o (puts s0 rs).2.1.l b0 (by omega)
    rw [← this]
    unfold Coder.win
    rw [bz_app _ _ _ (by omega), bz_app _ _ _ (by omega), bz_app _ _ _ (by omega), bz_app _ _ _ (by omega)]
    rfl
  refine ⟨by omega, by omega, fun i hi => ?_⟩
  rw [bz_app _ _ _ (by omega)]
  exact (Deco.bz_left _ _ i hi).symm

/-- What a decoder finds. -/
def takes (t : ByteArray) : Nat → Sta → Option (List Int)
  | 0, _ => some []
  | k + 1, s => match run (nxtT t) 65 s.1 s.2.2 s.2.1 [] with
    | none => none
    | some (L, c, bs) => if (Gam.numP bs).2 = 0 then (takes t k (L, c, ((bs.length / 2 : Nat) : Int))).map (unfolded (Gam.numP bs).1 :: ·) else none

theorem takes_back {t : ByteArray} : ∀ (rs : List Int) (s : Sta) (k : Nat), Ok s k → (∀ x ∈ rs, Fits x) → In t (puts s rs).2.1 → takes t rs.length s = some rs
  | [], s, k, h, hr, hi => rfl
  | x :: r, s, k, h, hr, hi => by
    have hx := hr x (by simp)
    obtain ⟨o1, _⟩ := numS_ok h hx
    have hi' := in_puts r (numS s x) (k + 1) o1 (fun y hy => hr y (by simp [hy])) hi
    have ih := takes_back r (numS s x) (k + 1) o1 (fun y hy => hr y (by simp [hy])) hi
    have rt := run_take (folded_le hx) (Gam.bitsOf (folded x)) [] s.1 s.2.1 s.2.2 64 rfl (by simp) h.bet hi'
    rw [List.length_cons, takes, rt]
    simp only [Gam.numP_bits _ (folded_le hx), if_true, Gam.bitsOf_half]
    rw [show (((codeBits s.1 s.2.1 s.2.2 [] (Gam.bitsOf (folded x))).1, (codeBits s.1 s.2.1 s.2.2 [] (Gam.bitsOf (folded x))).2, ((Gam.many (folded x) : Nat) : Int)) : Sta) = numS s x from rfl, ih, unfolded_folded hx]
    rfl

theorem takes_told {rs : List Int} (hr : ∀ x ∈ rs, Fits x) (e : ByteArray) : takes (told rs ++ e) rs.length s0 = some rs := takes_back rs s0 0 s0_ok hr (in_told hr e)

theorem app_nil (s : ByteArray) : s ++ ⟨#[]⟩ = s := by apply ByteArray.ext; simp [ByteArray.data_append]

theorem told_takes {rs : List Int} (hr : ∀ x ∈ rs, Fits x) : takes (told rs) rs.length s0 = some rs := by
  have := takes_told hr ⟨#[]⟩
  rwa [app_nil] at this

/-- Unlike numbers have unlike texts. -/
theorem told_inj {rs xs : List Int} (hr : ∀ x ∈ rs, Fits x) (hx : ∀ x ∈ xs, Fits x) (hl : rs.length = xs.length) (h : told rs = told xs) : rs = xs := by
  have h1 := told_takes hr
  have h2 := told_takes hx
  rw [h, hl, h2] at h1
  exact (Option.some.inj h1).symm

/-- More numbers take no fewer bytes. -/
theorem told_more {rs : List Int} (hr : ∀ x ∈ rs, Fits x) {x : Int} (hx : Fits x) : (told rs).size ≤ (told (rs ++ [x])).size := by
  rw [told_size, told_size]
  obtain ⟨o, _⟩ := puts_ok rs s0 0 s0_ok hr
  obtain ⟨_, e, q⟩ := numS_ok o hx
  have : puts s0 (rs ++ [x]) = numS (puts s0 rs) x := by unfold puts; rw [List.foldl_append]; rfl
  rw [this, q, List.length_append]
  omega

end Go.Proofs.YtoldedbfoechlaaGreatDoor.Res
