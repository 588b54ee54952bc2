/-
  Plain facts: a new model that learns in one context alone holds there one counter and one weight, thrice; how few bytes many zeros take. No condition.
-/
import Derived.Test.YtocnlefpbcnlmaaDoorPk8
import Derived.Test.YtocnlefpbcnlmaaDoorPk16
namespace Go.Proofs.YtocnlefpbcnlmaaDoor.Mod
open Go.RowKit Go.Sort
set_option linter.unusedVariables false
set_option linter.unusedSimpArgs false

/-- A model with the counter x at a context's places, 32768 elsewhere, the weight v thrice. -/
def sameF (a b c : Nat) (x v : Int) (k : Nat) : Int := if k = a ∨ k = 64 + b ∨ k = 128 + c then x else if k < 192 then 32768 else v
def sameM (a b c : Nat) (x v : Int) : List Int := (List.range 195).map (sameF a b c x v)
theorem sameM_len (a b c : Nat) (x v : Int) : (sameM a b c x v).length = 195 := by rw [sameM, List.length_map, List.length_range]
theorem sameM_get (a b c : Nat) (x v : Int) (k : Nat) (hk : k < 195) : (sameM a b c x v).getD k 0 = sameF a b c x v k := by
  simp [sameM, List.getD_eq_getElem?_getD, hk]

theorem sameM_new {a b c : Nat} (ha : a < 64) (hb : b < 64) (hc : c < 64) : sameM a b c 32768 22000 = newM := by
  refine ext_getD _ _ (by rw [sameM_len, newM_len]) fun k hk => ?_
  rw [sameM_len] at hk
  rw [sameM_get _ _ _ _ _ k hk]
  unfold sameF
  by_cases h : k < 192
  · rw [newM_get k h]
    by_cases hp : k = a ∨ k = 64 + b ∨ k = 128 + c
    · rw [if_pos hp]
    · rw [if_neg hp, if_pos h]
  · rw [if_neg (by omega), if_neg h]
    obtain ⟨w0, w1, w2⟩ := newM_wts
    have : k = 192 ∨ k = 193 ∨ k = 194 := by omega
    rcases this with rfl | rfl | rfl
    · exact w0.symm
    · exact w1.symm
    · exact w2.symm

theorem same_a {a b c : Nat} (ha : a < 64) (hb : b < 64) (hc : c < 64) (x v : Int) : (sameM a b c x v).getD a 0 = x := by rw [sameM_get _ _ _ _ _ _ (by omega), sameF, if_pos (by omega)]
theorem same_b {a b c : Nat} (ha : a < 64) (hb : b < 64) (hc : c < 64) (x v : Int) : (sameM a b c x v).getD (64 + b) 0 = x := by rw [sameM_get _ _ _ _ _ _ (by omega), sameF, if_pos (by omega)]
theorem same_c {a b c : Nat} (ha : a < 64) (hb : b < 64) (hc : c < 64) (x v : Int) : (sameM a b c x v).getD (128 + c) 0 = x := by rw [sameM_get _ _ _ _ _ _ (by omega), sameF, if_pos (by omega)]
theorem same_w {a b c : Nat} (ha : a < 64) (hb : b < 64) (hc : c < 64) (x v : Int) (k : Nat) (h1 : 192 ≤ k) (h2 : k < 195) : (sameM a b c x v).getD k 0 = v := by rw [sameM_get _ _ _ _ _ _ (by omega), sameF, if_neg (by omega), if_neg (by omega)]

theorem same_tell {a b c : Nat} (ha : a < 64) (hb : b < 64) (hc : c < 64) (x v : Int) : tell (sameM a b c x v) a b c = Mix.dot v v v (inp x) (inp x) (inp x) := by
  unfold tell
  rw [same_a ha hb hc, same_b ha hb hc, same_c ha hb hc, same_w ha hb hc _ _ 192 (by omega) (by omega), same_w ha hb hc _ _ 193 (by omega) (by omega), same_w ha hb hc _ _ 194 (by omega) (by omega)]

theorem same_learn {a b c : Nat} (ha : a < 64) (hb : b < 64) (hc : c < 64) (x v bit : Int) : learn (sameM a b c x v) a b c bit = sameM a b c (Cnt.step x bit) (Mix.trn v (inp x) (4096 * bit - Mix.dot v v v (inp x) (inp x) (inp x))) := by
  refine ext_getD _ _ (by rw [learn_len, sameM_len, sameM_len]) fun k hk => ?_
  rw [learn_len, sameM_len] at hk
  rw [learn_get _ (sameM_len _ _ _ _ _) a b c ha hb hc, sameM_get _ _ _ _ _ k hk]
  unfold trnW
  rw [same_tell ha hb hc, same_a ha hb hc, same_b ha hb hc, same_c ha hb hc, same_w ha hb hc _ _ 192 (by omega) (by omega), same_w ha hb hc _ _ 193 (by omega) (by omega), same_w ha hb hc _ _ 194 (by omega) (by omega), sameM_get _ _ _ _ _ k hk]
  unfold sameF
  by_cases h1 : k = a
  · rw [if_pos h1, if_pos (by omega)]
  · by_cases h2 : k = 64 + b
    · rw [if_neg h1, if_pos h2, if_pos (by omega)]
    · by_cases h3 : k = 128 + c
      · rw [if_neg h1, if_neg h2, if_pos h3, if_pos (by omega)]
      · have hp : ¬ (k = a ∨ k = 64 + b ∨ k = 128 + c) := by omega
        rw [if_neg h1, if_neg h2, if_neg h3]
        simp only [if_neg hp]
        by_cases h4 : k < 192
        · rw [if_neg (by omega), if_neg (by omega), if_neg (by omega), if_pos h4, if_pos h4]
        · simp only [if_neg h4]
          have : k = 192 ∨ k = 193 ∨ k = 194 := by omega
          rcases this with rfl | rfl | rfl
          · rw [if_pos rfl]
          · rw [if_neg (by decide), if_pos rfl]
          · rw [if_neg (by decide), if_neg (by decide), if_pos rfl]

theorem same_may {a b c : Nat} (ha : a < 64) (hb : b < 64) (hc : c < 64) (x v : Int) (hx : 0 ≤ x ∧ x ≤ 65535) (hv : -1048576 ≤ v ∧ v ≤ 1048576) : mayM (sameM a b c x v) = true :=
  (may_iff _).2 ⟨fun k hk => by
    rw [sameM_get _ _ _ _ _ k (by omega)]
    unfold sameF
    by_cases hp : k = a ∨ k = 64 + b ∨ k = 128 + c
    · rw [if_pos hp]; exact hx
    · rw [if_neg hp, if_pos hk]; omega, fun k h1 h2 => by rw [same_w ha hb hc _ _ k h1 h2]; exact hv⟩

/-- The least number of a chance, by halving. -/
def half (p : Int) : Nat → Int → Int → Int
  | 0, lo, _ => lo
  | n + 1, lo, hi => if lo < hi then (if p ≤ Str.sq ((lo + hi) / 2) then half p n lo ((lo + hi) / 2) else half p n ((lo + hi) / 2 + 1) hi) else lo
def inF (x : Int) : Int := half (Cnt.chance x) 13 (-2047) 2047
/-- Is it that one? -/
def isIn (x : Int) : Bool := decide (-2047 ≤ inF x ∧ inF x ≤ 2047 ∧ (inF x = -2047 ∨ Str.sq (inF x - 1) < Cnt.chance x) ∧ (inF x = 2047 ∨ Cnt.chance x ≤ Str.sq (inF x)))
theorem isIn_ok {x : Int} (h : isIn x = true) : inp x = inF x := by
  obtain ⟨h0, h1, h2, h3⟩ := of_decide_eq_true h
  exact (Str.st_is (Str.least_of _ _ h0 h1 h2 h3)).symm

/-- One bit more: the counter, the weight. -/
def nextF (s : Int × Int) (bit : Int) : Int × Int := (Cnt.step s.1 bit, Mix.trn s.2 (inF s.1) (4096 * bit - Mix.dot s.2 s.2 s.2 (inF s.1) (inF s.1) (inF s.1)))
def runF (f : Nat → Int) : Nat → Int × Int
  | 0 => (32768, 22000)
  | k + 1 => nextF (runF f k) (f k)
def tellF (s : Int × Int) : Int := Mix.dot s.2 s.2 s.2 (inF s.1) (inF s.1) (inF s.1)
def goodF (s : Int × Int) : Bool := isIn s.1 && decide ((0 ≤ s.1 ∧ s.1 ≤ 65535) ∧ -1048576 ≤ s.2 ∧ s.2 ≤ 1048576)
def walkF (f : Nat → Int) (ok : Nat → Int × Int → Bool) : Nat → Nat → Int × Int → Bool
  | 0, k, s => ok k s
  | n + 1, k, s => ok k s && walkF f ok n (k + 1) (nextF s (f k))

theorem walkF_ok (f : Nat → Int) (ok : Nat → Int × Int → Bool) : ∀ (n k : Nat), walkF f ok n k (runF f k) = true → ∀ j, k ≤ j → j ≤ k + n → ok j (runF f j) = true
  | 0, k, h, j, h1, h2 => by
    obtain rfl : j = k := by omega
    exact h
  | n + 1, k, h, j, h1, h2 => by
    rw [walkF, Bool.and_eq_true] at h
    rcases Nat.eq_or_lt_of_le h1 with e | e
    · subst e; exact h.1
    · exact walkF_ok f ok n (k + 1) h.2 j e (by omega)


/-- What a row of bits makes of a new model, in one context. -/
def runM (a b c : Nat) (f : Nat → Int) (k : Nat) : List Int := sameM a b c (runF f k).1 (runF f k).2

theorem good_of {s : Int × Int} (h : goodF s = true) : inp s.1 = inF s.1 ∧ (0 ≤ s.1 ∧ s.1 ≤ 65535) ∧ -1048576 ≤ s.2 ∧ s.2 ≤ 1048576 := by
  rw [goodF, Bool.and_eq_true] at h
  exact ⟨isIn_ok h.1, of_decide_eq_true h.2⟩

theorem run_zero {a b c : Nat} (ha : a < 64) (hb : b < 64) (hc : c < 64) (f : Nat → Int) : runM a b c f 0 = newM := sameM_new ha hb hc
theorem run_next {a b c : Nat} (ha : a < 64) (hb : b < 64) (hc : c < 64) (f : Nat → Int) (k : Nat) (h : goodF (runF f k) = true) : learn (runM a b c f k) a b c (f k) = runM a b c f (k + 1) := by
  obtain ⟨e, _⟩ := good_of h
  rw [runM, same_learn ha hb hc, e]
  rfl
theorem run_may {a b c : Nat} (ha : a < 64) (hb : b < 64) (hc : c < 64) (f : Nat → Int) (k : Nat) (h : goodF (runF f k) = true) : mayM (runM a b c f k) = true := by
  obtain ⟨_, hx, hv⟩ := good_of h
  exact same_may ha hb hc _ _ hx hv
theorem run_tell {a b c : Nat} (ha : a < 64) (hb : b < 64) (hc : c < 64) (f : Nat → Int) (k : Nat) (h : goodF (runF f k) = true) : tell (runM a b c f k) a b c = tellF (runF f k) := by
  obtain ⟨e, _⟩ := good_of h
  rw [runM, same_tell ha hb hc, e]
  rfl
theorem run_len {a b c : Nat} (ha : a < 64) (hb : b < 64) (hc : c < 64) (f : Nat → Int) (k : Nat) : (runM a b c f k).length = 195 := sameM_len _ _ _ _ _

end Go.Proofs.YtocnlefpbcnlmaaDoor.Mod
namespace Go.Proofs.YtocnlefpbcnlmaaDoor.Res
open Go.RowKit Go.Proofs.YtocnlefpbcnlmaaDoor.Mod
set_option linter.unusedVariables false

/-- A new model and a new coder behind some zeros: the counter, the weight; Low, High, how many bytes are told. -/
abbrev QS := (Int × Int) × (Int × Int × Nat)
def nextQ (s : QS) : QS :=
  (nextF s.1 0, ((Coder.settle 5 (Coder.narrow s.2.1 s.2.2.1 0 (tellF s.1)).1 (Coder.narrow s.2.1 s.2.2.1 0 (tellF s.1)).2).2.1, (Coder.settle 5 (Coder.narrow s.2.1 s.2.2.1 0 (tellF s.1)).1 (Coder.narrow s.2.1 s.2.2.1 0 (tellF s.1)).2).2.2,
    s.2.2.2 + (Coder.settle 5 (Coder.narrow s.2.1 s.2.2.1 0 (tellF s.1)).1 (Coder.narrow s.2.1 s.2.2.1 0 (tellF s.1)).2).1.length))
def q0 : QS := ((32768, 22000), (0, 4294967295, 0))
def runQ : Nat → QS
  | 0 => q0
  | k + 1 => nextQ (runQ k)
def okQ (k : Nat) (s : QS) : Bool := goodF s.1 && decide (s.2.2.2 + 4 ≤ 8 + k / 16)
def walkQ : Nat → Nat → QS → Bool
  | 0, k, s => okQ k s
  | n + 1, k, s => okQ k s && walkQ n (k + 1) (nextQ s)
theorem walkQ_ok : ∀ (n k : Nat), walkQ n k (runQ k) = true → ∀ j, k ≤ j → j ≤ k + n → okQ j (runQ j) = true
  | 0, k, h, j, h1, h2 => by
    obtain rfl : j = k := by omega
    exact h
  | n + 1, k, h, j, h1, h2 => by
    rw [walkQ, Bool.and_eq_true] at h
    rcases Nat.eq_or_lt_of_le h1 with e | e
    · subst e; exact h.1
    · exact walkQ_ok n (k + 1) h.2 j e (by omega)
set_option maxRecDepth 100000 in
theorem quiet : walkQ 255 0 q0 = true := by decide +kernel
theorem quiet_at (k : Nat) (h : k ≤ 255) : okQ k (runQ k) = true := walkQ_ok 255 0 quiet k (Nat.zero_le _) (by omega)

theorem runQ_F : ∀ k, (runQ k).1 = runF (fun _ => 0) k
  | 0 => rfl
  | k + 1 => by
    show nextF (runQ k).1 0 = nextF (runF (fun _ => 0) k) 0
    rw [runQ_F k]

theorem bits_0 : Gam.bitsOf (folded 0) = [0] := by decide
theorem many_0 : Gam.many (folded 0) = 0 := by decide
theorem ctx_0 : x0 [] = 0 ∧ x1 0 [] = 0 ∧ x2 [] = 0 := by decide

/-- What zeros make. -/
theorem puts_zeros : ∀ k, k ≤ 255 → (puts s0 (List.replicate k 0)).1 = runM 0 0 0 (fun _ => 0) k ∧ (puts s0 (List.replicate k 0)).2.2 = 0 ∧
    ((puts s0 (List.replicate k 0)).2.1.l, (puts s0 (List.replicate k 0)).2.1.h, (puts s0 (List.replicate k 0)).2.1.o.length) = (runQ k).2
  | 0, _ => ⟨(run_zero (by decide) (by decide) (by decide) _).symm, rfl, rfl⟩
  | k + 1, hk => by
    obtain ⟨h1, h2, h3⟩ := puts_zeros k (by omega)
    have good : goodF (runF (fun _ => 0) k) = true := by
      have := quiet_at k (by omega)
      rw [okQ, Bool.and_eq_true, runQ_F] at this
      exact this.1
    rw [List.replicate_succ', puts_app]
    generalize puts s0 (List.replicate k 0) = s at *
    show (numS s 0).1 = _ ∧ (numS s 0).2.2 = 0 ∧ ((numS s 0).2.1.l, (numS s 0).2.1.h, (numS s 0).2.1.o.length) = (nextQ (runQ k)).2
    obtain ⟨L, c, b⟩ := s
    simp only at h1 h2 h3
    subst h1 h2
    unfold numS
    rw [bits_0, many_0]
    simp only [codeBits]
    obtain ⟨e0, e1, e2⟩ := ctx_0
    have hp : pOf (runM 0 0 0 (fun _ => 0) k) 0 [] = tellF (runQ k).1 := by
      unfold pOf
      rw [e0, e1, e2, run_tell (by decide) (by decide) (by decide) _ k good, runQ_F]
    have hl : lrn (runM 0 0 0 (fun _ => 0) k) 0 [] 0 = runM 0 0 0 (fun _ => 0) (k + 1) := by
      unfold lrn
      rw [e0, e1, e2]
      exact run_next (by decide) (by decide) (by decide) (fun _ => 0) k good
    refine ⟨hl, rfl, ?_⟩
    rw [hp]
    unfold codS nextQ
    simp only [List.length_append]
    rw [← h3]

/-- Many zeros take few bytes. -/
theorem told_zeros (k : Nat) (h : k ≤ 255) : (told (List.replicate k 0)).size ≤ 8 + k / 16 := by
  obtain ⟨_, _, h3⟩ := puts_zeros k h
  have q := quiet_at k h
  rw [okQ, Bool.and_eq_true, decide_eq_true_eq, ← h3] at q
  rw [told_size]
  exact q.2

end Go.Proofs.YtocnlefpbcnlmaaDoor.Res
