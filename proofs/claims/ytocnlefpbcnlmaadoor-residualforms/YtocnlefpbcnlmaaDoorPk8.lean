/-
  A model that is loaded in a region that draws its order; a new variable that is filled at once; which models may be, number by number. No condition.
  Plain facts on gamma bits: the bits that tell a number, the number that bits tell, how they come back, that none begin with another's. No condition.
  Plain facts on contexts: how bits are told, which may be asked, the three numbers of P12.1. No condition.
  Plain facts on what a coder leaves between its Low and its High: when a coder may be, the middle, the bytes that are settled. No condition.
  The contracts of package span and of coder's small functions. Conditions: numbers within what each asks for.
-/
import Derived.Test.YtocnlefpbcnlmaaDoorPk7
import Derived.Test.YtocnlefpbcnlmaaDoorPk4
import Derived.Laws.MathBits
import Derived.WalkKit
import Derived.Below
import Derived.Test.YtocnlefpbcnlmaaDoorPk1
import Derived.Test.YtocnlefpbcnlmaaDoorRows
import Derived.WalkLawsBesides
import Derived.WalkSpells
import Derived.ProofKit
import Derived.Lib.QuietBelow
import Derived.BigQuiet
import Derived.Deep.RegionHeld3

namespace Go.Proofs.YtocnlefpbcnlmaaDoor.Mod
open Go.RowKit Go.Sort
set_option linter.unusedVariables false
set_option linter.unusedSimpArgs false

section
variable {ops : Array Oper} {rest : List Oper} {dst : Option Tmp} {a : Act} {w : World} {ty : TypeId} {pos : String} {after : Array Edge} {x y : Operand} {B : Nat} {L M : List Int}

theorem quiet_load26 {Q : Act → Prop} (h : Holds w B L) (hL : L.length = 195) (hx : a.eval x = .pointer (some ⟨B, 0, none⟩))
    (k : wpQuiet Tryd.prog ops (fun w' => ∃ p : Regrown, w' = grow (redrawn w p.d) p.os) Q rest (a.put dst (mdl L))) :
    wpQuiet Tryd.prog ops (fun w' => ∃ p : Regrown, w' = grow (redrawn w p.d) p.os) Q ({ dst := dst, op := .load 46 x, type := ty, pos := pos, after := after, guard := none } :: rest) a :=
  wpQuiet_step fun K hK => by
    rw [if_pos (show Region.wanted { dst := dst, op := .load 46 x, type := ty, pos := pos, after := after, guard := none } (yielded ops a.tmps) = true by simp [Region.wanted])]
    refine ⟨mdl L, fun w' hw => ?_, hK _ k⟩
    obtain ⟨p, rfl⟩ := hw
    unfold Oper.quietAt execOp
    simp only [hx, Sem.run_bind, load26' (h.regrown p.d p.os) hL, Result.andThen_ok]
    exact ⟨rfl, rfl⟩

theorem quiet_load26g {Q : Act → Prop} {g : Nat × Bool} (hw : Region.wanted { dst := dst, op := .load 46 x, type := ty, pos := pos, after := after, guard := some g } (yielded ops a.tmps) = true) (h : Holds w B L) (hL : L.length = 195) (hx : a.eval x = .pointer (some ⟨B, 0, none⟩))
    (k : wpQuiet Tryd.prog ops (fun w' => ∃ p : Regrown, w' = grow (redrawn w p.d) p.os) Q rest (a.put dst (mdl L))) :
    wpQuiet Tryd.prog ops (fun w' => ∃ p : Regrown, w' = grow (redrawn w p.d) p.os) Q ({ dst := dst, op := .load 46 x, type := ty, pos := pos, after := after, guard := some g } :: rest) a :=
  wpQuiet_step fun K hK => by
    rw [if_pos hw]
    refine ⟨mdl L, fun w' hw => ?_, hK _ k⟩
    obtain ⟨p, rfl⟩ := hw
    unfold Oper.quietAt execOp
    simp only [hx, Sem.run_bind, load26' (h.regrown p.d p.os) hL, Result.andThen_ok]
    exact ⟨rfl, rfl⟩

theorem quiet_build26g {Q : Act → Prop} {g : Nat × Bool} {p q r : Int} (hw : Region.wanted { dst := dst, op := .build 46 #[(1, x)], type := ty, pos := pos, after := after, guard := some g } (yielded ops a.tmps) = true) (hx : a.eval x = .agg #[.int .i64 p, .int .i64 q, .int .i64 r])
    (k : wpQuiet Tryd.prog ops (fun w' => ∃ p : Regrown, w' = grow (redrawn w p.d) p.os) Q rest (a.put dst (mdl (List.replicate 192 0 ++ [p, q, r])))) :
    wpQuiet Tryd.prog ops (fun w' => ∃ p : Regrown, w' = grow (redrawn w p.d) p.os) Q ({ dst := dst, op := .build 46 #[(1, x)], type := ty, pos := pos, after := after, guard := some g } :: rest) a :=
  wpQuiet_step fun K hK => by
    rw [if_pos hw]
    refine ⟨mdl (List.replicate 192 0 ++ [p, q, r]), fun w' hw => ?_, hK _ k⟩
    unfold Oper.quietAt execOp
    simp only [List.map_toArray, List.map_cons, List.map_nil, hx, Sem.run_bind, build26w, Result.andThen_ok]
    exact ⟨rfl, rfl⟩

theorem wpl_load26h {Q : Exit → Act → World → Prop} {g : Nat × Bool} (hw : Region.wanted { dst := dst, op := .load 46 x, type := ty, pos := pos, after := after, guard := some g } (yielded ops a.tmps) = true) (h : Holds w B L) (hL : L.length = 195) (hx : a.eval x = .pointer (some ⟨B, 0, none⟩)) (k : wpList Tryd.prog ops Q rest (a.put dst (mdl L)) w) :
    wpList Tryd.prog ops Q ({ dst := dst, op := .load 46 x, type := ty, pos := pos, after := after, guard := some g } :: rest) a w :=
  wpl_load26g hw h (by omega) hx (by rwa [List.take_of_length_le (by omega)])

theorem wpl_build26h {Q : Exit → Act → World → Prop} {g : Nat × Bool} (hw : Region.wanted { dst := dst, op := .build 46 #[], type := ty, pos := pos, after := after, guard := some g } (yielded ops a.tmps) = true) (k : wpList Tryd.prog ops Q rest (a.put dst (mdl zeros)) w) :
    wpList Tryd.prog ops Q ({ dst := dst, op := .build 46 #[], type := ty, pos := pos, after := after, guard := some g } :: rest) a w :=
  BigFrame.wpList_want hw fun _ hK => by
    unfold Oper.wp execOp
    simp only [List.map_toArray, List.map_nil, Sem.run_bind, build26 w, Result.andThen_ok]
    exact hK _ _ k

theorem wpl_store26n {Q : Exit → Act → World → Prop} (hL : L.length = 195) (hM : M.length = 195) (hx : a.eval x = .pointer (some ⟨w.heap.size, 0, none⟩)) (hy : a.eval y = mdl M) (k : wpList Tryd.prog ops Q rest (a.put dst undef) (w.alloc (.cells (vals M).toArray 46))) :
    wpList Tryd.prog ops Q ({ dst := dst, op := .store 46 x y, type := ty, pos := pos, after := after, guard := none } :: rest) a (w.alloc (.cells (vals L).toArray 46)) :=
  wpList_plain rfl fun _ hK => by
    unfold Oper.wp execOp
    simp only [hx, hy, Sem.run_bind, store26n hL hM, Result.andThen_ok]
    exact hK _ _ k
end

/-- Which models may be. -/
theorem may_iff (L : List Int) : mayM L = true ↔ (∀ k, k < 192 → 0 ≤ L.getD k 0 ∧ L.getD k 0 ≤ 65535) ∧ (∀ k, 192 ≤ k → k < 195 → -1048576 ≤ L.getD k 0 ∧ L.getD k 0 ≤ 1048576) := by
  constructor
  · intro h
    refine ⟨fun k hk => ?_, fun k h1 h2 => ?_⟩
    · by_cases h1 : k < 64
      · have := mayM_row h 0 (.inl rfl) k h1
        rwa [Nat.zero_add] at this
      · by_cases h2 : k < 128
        · have := mayM_row h 64 (.inr (.inl rfl)) (k - 64) (by omega)
          rwa [show 64 + (k - 64) = k by omega] at this
        · have := mayM_row h 128 (.inr (.inr rfl)) (k - 128) (by omega)
          rwa [show 128 + (k - 128) = k by omega] at this
    · obtain ⟨m0, m1, m2, _⟩ := mayM_wts h
      have : k = 192 ∨ k = 193 ∨ k = 194 := by omega
      rcases this with rfl | rfl | rfl
      · exact m0
      · exact m1
      · exact m2
  · rintro ⟨h, g⟩
    have r : ∀ o, o = 0 ∨ o = 64 ∨ o = 128 → rowBad L o = false := fun o ho => anyOf_no fun i hi => by
      have := h (o + i) (by omega)
      simp only [noCnt, Bool.not_eq_false']
      exact decide_eq_true this
    have m : wtsB L = true := Mix.mayB_yes ⟨g 192 (by omega) (by omega), g 193 (by omega) (by omega), g 194 (by omega) (by omega), by omega, by omega, by omega⟩
    rw [mayM, r 0 (by omega), r 64 (by omega), r 128 (by omega), m]
    rfl

theorem step_range (c b : Int) (h : 0 ≤ c ∧ c ≤ 65535) : 0 ≤ Cnt.step c b ∧ Cnt.step c b ≤ 65535 := by
  unfold Cnt.step
  split <;> omega

/-- What a model that has learned holds. -/
theorem learn_get (L : List Int) (hL : L.length = 195) (a b c : Nat) (ha : a < 64) (hb : b < 64) (hc : c < 64) (bit : Int) (k : Nat) :
    (learn L a b c bit).getD k 0 = if k = a then Cnt.step (L.getD a 0) bit else if k = 64 + b then Cnt.step (L.getD (64 + b) 0) bit else if k = 128 + c then Cnt.step (L.getD (128 + c) 0) bit
      else if k = 192 then trnW L a b c bit (L.getD 192 0) (L.getD a 0) else if k = 193 then trnW L a b c bit (L.getD 193 0) (L.getD (64 + b) 0) else if k = 194 then trnW L a b c bit (L.getD 194 0) (L.getD (128 + c) 0) else L.getD k 0 := by
  unfold learn setW
  by_cases k3 : k = 128 + c
  · subst k3
    rw [getD_set_eq _ _ _ (by simp; omega), if_neg (by omega), if_neg (by omega), if_pos rfl]
  · rw [getD_set_ne _ _ _ _ (Ne.symm k3)]
    by_cases k2 : k = 64 + b
    · subst k2
      rw [getD_set_eq _ _ _ (by simp; omega), if_neg (by omega), if_pos rfl]
    · rw [getD_set_ne _ _ _ _ (Ne.symm k2)]
      by_cases k1 : k = a
      · subst k1
        rw [getD_set_eq _ _ _ (by simp; omega), if_pos rfl]
      · rw [getD_set_ne _ _ _ _ (Ne.symm k1), if_neg k1, if_neg k2, if_neg k3]
        by_cases k6 : k = 194
        · subst k6
          rw [getD_set_eq _ _ _ (by simp; omega), if_neg (by decide), if_neg (by decide), if_pos rfl]
        · rw [getD_set_ne _ _ _ _ (Ne.symm k6)]
          by_cases k5 : k = 193
          · subst k5
            rw [getD_set_eq _ _ _ (by simp; omega), if_neg (by decide), if_pos rfl]
          · rw [getD_set_ne _ _ _ _ (Ne.symm k5)]
            by_cases k4 : k = 192
            · subst k4
              rw [getD_set_eq _ _ _ (by omega), if_pos rfl]
            · rw [getD_set_ne _ _ _ _ (Ne.symm k4), if_neg k4, if_neg k5, if_neg k6]

/-- A model that has learned may be. -/
theorem may_learn (L : List Int) (hL : L.length = 195) (a b c : Nat) (ha : a < 64) (hb : b < 64) (hc : c < 64) (bit : Int) (hm : mayM L = true) : mayM (learn L a b c bit) = true := by
  obtain ⟨h, g⟩ := (may_iff L).1 hm
  refine (may_iff _).2 ⟨fun k hk => ?_, fun k h1 h2 => ?_⟩
  · rw [learn_get L hL a b c ha hb hc bit k]
    split
    · exact step_range _ _ (h _ (by omega))
    · split
      · exact step_range _ _ (h _ (by omega))
      · split
        · exact step_range _ _ (h _ (by omega))
        · rw [if_neg (by omega), if_neg (by omega), if_neg (by omega)]
          exact h k hk
  · rw [learn_get L hL a b c ha hb hc bit k, if_neg (by omega), if_neg (by omega), if_neg (by omega)]
    split
    · exact Mix.trn_range _ _ _
    · split
      · exact Mix.trn_range _ _ _
      · split
        · exact Mix.trn_range _ _ _
        · exact g k h1 h2

/-- A new model's counters told by 2048, which is stretched to 1. -/
theorem inp_half : inp 32768 = 1 := by
  have e : Cnt.chance 32768 = 2048 := by decide +kernel
  unfold inp
  rw [e]
  exact (Str.st_is (Str.least_of 2048 1 (by omega) (by omega) (.inr (by decide +kernel)) (.inr (by decide +kernel)))).symm

theorem newM_get : ∀ k, k < 192 → newM.getD k 0 = 32768 := by decide +kernel
theorem newM_wts : newM.getD 192 0 = 22000 ∧ newM.getD 193 0 = 22000 ∧ newM.getD 194 0 = 22000 := by decide +kernel
theorem newM_may : mayM newM = true := (may_iff _).2 ⟨fun k hk => by rw [newM_get k hk]; omega, fun k h1 h2 => by
  have : k = 192 ∨ k = 193 ∨ k = 194 := by omega
  obtain ⟨w0, w1, w2⟩ := newM_wts
  rcases this with rfl | rfl | rfl
  · rw [w0]; omega
  · rw [w1]; omega
  · rw [w2]; omega⟩

theorem new_tell (a b c : Nat) (ha : a < 64) (hb : b < 64) (hc : c < 64) : tell newM a b c = 2051 := by
  obtain ⟨w0, w1, w2⟩ := newM_wts
  unfold tell
  rw [w0, w1, w2, newM_get a (by omega), newM_get (64 + b) (by omega), newM_get (128 + c) (by omega), inp_half]
  decide +kernel

end Go.Proofs.YtocnlefpbcnlmaaDoor.Mod

namespace Go.Proofs.YtocnlefpbcnlmaaDoor.Gam
open Go.RowKit Go.Proofs.YtocnlefpbcnlmaaDoor.Mod
set_option linter.unusedVariables false

/-- How many bits u + 1 has behind its highest one. -/
def many (u : Nat) : Nat := (u + 1).log2
/-- The bit of u + 1 that is told as the i-th of them. -/
def bitAt (u n i : Nat) : Int := (((u + 1) / 2 ^ (n - 1 - i) % 2 : Nat) : Int)
def tail (u n i : Nat) : List Int := (List.range i).map (bitAt u n)
def bitsOf (u : Nat) : List Int := List.replicate (many u) 1 ++ 0 :: tail u (many u) (many u)

theorem tail_length (u n i : Nat) : (tail u n i).length = i := by simp [tail]
theorem tail_succ (u n i : Nat) : tail u n (i + 1) = tail u n i ++ [bitAt u n i] := by simp [tail, List.range_succ]
theorem bitsOf_length (u : Nat) : (bitsOf u).length = 2 * many u + 1 := by simp [bitsOf, tail_length]; omega
theorem many_le (u k : Nat) (h : u + 1 < 2 ^ (k + 1)) : many u ≤ k := by
  have := (Nat.log2_lt (by omega : u + 1 ≠ 0)).2 h
  unfold many; omega
theorem many_low (u : Nat) : 2 ^ many u ≤ u + 1 := Nat.log2_self_le (by omega)
theorem many_high (u : Nat) : u + 1 < 2 ^ (many u + 1) := Nat.lt_log2_self
theorem many_mono (u v : Nat) (h : u ≤ v) : many u ≤ many v := by
  refine many_le u (many v) ?_
  have := many_high v
  omega
theorem many_25 (u : Nat) (h : u ≤ 33554432) : many u ≤ 25 := many_le u 25 (Nat.lt_of_le_of_lt (by omega : u + 1 ≤ 33554433) (by decide))

/-- What bits tell, behind what was told ahead of them. -/
def take01 : Int → List Int → Option Int
  | v, [] => some v
  | v, b :: r => if b = 0 ∨ b = 1 then take01 (2 * v + b) r else none

theorem take01_append : ∀ (A B : List Int) (v : Int), take01 v (A ++ B) = (take01 v A).bind fun x => take01 x B
  | [], B, v => rfl
  | a :: r, B, v => by
    simp only [List.cons_append, take01]
    split
    · exact take01_append r B _
    · rfl
theorem take01_snoc {A : List Int} {v b x : Int} (h : take01 v A = some x) (hb : b = 0 ∨ b = 1) : take01 v (A ++ [b]) = some (2 * x + b) := by
  rw [take01_append, h]
  simp [take01, hb]
theorem take01_bad {A R : List Int} {v b x : Int} (h : take01 v A = some x) (hb : ¬(b = 0 ∨ b = 1)) : take01 v (A ++ b :: R) = none := by
  rw [take01_append, h]
  simp [take01, hb]
theorem take01_bound : ∀ (A : List Int) (v x : Int), 1 ≤ v → take01 v A = some x → 1 ≤ x ∧ x < (v + 1) * 2 ^ A.length
  | [], v, x, h0, h => by simp [take01] at h; subst h; simp; omega
  | a :: r, v, x, h0, h => by
    simp only [take01] at h
    split at h
    · rename_i ha
      have hi := take01_bound r (2 * v + a) x (by omega) h
      refine ⟨hi.1, Int.lt_of_lt_of_le hi.2 ?_⟩
      have e : (v + 1) * 2 ^ (a :: r).length = ((v + 1) * 2) * 2 ^ r.length := by
        rw [List.length_cons, Int.pow_succ, Int.mul_assoc, Int.mul_comm (2 ^ r.length) 2]
      rw [e]
      exact Int.mul_le_mul_of_nonneg_right (by omega) (Int.le_of_lt (Int.pow_pos (by decide)))
    · cases h
theorem take01_small {A : List Int} {x : Int} (h : take01 1 A = some x) (hA : A.length ≤ 25) : 1 ≤ x ∧ x < 67108864 := by
  have hb := take01_bound A 1 x (by decide) h
  refine ⟨hb.1, Int.lt_of_lt_of_le hb.2 ?_⟩
  have h1 : (2 : Nat) ^ A.length ≤ 2 ^ 25 := Nat.pow_le_pow_right (by decide) hA
  have h2 : ((2 ^ A.length : Nat) : Int) ≤ ((2 ^ 25 : Nat) : Int) := by exact_mod_cast h1
  have h3 : ((2 ^ A.length : Nat) : Int) = (2 : Int) ^ A.length := by simp
  have h4 : ((2 ^ 25 : Nat) : Int) = 33554432 := by decide
  omega

abbrev headOk (L : List Int) : Prop := L.take (L.length / 2 + 1) = List.replicate (L.length / 2) 1 ++ [0]

/-- The number and the error that bits tell. -/
def numP (L : List Int) : Int × Int :=
  if L.length = 2 * (L.length / 2) + 1 ∧ L.length / 2 ≤ 25 ∧ headOk L then
    match take01 1 (L.drop (L.length / 2 + 1)) with
    | some v => if v ≤ 33554433 then (v - 1, 0) else (0, 1100)
    | none => (0, 1100)
  else (0, 1100)

theorem numP_no {L : List Int} (h : ¬(L.length = 2 * (L.length / 2) + 1 ∧ L.length / 2 ≤ 25 ∧ headOk L)) : numP L = (0, 1100) := by
  unfold numP; rw [if_neg h]
theorem numP_none {L : List Int} (h : take01 1 (L.drop (L.length / 2 + 1)) = none) : numP L = (0, 1100) := by
  unfold numP; rw [h]; simp
theorem numP_some {L : List Int} {v : Int} (h1 : L.length = 2 * (L.length / 2) + 1) (h2 : L.length / 2 ≤ 25) (h3 : headOk L) (h : take01 1 (L.drop (L.length / 2 + 1)) = some v) (hv : v ≤ 33554433) : numP L = (v - 1, 0) := by
  unfold numP; rw [if_pos ⟨h1, h2, h3⟩, h]; simp [hv]
theorem numP_great {L : List Int} {v : Int} (h : take01 1 (L.drop (L.length / 2 + 1)) = some v) (hv : 33554433 < v) : numP L = (0, 1100) := by
  unfold numP; rw [h]
  have : ¬ v ≤ 33554433 := by omega
  simp [this]

theorem take01_tail (u : Nat) : ∀ i, i ≤ many u → take01 1 (tail u (many u) i) = some (((u + 1) / 2 ^ (many u - i) : Nat) : Int)
  | 0, _ => by
    have h1 := many_low u
    have h2 := many_high u
    have hp : 0 < 2 ^ many u := Nat.two_pow_pos _
    have : (u + 1) / 2 ^ many u = 1 := by
      rw [Nat.pow_succ] at h2
      exact Nat.div_eq_of_lt_le (by omega) (by omega)
    simp [tail, take01, this]
  | i + 1, h => by
    rw [tail_succ, take01_snoc (take01_tail u i (by omega)) (by unfold bitAt; omega)]
    unfold bitAt
    have e : many u - i = (many u - (i + 1)) + 1 := by omega
    have e2 : many u - 1 - i = many u - (i + 1) := by omega
    rw [e, e2, Nat.pow_succ, ← Nat.div_div_eq_div_mul]
    congr 1
    generalize (u + 1) / 2 ^ (many u - (i + 1)) = q
    omega

theorem bitsOf_half (u : Nat) : (bitsOf u).length / 2 = many u := by rw [bitsOf_length]; omega
theorem bitsOf_head (u : Nat) : headOk (bitsOf u) := by
  unfold headOk
  rw [bitsOf_half]
  have e : bitsOf u = (List.replicate (many u) 1 ++ [0]) ++ tail u (many u) (many u) := by simp [bitsOf]
  rw [e]
  have l : (List.replicate (many u) (1 : Int) ++ [0]).length = many u + 1 := by simp
  rw [← l, List.take_left]
theorem bitsOf_drop (u : Nat) : (bitsOf u).drop (many u + 1) = tail u (many u) (many u) := by
  have e : bitsOf u = (List.replicate (many u) 1 ++ [0]) ++ tail u (many u) (many u) := by simp [bitsOf]
  rw [e]
  have l : (List.replicate (many u) (1 : Int) ++ [0]).length = many u + 1 := by simp
  rw [← l, List.drop_left]

/-- They come back. -/
theorem numP_bits (u : Nat) (h : u ≤ 33554432) : numP (bitsOf u) = ((u : Int), 0) := by
  have ht : take01 1 ((bitsOf u).drop ((bitsOf u).length / 2 + 1)) = some ((u : Int) + 1) := by
    rw [bitsOf_half, bitsOf_drop, take01_tail u _ (Nat.le_refl _), Nat.sub_self]
    simp
  rw [numP_some (by rw [bitsOf_half]; exact bitsOf_length u) (by rw [bitsOf_half]; exact many_25 u h) (bitsOf_head u) ht (by omega)]
  simp

theorem getD_one (u k : Nat) (h : k < many u) : (bitsOf u).getD k 0 = 1 := by
  unfold bitsOf
  rw [List.getD_eq_getElem?_getD, List.getElem?_append_left (by simpa using h)]
  simp [h]
theorem getD_mid (u : Nat) : (bitsOf u).getD (many u) 0 = 0 := by
  unfold bitsOf
  rw [List.getD_eq_getElem?_getD, List.getElem?_append_right (by simp)]
  simp
theorem getD_tail (u i : Nat) (h : i < many u) : (bitsOf u).getD (many u + 1 + i) 0 = bitAt u (many u) i := by
  unfold bitsOf
  rw [List.getD_eq_getElem?_getD, List.getElem?_append_right (by simp; omega)]
  have : many u + 1 + i - (List.replicate (many u) (1 : Int)).length = i + 1 := by simp; omega
  rw [this]
  simp [tail, h]

/-- None begin with another's. -/
theorem prefix_eq (u v : Nat) (hu : u ≤ 33554432) (hv : v ≤ 33554432) (k : Nat) (h1 : k ≤ (bitsOf u).length) (h2 : k ≤ (bitsOf v).length) (h : k = (bitsOf u).length ∨ k = (bitsOf v).length)
    (e : (bitsOf u).take k = (bitsOf v).take k) : u = v := by
  have g : ∀ i, i < k → (bitsOf u).getD i 0 = (bitsOf v).getD i 0 := fun i hi => by
    have := congrArg (fun l => l.getD i 0) e
    simpa [List.getD_eq_getElem?_getD, List.getElem?_take, hi] using this
  have lu := bitsOf_length u
  have lv := bitsOf_length v
  have hm : many u = many v := by
    rcases Nat.lt_trichotomy (many u) (many v) with q | q | q
    · have := g (many u) (by omega)
      rw [getD_mid, getD_one v _ q] at this
      omega
    · exact q
    · have := g (many v) (by omega)
      rw [getD_mid, getD_one u _ q] at this
      omega
  have eu : (bitsOf u).take k = bitsOf u := List.take_of_length_le (by omega)
  have ev : (bitsOf v).take k = bitsOf v := List.take_of_length_le (by omega)
  rw [eu, ev] at e
  have nu := numP_bits u hu
  rw [e, numP_bits v hv] at nu
  simp at nu
  omega

/-- How many bits 1 some begin with. -/
def ones : List Int → Nat
  | [] => 0
  | b :: r => if b = 1 then ones r + 1 else 0
theorem ones_le : ∀ L : List Int, ones L ≤ L.length
  | [] => Nat.le_refl _
  | b :: r => by have := ones_le r; simp only [ones, List.length_cons]; split <;> omega
theorem ones_one : ∀ (L : List Int) (k : Nat), k < ones L → L.getD k 0 = 1
  | [], k, h => by simp [ones] at h
  | b :: r, k, h => by
    simp only [ones] at h
    split at h
    · rename_i hb
      match k with
      | 0 => simp [hb]
      | k + 1 => simpa using ones_one r k (by omega)
    · omega
theorem ones_end : ∀ (L : List Int), ones L < L.length → L.getD (ones L) 0 ≠ 1
  | [], h => by simp at h
  | b :: r, h => by
    simp only [ones] at h ⊢
    split
    · rename_i hb
      rw [if_pos hb] at h
      simpa using ones_end r (by simpa using h)
    · rename_i hb
      simpa using hb
theorem ones_is (L : List Int) (k : Nat) (hk : k ≤ L.length) (h1 : ∀ i, i < k → L.getD i 0 = 1) (h2 : k = L.length ∨ L.getD k 0 ≠ 1) : ones L = k := by
  have a := ones_le L
  rcases Nat.lt_trichotomy (ones L) k with q | q | q
  · exact absurd (h1 _ q) (ones_end L (by omega))
  · exact q
  · rcases h2 with h2 | h2
    · omega
    · exact absurd (ones_one L k q) h2

theorem head_iff (L : List Int) (k : Nat) (hk : L.length = 2 * k + 1) : headOk L ↔ (∀ i, i < k → L.getD i 0 = 1) ∧ L.getD k 0 = 0 := by
  have hh : L.length / 2 = k := by omega
  unfold headOk
  rw [hh]
  constructor
  · intro e
    have g : ∀ i, i < k + 1 → L.getD i 0 = (List.replicate k (1 : Int) ++ [0]).getD i 0 := fun i hi => by
      have := congrArg (fun l => l.getD i 0) e
      simpa [List.getD_eq_getElem?_getD, List.getElem?_take, hi] using this
    refine ⟨fun i hi => ?_, ?_⟩
    · rw [g i (by omega), List.getD_eq_getElem?_getD, List.getElem?_append_left (by simpa using hi)]
      simp [hi]
    · rw [g k (by omega), List.getD_eq_getElem?_getD, List.getElem?_append_right (by simp)]
      simp
  · rintro ⟨h1, h2⟩
    refine List.ext_getElem (by simp; omega) fun i a b => ?_
    have hi : i < k + 1 := by simp at b; omega
    have hL : i < L.length := by omega
    rw [List.getElem_take]
    by_cases q : i < k
    · have := h1 i q
      rw [List.getD_eq_getElem?_getD, List.getElem?_eq_getElem hL] at this
      rw [List.getElem_append_left (by simpa using q)]
      simpa using this
    · obtain rfl : i = k := by omega
      rw [List.getD_eq_getElem?_getD, List.getElem?_eq_getElem hL] at h2
      rw [List.getElem_append_right (by simp)]
      simpa using h2

theorem head_ones {L : List Int} (h1 : L.length = 2 * (L.length / 2) + 1) (h : headOk L) : ones L = L.length / 2 := by
  have := (head_iff L (L.length / 2) h1).1 h
  exact ones_is L _ (by omega) this.1 (.inr (by omega))

end Go.Proofs.YtocnlefpbcnlmaaDoor.Gam

namespace Go.Proofs.YtocnlefpbcnlmaaDoor.Ctx
open Go.RowKit Go.Proofs.YtocnlefpbcnlmaaDoor.Mod Go.Proofs.YtocnlefpbcnlmaaDoor.Gam
set_option linter.unusedVariables false

/-- Each is 0 or 1. -/
def Bits01 (L : List Int) : Prop := ∀ k, k < L.length → L.getD k 0 = 0 ∨ L.getD k 0 = 1
/-- What may be asked. -/
def May (b : Int) (L : List Int) : Prop := 0 ≤ b ∧ b ≤ 63 ∧ L.length ≤ 63 ∧ Bits01 L

def upto31 (x : Int) : Int := if x ≤ 31 then x else 31
def oneB (r : Bool) : Int := if r then 1 else 0
/-- Has it a 0? -/
def has0 (L : List Int) : Bool := decide (ones L < L.length)
/-- Is its last one 1? -/
def last1 (L : List Int) : Bool := decide (0 < L.length ∧ L.getD (L.length - 1) 0 = 1)
def c0 (L : List Int) : Int := upto31 (ones L) + 32 * oneB (has0 L)
def c1 (b : Int) (L : List Int) : Int := 2 * upto31 b + oneB (has0 L)
def c2 (L : List Int) : Int := upto31 L.length + 32 * oneB (last1 L)
/-- The answer where it may be asked. -/
abbrev ctxV (b : Int) (L : List Int) : Value := .agg #[.int .i64 (c0 L), .int .i64 (c1 b L), .int .i64 (c2 L)]

theorem upto31_range (x : Int) (h : 0 ≤ x) : 0 ≤ upto31 x ∧ upto31 x ≤ 31 := by unfold upto31; split <;> omega
theorem oneB_range (r : Bool) : 0 ≤ oneB r ∧ oneB r ≤ 1 := by cases r <;> decide

/-- The first that is 0, of bits. -/
theorem first0 {L : List Int} (h : Bits01 L) (k : Nat) (hk : k < L.length) (h0 : L.getD k 0 = 0) (h1 : ∀ i, i < k → L.getD i 0 ≠ 0) : ones L = k :=
  ones_is L k (by omega) (fun i hi => (h i (by omega)).resolve_left (h1 i hi)) (.inr (by omega))
theorem no0 {L : List Int} (h : Bits01 L) (h1 : ∀ i, i < L.length → L.getD i 0 ≠ 0) : ones L = L.length :=
  ones_is L _ (Nat.le_refl _) (fun i hi => (h i hi).resolve_left (h1 i hi)) (.inl rfl)

theorem bits_nil : Bits01 [] := fun k hk => absurd hk (by simp)
theorem bits_snoc {L : List Int} (h : Bits01 L) {x : Int} (hx : x = 0 ∨ x = 1) : Bits01 (L ++ [x]) := fun k hk => by
  rcases Nat.lt_or_ge k L.length with q | q
  · rw [List.getD_eq_getElem?_getD, List.getElem?_append_left q, ← List.getD_eq_getElem?_getD]
    exact h k q
  · obtain rfl : k = L.length := by simp at hk; omega
    simpa [List.getD_eq_getElem?_getD] using hx
theorem bits_rep (k : Nat) (x : Int) (hx : x = 0 ∨ x = 1) : Bits01 (List.replicate k x) := fun i hi => by
  have : i < k := by simpa using hi
  simpa [List.getD_eq_getElem?_getD, this] using hx

end Go.Proofs.YtocnlefpbcnlmaaDoor.Ctx

namespace Go.Proofs.YtocnlefpbcnlmaaDoor.Coder
open Go.RowKit
set_option linter.unusedVariables false

/-- The world w' is w with new blocks behind it. -/
abbrev Bel (w w' : World) : Prop := Below w.heap.size w w'
theorem Bel.refl (w : World) : Bel w w := Below.refl _ _
theorem Bel.trans {a b c : World} (h : Bel a b) (k : Bel b c) : Bel a c := Below.trans h (k.mono h.size)
theorem Bel.alloc {w w' : World} (h : Bel w w') (o : Obj) : Bel w (w'.alloc o) := Below.alloc h h.size o
theorem Bel.setCell {w w' : World} (h : Bel w w') {a : Addr} (ha : w.heap.size ≤ a.block) (v : Value) : Bel w (w'.setCell a v) := Below.setCell h ha v
theorem Bel.drew {w w' : World} (h : Bel w w') : Bel w w'.drew := Below.drew h

def Between (l h : Int) : Prop := 0 ≤ l ∧ h ≤ 4294967295 ∧ l / 16777216 < h / 16777216

def mid (l h p : Int) : Int := l + (h - l) / 4096 * p + (h - l) % 4096 * p / 4096

theorem mid_facts (r p : Int) (h1 : 1 ≤ p) (h2 : p ≤ 4095) (hr : 1 ≤ r) (hr2 : r ≤ 4294967295) :
    0 ≤ r / 4096 * p ∧ r / 4096 * p ≤ 4294967295 ∧ 0 ≤ r % 4096 * p ∧ r % 4096 * p ≤ 16777216 ∧ r / 4096 * p + r % 4096 * p / 4096 < r := by
  have q0 : 0 ≤ r / 4096 := by omega
  have m0 : 0 ≤ r % 4096 := by omega
  have m1 : r % 4096 ≤ 4095 := by omega
  have e : r = 4096 * (r / 4096) + r % 4096 := by omega
  generalize r / 4096 = q at *
  generalize r % 4096 = m at *
  have a0 : 0 ≤ q * p := Int.mul_nonneg q0 (by omega)
  have a1 : q * p ≤ q * 4095 := Int.mul_le_mul_of_nonneg_left h2 q0
  have b0 : 0 ≤ m * p := Int.mul_nonneg m0 (by omega)
  have b1 : m * p ≤ m * 4095 := Int.mul_le_mul_of_nonneg_left h2 m0
  generalize q * p = x at *
  generalize m * p = y at *
  omega

/-- The bytes that are settled, and what is left. -/
def settle : Nat → Int → Int → List UInt8 × Int × Int
  | 0, l, h => ([], l, h)
  | n + 1, l, h => if l / 16777216 = h / 16777216 then
      (UInt8.ofNat (l / 16777216).toNat :: (settle n (l * 256 % 4294967296) (h * 256 % 4294967296 + 255)).1, (settle n (l * 256 % 4294967296) (h * 256 % 4294967296 + 255)).2)
    else ([], l, h)

/-- Behind k bytes that were settled, k bytes of Low are 0, and of High 255. -/
def Low0 (k : Nat) (l h : Int) : Prop := k = 0 ∨ (k = 1 ∧ l % 256 = 0 ∧ h % 256 = 255) ∨ (k = 2 ∧ l % 65536 = 0 ∧ h % 65536 = 65535) ∨ (k = 3 ∧ l % 16777216 = 0 ∧ h % 16777216 = 16777215) ∨ (k = 4 ∧ l = 0 ∧ h = 4294967295)

theorem low0_lt {k : Nat} {l h : Int} (H : Low0 k l h) (e : l / 16777216 = h / 16777216) : k < 4 := by
  rcases H with H | H | H | H | ⟨_, rfl, rfl⟩
  · omega
  · omega
  · omega
  · omega
  · omega

theorem low0_next {k : Nat} {l h : Int} (H : Low0 k l h) (h0 : 0 ≤ l) (h1 : l ≤ h) (h2 : h ≤ 4294967295) (e : l / 16777216 = h / 16777216) :
    Low0 (k + 1) (l * 256 % 4294967296) (h * 256 % 4294967296 + 255) ∧ 0 ≤ l * 256 % 4294967296 ∧ l * 256 % 4294967296 ≤ h * 256 % 4294967296 + 255 ∧ h * 256 % 4294967296 + 255 ≤ 4294967295 := by
  have hl : l * 256 % 4294967296 = (l % 16777216) * 256 := by omega
  have hh : h * 256 % 4294967296 = (h % 16777216) * 256 := by omega
  rw [hl, hh]
  refine ⟨?_, by omega, by omega, by omega⟩
  unfold Low0 at *
  rcases H with H | H | H | H | H
  · omega
  · omega
  · omega
  · omega
  · omega

/-- The state behind k rounds of the loop that began at l0, h0. -/
structure Mids (l0 h0 : Int) (k : Nat) (l h : Int) (bs : List UInt8) : Prop where
  len : bs.length = k
  le4 : k ≤ 4
  l0' : 0 ≤ l
  lh : l ≤ h
  h1 : h ≤ 4294967295
  low : Low0 k l h
  eq : settle 5 l0 h0 = (bs ++ (settle (5 - k) l h).1, (settle (5 - k) l h).2)

theorem Mids.start {l h : Int} (h0 : 0 ≤ l) (h1 : l ≤ h) (h2 : h ≤ 4294967295) : Mids l h 0 l h [] :=
  ⟨rfl, by omega, h0, h1, h2, .inl rfl, by simp⟩

theorem Mids.lt {l0 h0 : Int} {k : Nat} {l h : Int} {bs : List UInt8} (M : Mids l0 h0 k l h bs) (e : l / 16777216 = h / 16777216) : k < 4 := low0_lt M.low e

theorem Mids.next {l0 h0 : Int} {k : Nat} {l h : Int} {bs : List UInt8} (M : Mids l0 h0 k l h bs) (e : l / 16777216 = h / 16777216) :
    Mids l0 h0 (k + 1) (l * 256 % 4294967296) (h * 256 % 4294967296 + 255) (bs ++ [UInt8.ofNat (l / 16777216).toNat]) := by
  have hk := M.lt e
  obtain ⟨a1, a2, a3, a4⟩ := low0_next M.low M.l0' M.lh M.h1 e
  refine ⟨by simp [M.len], by omega, a2, a3, a4, a1, ?_⟩
  rw [M.eq]
  have e5 : 5 - k = (5 - (k + 1)) + 1 := by omega
  rw [e5, settle, if_pos e]
  simp

theorem Mids.done {l0 h0 : Int} {k : Nat} {l h : Int} {bs : List UInt8} (M : Mids l0 h0 k l h bs) (e : ¬ l / 16777216 = h / 16777216) : settle 5 l0 h0 = (bs, l, h) := by
  rw [M.eq]
  have hk := M.le4
  have e5 : 5 - k = (4 - k) + 1 := by omega
  rw [e5, settle, if_neg e]
  simp

/-- Wherever it ends: what is left may be a coder's. -/
theorem Mids.between {l0 h0 : Int} {k : Nat} {l h : Int} {bs : List UInt8} (M : Mids l0 h0 k l h bs) (e : ¬ l / 16777216 = h / 16777216) : Between l h := by
  have := M.l0'; have := M.lh; have := M.h1
  exact ⟨by omega, by omega, by omega⟩

/-- The narrowing by a bit. -/
def narrow (l h bit p : Int) : Int × Int := if bit = 1 then (l, mid l h p) else (mid l h p + 1, h)

theorem narrow_in {l h : Int} (b : Between l h) (bit p : Int) (h1 : 1 ≤ p) (h2 : p ≤ 4095) : 0 ≤ (narrow l h bit p).1 ∧ (narrow l h bit p).1 ≤ (narrow l h bit p).2 ∧ (narrow l h bit p).2 ≤ 4294967295 := by
  obtain ⟨b0, b1, b2⟩ := b
  obtain ⟨f1, f2, f3, f4, f5⟩ := mid_facts (h - l) p h1 h2 (by omega) (by omega)
  unfold narrow mid
  split
  · simp only; omega
  · simp only; omega

/-- The walk through 'settle' ends within four rounds. -/
theorem mids_all (l0 h0 : Int) : ∀ (n k : Nat) (l h : Int) (bs : List UInt8), 4 - k = n → Mids l0 h0 k l h bs → ∃ k' l' h' bs', Mids l0 h0 k' l' h' bs' ∧ ¬ l' / 16777216 = h' / 16777216
  | n, k, l, h, bs, hn, M => by
    by_cases e : l / 16777216 = h / 16777216
    · have hk := M.lt e
      match n, hn with
      | n + 1, hn => exact mids_all l0 h0 n (k + 1) _ _ _ (by omega) (M.next e)
      | 0, hn => omega
    · exact ⟨k, l, h, bs, M, e⟩

theorem settle_facts {l h : Int} (h0 : 0 ≤ l) (h1 : l ≤ h) (h2 : h ≤ 4294967295) : (settle 5 l h).1.length ≤ 4 ∧ Between (settle 5 l h).2.1 (settle 5 l h).2.2 := by
  obtain ⟨k', l', h', bs', M, e⟩ := mids_all l h 4 0 l h [] rfl (Mids.start h0 h1 h2)
  rw [M.done e]
  exact ⟨by simp [M.len, M.le4], M.between e⟩

end Go.Proofs.YtocnlefpbcnlmaaDoor.Coder

namespace Go.Proofs.YtocnlefpbcnlmaaDoor.Coder
open Go.RowKit Go.Proofs.YtocnlefpbcnlmaaDoor.Num
set_option linter.unusedVariables false

set_option maxHeartbeats 400000 in
theorem left_ok (l h : Int) (s : ByteArray) (w : World) :
    Calls Tryd.prog 56 #[.agg #[.int .i64 l, .int .i64 h, .string s]] w fun e w' => e = .returned (.agg #[.int .i64 l, .int .i64 h]) ∧ Bel w w' := by
  go_enter Tryd.func56, Tryd.ntmps56
  go_wp2
  refine bodyPost_ret (v := .agg #[.int .i64 l, .int .i64 h]) (by simp [results, Tryd.results56, go_sem]) rfl ⟨rfl, ?_⟩
  exact ((Bel.refl _).alloc _).alloc _

set_option maxHeartbeats 400000 in
theorem span_may_yes (l h : Int) (hb : Between l h) (w : World) :
    Calls Tryd.prog 61 #[.agg #[.int .i64 l, .int .i64 h]] w fun e w' => e = .returned (.bool true) ∧ Bel w w' := by
  obtain ⟨h0, h1, h2⟩ := hb
  go_enter Tryd.func61, Tryd.ntmps61
  go_wp2
  go_ret
  exact ⟨rfl, (Bel.refl _).alloc _⟩

set_option maxHeartbeats 400000 in
theorem span_may_no (l h : Int) (hb : ¬ Between l h) (w : World) :
    Calls Tryd.prog 61 #[.agg #[.int .i64 l, .int .i64 h]] w fun e w' => e = .returned (.bool false) ∧ Bel w w' := by
  by_cases h0 : 0 ≤ l
  · by_cases h1 : h ≤ 4294967295
    · have h2 : decide (l / 16777216 < h / 16777216) = false := decide_eq_false fun k => hb ⟨h0, h1, k⟩
      clear hb
      go_enter Tryd.func61, Tryd.ntmps61
      go_wp2
      go_ret
      exact ⟨rfl, (Bel.refl _).alloc _⟩
    · have h3 : decide (h ≤ 4294967295) = false := decide_eq_false h1
      clear hb
      go_enter Tryd.func61, Tryd.ntmps61
      go_wp2
      go_ret
      exact ⟨rfl, (Bel.refl _).alloc _⟩
  · have h3 : decide (0 ≤ l) = false := decide_eq_false h0
    clear hb
    go_enter Tryd.func61, Tryd.ntmps61
    go_wp2
    go_ret
    exact ⟨rfl, (Bel.refl _).alloc _⟩

/-- What May answers. -/
def mayB (l h : Int) (s : ByteArray) : Bool := decide ((0 ≤ l ∧ h ≤ 4294967295 ∧ l / 16777216 < h / 16777216) ∧ s.size ≤ 65536)

set_option maxHeartbeats 400000 in
theorem may_ok (l h : Int) (s : ByteArray) (hs : s.size ≤ maxLen) (w : World) :
    Calls Tryd.prog 35 #[.agg #[.int .i64 l, .int .i64 h, .string s]] w fun e w' => e = .returned (.bool (mayB l h s)) ∧ Bel w w' := by
  unfold maxLen at hs
  by_cases hb : Between l h
  · by_cases hz : s.size ≤ 65536
    · have e : mayB l h s = true := decide_eq_true ⟨hb, hz⟩
      rw [e]
      have hz' : decide ((s.size : Int) ≤ 65536) = true := by simp; omega
      have HB : Hid (Between l h) := hb
      clear hb e
      go_enter Tryd.func35, Tryd.ntmps35
      go_wp2_with fail
      refine (left_ok l h s _).mono ?_
      rintro e w1 ⟨rfl, b1⟩
      have B1 := Bel.trans ((Bel.refl _).alloc _) b1
      have c1 : w1.cell? ⟨w.heap.size, 2, none⟩ = some (.string s) := by rw [b1.cell (by simp)]; simp
      have HB1 : Hid (Bel w w1) := B1
      clear b1 B1
      go_wp2_with fail
      refine (span_may_yes l h HB.out _).mono ?_
      rintro e w2 ⟨rfl, b2⟩
      have c2 : w2.cell? ⟨w.heap.size, 2, none⟩ = some (.string s) := by rw [b2.cell (block_lt_of_cell c1)]; exact c1
      have HB2 : Hid (Bel w w2) := HB1.out.trans b2
      clear b2 c1
      go_wp2
      go_ret
      exact ⟨rfl, HB2.out⟩
    · have e : mayB l h s = false := decide_eq_false fun k => hz k.2
      rw [e]
      have HB : Hid (Between l h) := hb
      have hz' : decide ((s.size : Int) ≤ 65536) = false := by simp; omega
      clear hb e
      go_enter Tryd.func35, Tryd.ntmps35
      go_wp2_with fail
      refine (left_ok l h s _).mono ?_
      rintro e w1 ⟨rfl, b1⟩
      have B1 := Bel.trans ((Bel.refl _).alloc _) b1
      have c1 : w1.cell? ⟨w.heap.size, 2, none⟩ = some (.string s) := by rw [b1.cell (by simp)]; simp
      have HB1 : Hid (Bel w w1) := B1
      clear b1 B1
      go_wp2_with fail
      refine (span_may_yes l h HB.out _).mono ?_
      rintro e w2 ⟨rfl, b2⟩
      have c2 : w2.cell? ⟨w.heap.size, 2, none⟩ = some (.string s) := by rw [b2.cell (block_lt_of_cell c1)]; exact c1
      have HB2 : Hid (Bel w w2) := HB1.out.trans b2
      clear b2 c1
      go_wp2
      go_ret
      exact ⟨rfl, HB2.out⟩
  · have e : mayB l h s = false := decide_eq_false fun k => hb k.1
    rw [e]
    have HB : Hid (¬ Between l h) := hb
    clear hb e
    go_enter Tryd.func35, Tryd.ntmps35
    go_wp2_with fail
    refine (left_ok l h s _).mono ?_
    rintro e w1 ⟨rfl, b1⟩
    have HB1 : Hid (Bel w w1) := Bel.trans ((Bel.refl _).alloc _) b1
    clear b1
    go_wp2_with fail
    refine (span_may_no l h HB.out _).mono ?_
    rintro e w2 ⟨rfl, b2⟩
    have HB2 : Hid (Bel w w2) := HB1.out.trans b2
    clear b2
    go_wp2
    go_ret
    exact ⟨rfl, HB2.out⟩

/-- What isBit, IsChance answer. -/
def bitB (b : Int) : Bool := decide (b = 0 ∨ b = 1)
def chanceB (p : Int) : Bool := decide (1 ≤ p ∧ p ≤ 4095)

set_option maxHeartbeats 400000 in
theorem isBit_ok (b : Int) (w : World) :
    Calls Tryd.prog 54 #[.int .i64 b] w fun e w' => e = .returned (.bool (bitB b)) ∧ w' = w := by
  by_cases h0 : b = 0
  · subst h0
    go_enter Tryd.func54, Tryd.ntmps54
    go_wp2
    go_ret
    exact ⟨rfl, rfl⟩
  · by_cases h1 : b = 1
    · subst h1
      go_enter Tryd.func54, Tryd.ntmps54
      go_wp2
      go_ret
      exact ⟨rfl, rfl⟩
    · have e0 : (b == 0) = false := by simpa using h0
      have e1 : (b == 1) = false := by simpa using h1
      have e : bitB b = false := decide_eq_false fun k => k.elim h0 h1
      rw [e]
      clear e
      go_enter Tryd.func54, Tryd.ntmps54
      go_wp2
      go_ret
      exact ⟨rfl, rfl⟩

set_option maxHeartbeats 400000 in
theorem isChance_ok (p : Int) (w : World) :
    Calls Tryd.prog 55 #[.int .i64 p] w fun e w' => e = .returned (.bool (chanceB p)) ∧ w' = w := by
  by_cases h0 : 1 ≤ p
  · by_cases h1 : p ≤ 4095
    · have e : chanceB p = true := decide_eq_true ⟨h0, h1⟩
      rw [e]
      clear e
      go_enter Tryd.func55, Tryd.ntmps55
      go_wp2
      go_ret
      exact ⟨rfl, rfl⟩
    · have e1 : decide (p ≤ 4095) = false := decide_eq_false h1
      have e : chanceB p = false := decide_eq_false fun k => h1 k.2
      rw [e]
      clear e
      go_enter Tryd.func55, Tryd.ntmps55
      go_wp2
      go_ret
      exact ⟨rfl, rfl⟩
  · have e1 : decide (1 ≤ p) = false := decide_eq_false h0
    have e : chanceB p = false := decide_eq_false fun k => h0 k.1
    rw [e]
    clear e
    go_enter Tryd.func55, Tryd.ntmps55
    go_wp2
    go_ret
    exact ⟨rfl, rfl⟩

set_option maxHeartbeats 400000 in
theorem middle_ok (l h p : Int) (hb : Between l h) (h1 : 1 ≤ p) (h2 : p ≤ 4095) (w : World) :
    Calls Tryd.prog 80 #[.agg #[.int .i64 l, .int .i64 h], .int .i64 p] w fun e w' => e = .returned (.int .i64 (mid l h p)) ∧ Bel w w' := by
  obtain ⟨b0, b1, b2⟩ := hb
  obtain ⟨f1, f2, f3, f4, f5⟩ := mid_facts (h - l) p h1 h2 (by omega) (by omega)
  have hd : (h - l).tdiv 4096 = (h - l) / 4096 := Int.tdiv_eq_ediv_of_nonneg (by omega)
  have hm : (h - l).tmod 4096 = (h - l) % 4096 := Int.tmod_eq_emod_of_nonneg (by omega)
  have hq : ((h - l) % 4096 * p).tdiv 4096 = (h - l) % 4096 * p / 4096 := Int.tdiv_eq_ediv_of_nonneg (by omega)
  go_enter Tryd.func80, Tryd.ntmps80
  go_wp2
  go_ret
  exact ⟨rfl, (Bel.refl _).alloc _⟩

/-- Two cells that are stored, read again. -/
theorem set2 {w : World} {b : Nat} {x y u v : Value} (d0 : w.cell? ⟨b, 0, none⟩ = some u) (d1 : w.cell? ⟨b, 1, none⟩ = some v) :
    (w.setCell ⟨b, 0, none⟩ x).cell? ⟨b, 0, none⟩ = some x ∧ (w.setCell ⟨b, 0, none⟩ x).cell? ⟨b, 1, none⟩ = some v ∧ ((w.setCell ⟨b, 0, none⟩ x).setCell ⟨b, 1, none⟩ y).cell? ⟨b, 1, none⟩ = some y ∧ ((w.setCell ⟨b, 0, none⟩ x).setCell ⟨b, 1, none⟩ y).cell? ⟨b, 0, none⟩ = some x := by
  have e0 : (w.setCell ⟨b, 0, none⟩ x).cell? ⟨b, 0, none⟩ = some x := (World.cell?_setCell_same _ _ (h := d0) _)
  have e1 : (w.setCell ⟨b, 0, none⟩ x).cell? ⟨b, 1, none⟩ = some v := by
    rw [World.cell?_setCell_other (h := by intro k; injection k with _ k2 _; omega)]; exact d1
  refine ⟨e0, e1, (World.cell?_setCell_same _ _ (h := e1) _), ?_⟩
  rw [World.cell?_setCell_other (h := by intro k; injection k with _ k2 _; omega)]; exact e0

theorem set3 {w : World} {b : Nat} {x y z u v t : Value} (d0 : w.cell? ⟨b, 0, none⟩ = some u) (d1 : w.cell? ⟨b, 1, none⟩ = some v) (d2 : w.cell? ⟨b, 2, none⟩ = some t) :
    (((w.setCell ⟨b, 0, none⟩ x).setCell ⟨b, 1, none⟩ y).setCell ⟨b, 2, none⟩ z).cell? ⟨b, 0, none⟩ = some x ∧ (((w.setCell ⟨b, 0, none⟩ x).setCell ⟨b, 1, none⟩ y).setCell ⟨b, 2, none⟩ z).cell? ⟨b, 1, none⟩ = some y ∧ (((w.setCell ⟨b, 0, none⟩ x).setCell ⟨b, 1, none⟩ y).setCell ⟨b, 2, none⟩ z).cell? ⟨b, 2, none⟩ = some z := by
  obtain ⟨_, _, r2, r3⟩ := set2 (x := x) (y := y) d0 d1
  have e2 : ((w.setCell ⟨b, 0, none⟩ x).setCell ⟨b, 1, none⟩ y).cell? ⟨b, 2, none⟩ = some t := by
    rw [World.cell?_setCell_other (h := by intro k; injection k with _ k2 _; omega), World.cell?_setCell_other (h := by intro k; injection k with _ k2 _; omega)]; exact d2
  refine ⟨?_, ?_, (World.cell?_setCell_same _ _ (h := e2) _)⟩
  · rw [World.cell?_setCell_other (h := by intro k; injection k with _ k2 _; omega)]; exact r3
  · rw [World.cell?_setCell_other (h := by intro k; injection k with _ k2 _; omega)]; exact r2

/-- A cell that was there reads as it did. -/
theorem Bel.keep {w w' : World} (h : Bel w w') {a : Addr} {v : Value} (c : w.cell? a = some v) : w'.cell? a = some v := by rw [h.cell (block_lt_of_cell c)]; exact c
theorem Bel.free {w w' : World} (h : Bel w w') {a : Addr} {v : Value} (c : w.cell? a = some v) (f : w.frozen? a = false) : w'.frozen? a = false := by rw [h.frozen (block_lt_of_cell c)]; exact f

/-- A coder that is handed back out of a variable. -/
theorem results_coder {fn : Func} {t : Tmp} (hf : fn.results = #[.cell t 37]) {tmps : Array Value} {b : Nat} {w : World} {x y z : Value} (ht : tmps[t]?.getD undef = .pointer (some ⟨b, 0, none⟩))
    (c0 : w.cell? ⟨b, 0, none⟩ = some x) (c1 : w.cell? ⟨b, 1, none⟩ = some y) (c2 : w.cell? ⟨b, 2, none⟩ = some z) : (results fn tmps).run Tryd.prog w = .ok (.agg #[x, y, z]) w := by
  simp [results, hf, ht, go_sem, c0, c1, c2]

theorem results_coder2 {fn : Func} {t u : Tmp} (hf : fn.results = #[.cell t 37, .tmp u]) {tmps : Array Value} {b : Nat} {w : World} {x y z v : Value} (ht : tmps[t]?.getD undef = .pointer (some ⟨b, 0, none⟩)) (hv : tmps[u]?.getD undef = v)
    (c0 : w.cell? ⟨b, 0, none⟩ = some x) (c1 : w.cell? ⟨b, 1, none⟩ = some y) (c2 : w.cell? ⟨b, 2, none⟩ = some z) : (results fn tmps).run Tryd.prog w = .ok (.tuple #[.agg #[x, y, z], v]) w := by
  simp [results, hf, ht, hv, go_sem, c0, c1, c2]

set_option maxHeartbeats 400000 in
theorem narrow_ok (l h bit p : Int) (hb : Between l h) (h1 : 1 ≤ p) (h2 : p ≤ 4095) (w : World) :
    Calls Tryd.prog 57 #[.agg #[.int .i64 l, .int .i64 h], .int .i64 bit, .int .i64 p] w fun e w' => e = .returned (.agg #[.int .i64 (narrow l h bit p).1, .int .i64 (narrow l h bit p).2]) ∧ Bel w w' := by
  have HB : Hid (Between l h) := hb
  have hm : 0 ≤ mid l h p ∧ mid l h p ≤ 4294967295 := by
    obtain ⟨b0, b1, b2⟩ := hb
    obtain ⟨f1, f2, f3, f4, f5⟩ := mid_facts (h - l) p h1 h2 (by omega) (by omega)
    unfold mid; omega
  obtain ⟨hm0, hm1⟩ := hm
  clear hb
  obtain ⟨m, hmm⟩ : ∃ m, m = mid l h p := ⟨_, rfl⟩
  have hmid := middle_ok l h p HB.out h1 h2
  rw [← hmm] at hm0 hm1 hmid
  have HM : Hid (∀ w, Calls Tryd.prog 80 #[.agg #[.int .i64 l, .int .i64 h], .int .i64 p] w fun e w' => e = .returned (.int .i64 m) ∧ Bel w w') := hmid
  clear hmid
  by_cases hbit : bit = 1
  · subst hbit
    have e : narrow l h 1 p = (l, m) := by rw [narrow, if_pos rfl, hmm]
    rw [e]
    clear e hmm
    go_enter Tryd.func57, Tryd.ntmps57
    go_wp2_with fail
    refine (HM.out _).mono ?_
    rintro e w1 ⟨rfl, b1⟩
    have HB1 : Hid (Bel w w1) := Bel.trans (((Bel.refl _).alloc _).alloc _) b1
    have c0 : w1.cell? ⟨w.heap.size, 0, none⟩ = some (.int .i64 l) := by rw [b1.cell (by simp; omega)]; simp
    have d0 : w1.cell? ⟨w.heap.size + 1, 0, none⟩ = some (.int .i64 0) := by rw [b1.cell (by simp)]; simp
    have d1 : w1.cell? ⟨w.heap.size + 1, 1, none⟩ = some (.int .i64 0) := by rw [b1.cell (by simp)]; simp
    have f0 : w1.frozen? ⟨w.heap.size + 1, 0, none⟩ = false := by rw [b1.frozen (by simp)]; simp
    have f1 : w1.frozen? ⟨w.heap.size + 1, 1, none⟩ = false := by rw [b1.frozen (by simp)]; simp
    clear b1
    go_wp2
    obtain ⟨r0, r1, r2, r3⟩ := set2 (x := .int .i64 l) (y := .int .i64 m) d0 d1
    refine bodyPost_ret (v := .agg #[.int .i64 l, .int .i64 m]) (by simp [results, Tryd.results57, go_sem, r2, r3]) rfl ⟨rfl, ?_⟩
    exact (HB1.out.setCell (by simp) _).setCell (by simp) _
  · have e : narrow l h bit p = (m + 1, h) := by rw [narrow, if_neg hbit, hmm]
    rw [e]
    have hb' : (bit == 1) = false := by simpa using hbit
    clear e hmm
    go_enter Tryd.func57, Tryd.ntmps57
    go_wp2_with fail
    refine (HM.out _).mono ?_
    rintro e w1 ⟨rfl, b1⟩
    have HB1 : Hid (Bel w w1) := Bel.trans (((Bel.refl _).alloc _).alloc _) b1
    have c0 : w1.cell? ⟨w.heap.size, 1, none⟩ = some (.int .i64 h) := by rw [b1.cell (by simp; omega)]; simp
    have d0 : w1.cell? ⟨w.heap.size + 1, 0, none⟩ = some (.int .i64 0) := by rw [b1.cell (by simp)]; simp
    have d1 : w1.cell? ⟨w.heap.size + 1, 1, none⟩ = some (.int .i64 0) := by rw [b1.cell (by simp)]; simp
    have f0 : w1.frozen? ⟨w.heap.size + 1, 0, none⟩ = false := by rw [b1.frozen (by simp)]; simp
    have f1 : w1.frozen? ⟨w.heap.size + 1, 1, none⟩ = false := by rw [b1.frozen (by simp)]; simp
    clear b1
    go_wp2
    obtain ⟨r0, r1, r2, r3⟩ := set2 (x := .int .i64 (m + 1)) (y := .int .i64 h) d0 d1
    refine bodyPost_ret (v := .agg #[.int .i64 (m + 1), .int .i64 h]) (by simp [results, Tryd.results57, go_sem, r2, r3]) rfl ⟨rfl, ?_⟩
    exact (HB1.out.setCell (by simp) _).setCell (by simp) _

set_option maxHeartbeats 400000 in
theorem isSettled_ok (l h : Int) (w : World) :
    Calls Tryd.prog 58 #[.agg #[.int .i64 l, .int .i64 h]] w fun e w' => e = .returned (.bool (l / 16777216 == h / 16777216)) ∧ Bel w w' := by
  go_enter Tryd.func58, Tryd.ntmps58
  go_wp2
  go_ret
  exact ⟨rfl, (Bel.refl _).alloc _⟩

set_option maxHeartbeats 400000 in
theorem settled_ok (l h : Int) (h0 : 0 ≤ l) (h1 : l ≤ 4294967295) (w : World) :
    Calls Tryd.prog 59 #[.agg #[.int .i64 l, .int .i64 h]] w fun e w' => e = .returned (.int .u8 (l / 16777216)) ∧ Bel w w' := by
  go_enter Tryd.func59, Tryd.ntmps59
  go_wp2
  go_ret
  exact ⟨rfl, (Bel.refl _).alloc _⟩

set_option maxHeartbeats 400000 in
theorem push_ok (x b : Int) (h0 : 0 ≤ x) (h1 : x ≤ 4294967295) (hb0 : 0 ≤ b) (hb1 : b ≤ 255) (w : World) :
    Calls Tryd.prog 62 #[.int .i64 x, .int .u8 b] w fun e w' => e = .returned (.int .i64 (x * 256 % 4294967296 + b)) ∧ w' = w := by
  have ha := and32 (x * 256)
  have ho := or8 (x * 256 % 4294967296) b (by omega) (by omega) (by omega) hb0 (by omega)
  go_enter Tryd.func62, Tryd.ntmps62
  go_wp2
  go_ret
  exact ⟨rfl, rfl⟩

set_option maxHeartbeats 1000000 in
theorem up_ok (l h : Int) (h0 : 0 ≤ l) (h1 : l ≤ 4294967295) (k0 : 0 ≤ h) (k1 : h ≤ 4294967295) (w : World) :
    Calls Tryd.prog 60 #[.agg #[.int .i64 l, .int .i64 h]] w fun e w' => e = .returned (.agg #[.int .i64 (l * 256 % 4294967296), .int .i64 (h * 256 % 4294967296 + 255)]) ∧ Bel w w' := by
  have P1 := push_ok l 0 h0 h1 (by omega) (by omega)
  have P2 := push_ok h 255 k0 k1 (by omega) (by omega)
  rw [Int.add_zero] at P1
  generalize l * 256 % 4294967296 = x at *
  generalize h * 256 % 4294967296 + 255 = y at *
  have Q1 : Hid (∀ w, Calls Tryd.prog 62 #[.int .i64 l, .int .u8 0] w fun e w' => e = .returned (.int .i64 x) ∧ w' = w) := P1
  have Q2 : Hid (∀ w, Calls Tryd.prog 62 #[.int .i64 h, .int .u8 255] w fun e w' => e = .returned (.int .i64 y) ∧ w' = w) := P2
  clear P1 P2
  go_enter Tryd.func60, Tryd.ntmps60
  go_wp2
  go_region_held3 (fun w' => w'.cell? ⟨w.heap.size, 0, none⟩ = some (.int .i64 l) ∧ w'.cell? ⟨w.heap.size, 1, none⟩ = some (.int .i64 h)) (go_keep)
    (first | (go_at_call 62; with_reducible refine (Q1.out _).mono ?_; rintro e w' ⟨rfl, rfl⟩) | (go_at_call 62; with_reducible refine (Q2.out _).mono ?_; rintro e w' ⟨rfl, rfl⟩))
  all_goals go_wp2
  all_goals (refine bodyPost_ret (v := .agg #[.int .i64 x, .int .i64 y]) (by simp [results, Tryd.results60, go_sem]) rfl ⟨rfl, ?_⟩)
  all_goals exact (((Bel.refl _).alloc _).alloc _).drew

set_option maxHeartbeats 400000 in
theorem whole_ok (w : World) :
    Calls Tryd.prog 28 #[] w fun e w' => e = .returned (.agg #[.int .i64 0, .int .i64 4294967295]) ∧ Bel w w' := by
  go_enter Tryd.func28, Tryd.ntmps28
  go_wp2
  refine bodyPost_ret (v := .agg #[.int .i64 0, .int .i64 4294967295]) (by simp [results, Tryd.results28, go_sem]) rfl ⟨rfl, ?_⟩
  exact (Bel.refl _).alloc _

set_option maxHeartbeats 400000 in
theorem new_ok (w : World) :
    Calls Tryd.prog 17 #[] w fun e w' => e = .returned (.agg #[.int .i64 0, .int .i64 4294967295, .string ⟨#[]⟩]) ∧ Bel w w' := by
  go_enter Tryd.func17, Tryd.ntmps17
  go_wp2_with fail
  refine (whole_ok _).mono ?_
  rintro e w1 ⟨rfl, b1⟩
  have d0 : w1.cell? ⟨w.heap.size, 0, none⟩ = some (.int .i64 0) := by rw [b1.cell (by simp)]; simp
  have d1 : w1.cell? ⟨w.heap.size, 1, none⟩ = some (.int .i64 0) := by rw [b1.cell (by simp)]; simp
  have d2 : w1.cell? ⟨w.heap.size, 2, none⟩ = some (.string ⟨#[]⟩) := by rw [b1.cell (by simp)]; simp
  have f0 : w1.frozen? ⟨w.heap.size, 0, none⟩ = false := by rw [b1.frozen (by simp)]; simp
  have f1 : w1.frozen? ⟨w.heap.size, 1, none⟩ = false := by rw [b1.frozen (by simp)]; simp
  have f2 : w1.frozen? ⟨w.heap.size, 2, none⟩ = false := by rw [b1.frozen (by simp)]; simp
  have hlt : w.heap.size < w1.heap.size := block_lt_of_cell d0
  have HB1 : Hid (Bel w w1) := Bel.trans ((Bel.refl _).alloc _) b1
  clear b1
  go_wp2
  obtain ⟨r0, r1, r2⟩ := set3 (x := .int .i64 0) (y := .int .i64 4294967295) (z := .string ⟨#[]⟩) d0 d1 d2
  have k0 := ((Bel.refl _).alloc (.cells #[.int .i64 0, .int .i64 4294967295] 64)).keep r0
  have k1 := ((Bel.refl _).alloc (.cells #[.int .i64 0, .int .i64 4294967295] 64)).keep r1
  have k2 := ((Bel.refl _).alloc (.cells #[.int .i64 0, .int .i64 4294967295] 64)).keep r2
  refine bodyPost_ret (v := .agg #[.int .i64 0, .int .i64 4294967295, .string ⟨#[]⟩]) (results_coder Tryd.results17 rfl k0 k1 k2) rfl ⟨rfl, ?_⟩
  exact (((HB1.out.setCell (Nat.le_refl _) _).setCell (Nat.le_refl _) _).setCell (Nat.le_refl _) _).alloc _

end Go.Proofs.YtocnlefpbcnlmaaDoor.Coder
