/-
  A model that is loaded in a region that draws its order; a new variable that is filled at once; which models may be, number by number. No condition.
  Plain facts on gamma bits: the bits that tell a number, the number that bits tell, how they come back, that none begin with another's. No condition.
  Plain facts on contexts: how bits are told, which may be asked, the three numbers of P12.1. No condition.
  Plain facts on what a coder leaves between its Low and its High: when a coder may be, the middle, the bytes that are settled. No condition.
  The contracts of package span and of coder's small functions. Conditions: numbers within what each asks for.
  The contract of coder.Bit: what it answers at every coder, bit and chance. Condition: the text is no longer than an int can tell.
-/
import Derived.Test.YtocnlefpbcnlmaaGreatDoorPk7
import Derived.Test.YtocnlefpbcnlmaaGreatDoorPk4
import Derived.Laws.MathBits
import Derived.WalkKit
import Derived.Below
import Derived.Test.YtocnlefpbcnlmaaGreatDoorPk1
import Derived.Test.YtocnlefpbcnlmaaGreatDoorRows
import Derived.WalkLawsBesides
import Derived.WalkSpells
import Derived.ProofKit
import Derived.Lib.QuietBelow
import Derived.BigQuiet
import Derived.Deep.RegionHeld3
import Derived.RegionTactic
import Derived.Deep.OwnRows
import Derived.Laws.IdiomStrings
import Derived.Laws.BitsAllLaws

namespace Go.Proofs.YtocnlefpbcnlmaaGreatDoor.Mod
open Go.RowKit Go.Sort
set_option linter.unusedVariables false
set_option linter.unusedSimpArgs false

section
variable {ops : Array Oper} {rest : List Oper} {dst : Option Tmp} {a : Act} {w : World} {ty : TypeId} {pos : String} {after : Array Edge} {x y : Operand} {B : Nat} {L M : List Int}

theorem quiet_load26 {Q : Act → Prop} (h : Holds w B L) (hL : L.length = 195) (hx : a.eval x = .pointer (some ⟨B, 0, none⟩))
    (k : wpQuiet Tryz.prog ops (fun w' => ∃ p : Regrown, w' = grow (redrawn w p.d) p.os) Q rest (a.put dst (mdl L))) :
    wpQuiet Tryz.prog ops (fun w' => ∃ p : Regrown, w' = grow (redrawn w p.d) p.os) Q ({ dst := dst, op := .load 46 x, type := ty, pos := pos, after := after, guard := none } :: rest) a :=
  wpQuiet_step fun K hK => by
    rw [if_pos (show Region.wanted { dst := dst, op := .load 46 x, type := ty, pos := pos, after := after, guard := none } (yielded ops a.tmps) = true by simp [Region.wanted])]
    refine ⟨mdl L, fun w' hw => ?_, hK _ k⟩
    obtain ⟨p, rfl⟩ := hw
    unfold Oper.quietAt execOp
    simp only [hx, Sem.run_bind, load26' (h.regrown p.d p.os) hL, Result.andThen_ok]
    exact ⟨rfl, rfl⟩

theorem quiet_load26g {Q : Act → Prop} {g : Nat × Bool} (hw : Region.wanted { dst := dst, op := .load 46 x, type := ty, pos := pos, after := after, guard := some g } (yielded ops a.tmps) = true) (h : Holds w B L) (hL : L.length = 195) (hx : a.eval x = .pointer (some ⟨B, 0, none⟩))
    (k : wpQuiet Tryz.prog ops (fun w' => ∃ p : Regrown, w' = grow (redrawn w p.d) p.os) Q rest (a.put dst (mdl L))) :
    wpQuiet Tryz.prog ops (fun w' => ∃ p : Regrown, w' = grow (redrawn w p.d) p.os) Q ({ dst := dst, op := .load 46 x, type := ty, pos := pos, after := after, guard := some g } :: rest) a :=
  wpQuiet_step fun K hK => by
    rw [if_pos hw]
    refine ⟨mdl L, fun w' hw => ?_, hK _ k⟩
    obtain ⟨p, rfl⟩ := hw
    unfold Oper.quietAt execOp
    simp only [hx, Sem.run_bind, load26' (h.regrown p.d p.os) hL, Result.andThen_ok]
    exact ⟨rfl, rfl⟩

theorem quiet_build26g {Q : Act → Prop} {g : Nat × Bool} {p q r : Int} (hw : Region.wanted { dst := dst, op := .build 46 #[(1, x)], type := ty, pos := pos, after := after, guard := some g } (yielded ops a.tmps) = true) (hx : a.eval x = .agg #[.int .i64 p, .int .i64 q, .int .i64 r])
    (k : wpQuiet Tryz.prog ops (fun w' => ∃ p : Regrown, w' = grow (redrawn w p.d) p.os) Q rest (a.put dst (mdl (List.replicate 192 0 ++ [p, q, r])))) :
    wpQuiet Tryz.prog ops (fun w' => ∃ p : Regrown, w' = grow (redrawn w p.d) p.os) Q ({ dst := dst, op := .build 46 #[(1, x)], type := ty, pos := pos, after := after, guard := some g } :: rest) a :=
  wpQuiet_step fun K hK => by
    rw [if_pos hw]
    refine ⟨mdl (List.replicate 192 0 ++ [p, q, r]), fun w' hw => ?_, hK _ k⟩
    unfold Oper.quietAt execOp
    simp only [List.map_toArray, List.map_cons, List.map_nil, hx, Sem.run_bind, build26w, Result.andThen_ok]
    exact ⟨rfl, rfl⟩

theorem wpl_load26h {Q : Exit → Act → World → Prop} {g : Nat × Bool} (hw : Region.wanted { dst := dst, op := .load 46 x, type := ty, pos := pos, after := after, guard := some g } (yielded ops a.tmps) = true) (h : Holds w B L) (hL : L.length = 195) (hx : a.eval x = .pointer (some ⟨B, 0, none⟩)) (k : wpList Tryz.prog ops Q rest (a.put dst (mdl L)) w) :
    wpList Tryz.prog ops Q ({ dst := dst, op := .load 46 x, type := ty, pos := pos, after := after, guard := some g } :: rest) a w :=
  wpl_load26g hw h (by omega) hx (by rwa [List.take_of_length_le (by omega)])

theorem wpl_build26h {Q : Exit → Act → World → Prop} {g : Nat × Bool} (hw : Region.wanted { dst := dst, op := .build 46 #[], type := ty, pos := pos, after := after, guard := some g } (yielded ops a.tmps) = true) (k : wpList Tryz.prog ops Q rest (a.put dst (mdl zeros)) w) :
    wpList Tryz.prog ops Q ({ dst := dst, op := .build 46 #[], type := ty, pos := pos, after := after, guard := some g } :: rest) a w :=
  BigFrame.wpList_want hw fun _ hK => by
    unfold Oper.wp execOp
    simp only [List.map_toArray, List.map_nil, Sem.run_bind, build26 w, Result.andThen_ok]
    exact hK _ _ k

theorem wpl_store26n {Q : Exit → Act → World → Prop} (hL : L.length = 195) (hM : M.length = 195) (hx : a.eval x = .pointer (some ⟨w.heap.size, 0, none⟩)) (hy : a.eval y = mdl M) (k : wpList Tryz.prog ops Q rest (a.put dst undef) (w.alloc (.cells (vals M).toArray 46))) :
    wpList Tryz.prog ops Q ({ dst := dst, op := .store 46 x y, type := ty, pos := pos, after := after, guard := none } :: rest) a (w.alloc (.cells (vals L).toArray 46)) :=
  wpList_plain rfl fun _ hK => by
    unfold Oper.wp execOp
    simp only [hx, hy, Sem.run_bind, store26n hL hM, Result.andThen_ok]
    exact hK _ _ k
end

/-- Which models may be. -/
theorem may_iff (L : List Int) : mayM L = true ↔ (∀ k, k < 192 → 0 ≤ L.getD k 0 ∧ L.getD k 0 ≤ 65535) ∧ (∀ k, 192 ≤ k → k < 195 → -1048576 ≤ L.getD k 0 ∧ L.getD k 0 ≤ 1048576) := by
  constructor
  · intro h
    refine ⟨fun k hk => ?_, fun k h1 h2 => ?_⟩
    · by_cases h1 : k < 64
      · have := mayM_row h 0 (.inl rfl) k h1
        rwa [Nat.zero_add] at this
      · by_cases h2 : k < 128
        · have := mayM_row h 64 (.inr (.inl rfl)) (k - 64) (by omega)
          rwa [show 64 + (k - 64) = k by omega] at this
        · have := mayM_row h 128 (.inr (.inr rfl)) (k - 128) (by omega)
          rwa [show 128 + (k - 128) = k by omega] at this
    · obtain ⟨m0, m1, m2, _⟩ := mayM_wts h
      have : k = 192 ∨ k = 193 ∨ k = 194 := by omega
      rcases this with rfl | rfl | rfl
      · exact m0
      · exact m1
      · exact m2
  · rintro ⟨h, g⟩
    have r : ∀ o, o = 0 ∨ o = 64 ∨ o = 128 → rowBad L o = false := fun o ho => anyOf_no fun i hi => by
      have := h (o + i) (by omega)
      simp only [noCnt, Bool.not_eq_false']
      exact decide_eq_true this
    have m : wtsB L = true := Mix.mayB_yes ⟨g 192 (by omega) (by omega), g 193 (by omega) (by omega), g 194 (by omega) (by omega), by omega, by omega, by omega⟩
    rw [mayM, r 0 (by omega), r 64 (by omega), r 128 (by omega), m]
    rfl

theorem step_range (c b : Int) (h : 0 ≤ c ∧ c ≤ 65535) : 0 ≤ Cnt.step c b ∧ Cnt.step c b ≤ 65535 := by
  unfold Cnt.step
  split <;> omega

/-- What a model that has learned holds. -/
theorem learn_get (L : List Int) (hL : L.length = 195) (a b c : Nat) (ha : a < 64) (hb : b < 64) (hc : c < 64) (bit : Int) (k : Nat) :
    (learn L a b c bit).getD k 0 = if k = a then Cnt.step (L.getD a 0) bit else if k = 64 + b then Cnt.step (L.getD (64 + b) 0) bit else if k = 128 + c then Cnt.step (L.getD (128 + c) 0) bit
      else if k = 192 then trnW L a b c bit (L.getD 192 0) (L.getD a 0) else if k = 193 then trnW L a b c bit (L.getD 193 0) (L.getD (64 + b) 0) else if k = 194 then trnW L a b c bit (L.getD 194 0) (L.getD (128 + c) 0) else L.getD k 0 := by
  unfold learn setW
  by_cases k3 : k = 128 + c
  · subst k3
    rw [getD_set_eq _ _ _ (by simp; omega), if_neg (by omega), if_neg (by omega), if_pos rfl]
  · rw [getD_set_ne _ _ _ _ (Ne.symm k3)]
    by_cases k2 : k = 64 + b
    · subst k2
      rw [getD_set_eq _ _ _ (by simp; omega), if_neg (by omega), if_pos rfl]
    · rw [getD_set_ne _ _ _ _ (Ne.symm k2)]
      by_cases k1 : k = a
      · subst k1
        rw [getD_set_eq _ _ _ (by simp; omega), if_pos rfl]
      · rw [getD_set_ne _ _ _ _ (Ne.symm k1), if_neg k1, if_neg k2, if_neg k3]
        by_cases k6 : k = 194
        · subst k6
          rw [getD_set_eq _ _ _ (by simp; omega), if_neg (by decide), if_neg (by decide), if_pos rfl]
        · rw [getD_set_ne _ _ _ _ (Ne.symm k6)]
          by_cases k5 : k = 193
          · subst k5
            rw [getD_set_eq _ _ _ (by simp; omega), if_neg (by decide), if_pos rfl]
          · rw [getD_set_ne _ _ _ _ (Ne.symm k5)]
            by_cases k4 : k = 192
            · subst k4
              rw [getD_set_eq _ _ _ (by omega), if_pos rfl]
            · rw [getD_set_ne _ _ _ _ (Ne.symm k4), if_neg k4, if_neg k5, if_neg k6]

/-- A model that has learned may be. -/
theorem may_learn (L : List Int) (hL : L.length = 195) (a b c : Nat) (ha : a < 64) (hb : b < 64) (hc : c < 64) (bit : Int) (hm : mayM L = true) : mayM (learn L a b c bit) = true := by
  obtain ⟨h, g⟩ := (may_iff L).1 hm
  refine (may_iff _).2 ⟨fun k hk => ?_, fun k h1 h2 => ?_⟩
  · rw [learn_get L hL a b c ha hb hc bit k]
    split
    · exact step_range _ _ (h _ (by omega))
    · split
      · exact step_range _ _ (h _ (by omega))
      · split
        · exact step_range _ _ (h _ (by omega))
        · rw [if_neg (by omega), if_neg (by omega), if_neg (by omega)]
          exact h k hk
  · rw [learn_get L hL a b c ha hb hc bit k, if_neg (by omega), if_neg (by omega), if_neg (by omega)]
    split
    · exact Mix.trn_range _ _ _
    · split
      · exact Mix.trn_range _ _ _
      · split
        · exact Mix.trn_range _ _ _
        · exact g k h1 h2

/-- A new model's counters told by 2048, which is stretched to 1. -/
theorem inp_half : inp 32768 = 1 := by
  have e : Cnt.chance 32768 = 2048 := by decide +kernel
  unfold inp
  rw [e]
  exact (Str.st_is (Str.least_of 2048 1 (by omega) (by omega) (.inr (by decide +kernel)) (.inr (by decide +kernel)))).symm

theorem newM_get : ∀ k, k < 192 → newM.getD k 0 = 32768 := by decide +kernel
theorem newM_wts : newM.getD 192 0 = 22000 ∧ newM.getD 193 0 = 22000 ∧ newM.getD 194 0 = 22000 := by decide +kernel
theorem newM_may : mayM newM = true := (may_iff _).2 ⟨fun k hk => by rw [newM_get k hk]; omega, fun k h1 h2 => by
  have : k = 192 ∨ k = 193 ∨ k = 194 := by omega
  obtain ⟨w0, w1, w2⟩ := newM_wts
  rcases this with rfl | rfl | rfl
  · rw [w0]; omega
  · rw [w1]; omega
  · rw [w2]; omega⟩

theorem new_tell (a b c : Nat) (ha : a < 64) (hb : b < 64) (hc : c < 64) : tell newM a b c = 2051 := by
  obtain ⟨w0, w1, w2⟩ := newM_wts
  unfold tell
  rw [w0, w1, w2, newM_get a (by omega), newM_get (64 + b) (by omega), newM_get (128 + c) (by omega), inp_half]
  decide +kernel

end Go.Proofs.YtocnlefpbcnlmaaGreatDoor.Mod

namespace Go.Proofs.YtocnlefpbcnlmaaGreatDoor.Gam
open Go.RowKit Go.Proofs.YtocnlefpbcnlmaaGreatDoor.Mod
set_option linter.unusedVariables false

/-- How many bits u + 1 has behind its highest one. -/
def many (u : Nat) : Nat := (u + 1).log2
/-- The bit of u + 1 that is told as the i-th of them. -/
def bitAt (u n i : Nat) : Int := (((u + 1) / 2 ^ (n - 1 - i) % 2 : Nat) : Int)
def tail (u n i : Nat) : List Int := (List.range i).map (bitAt u n)
def bitsOf (u : Nat) : List Int := List.replicate (many u) 1 ++ 0 :: tail u (many u) (many u)

theorem tail_length (u n i : Nat) : (tail u n i).length = i := by simp [tail]
theorem tail_succ (u n i : Nat) : tail u n (i + 1) = tail u n i ++ [bitAt u n i] := by simp [tail, List.range_succ]
theorem bitsOf_length (u : Nat) : (bitsOf u).length = 2 * many u + 1 := by simp [bitsOf, tail_length]; omega
theorem many_le (u k : Nat) (h : u + 1 < 2 ^ (k + 1)) : many u ≤ k := by
  have := (Nat.log2_lt (by omega : u + 1 ≠ 0)).2 h
  unfold many; omega
theorem many_low (u : Nat) : 2 ^ many u ≤ u + 1 := Nat.log2_self_le (by omega)
theorem many_high (u : Nat) : u + 1 < 2 ^ (many u + 1) := Nat.lt_log2_self
theorem many_mono (u v : Nat) (h : u ≤ v) : many u ≤ many v := by
  refine many_le u (many v) ?_
  have := many_high v
  omega
theorem many_25 (u : Nat) (h : u ≤ 33554432) : many u ≤ 25 := many_le u 25 (Nat.lt_of_le_of_lt (by omega : u + 1 ≤ 33554433) (by decide))

/-- What bits tell, behind what was told ahead of them. -/
def take01 : Int → List Int → Option Int
  | v, [] => some v
  | v, b :: r => if b = 0 ∨ b = 1 then take01 (2 * v + b) r else none

theorem take01_append : ∀ (A B : List Int) (v : Int), take01 v (A ++ B) = (take01 v A).bind fun x => take01 x B
  | [], B, v => rfl
  | a :: r, B, v => by
    simp only [List.cons_append, take01]
    split
    · exact take01_append r B _
    · rfl
theorem take01_snoc {A : List Int} {v b x : Int} (h : take01 v A = some x) (hb : b = 0 ∨ b = 1) : take01 v (A ++ [b]) = some (2 * x + b) := by
  rw [take01_append, h]
  simp [take01, hb]
theorem take01_bad {A R : List Int} {v b x : Int} (h : take01 v A = some x) (hb : ¬(b = 0 ∨ b = 1)) : take01 v (A ++ b :: R) = none := by
  rw [take01_append, h]
  simp [take01, hb]
theorem take01_bound : ∀ (A : List Int) (v x : Int), 1 ≤ v → take01 v A = some x → 1 ≤ x ∧ x < (v + 1) * 2 ^ A.length
  | [], v, x, h0, h => by simp [take01] at h; subst h; simp; omega
  | a :: r, v, x, h0, h => by
    simp only [take01] at h
    split at h
    · rename_i ha
      have hi := take01_bound r (2 * v + a) x (by omega) h
      refine ⟨hi.1, Int.lt_of_lt_of_le hi.2 ?_⟩
      have e : (v + 1) * 2 ^ (a :: r).length = ((v + 1) * 2) * 2 ^ r.length := by
        rw [List.length_cons, Int.pow_succ, Int.mul_assoc, Int.mul_comm (2 ^ r.length) 2]
      rw [e]
      exact Int.mul_le_mul_of_nonneg_right (by omega) (Int.le_of_lt (Int.pow_pos (by decide)))
    · cases h
theorem take01_small {A : List Int} {x : Int} (h : take01 1 A = some x) (hA : A.length ≤ 25) : 1 ≤ x ∧ x < 67108864 := by
  have hb := take01_bound A 1 x (by decide) h
  refine ⟨hb.1, Int.lt_of_lt_of_le hb.2 ?_⟩
  have h1 : (2 : Nat) ^ A.length ≤ 2 ^ 25 := Nat.pow_le_pow_right (by decide) hA
  have h2 : ((2 ^ A.length : Nat) : Int) ≤ ((2 ^ 25 : Nat) : Int) := by exact_mod_cast h1
  have h3 : ((2 ^ A.length : Nat) : Int) = (2 : Int) ^ A.length := by simp
  have h4 : ((2 ^ 25 : Nat) : Int) = 33554432 := by decide
  omega

abbrev headOk (L : List Int) : Prop := L.take (L.length / 2 + 1) = List.replicate (L.length / 2) 1 ++ [0]

/-- The number and the error that bits tell. -/
def numP (L : List Int) : Int × Int :=
  if L.length = 2 * (L.length / 2) + 1 ∧ L.length / 2 ≤ 25 ∧ headOk L then
    match take01 1 (L.drop (L.length / 2 + 1)) with
    | some v => if v ≤ 33554433 then (v - 1, 0) else (0, 1100)
    | none => (0, 1100)
  else (0, 1100)

theorem numP_no {L : List Int} (h : ¬(L.length = 2 * (L.length / 2) + 1 ∧ L.length / 2 ≤ 25 ∧ headOk L)) : numP L = (0, 1100) := by
  unfold numP; rw [if_neg h]
theorem numP_none {L : List Int} (h : take01 1 (L.drop (L.length / 2 + 1)) = none) : numP L = (0, 1100) := by
  unfold numP; rw [h]; simp
theorem numP_some {L : List Int} {v : Int} (h1 : L.length = 2 * (L.length / 2) + 1) (h2 : L.length / 2 ≤ 25) (h3 : headOk L) (h : take01 1 (L.drop (L.length / 2 + 1)) = some v) (hv : v ≤ 33554433) : numP L = (v - 1, 0) := by
  unfold numP; rw [if_pos ⟨h1, h2, h3⟩, h]; simp [hv]
theorem numP_great {L : List Int} {v : Int} (h : take01 1 (L.drop (L.length / 2 + 1)) = some v) (hv : 33554433 < v) : numP L = (0, 1100) := by
  unfold numP; rw [h]
  have : ¬ v ≤ 33554433 := by omega
  simp [this]

theorem take01_tail (u : Nat) : ∀ i, i ≤ many u → take01 1 (tail u (many u) i) = some (((u + 1) / 2 ^ (many u - i) : Nat) : Int)
  | 0, _ => by
    have h1 := many_low u
    have h2 := many_high u
    have hp : 0 < 2 ^ many u := Nat.two_pow_pos _
    have : (u + 1) / 2 ^ many u = 1 := by
      rw [Nat.pow_succ] at h2
      exact Nat.div_eq_of_lt_le (by omega) (by omega)
    simp [tail, take01, this]
  | i + 1, h => by
    rw [tail_succ, take01_snoc (take01_tail u i (by omega)) (by unfold bitAt; omega)]
    unfold bitAt
    have e : many u - i = (many u - (i + 1)) + 1 := by omega
    have e2 : many u - 1 - i = many u - (i + 1) := by omega
    rw [e, e2, Nat.pow_succ, ← Nat.div_div_eq_div_mul]
    congr 1
    generalize (u + 1) / 2 ^ (many u - (i + 1)) = q
    omega

theorem bitsOf_half (u : Nat) : (bitsOf u).length / 2 = many u := by rw [bitsOf_length]; omega
theorem bitsOf_head (u : Nat) : headOk (bitsOf u) := by
  unfold headOk
  rw [bitsOf_half]
  have e : bitsOf u = (List.replicate (many u) 1 ++ [0]) ++ tail u (many u) (many u) := by simp [bitsOf]
  rw [e]
  have l : (List.replicate (many u) (1 : Int) ++ [0]).length = many u + 1 := by simp
  rw [← l, List.take_left]
theorem bitsOf_drop (u : Nat) : (bitsOf u).drop (many u + 1) = tail u (many u) (many u) := by
  have e : bitsOf u = (List.replicate (many u) 1 ++ [0]) ++ tail u (many u) (many u) := by simp [bitsOf]
  rw [e]
  have l : (List.replicate (many u) (1 : Int) ++ [0]).length = many u + 1 := by simp
  rw [← l, List.drop_left]

/-- They come back. -/
theorem numP_bits (u : Nat) (h : u ≤ 33554432) : numP (bitsOf u) = ((u : Int), 0) := by
  have ht : take01 1 ((bitsOf u).drop ((bitsOf u).length / 2 + 1)) = some ((u : Int) + 1) := by
    rw [bitsOf_half, bitsOf_drop, take01_tail u _ (Nat.le_refl _), Nat.sub_self]
    simp
  rw [numP_some (by rw [bitsOf_half]; exact bitsOf_length u) (by rw [bitsOf_half]; exact many_25 u h) (bitsOf_head u) ht (by omega)]
  simp

theorem getD_one (u k : Nat) (h : k < many u) : (bitsOf u).getD k 0 = 1 := by
  unfold bitsOf
  rw [List.getD_eq_getElem?_getD, List.getElem?_append_left (by simpa using h)]
  simp [h]
theorem getD_mid (u : Nat) : (bitsOf u).getD (many u) 0 = 0 := by
  unfold bitsOf
  rw [List.getD_eq_getElem?_getD, List.getElem?_append_right (by simp)]
  simp
theorem getD_tail (u i : Nat) (h : i < many u) : (bitsOf u).getD (many u + 1 + i) 0 = bitAt u (many u) i := by
  unfold bitsOf
  rw [List.getD_eq_getElem?_getD, List.getElem?_append_right (by simp; omega)]
  have : many u + 1 + i - (List.replicate (many u) (1 : Int)).length = i + 1 := by simp; omega
  rw [this]
  simp [tail, h]

/-- None begin with another's. -/
theorem prefix_eq (u v : Nat) (hu : u ≤ 33554432) (hv : v ≤ 33554432) (k : Nat) (h1 : k ≤ (bitsOf u).length) (h2 : k ≤ (bitsOf v).length) (h : k = (bitsOf u).length ∨ k = (bitsOf v).length)
    (e : (bitsOf u).take k = (bitsOf v).take k) : u = v := by
  have g : ∀ i, i < k → (bitsOf u).getD i 0 = (bitsOf v).getD i 0 := fun i hi => by
    have := congrArg (fun l => l.getD i 0) e
    simpa [List.getD_eq_getElem?_getD, List.getElem?_take, hi] using this
  have lu := bitsOf_length u
  have lv := bitsOf_length v
  have hm : many u = many v := by
    rcases Nat.lt_trichotomy (many u) (many v) with q | q | q
    · have := g (many u) (by omega)
      rw [getD_mid, getD_one v _ q] at this
      omega
    · exact q
    · have := g (many v) (by omega)
      rw [getD_mid, getD_one u _ q] at this
      omega
  have eu : (bitsOf u).take k = bitsOf u := List.take_of_length_le (by omega)
  have ev : (bitsOf v).take k = bitsOf v := List.take_of_length_le (by omega)
  rw [eu, ev] at e
  have nu := numP_bits u hu
  rw [e, numP_bits v hv] at nu
  simp at nu
  omega

/-- How many bits 1 some begin with. -/
def ones : List Int → Nat
  | [] => 0
  | b :: r => if b = 1 then ones r + 1 else 0
theorem ones_le : ∀ L : List Int, ones L ≤ L.length
  | [] => Nat.le_refl _
  | b :: r => by have := ones_le r; simp only [ones, List.length_cons]; split <;> omega
theorem ones_one : ∀ (L : List Int) (k : Nat), k < ones L → L.getD k 0 = 1
  | [], k, h => by simp [ones] at h
  | b :: r, k, h => by
    simp only [ones] at h
    split at h
    · rename_i hb
      match k with
      | 0 => simp [hb]
      | k + 1 => simpa using ones_one r k (by omega)
    · omega
theorem ones_end : ∀ (L : List Int), ones L < L.length → L.getD (ones L) 0 ≠ 1
  | [], h => by simp at h
  | b :: r, h => by
    simp only [ones] at h ⊢
    split
    · rename_i hb
      rw [if_pos hb] at h
      simpa using ones_end r (by simpa using h)
    · rename_i hb
      simpa using hb
theorem ones_is (L : List Int) (k : Nat) (hk : k ≤ L.length) (h1 : ∀ i, i < k → L.getD i 0 = 1) (h2 : k = L.length ∨ L.getD k 0 ≠ 1) : ones L = k := by
  have a := ones_le L
  rcases Nat.lt_trichotomy (ones L) k with q | q | q
  · exact absurd (h1 _ q) (ones_end L (by omega))
  · exact q
  · rcases h2 with h2 | h2
    · omega
    · exact absurd (ones_one L k q) h2

theorem head_iff (L : List Int) (k : Nat) (hk : L.length = 2 * k + 1) : headOk L ↔ (∀ i, i < k → L.getD i 0 = 1) ∧ L.getD k 0 = 0 := by
  have hh : L.length / 2 = k := by omega
  unfold headOk
  rw [hh]
  constructor
  · intro e
    have g : ∀ i, i < k + 1 → L.getD i 0 = (List.replicate k (1 : Int) ++ [0]).getD i 0 := fun i hi => by
      have := congrArg (fun l => l.getD i 0) e
      simpa [List.getD_eq_getElem?_getD, List.getElem?_take, hi] using this
    refine ⟨fun i hi => ?_, ?_⟩
    · rw [g i (by omega), List.getD_eq_getElem?_getD, List.getElem?_append_left (by simpa using hi)]
      simp [hi]
    · rw [g k (by omega), List.getD_eq_getElem?_getD, List.getElem?_append_right (by simp)]
      simp
  · rintro ⟨h1, h2⟩
    refine List.ext_getElem (by simp; omega) fun i a b => ?_
    have hi : i < k + 1 := by simp at b; omega
    have hL : i < L.length := by omega
    rw [List.getElem_take]
    by_cases q : i < k
    · have := h1 i q
      rw [List.getD_eq_getElem?_getD, List.getElem?_eq_getElem hL] at this
      rw [List.getElem_append_left (by simpa using q)]
      simpa using this
    · obtain rfl : i = k := by omega
      rw [List.getD_eq_getElem?_getD, List.getElem?_eq_getElem hL] at h2
      rw [List.getElem_append_right (by simp)]
      simpa using h2

theorem head_ones {L : List Int} (h1 : L.length = 2 * (L.length / 2) + 1) (h : headOk L) : ones L = L.length / 2 := by
  have := (head_iff L (L.length / 2) h1).1 h
  exact ones_is L _ (by omega) this.1 (.inr (by omega))

end Go.Proofs.YtocnlefpbcnlmaaGreatDoor.Gam

namespace Go.Proofs.YtocnlefpbcnlmaaGreatDoor.Ctx
open Go.RowKit Go.Proofs.YtocnlefpbcnlmaaGreatDoor.Mod Go.Proofs.YtocnlefpbcnlmaaGreatDoor.Gam
set_option linter.unusedVariables false

/-- Each is 0 or 1. -/
def Bits01 (L : List Int) : Prop := ∀ k, k < L.length → L.getD k 0 = 0 ∨ L.getD k 0 = 1
/-- What may be asked. -/
def May (b : Int) (L : List Int) : Prop := 0 ≤ b ∧ b ≤ 63 ∧ L.length ≤ 63 ∧ Bits01 L

def upto31 (x : Int) : Int := if x ≤ 31 then x else 31
def oneB (r : Bool) : Int := if r then 1 else 0
/-- Has it a 0? -/
def has0 (L : List Int) : Bool := decide (ones L < L.length)
/-- Is its last one 1? -/
def last1 (L : List Int) : Bool := decide (0 < L.length ∧ L.getD (L.length - 1) 0 = 1)
def c0 (L : List Int) : Int := upto31 (ones L) + 32 * oneB (has0 L)
def c1 (b : Int) (L : List Int) : Int := 2 * upto31 b + oneB (has0 L)
def c2 (L : List Int) : Int := upto31 L.length + 32 * oneB (last1 L)
/-- The answer where it may be asked. -/
abbrev ctxV (b : Int) (L : List Int) : Value := .agg #[.int .i64 (c0 L), .int .i64 (c1 b L), .int .i64 (c2 L)]

theorem upto31_range (x : Int) (h : 0 ≤ x) : 0 ≤ upto31 x ∧ upto31 x ≤ 31 := by unfold upto31; split <;> omega
theorem oneB_range (r : Bool) : 0 ≤ oneB r ∧ oneB r ≤ 1 := by cases r <;> decide

/-- The first that is 0, of bits. -/
theorem first0 {L : List Int} (h : Bits01 L) (k : Nat) (hk : k < L.length) (h0 : L.getD k 0 = 0) (h1 : ∀ i, i < k → L.getD i 0 ≠ 0) : ones L = k :=
  ones_is L k (by omega) (fun i hi => (h i (by omega)).resolve_left (h1 i hi)) (.inr (by omega))
theorem no0 {L : List Int} (h : Bits01 L) (h1 : ∀ i, i < L.length → L.getD i 0 ≠ 0) : ones L = L.length :=
  ones_is L _ (Nat.le_refl _) (fun i hi => (h i hi).resolve_left (h1 i hi)) (.inl rfl)

theorem bits_nil : Bits01 [] := fun k hk => absurd hk (by simp)
theorem bits_snoc {L : List Int} (h : Bits01 L) {x : Int} (hx : x = 0 ∨ x = 1) : Bits01 (L ++ [x]) := fun k hk => by
  rcases Nat.lt_or_ge k L.length with q | q
  · rw [List.getD_eq_getElem?_getD, List.getElem?_append_left q, ← List.getD_eq_getElem?_getD]
    exact h k q
  · obtain rfl : k = L.length := by simp at hk; omega
    simpa [List.getD_eq_getElem?_getD] using hx
theorem bits_rep (k : Nat) (x : Int) (hx : x = 0 ∨ x = 1) : Bits01 (List.replicate k x) := fun i hi => by
  have : i < k := by simpa using hi
  simpa [List.getD_eq_getElem?_getD, this] using hx

end Go.Proofs.YtocnlefpbcnlmaaGreatDoor.Ctx

namespace Go.Proofs.YtocnlefpbcnlmaaGreatDoor.Coder
open Go.RowKit
set_option linter.unusedVariables false

/-- The world w' is w with new blocks behind it. -/
abbrev Bel (w w' : World) : Prop := Below w.heap.size w w'
theorem Bel.refl (w : World) : Bel w w := Below.refl _ _
theorem Bel.trans {a b c : World} (h : Bel a b) (k : Bel b c) : Bel a c := Below.trans h (k.mono h.size)
theorem Bel.alloc {w w' : World} (h : Bel w w') (o : Obj) : Bel w (w'.alloc o) := Below.alloc h h.size o
theorem Bel.setCell {w w' : World} (h : Bel w w') {a : Addr} (ha : w.heap.size ≤ a.block) (v : Value) : Bel w (w'.setCell a v) := Below.setCell h ha v
theorem Bel.drew {w w' : World} (h : Bel w w') : Bel w w'.drew := Below.drew h

def Between (l h : Int) : Prop := 0 ≤ l ∧ h ≤ 4294967295 ∧ l / 16777216 < h / 16777216

def mid (l h p : Int) : Int := l + (h - l) / 4096 * p + (h - l) % 4096 * p / 4096

theorem mid_facts (r p : Int) (h1 : 1 ≤ p) (h2 : p ≤ 4095) (hr : 1 ≤ r) (hr2 : r ≤ 4294967295) :
    0 ≤ r / 4096 * p ∧ r / 4096 * p ≤ 4294967295 ∧ 0 ≤ r % 4096 * p ∧ r % 4096 * p ≤ 16777216 ∧ r / 4096 * p + r % 4096 * p / 4096 < r := by
  have q0 : 0 ≤ r / 4096 := by omega
  have m0 : 0 ≤ r % 4096 := by omega
  have m1 : r % 4096 ≤ 4095 := by omega
  have e : r = 4096 * (r / 4096) + r % 4096 := by omega
  generalize r / 4096 = q at *
  generalize r % 4096 = m at *
  have a0 : 0 ≤ q * p := Int.mul_nonneg q0 (by omega)
  have a1 : q * p ≤ q * 4095 := Int.mul_le_mul_of_nonneg_left h2 q0
  have b0 : 0 ≤ m * p := Int.mul_nonneg m0 (by omega)
  have b1 : m * p ≤ m * 4095 := Int.mul_le_mul_of_nonneg_left h2 m0
  generalize q * p = x at *
  generalize m * p = y at *
  omega

/-- The bytes that are settled, and what is left. -/
def settle : Nat → Int → Int → List UInt8 × Int × Int
  | 0, l, h => ([], l, h)
  | n + 1, l, h => if l / 16777216 = h / 16777216 then
      (UInt8.ofNat (l / 16777216).toNat :: (settle n (l * 256 % 4294967296) (h * 256 % 4294967296 + 255)).1, (settle n (l * 256 % 4294967296) (h * 256 % 4294967296 + 255)).2)
    else ([], l, h)

/-- Behind k bytes that were settled, k bytes of Low are 0, and of High 255. -/
def Low0 (k : Nat) (l h : Int) : Prop := k = 0 ∨ (k = 1 ∧ l % 256 = 0 ∧ h % 256 = 255) ∨ (k = 2 ∧ l % 65536 = 0 ∧ h % 65536 = 65535) ∨ (k = 3 ∧ l % 16777216 = 0 ∧ h % 16777216 = 16777215) ∨ (k = 4 ∧ l = 0 ∧ h = 4294967295)

theorem low0_lt {k : Nat} {l h : Int} (H : Low0 k l h) (e : l / 16777216 = h / 16777216) : k < 4 := by
  rcases H with H | H | H | H | ⟨_, rfl, rfl⟩
  · omega
  · omega
  · omega
  · omega
  · omega

theorem low0_next {k : Nat} {l h : Int} (H : Low0 k l h) (h0 : 0 ≤ l) (h1 : l ≤ h) (h2 : h ≤ 4294967295) (e : l / 16777216 = h / 16777216) :
    Low0 (k + 1) (l * 256 % 4294967296) (h * 256 % 4294967296 + 255) ∧ 0 ≤ l * 256 % 4294967296 ∧ l * 256 % 4294967296 ≤ h * 256 % 4294967296 + 255 ∧ h * 256 % 4294967296 + 255 ≤ 4294967295 := by
  have hl : l * 256 % 4294967296 = (l % 16777216) * 256 := by omega
  have hh : h * 256 % 4294967296 = (h % 16777216) * 256 := by omega
  rw [hl, hh]
  refine ⟨?_, by omega, by omega, by omega⟩
  unfold Low0 at *
  rcases H with H | H | H | H | H
  · omega
  · omega
  · omega
  · omega
  · omega

/-- The state behind k rounds of the loop that began at l0, h0. -/
structure Mids (l0 h0 : Int) (k : Nat) (l h : Int) (bs : List UInt8) : Prop where
  len : bs.length = k
  le4 : k ≤ 4
  l0' : 0 ≤ l
  lh : l ≤ h
  h1 : h ≤ 4294967295
  low : Low0 k l h
  eq : settle 5 l0 h0 = (bs ++ (settle (5 - k) l h).1, (settle (5 - k) l h).2)

theorem Mids.start {l h : Int} (h0 : 0 ≤ l) (h1 : l ≤ h) (h2 : h ≤ 4294967295) : Mids l h 0 l h [] :=
  ⟨rfl, by omega, h0, h1, h2, .inl rfl, by simp⟩

theorem Mids.lt {l0 h0 : Int} {k : Nat} {l h : Int} {bs : List UInt8} (M : Mids l0 h0 k l h bs) (e : l / 16777216 = h / 16777216) : k < 4 := low0_lt M.low e

theorem Mids.next {l0 h0 : Int} {k : Nat} {l h : Int} {bs : List UInt8} (M : Mids l0 h0 k l h bs) (e : l / 16777216 = h / 16777216) :
    Mids l0 h0 (k + 1) (l * 256 % 4294967296) (h * 256 % 4294967296 + 255) (bs ++ [UInt8.ofNat (l / 16777216).toNat]) := by
  have hk := M.lt e
  obtain ⟨a1, a2, a3, a4⟩ := low0_next M.low M.l0' M.lh M.h1 e
  refine ⟨by simp [M.len], by omega, a2, a3, a4, a1, ?_⟩
  rw [M.eq]
  have e5 : 5 - k = (5 - (k + 1)) + 1 := by omega
  rw [e5, settle, if_pos e]
  simp

theorem Mids.done {l0 h0 : Int} {k : Nat} {l h : Int} {bs : List UInt8} (M : Mids l0 h0 k l h bs) (e : ¬ l / 16777216 = h / 16777216) : settle 5 l0 h0 = (bs, l, h) := by
  rw [M.eq]
  have hk := M.le4
  have e5 : 5 - k = (4 - k) + 1 := by omega
  rw [e5, settle, if_neg e]
  simp

/-- Wherever it ends: what is left may be a coder's. -/
theorem Mids.between {l0 h0 : Int} {k : Nat} {l h : Int} {bs : List UInt8} (M : Mids l0 h0 k l h bs) (e : ¬ l / 16777216 = h / 16777216) : Between l h := by
  have := M.l0'; have := M.lh; have := M.h1
  exact ⟨by omega, by omega, by omega⟩

/-- The narrowing by a bit. -/
def narrow (l h bit p : Int) : Int × Int := if bit = 1 then (l, mid l h p) else (mid l h p + 1, h)

theorem narrow_in {l h : Int} (b : Between l h) (bit p : Int) (h1 : 1 ≤ p) (h2 : p ≤ 4095) : 0 ≤ (narrow l h bit p).1 ∧ (narrow l h bit p).1 ≤ (narrow l h bit p).2 ∧ (narrow l h bit p).2 ≤ 4294967295 := by
  obtain ⟨b0, b1, b2⟩ := b
  obtain ⟨f1, f2, f3, f4, f5⟩ := mid_facts (h - l) p h1 h2 (by omega) (by omega)
  unfold narrow mid
  split
  · simp only; omega
  · simp only; omega

/-- The walk through 'settle' ends within four rounds. -/
theorem mids_all (l0 h0 : Int) : ∀ (n k : Nat) (l h : Int) (bs : List UInt8), 4 - k = n → Mids l0 h0 k l h bs → ∃ k' l' h' bs', Mids l0 h0 k' l' h' bs' ∧ ¬ l' / 16777216 = h' / 16777216
  | n, k, l, h, bs, hn, M => by
    by_cases e : l / 16777216 = h / 16777216
    · have hk := M.lt e
      match n, hn with
      | n + 1, hn => exact mids_all l0 h0 n (k + 1) _ _ _ (by omega) (M.next e)
      | 0, hn => omega
    · exact ⟨k, l, h, bs, M, e⟩

theorem settle_facts {l h : Int} (h0 : 0 ≤ l) (h1 : l ≤ h) (h2 : h ≤ 4294967295) : (settle 5 l h).1.length ≤ 4 ∧ Between (settle 5 l h).2.1 (settle 5 l h).2.2 := by
  obtain ⟨k', l', h', bs', M, e⟩ := mids_all l h 4 0 l h [] rfl (Mids.start h0 h1 h2)
  rw [M.done e]
  exact ⟨by simp [M.len, M.le4], M.between e⟩

end Go.Proofs.YtocnlefpbcnlmaaGreatDoor.Coder

namespace Go.Proofs.YtocnlefpbcnlmaaGreatDoor.Coder
open Go.RowKit Go.Proofs.YtocnlefpbcnlmaaGreatDoor.Num
set_option linter.unusedVariables false

set_option maxHeartbeats 400000 in
theorem left_ok (l h : Int) (s : ByteArray) (w : World) :
    Calls Tryz.prog 84 #[.agg #[.int .i64 l, .int .i64 h, .string s]] w fun e w' => e = .returned (.agg #[.int .i64 l, .int .i64 h]) ∧ Bel w w' := by
  go_enter Tryz.func84, Tryz.ntmps84
  go_wp2
  refine bodyPost_ret (v := .agg #[.int .i64 l, .int .i64 h]) (by simp [results, Tryz.results84, go_sem]) rfl ⟨rfl, ?_⟩
  exact ((Bel.refl _).alloc _).alloc _

set_option maxHeartbeats 400000 in
theorem span_may_yes (l h : Int) (hb : Between l h) (w : World) :
    Calls Tryz.prog 89 #[.agg #[.int .i64 l, .int .i64 h]] w fun e w' => e = .returned (.bool true) ∧ Bel w w' := by
  obtain ⟨h0, h1, h2⟩ := hb
  go_enter Tryz.func89, Tryz.ntmps89
  go_wp2
  go_ret
  exact ⟨rfl, (Bel.refl _).alloc _⟩

set_option maxHeartbeats 400000 in
theorem span_may_no (l h : Int) (hb : ¬ Between l h) (w : World) :
    Calls Tryz.prog 89 #[.agg #[.int .i64 l, .int .i64 h]] w fun e w' => e = .returned (.bool false) ∧ Bel w w' := by
  by_cases h0 : 0 ≤ l
  · by_cases h1 : h ≤ 4294967295
    · have h2 : decide (l / 16777216 < h / 16777216) = false := decide_eq_false fun k => hb ⟨h0, h1, k⟩
      clear hb
      go_enter Tryz.func89, Tryz.ntmps89
      go_wp2
      go_ret
      exact ⟨rfl, (Bel.refl _).alloc _⟩
    · have h3 : decide (h ≤ 4294967295) = false := decide_eq_false h1
      clear hb
      go_enter Tryz.func89, Tryz.ntmps89
      go_wp2
      go_ret
      exact ⟨rfl, (Bel.refl _).alloc _⟩
  · have h3 : decide (0 ≤ l) = false := decide_eq_false h0
    clear hb
    go_enter Tryz.func89, Tryz.ntmps89
    go_wp2
    go_ret
    exact ⟨rfl, (Bel.refl _).alloc _⟩

/-- What May answers. -/
def mayB (l h : Int) (s : ByteArray) : Bool := decide ((0 ≤ l ∧ h ≤ 4294967295 ∧ l / 16777216 < h / 16777216) ∧ s.size ≤ 65536)

set_option maxHeartbeats 400000 in
theorem may_ok (l h : Int) (s : ByteArray) (hs : s.size ≤ maxLen) (w : World) :
    Calls Tryz.prog 50 #[.agg #[.int .i64 l, .int .i64 h, .string s]] w fun e w' => e = .returned (.bool (mayB l h s)) ∧ Bel w w' := by
  unfold maxLen at hs
  by_cases hb : Between l h
  · by_cases hz : s.size ≤ 65536
    · have e : mayB l h s = true := decide_eq_true ⟨hb, hz⟩
      rw [e]
      have hz' : decide ((s.size : Int) ≤ 65536) = true := by simp; omega
      have HB : Hid (Between l h) := hb
      clear hb e
      go_enter Tryz.func50, Tryz.ntmps50
      go_wp2_with fail
      refine (left_ok l h s _).mono ?_
      rintro e w1 ⟨rfl, b1⟩
      have B1 := Bel.trans ((Bel.refl _).alloc _) b1
      have c1 : w1.cell? ⟨w.heap.size, 2, none⟩ = some (.string s) := by rw [b1.cell (by simp)]; simp
      have HB1 : Hid (Bel w w1) := B1
      clear b1 B1
      go_wp2_with fail
      refine (span_may_yes l h HB.out _).mono ?_
      rintro e w2 ⟨rfl, b2⟩
      have c2 : w2.cell? ⟨w.heap.size, 2, none⟩ = some (.string s) := by rw [b2.cell (block_lt_of_cell c1)]; exact c1
      have HB2 : Hid (Bel w w2) := HB1.out.trans b2
      clear b2 c1
      go_wp2
      go_ret
      exact ⟨rfl, HB2.out⟩
    · have e : mayB l h s = false := decide_eq_false fun k => hz k.2
      rw [e]
      have HB : Hid (Between l h) := hb
      have hz' : decide ((s.size : Int) ≤ 65536) = false := by simp; omega
      clear hb e
      go_enter Tryz.func50, Tryz.ntmps50
      go_wp2_with fail
      refine (left_ok l h s _).mono ?_
      rintro e w1 ⟨rfl, b1⟩
      have B1 := Bel.trans ((Bel.refl _).alloc _) b1
      have c1 : w1.cell? ⟨w.heap.size, 2, none⟩ = some (.string s) := by rw [b1.cell (by simp)]; simp
      have HB1 : Hid (Bel w w1) := B1
      clear b1 B1
      go_wp2_with fail
      refine (span_may_yes l h HB.out _).mono ?_
      rintro e w2 ⟨rfl, b2⟩
      have c2 : w2.cell? ⟨w.heap.size, 2, none⟩ = some (.string s) := by rw [b2.cell (block_lt_of_cell c1)]; exact c1
      have HB2 : Hid (Bel w w2) := HB1.out.trans b2
      clear b2 c1
      go_wp2
      go_ret
      exact ⟨rfl, HB2.out⟩
  · have e : mayB l h s = false := decide_eq_false fun k => hb k.1
    rw [e]
    have HB : Hid (¬ Between l h) := hb
    clear hb e
    go_enter Tryz.func50, Tryz.ntmps50
    go_wp2_with fail
    refine (left_ok l h s _).mono ?_
    rintro e w1 ⟨rfl, b1⟩
    have HB1 : Hid (Bel w w1) := Bel.trans ((Bel.refl _).alloc _) b1
    clear b1
    go_wp2_with fail
    refine (span_may_no l h HB.out _).mono ?_
    rintro e w2 ⟨rfl, b2⟩
    have HB2 : Hid (Bel w w2) := HB1.out.trans b2
    clear b2
    go_wp2
    go_ret
    exact ⟨rfl, HB2.out⟩

/-- What isBit, IsChance answer. -/
def bitB (b : Int) : Bool := decide (b = 0 ∨ b = 1)
def chanceB (p : Int) : Bool := decide (1 ≤ p ∧ p ≤ 4095)

set_option maxHeartbeats 400000 in
theorem isBit_ok (b : Int) (w : World) :
    Calls Tryz.prog 82 #[.int .i64 b] w fun e w' => e = .returned (.bool (bitB b)) ∧ w' = w := by
  by_cases h0 : b = 0
  · subst h0
    go_enter Tryz.func82, Tryz.ntmps82
    go_wp2
    go_ret
    exact ⟨rfl, rfl⟩
  · by_cases h1 : b = 1
    · subst h1
      go_enter Tryz.func82, Tryz.ntmps82
      go_wp2
      go_ret
      exact ⟨rfl, rfl⟩
    · have e0 : (b == 0) = false := by simpa using h0
      have e1 : (b == 1) = false := by simpa using h1
      have e : bitB b = false := decide_eq_false fun k => k.elim h0 h1
      rw [e]
      clear e
      go_enter Tryz.func82, Tryz.ntmps82
      go_wp2
      go_ret
      exact ⟨rfl, rfl⟩

set_option maxHeartbeats 400000 in
theorem isChance_ok (p : Int) (w : World) :
    Calls Tryz.prog 83 #[.int .i64 p] w fun e w' => e = .returned (.bool (chanceB p)) ∧ w' = w := by
  by_cases h0 : 1 ≤ p
  · by_cases h1 : p ≤ 4095
    · have e : chanceB p = true := decide_eq_true ⟨h0, h1⟩
      rw [e]
      clear e
      go_enter Tryz.func83, Tryz.ntmps83
      go_wp2
      go_ret
      exact ⟨rfl, rfl⟩
    · have e1 : decide (p ≤ 4095) = false := decide_eq_false h1
      have e : chanceB p = false := decide_eq_false fun k => h1 k.2
      rw [e]
      clear e
      go_enter Tryz.func83, Tryz.ntmps83
      go_wp2
      go_ret
      exact ⟨rfl, rfl⟩
  · have e1 : decide (1 ≤ p) = false := decide_eq_false h0
    have e : chanceB p = false := decide_eq_false fun k => h0 k.1
    rw [e]
    clear e
    go_enter Tryz.func83, Tryz.ntmps83
    go_wp2
    go_ret
    exact ⟨rfl, rfl⟩

set_option maxHeartbeats 400000 in
theorem middle_ok (l h p : Int) (hb : Between l h) (h1 : 1 ≤ p) (h2 : p ≤ 4095) (w : World) :
    Calls Tryz.prog 114 #[.agg #[.int .i64 l, .int .i64 h], .int .i64 p] w fun e w' => e = .returned (.int .i64 (mid l h p)) ∧ Bel w w' := by
  obtain ⟨b0, b1, b2⟩ := hb
  obtain ⟨f1, f2, f3, f4, f5⟩ := mid_facts (h - l) p h1 h2 (by omega) (by omega)
  have hd : (h - l).tdiv 4096 = (h - l) / 4096 := Int.tdiv_eq_ediv_of_nonneg (by omega)
  have hm : (h - l).tmod 4096 = (h - l) % 4096 := Int.tmod_eq_emod_of_nonneg (by omega)
  have hq : ((h - l) % 4096 * p).tdiv 4096 = (h - l) % 4096 * p / 4096 := Int.tdiv_eq_ediv_of_nonneg (by omega)
  go_enter Tryz.func114, Tryz.ntmps114
  go_wp2
  go_ret
  exact ⟨rfl, (Bel.refl _).alloc _⟩

/-- Two cells that are stored, read again. -/
theorem set2 {w : World} {b : Nat} {x y u v : Value} (d0 : w.cell? ⟨b, 0, none⟩ = some u) (d1 : w.cell? ⟨b, 1, none⟩ = some v) :
    (w.setCell ⟨b, 0, none⟩ x).cell? ⟨b, 0, none⟩ = some x ∧ (w.setCell ⟨b, 0, none⟩ x).cell? ⟨b, 1, none⟩ = some v ∧ ((w.setCell ⟨b, 0, none⟩ x).setCell ⟨b, 1, none⟩ y).cell? ⟨b, 1, none⟩ = some y ∧ ((w.setCell ⟨b, 0, none⟩ x).setCell ⟨b, 1, none⟩ y).cell? ⟨b, 0, none⟩ = some x := by
  have e0 : (w.setCell ⟨b, 0, none⟩ x).cell? ⟨b, 0, none⟩ = some x := (World.cell?_setCell_same _ _ (h := d0) _)
  have e1 : (w.setCell ⟨b, 0, none⟩ x).cell? ⟨b, 1, none⟩ = some v := by
    rw [World.cell?_setCell_other (h := by intro k; injection k with _ k2 _; omega)]; exact d1
  refine ⟨e0, e1, (World.cell?_setCell_same _ _ (h := e1) _), ?_⟩
  rw [World.cell?_setCell_other (h := by intro k; injection k with _ k2 _; omega)]; exact e0

theorem set3 {w : World} {b : Nat} {x y z u v t : Value} (d0 : w.cell? ⟨b, 0, none⟩ = some u) (d1 : w.cell? ⟨b, 1, none⟩ = some v) (d2 : w.cell? ⟨b, 2, none⟩ = some t) :
    (((w.setCell ⟨b, 0, none⟩ x).setCell ⟨b, 1, none⟩ y).setCell ⟨b, 2, none⟩ z).cell? ⟨b, 0, none⟩ = some x ∧ (((w.setCell ⟨b, 0, none⟩ x).setCell ⟨b, 1, none⟩ y).setCell ⟨b, 2, none⟩ z).cell? ⟨b, 1, none⟩ = some y ∧ (((w.setCell ⟨b, 0, none⟩ x).setCell ⟨b, 1, none⟩ y).setCell ⟨b, 2, none⟩ z).cell? ⟨b, 2, none⟩ = some z := by
  obtain ⟨_, _, r2, r3⟩ := set2 (x := x) (y := y) d0 d1
  have e2 : ((w.setCell ⟨b, 0, none⟩ x).setCell ⟨b, 1, none⟩ y).cell? ⟨b, 2, none⟩ = some t := by
    rw [World.cell?_setCell_other (h := by intro k; injection k with _ k2 _; omega), World.cell?_setCell_other (h := by intro k; injection k with _ k2 _; omega)]; exact d2
  refine ⟨?_, ?_, (World.cell?_setCell_same _ _ (h := e2) _)⟩
  · rw [World.cell?_setCell_other (h := by intro k; injection k with _ k2 _; omega)]; exact r3
  · rw [World.cell?_setCell_other (h := by intro k; injection k with _ k2 _; omega)]; exact r2

/-- A cell that was there reads as it did. -/
theorem Bel.keep {w w' : World} (h : Bel w w') {a : Addr} {v : Value} (c : w.cell? a = some v) : w'.cell? a = some v := by rw [h.cell (block_lt_of_cell c)]; exact c
theorem Bel.free {w w' : World} (h : Bel w w') {a : Addr} {v : Value} (c : w.cell? a = some v) (f : w.frozen? a = false) : w'.frozen? a = false := by rw [h.frozen (block_lt_of_cell c)]; exact f

/-- A coder that is handed back out of a variable. -/
theorem results_coder {fn : Func} {t : Tmp} (hf : fn.results = #[.cell t 51]) {tmps : Array Value} {b : Nat} {w : World} {x y z : Value} (ht : tmps[t]?.getD undef = .pointer (some ⟨b, 0, none⟩))
    (c0 : w.cell? ⟨b, 0, none⟩ = some x) (c1 : w.cell? ⟨b, 1, none⟩ = some y) (c2 : w.cell? ⟨b, 2, none⟩ = some z) : (results fn tmps).run Tryz.prog w = .ok (.agg #[x, y, z]) w := by
  simp [results, hf, ht, go_sem, c0, c1, c2]

theorem results_coder2 {fn : Func} {t u : Tmp} (hf : fn.results = #[.cell t 51, .tmp u]) {tmps : Array Value} {b : Nat} {w : World} {x y z v : Value} (ht : tmps[t]?.getD undef = .pointer (some ⟨b, 0, none⟩)) (hv : tmps[u]?.getD undef = v)
    (c0 : w.cell? ⟨b, 0, none⟩ = some x) (c1 : w.cell? ⟨b, 1, none⟩ = some y) (c2 : w.cell? ⟨b, 2, none⟩ = some z) : (results fn tmps).run Tryz.prog w = .ok (.tuple #[.agg #[x, y, z], v]) w := by
  simp [results, hf, ht, hv, go_sem, c0, c1, c2]

set_option maxHeartbeats 400000 in
theorem narrow_ok (l h bit p : Int) (hb : Between l h) (h1 : 1 ≤ p) (h2 : p ≤ 4095) (w : World) :
    Calls Tryz.prog 85 #[.agg #[.int .i64 l, .int .i64 h], .int .i64 bit, .int .i64 p] w fun e w' => e = .returned (.agg #[.int .i64 (narrow l h bit p).1, .int .i64 (narrow l h bit p).2]) ∧ Bel w w' := by
  have HB : Hid (Between l h) := hb
  have hm : 0 ≤ mid l h p ∧ mid l h p ≤ 4294967295 := by
    obtain ⟨b0, b1, b2⟩ := hb
    obtain ⟨f1, f2, f3, f4, f5⟩ := mid_facts (h - l) p h1 h2 (by omega) (by omega)
    unfold mid; omega
  obtain ⟨hm0, hm1⟩ := hm
  clear hb
  obtain ⟨m, hmm⟩ : ∃ m, m = mid l h p := ⟨_, rfl⟩
  have hmid := middle_ok l h p HB.out h1 h2
  rw [← hmm] at hm0 hm1 hmid
  have HM : Hid (∀ w, Calls Tryz.prog 114 #[.agg #[.int .i64 l, .int .i64 h], .int .i64 p] w fun e w' => e = .returned (.int .i64 m) ∧ Bel w w') := hmid
  clear hmid
  by_cases hbit : bit = 1
  · subst hbit
    have e : narrow l h 1 p = (l, m) := by rw [narrow, if_pos rfl, hmm]
    rw [e]
    clear e hmm
    go_enter Tryz.func85, Tryz.ntmps85
    go_wp2_with fail
    refine (HM.out _).mono ?_
    rintro e w1 ⟨rfl, b1⟩
    have HB1 : Hid (Bel w w1) := Bel.trans (((Bel.refl _).alloc _).alloc _) b1
    have c0 : w1.cell? ⟨w.heap.size, 0, none⟩ = some (.int .i64 l) := by rw [b1.cell (by simp; omega)]; simp
    have d0 : w1.cell? ⟨w.heap.size + 1, 0, none⟩ = some (.int .i64 0) := by rw [b1.cell (by simp)]; simp
    have d1 : w1.cell? ⟨w.heap.size + 1, 1, none⟩ = some (.int .i64 0) := by rw [b1.cell (by simp)]; simp
    have f0 : w1.frozen? ⟨w.heap.size + 1, 0, none⟩ = false := by rw [b1.frozen (by simp)]; simp
    have f1 : w1.frozen? ⟨w.heap.size + 1, 1, none⟩ = false := by rw [b1.frozen (by simp)]; simp
    clear b1
    go_wp2
    obtain ⟨r0, r1, r2, r3⟩ := set2 (x := .int .i64 l) (y := .int .i64 m) d0 d1
    refine bodyPost_ret (v := .agg #[.int .i64 l, .int .i64 m]) (by simp [results, Tryz.results85, go_sem, r2, r3]) rfl ⟨rfl, ?_⟩
    exact (HB1.out.setCell (by simp) _).setCell (by simp) _
  · have e : narrow l h bit p = (m + 1, h) := by rw [narrow, if_neg hbit, hmm]
    rw [e]
    have hb' : (bit == 1) = false := by simpa using hbit
    clear e hmm
    go_enter Tryz.func85, Tryz.ntmps85
    go_wp2_with fail
    refine (HM.out _).mono ?_
    rintro e w1 ⟨rfl, b1⟩
    have HB1 : Hid (Bel w w1) := Bel.trans (((Bel.refl _).alloc _).alloc _) b1
    have c0 : w1.cell? ⟨w.heap.size, 1, none⟩ = some (.int .i64 h) := by rw [b1.cell (by simp; omega)]; simp
    have d0 : w1.cell? ⟨w.heap.size + 1, 0, none⟩ = some (.int .i64 0) := by rw [b1.cell (by simp)]; simp
    have d1 : w1.cell? ⟨w.heap.size + 1, 1, none⟩ = some (.int .i64 0) := by rw [b1.cell (by simp)]; simp
    have f0 : w1.frozen? ⟨w.heap.size + 1, 0, none⟩ = false := by rw [b1.frozen (by simp)]; simp
    have f1 : w1.frozen? ⟨w.heap.size + 1, 1, none⟩ = false := by rw [b1.frozen (by simp)]; simp
    clear b1
    go_wp2
    obtain ⟨r0, r1, r2, r3⟩ := set2 (x := .int .i64 (m + 1)) (y := .int .i64 h) d0 d1
    refine bodyPost_ret (v := .agg #[.int .i64 (m + 1), .int .i64 h]) (by simp [results, Tryz.results85, go_sem, r2, r3]) rfl ⟨rfl, ?_⟩
    exact (HB1.out.setCell (by simp) _).setCell (by simp) _

set_option maxHeartbeats 400000 in
theorem isSettled_ok (l h : Int) (w : World) :
    Calls Tryz.prog 86 #[.agg #[.int .i64 l, .int .i64 h]] w fun e w' => e = .returned (.bool (l / 16777216 == h / 16777216)) ∧ Bel w w' := by
  go_enter Tryz.func86, Tryz.ntmps86
  go_wp2
  go_ret
  exact ⟨rfl, (Bel.refl _).alloc _⟩

set_option maxHeartbeats 400000 in
theorem settled_ok (l h : Int) (h0 : 0 ≤ l) (h1 : l ≤ 4294967295) (w : World) :
    Calls Tryz.prog 87 #[.agg #[.int .i64 l, .int .i64 h]] w fun e w' => e = .returned (.int .u8 (l / 16777216)) ∧ Bel w w' := by
  go_enter Tryz.func87, Tryz.ntmps87
  go_wp2
  go_ret
  exact ⟨rfl, (Bel.refl _).alloc _⟩

set_option maxHeartbeats 400000 in
theorem push_ok (x b : Int) (h0 : 0 ≤ x) (h1 : x ≤ 4294967295) (hb0 : 0 ≤ b) (hb1 : b ≤ 255) (w : World) :
    Calls Tryz.prog 97 #[.int .i64 x, .int .u8 b] w fun e w' => e = .returned (.int .i64 (x * 256 % 4294967296 + b)) ∧ w' = w := by
  have ha := and32 (x * 256)
  have ho := or8 (x * 256 % 4294967296) b (by omega) (by omega) (by omega) hb0 (by omega)
  go_enter Tryz.func97, Tryz.ntmps97
  go_wp2
  go_ret
  exact ⟨rfl, rfl⟩

set_option maxHeartbeats 1000000 in
theorem up_ok (l h : Int) (h0 : 0 ≤ l) (h1 : l ≤ 4294967295) (k0 : 0 ≤ h) (k1 : h ≤ 4294967295) (w : World) :
    Calls Tryz.prog 88 #[.agg #[.int .i64 l, .int .i64 h]] w fun e w' => e = .returned (.agg #[.int .i64 (l * 256 % 4294967296), .int .i64 (h * 256 % 4294967296 + 255)]) ∧ Bel w w' := by
  have P1 := push_ok l 0 h0 h1 (by omega) (by omega)
  have P2 := push_ok h 255 k0 k1 (by omega) (by omega)
  rw [Int.add_zero] at P1
  generalize l * 256 % 4294967296 = x at *
  generalize h * 256 % 4294967296 + 255 = y at *
  have Q1 : Hid (∀ w, Calls Tryz.prog 97 #[.int .i64 l, .int .u8 0] w fun e w' => e = .returned (.int .i64 x) ∧ w' = w) := P1
  have Q2 : Hid (∀ w, Calls Tryz.prog 97 #[.int .i64 h, .int .u8 255] w fun e w' => e = .returned (.int .i64 y) ∧ w' = w) := P2
  clear P1 P2
  go_enter Tryz.func88, Tryz.ntmps88
  go_wp2
  go_region_held3 (fun w' => w'.cell? ⟨w.heap.size, 0, none⟩ = some (.int .i64 l) ∧ w'.cell? ⟨w.heap.size, 1, none⟩ = some (.int .i64 h)) (go_keep)
    (first | (go_at_call 97; with_reducible refine (Q1.out _).mono ?_; rintro e w' ⟨rfl, rfl⟩) | (go_at_call 97; with_reducible refine (Q2.out _).mono ?_; rintro e w' ⟨rfl, rfl⟩))
  all_goals go_wp2
  all_goals (refine bodyPost_ret (v := .agg #[.int .i64 x, .int .i64 y]) (by simp [results, Tryz.results88, go_sem]) rfl ⟨rfl, ?_⟩)
  all_goals exact (((Bel.refl _).alloc _).alloc _).drew

set_option maxHeartbeats 400000 in
theorem whole_ok (w : World) :
    Calls Tryz.prog 43 #[] w fun e w' => e = .returned (.agg #[.int .i64 0, .int .i64 4294967295]) ∧ Bel w w' := by
  go_enter Tryz.func43, Tryz.ntmps43
  go_wp2
  refine bodyPost_ret (v := .agg #[.int .i64 0, .int .i64 4294967295]) (by simp [results, Tryz.results43, go_sem]) rfl ⟨rfl, ?_⟩
  exact (Bel.refl _).alloc _

set_option maxHeartbeats 400000 in
theorem new_ok (w : World) :
    Calls Tryz.prog 19 #[] w fun e w' => e = .returned (.agg #[.int .i64 0, .int .i64 4294967295, .string ⟨#[]⟩]) ∧ Bel w w' := by
  go_enter Tryz.func19, Tryz.ntmps19
  go_wp2_with fail
  refine (whole_ok _).mono ?_
  rintro e w1 ⟨rfl, b1⟩
  have d0 : w1.cell? ⟨w.heap.size, 0, none⟩ = some (.int .i64 0) := by rw [b1.cell (by simp)]; simp
  have d1 : w1.cell? ⟨w.heap.size, 1, none⟩ = some (.int .i64 0) := by rw [b1.cell (by simp)]; simp
  have d2 : w1.cell? ⟨w.heap.size, 2, none⟩ = some (.string ⟨#[]⟩) := by rw [b1.cell (by simp)]; simp
  have f0 : w1.frozen? ⟨w.heap.size, 0, none⟩ = false := by rw [b1.frozen (by simp)]; simp
  have f1 : w1.frozen? ⟨w.heap.size, 1, none⟩ = false := by rw [b1.frozen (by simp)]; simp
  have f2 : w1.frozen? ⟨w.heap.size, 2, none⟩ = false := by rw [b1.frozen (by simp)]; simp
  have hlt : w.heap.size < w1.heap.size := block_lt_of_cell d0
  have HB1 : Hid (Bel w w1) := Bel.trans ((Bel.refl _).alloc _) b1
  clear b1
  go_wp2
  obtain ⟨r0, r1, r2⟩ := set3 (x := .int .i64 0) (y := .int .i64 4294967295) (z := .string ⟨#[]⟩) d0 d1 d2
  have k0 := ((Bel.refl _).alloc (.cells #[.int .i64 0, .int .i64 4294967295] 85)).keep r0
  have k1 := ((Bel.refl _).alloc (.cells #[.int .i64 0, .int .i64 4294967295] 85)).keep r1
  have k2 := ((Bel.refl _).alloc (.cells #[.int .i64 0, .int .i64 4294967295] 85)).keep r2
  refine bodyPost_ret (v := .agg #[.int .i64 0, .int .i64 4294967295, .string ⟨#[]⟩]) (results_coder Tryz.results19 rfl k0 k1 k2) rfl ⟨rfl, ?_⟩
  exact (((HB1.out.setCell (Nat.le_refl _) _).setCell (Nat.le_refl _) _).setCell (Nat.le_refl _) _).alloc _

end Go.Proofs.YtocnlefpbcnlmaaGreatDoor.Coder

namespace Go.Proofs.YtocnlefpbcnlmaaGreatDoor.Coder
open Go.RowKit Go.Proofs.YtocnlefpbcnlmaaGreatDoor.Num
set_option linter.unusedVariables false

/-- What Bit answers where the call may be. -/
def bitAns (l h : Int) (s bs : ByteArray) : Value := if s.size + bs.size ≤ 65536 then .tuple #[.agg #[.int .i64 l, .int .i64 h, .string (s ++ bs)], .int .i64 0] else .tuple #[.agg #[.int .i64 0, .int .i64 0, .string ⟨#[]⟩], .int .i64 400]

def lenOf : Value → Nat | .slice _ n _ => n | _ => 0

/-- The bytes told so far lie in block T, with room for four. -/
def Told (w : World) (T : Nat) (bs : List UInt8) : Prop := ∀ i, i < 4 → w.cell? ⟨T, i, none⟩ = some (.int .u8 (((bs.getD i 0).toNat : Nat) : Int)) ∧ w.frozen? ⟨T, i, none⟩ = false

/-- What lies in Bit's variables: c's Out and the result at N, the span at S. -/
structure Cells (w : World) (N S : Nat) (s : ByteArray) (u v : Int) : Prop where
  s0 : w.cell? ⟨S, 0, none⟩ = some (.int .i64 u)
  s1 : w.cell? ⟨S, 1, none⟩ = some (.int .i64 v)
  g0 : w.frozen? ⟨S, 0, none⟩ = false
  g1 : w.frozen? ⟨S, 1, none⟩ = false
  a2 : w.cell? ⟨N, 2, none⟩ = some (.string s)
  c0 : w.cell? ⟨N + 1, 0, none⟩ = some (.int .i64 0)
  c1 : w.cell? ⟨N + 1, 1, none⟩ = some (.int .i64 0)
  c2 : w.cell? ⟨N + 1, 2, none⟩ = some (.string ⟨#[]⟩)
  f0 : w.frozen? ⟨N + 1, 0, none⟩ = false
  f1 : w.frozen? ⟨N + 1, 1, none⟩ = false
  f2 : w.frozen? ⟨N + 1, 2, none⟩ = false

theorem Cells.keep {w w' : World} {N S : Nat} {s : ByteArray} {u v : Int} (C : Cells w N S s u v) (b : Bel w w') : Cells w' N S s u v :=
  ⟨b.keep C.s0, b.keep C.s1, b.free C.s0 C.g0, b.free C.s1 C.g1, b.keep C.a2, b.keep C.c0, b.keep C.c1, b.keep C.c2, b.free C.c0 C.f0, b.free C.c1 C.f1, b.free C.c2 C.f2⟩

/-- Another span is stored. -/
theorem Cells.set {w : World} {N S : Nat} {s : ByteArray} {u v : Int} (C : Cells w N S s u v) (hN : N + 1 < S) (u' v' : Int) : Cells ((w.setCell ⟨S, 0, none⟩ (.int .i64 u')).setCell ⟨S, 1, none⟩ (.int .i64 v')) N S s u' v' := by
  obtain ⟨_, _, r2, r3⟩ := set2 (x := .int .i64 u') (y := .int .i64 v') C.s0 C.s1
  have o : ∀ (B i : Nat), B ≠ S → ((w.setCell ⟨S, 0, none⟩ (.int .i64 u')).setCell ⟨S, 1, none⟩ (.int .i64 v')).cell? ⟨B, i, none⟩ = w.cell? ⟨B, i, none⟩ := fun B i hB => by
    rw [World.cell?_setCell_other (h := by intro k; injection k with k1 _ _; omega), World.cell?_setCell_other (h := by intro k; injection k with k1 _ _; omega)]
  exact ⟨r3, r2, by simp [C.g0], by simp [C.g1], by rw [o _ _ (by omega)]; exact C.a2, by rw [o _ _ (by omega)]; exact C.c0, by rw [o _ _ (by omega)]; exact C.c1, by rw [o _ _ (by omega)]; exact C.c2, by simp [C.f0], by simp [C.f1], by simp [C.f2]⟩

/-- A store into a block that is none of them. -/
theorem Cells.far {w : World} {N S : Nat} {s : ByteArray} {u v : Int} (C : Cells w N S s u v) {a : Addr} (ha : a.block ≠ N) (hb : a.block ≠ N + 1) (hc : a.block ≠ S) (x : Value) : Cells (w.setCell a x) N S s u v := by
  have o : ∀ (B i : Nat), a.block ≠ B → (w.setCell a x).cell? ⟨B, i, none⟩ = w.cell? ⟨B, i, none⟩ := fun B i hB => by
    rw [World.cell?_setCell_other (h := by intro k; exact hB (by rw [k]))]
  exact ⟨by rw [o _ _ hc]; exact C.s0, by rw [o _ _ hc]; exact C.s1, by simp [C.g0], by simp [C.g1], by rw [o _ _ ha]; exact C.a2, by rw [o _ _ hb]; exact C.c0, by rw [o _ _ hb]; exact C.c1, by rw [o _ _ hb]; exact C.c2, by simp [C.f0], by simp [C.f1], by simp [C.f2]⟩

theorem Told.keep {w w' : World} {T : Nat} {bs : List UInt8} (h : Told w T bs) (b : Bel w w') : Told w' T bs := fun i hi => ⟨b.keep (h i hi).1, b.free (h i hi).1 (h i hi).2⟩

theorem Told.far {w : World} {T : Nat} {bs : List UInt8} (h : Told w T bs) {a : Addr} (ha : a.block ≠ T) (x : Value) : Told (w.setCell a x) T bs := fun i hi =>
  ⟨by rw [World.cell?_setCell_other (h := by intro k; exact ha (by rw [k]))]; exact (h i hi).1, by simp [(h i hi).2]⟩

/-- One byte more. -/
theorem Told.more {w : World} {T : Nat} {bs : List UInt8} (h : Told w T bs) {k : Nat} (hk : k < 4) (hl : bs.length = k) (b : UInt8) (x : Int) (hx : x = ((b.toNat : Nat) : Int)) : Told (w.setCell ⟨T, k, none⟩ (.int .u8 x)) T (bs ++ [b]) := by
  intro i hi
  refine ⟨?_, by simp [(h i hi).2]⟩
  by_cases e : k = i
  · subst e
    rw [(World.cell?_setCell_same _ _ (h := (h k hk).1) _), hx]
    simp [← hl]
  · rw [World.cell?_setCell_other (h := by intro k; injection k with _ k2 _; exact e k2), (h i hi).1]
    congr 4
    rcases Nat.lt_or_ge i k with e1 | e1
    · simp [List.getElem?_append_left, hl, e1]
    · have e2 : bs.length ≤ i := by omega
      rw [List.getD_eq_getElem?_getD, List.getD_eq_getElem?_getD, List.getElem?_eq_none e2, List.getElem?_eq_none (by simp; omega)]

/-- The bytes told, as a text. -/
theorem Told.str {w : World} {T : Nat} {bs : List UInt8} (h : Told w T bs) (k : Nat) (hl : bs.length = k) (hk : k ≤ 4) :
    (convert 99 9 (.slice (some ⟨T, 0, none⟩) k 4)).run Tryz.prog w = .ok (.string ⟨bs.toArray⟩) w := by
  subst hl
  exact run_convert_bytes_back (P := Tryz.prog) w 99 9 5 ⟨T, 0, none⟩ 4 bs Tryz.underlying99 Tryz.underlying5 Tryz.underlying9 (fun j hj => by
    have hplain : (⟨T, 0, none⟩ : Addr).add j = ⟨T, j, none⟩ := by unfold Addr.add; split <;> simp_all
    rw [hplain, (h j (by omega)).1]
    simp [hj])

theorem mk04 (w : World) : (Instr.makeSlice 99 (.int .i64 0) (.int .i64 4)).run Tryz.prog w = .ok (.slice (some ⟨w.heap.size, 0, none⟩) 0 4) (w.alloc (.cells #[.int .u8 0, .int .u8 0, .int .u8 0, .int .u8 0] 5)) := by kernel_rfl

set_option maxHeartbeats 2000000 in
theorem bit_may (l h bit p : Int) (s : ByteArray) (hb : Between l h) (hs : s.size ≤ 65536) (hbit : bit = 0 ∨ bit = 1) (h1 : 1 ≤ p) (h2 : p ≤ 4095) (l1 r1 : Int) (bs : List UInt8) (hset : settle 5 (narrow l h bit p).1 (narrow l h bit p).2 = (bs, l1, r1)) (w : World) :
    Calls Tryz.prog 49 #[.agg #[.int .i64 l, .int .i64 h, .string s], .int .i64 bit, .int .i64 p] w fun e w' => e = .returned (bitAns l1 r1 s ⟨bs.toArray⟩) ∧ Bel w w' := by
  have hnar := narrow_ok l h bit p hb h1 h2
  have hin := narrow_in hb bit p h1 h2
  have q1 := may_ok l h s (by unfold maxLen; omega)
  have e1 : mayB l h s = true := decide_eq_true ⟨hb, hs⟩
  have q2 := isBit_ok bit
  have e2 : bitB bit = true := decide_eq_true hbit
  have q3 := isChance_ok p
  have e3 : chanceB p = true := decide_eq_true ⟨h1, h2⟩
  rw [e1] at q1; rw [e2] at q2; rw [e3] at q3
  generalize (narrow l h bit p).1 = x at *
  generalize (narrow l h bit p).2 = y at *
  have QM : Hid (∀ w, Calls Tryz.prog 50 #[.agg #[.int .i64 l, .int .i64 h, .string s]] w fun e w' => e = .returned (.bool true) ∧ Bel w w') := q1
  have QB : Hid (∀ w, Calls Tryz.prog 82 #[.int .i64 bit] w fun e w' => e = .returned (.bool true) ∧ w' = w) := q2
  have QC : Hid (∀ w, Calls Tryz.prog 83 #[.int .i64 p] w fun e w' => e = .returned (.bool true) ∧ w' = w) := q3
  have QN : Hid (∀ w, Calls Tryz.prog 85 #[.agg #[.int .i64 l, .int .i64 h], .int .i64 bit, .int .i64 p] w fun e w' => e = .returned (.agg #[.int .i64 x, .int .i64 y]) ∧ Bel w w') := hnar
  have HI : Hid (0 ≤ x ∧ x ≤ y ∧ y ≤ 4294967295) := hin
  have HS : Hid (settle 5 x y = (bs, l1, r1)) := hset
  clear q1 q2 q3 e1 e2 e3 hnar hin hset
  go_enter Tryz.func49, Tryz.ntmps49
  go_wp2_with fail
  refine (QM.out _).mono ?_
  rintro e w1 ⟨rfl, b1⟩
  have a0 : w1.cell? ⟨w.heap.size, 0, none⟩ = some (.int .i64 l) := b1.keep (by simp)
  have a1 : w1.cell? ⟨w.heap.size, 1, none⟩ = some (.int .i64 h) := b1.keep (by simp)
  have a2 : w1.cell? ⟨w.heap.size, 2, none⟩ = some (.string s) := b1.keep (by simp)
  have c0 : w1.cell? ⟨w.heap.size + 1, 0, none⟩ = some (.int .i64 0) := b1.keep (by simp)
  have c1 : w1.cell? ⟨w.heap.size + 1, 1, none⟩ = some (.int .i64 0) := b1.keep (by simp)
  have c2 : w1.cell? ⟨w.heap.size + 1, 2, none⟩ = some (.string ⟨#[]⟩) := b1.keep (by simp)
  have f0 : w1.frozen? ⟨w.heap.size + 1, 0, none⟩ = false := by rw [b1.frozen (by simp)]; simp
  have f1 : w1.frozen? ⟨w.heap.size + 1, 1, none⟩ = false := by rw [b1.frozen (by simp)]; simp
  have f2 : w1.frozen? ⟨w.heap.size + 1, 2, none⟩ = false := by rw [b1.frozen (by simp)]; simp
  have HB : Hid (Bel w w1) := Bel.trans (((Bel.refl _).alloc _).alloc _) b1
  clear b1
  go_wp2_with fail
  refine (QB.out _).mono ?_
  rintro e w2 ⟨rfl, rfl⟩
  go_wp2_with fail
  refine (QC.out _).mono ?_
  rintro e w3 ⟨rfl, rfl⟩
  go_wp2_with fail
  refine (left_ok l h s _).mono ?_
  rintro e w4 ⟨rfl, b4⟩
  go_wp2_with fail
  refine (QN.out _).mono ?_
  rintro e w5 ⟨rfl, b5⟩
  have b := b4.trans b5
  replace a2 := b.keep a2
  replace f0 := b.free c0 f0
  replace f1 := b.free c1 f1
  replace f2 := b.free c2 f2
  replace c0 := b.keep c0
  replace c1 := b.keep c1
  replace c2 := b.keep c2
  replace HB : Hid (Bel w w5) := HB.out.trans b
  clear a0 a1 b4 b5 b
  have hmk := mk04
  go_wp2_with fail
  go_loopw [9] (fun t wr => ∃ (k : Nat) (u v : Int) (cs : List UInt8), t = .slice (some ⟨w5.heap.size + 1, 0, none⟩) k 4 ∧ Mids x y k u v cs ∧ Told wr (w5.heap.size + 1) cs ∧ Bel w wr ∧ Cells wr w.heap.size w5.heap.size s u v) (fun t _ => 4 - lenOf t)
  case atStart =>
    have bb : Bel w5 ((w5.alloc (.cells #[.int .i64 x, .int .i64 y] 85)).alloc (.cells #[.int .u8 0, .int .u8 0, .int .u8 0, .int .u8 0] 5)) := ((Bel.refl _).alloc _).alloc _
    refine ⟨0, x, y, [], by simp, Mids.start HI.out.1 HI.out.2.1 HI.out.2.2, ?_, HB.out.trans bb, ⟨by simp, by simp, by simp, by simp, bb.keep a2, bb.keep c0, bb.keep c1, bb.keep c2, bb.free c0 f0, bb.free c1 f1, bb.free c2 f2⟩⟩
    intro i hi
    rcases (show i = 0 ∨ i = 1 ∨ i = 2 ∨ i = 3 from by omega) with rfl | rfl | rfl | rfl
    · exact ⟨by simp, by simp⟩
    · exact ⟨by simp, by simp⟩
    · exact ⟨by simp, by simp⟩
    · exact ⟨by simp, by simp⟩
  case round =>
    obtain ⟨k, u, v, cs, rfl, M, told, hbel, C⟩ := hrel
    have hNS : w.heap.size + 1 < w5.heap.size := block_lt_of_cell c0
    clear a2 c0 c1 c2 f0 f1 f2 hmk
    have HBel : Hid (Bel w wr) := hbel
    have HM : Hid (Mids x y k u v cs) := M
    have HT : Hid (Told wr (w5.heap.size + 1) cs) := told
    have HC : Hid (Cells wr w.heap.size w5.heap.size s u v) := C
    have s0 := C.s0
    have s1 := C.s1
    have u0 := M.l0'
    have u1 : u ≤ 4294967295 := Int.le_trans M.lh M.h1
    have v0 : 0 ≤ v := Int.le_trans M.l0' M.lh
    have v1 := M.h1
    clear hbel M told C
    have qs := isSettled_ok u v
    by_cases he : u / 16777216 = v / 16777216
    · rw [show (u / 16777216 == v / 16777216) = true from by simpa using he] at qs
      have QS : Hid (∀ w, Calls Tryz.prog 86 #[.agg #[.int .i64 u, .int .i64 v]] w fun e w' => e = .returned (.bool true) ∧ Bel w w') := qs
      have HE : Hid (u / 16777216 = v / 16777216) := he
      clear qs he
      have hk : k < 4 := HM.out.lt HE.out
      go_wp2_with fail
      refine (QS.out _).mono ?_
      rintro e wa ⟨rfl, ba⟩
      replace s0 := ba.keep s0
      replace s1 := ba.keep s1
      go_wp2_with fail
      refine (settled_ok u v u0 u1 _).mono ?_
      rintro e wb ⟨rfl, bb⟩
      have bab := ba.trans bb
      have HT2 : Hid (Told wb (w5.heap.size + 1) cs) := HT.out.keep bab
      have HC2 : Hid (Cells wb w.heap.size w5.heap.size s u v) := HC.out.keep bab
      have HBel2 : Hid (Bel w wb) := HBel.out.trans bab
      have t0 := (HT2.out k hk).1
      have t1 := (HT2.out k hk).2
      replace s0 := HC2.out.s0
      replace s1 := HC2.out.s1
      have hTlt : w5.heap.size + 1 < wb.heap.size := block_lt_of_cell t0
      clear ba bb bab
      have hx : ((UInt8.ofNat (u / 16777216).toNat).toNat : Int) = u / 16777216 := by
        rw [UInt8.toNat_ofNat', Nat.mod_eq_of_lt (by omega)]; omega
      have b3 : Bel (wb.setCell ⟨w5.heap.size + 1, k, none⟩ (.int .u8 (u / 16777216))) ((wb.setCell ⟨w5.heap.size + 1, k, none⟩ (.int .u8 (u / 16777216))).alloc (.cells #[.int .u8 (u / 16777216)] 5)) := (Bel.refl _).alloc _
      have C3 := (HC2.out.far (a := ⟨w5.heap.size + 1, k, none⟩) (by show w5.heap.size + 1 ≠ _; omega) (by show w5.heap.size + 1 ≠ _; omega) (by show w5.heap.size + 1 ≠ _; omega) (.int .u8 (u / 16777216))).keep b3
      have HT3 : Hid (Told ((wb.setCell ⟨w5.heap.size + 1, k, none⟩ (.int .u8 (u / 16777216))).alloc (.cells #[.int .u8 (u / 16777216)] 5)) (w5.heap.size + 1) (cs ++ [UInt8.ofNat (u / 16777216).toNat])) := (HT2.out.more hk HM.out.len _ _ hx.symm).keep b3
      have HBel3 : Hid (Bel w ((wb.setCell ⟨w5.heap.size + 1, k, none⟩ (.int .u8 (u / 16777216))).alloc (.cells #[.int .u8 (u / 16777216)] 5))) := (HBel2.out.setCell (by show w.heap.size ≤ w5.heap.size + 1; omega) _).trans b3
      have HC3 : Hid (Cells ((wb.setCell ⟨w5.heap.size + 1, k, none⟩ (.int .u8 (u / 16777216))).alloc (.cells #[.int .u8 (u / 16777216)] 5)) w.heap.size w5.heap.size s u v) := C3
      replace s0 := C3.s0
      replace s1 := C3.s1
      clear b3 hx C3
      go_wp2_with fail
      refine (up_ok u v u0 u1 v0 v1 _).mono ?_
      rintro e wc ⟨rfl, bc⟩
      have C4 := HC3.out.keep bc
      have HT4 : Hid (Told wc (w5.heap.size + 1) (cs ++ [UInt8.ofNat (u / 16777216).toNat])) := HT3.out.keep bc
      have HBel4 : Hid (Bel w wc) := HBel3.out.trans bc
      have HC4 : Hid (Cells wc w.heap.size w5.heap.size s u v) := C4
      replace s0 := C4.s0
      replace s1 := C4.s1
      have g0 := C4.g0
      have g1 := C4.g1
      clear bc C4 HT HC HBel HT2 HC2 HBel2 HT3 HC3 HBel3 t0 t1
      have HN := HM.out.next HE.out
      have HN2 : Hid (Mids x y (k + 1) (u * 256 % 4294967296) (v * 256 % 4294967296 + 255) (cs ++ [UInt8.ofNat (u / 16777216).toNat])) := HN
      clear HN
      generalize u * 256 % 4294967296 = u' at *
      generalize v * 256 % 4294967296 + 255 = v' at *
      go_wp2
      go_roundw
      case rel =>
        refine ⟨k + 1, u', v', _, rfl, HN2.out, (HT4.out.far (by show w5.heap.size ≠ _; omega) _).far (by show w5.heap.size ≠ _; omega) _, (HBel4.out.setCell (by show w.heap.size ≤ w5.heap.size; omega) _).setCell (by show w.heap.size ≤ w5.heap.size; omega) _, HC4.out.set (by omega) _ _⟩
      case measure => simp [lenOf]; omega
    · rw [show (u / 16777216 == v / 16777216) = false from by simpa using he] at qs
      have QS : Hid (∀ w, Calls Tryz.prog 86 #[.agg #[.int .i64 u, .int .i64 v]] w fun e w' => e = .returned (.bool false) ∧ Bel w w') := qs
      have hd := HM.out.done he
      rw [HS.out] at hd
      injection hd with hd1 hd2
      injection hd2 with hd2 hd3
      subst hd1 hd2 hd3
      have hk4 := HM.out.le4
      have hlen := HM.out.len
      clear qs he
      go_wp2_with fail
      refine (QS.out _).mono ?_
      rintro e wa ⟨rfl, ba⟩
      have C2 := HC.out.keep ba
      have hstr := (HT.out.keep ba).str k hlen hk4
      have HBel2 : Hid (Bel w wa) := HBel.out.trans ba
      obtain ⟨s0', s1', g0, g1, a2, c0, c1, c2, f0, f1, f2⟩ := C2
      clear s0 s1 ba HT HC HBel
      by_cases hz : s.size + k ≤ 65536
      · have HA : Hid (bitAns l1 r1 s ⟨bs.toArray⟩ = .tuple #[.agg #[.int .i64 l1, .int .i64 r1, .string (s ++ ⟨bs.toArray⟩)], .int .i64 0]) := by
          show _ = _
          rw [bitAns, if_pos (by show s.size + bs.toArray.size ≤ _; simp; omega)]
        have hz' : decide (65536 < (s.size : Int) + (k : Int)) = false := by simp; omega
        go_wp2
        obtain ⟨r0, r1', r2⟩ := set3 (x := .int .i64 l1) (y := .int .i64 r1) (z := .string (s ++ ⟨bs.toArray⟩)) c0 c1 c2
        refine bodyPost_ret (results_coder2 Tryz.results49 rfl rfl r0 r1' r2) rfl ⟨congrArg Ending.returned HA.out.symm, ?_⟩
        exact ((HBel2.out.setCell (by show w.heap.size ≤ w.heap.size + 1; omega) _).setCell (by show w.heap.size ≤ w.heap.size + 1; omega) _).setCell (by show w.heap.size ≤ w.heap.size + 1; omega) _
      · have HA : Hid (bitAns l1 r1 s ⟨bs.toArray⟩ = .tuple #[.agg #[.int .i64 0, .int .i64 0, .string ⟨#[]⟩], .int .i64 400]) := by
          show _ = _
          rw [bitAns, if_neg (by show ¬ s.size + bs.toArray.size ≤ _; simp; omega)]
        have hz' : decide (65536 < (s.size : Int) + (k : Int)) = true := by simp; omega
        go_wp2
        obtain ⟨r0, r1', r2⟩ := set3 (x := .int .i64 0) (y := .int .i64 0) (z := .string ⟨#[]⟩) c0 c1 c2
        refine bodyPost_ret (results_coder2 Tryz.results49 rfl rfl r0 r1' r2) rfl ⟨congrArg Ending.returned HA.out.symm, ?_⟩
        exact ((HBel2.out.setCell (by show w.heap.size ≤ w.heap.size + 1; omega) _).setCell (by show w.heap.size ≤ w.heap.size + 1; omega) _).setCell (by show w.heap.size ≤ w.heap.size + 1; omega) _

def errV : Value := .tuple #[.agg #[.int .i64 0, .int .i64 0, .string ⟨#[]⟩], .int .i64 400]

/-- What Bit answers. -/
def codeBit (l h bit p : Int) (s : ByteArray) : Value :=
  if mayB l h s = true ∧ bitB bit = true ∧ chanceB p = true then bitAns (settle 5 (narrow l h bit p).1 (narrow l h bit p).2).2.1 (settle 5 (narrow l h bit p).1 (narrow l h bit p).2).2.2 s ⟨(settle 5 (narrow l h bit p).1 (narrow l h bit p).2).1.toArray⟩ else errV

set_option maxHeartbeats 1000000 in
theorem bit_no_may (l h bit p : Int) (s : ByteArray) (hs : s.size ≤ maxLen) (hm : mayB l h s = false) (w : World) :
    Calls Tryz.prog 49 #[.agg #[.int .i64 l, .int .i64 h, .string s], .int .i64 bit, .int .i64 p] w fun e w' => e = .returned errV ∧ Bel w w' := by
  have q1 := may_ok l h s hs
  rw [hm] at q1
  have QM : Hid (∀ w, Calls Tryz.prog 50 #[.agg #[.int .i64 l, .int .i64 h, .string s]] w fun e w' => e = .returned (.bool false) ∧ Bel w w') := q1
  clear q1 hm
  go_enter Tryz.func49, Tryz.ntmps49
  go_wp2_with fail
  refine (QM.out _).mono ?_
  rintro e w1 ⟨rfl, b1⟩
  have c0 : w1.cell? ⟨w.heap.size + 1, 0, none⟩ = some (.int .i64 0) := b1.keep (by simp)
  have c1 : w1.cell? ⟨w.heap.size + 1, 1, none⟩ = some (.int .i64 0) := b1.keep (by simp)
  have c2 : w1.cell? ⟨w.heap.size + 1, 2, none⟩ = some (.string ⟨#[]⟩) := b1.keep (by simp)
  have f0 : w1.frozen? ⟨w.heap.size + 1, 0, none⟩ = false := by rw [b1.frozen (by simp)]; simp
  have f1 : w1.frozen? ⟨w.heap.size + 1, 1, none⟩ = false := by rw [b1.frozen (by simp)]; simp
  have f2 : w1.frozen? ⟨w.heap.size + 1, 2, none⟩ = false := by rw [b1.frozen (by simp)]; simp
  have HB : Hid (Bel w w1) := Bel.trans (((Bel.refl _).alloc _).alloc _) b1
  clear b1
  go_wp2
  obtain ⟨r0, r1, r2⟩ := set3 (x := .int .i64 0) (y := .int .i64 0) (z := .string ⟨#[]⟩) c0 c1 c2
  refine bodyPost_ret (results_coder2 Tryz.results49 rfl rfl r0 r1 r2) rfl ⟨rfl, ?_⟩
  exact ((HB.out.setCell (by show w.heap.size ≤ w.heap.size + 1; omega) _).setCell (by show w.heap.size ≤ w.heap.size + 1; omega) _).setCell (by show w.heap.size ≤ w.heap.size + 1; omega) _

set_option maxHeartbeats 1000000 in
theorem bit_no_bit (l h bit p : Int) (s : ByteArray) (hs : s.size ≤ maxLen) (hm : mayB l h s = true) (hb : bitB bit = false) (w : World) :
    Calls Tryz.prog 49 #[.agg #[.int .i64 l, .int .i64 h, .string s], .int .i64 bit, .int .i64 p] w fun e w' => e = .returned errV ∧ Bel w w' := by
  have q1 := may_ok l h s hs
  rw [hm] at q1
  have q2 := isBit_ok bit
  rw [hb] at q2
  have QM : Hid (∀ w, Calls Tryz.prog 50 #[.agg #[.int .i64 l, .int .i64 h, .string s]] w fun e w' => e = .returned (.bool true) ∧ Bel w w') := q1
  have QB : Hid (∀ w, Calls Tryz.prog 82 #[.int .i64 bit] w fun e w' => e = .returned (.bool false) ∧ w' = w) := q2
  clear q1 q2 hm hb
  go_enter Tryz.func49, Tryz.ntmps49
  go_wp2_with fail
  refine (QM.out _).mono ?_
  rintro e w1 ⟨rfl, b1⟩
  have c0 : w1.cell? ⟨w.heap.size + 1, 0, none⟩ = some (.int .i64 0) := b1.keep (by simp)
  have c1 : w1.cell? ⟨w.heap.size + 1, 1, none⟩ = some (.int .i64 0) := b1.keep (by simp)
  have c2 : w1.cell? ⟨w.heap.size + 1, 2, none⟩ = some (.string ⟨#[]⟩) := b1.keep (by simp)
  have f0 : w1.frozen? ⟨w.heap.size + 1, 0, none⟩ = false := by rw [b1.frozen (by simp)]; simp
  have f1 : w1.frozen? ⟨w.heap.size + 1, 1, none⟩ = false := by rw [b1.frozen (by simp)]; simp
  have f2 : w1.frozen? ⟨w.heap.size + 1, 2, none⟩ = false := by rw [b1.frozen (by simp)]; simp
  have HB : Hid (Bel w w1) := Bel.trans (((Bel.refl _).alloc _).alloc _) b1
  clear b1
  go_wp2_with fail
  refine (QB.out _).mono ?_
  rintro e w2 ⟨rfl, rfl⟩
  go_wp2
  obtain ⟨r0, r1, r2⟩ := set3 (x := .int .i64 0) (y := .int .i64 0) (z := .string ⟨#[]⟩) c0 c1 c2
  refine bodyPost_ret (results_coder2 Tryz.results49 rfl rfl r0 r1 r2) rfl ⟨rfl, ?_⟩
  exact ((HB.out.setCell (by show w.heap.size ≤ w.heap.size + 1; omega) _).setCell (by show w.heap.size ≤ w.heap.size + 1; omega) _).setCell (by show w.heap.size ≤ w.heap.size + 1; omega) _

set_option maxHeartbeats 1000000 in
theorem bit_no_chance (l h bit p : Int) (s : ByteArray) (hs : s.size ≤ maxLen) (hm : mayB l h s = true) (hb : bitB bit = true) (hp : chanceB p = false) (w : World) :
    Calls Tryz.prog 49 #[.agg #[.int .i64 l, .int .i64 h, .string s], .int .i64 bit, .int .i64 p] w fun e w' => e = .returned errV ∧ Bel w w' := by
  have q1 := may_ok l h s hs
  rw [hm] at q1
  have q2 := isBit_ok bit
  rw [hb] at q2
  have q3 := isChance_ok p
  rw [hp] at q3
  have QM : Hid (∀ w, Calls Tryz.prog 50 #[.agg #[.int .i64 l, .int .i64 h, .string s]] w fun e w' => e = .returned (.bool true) ∧ Bel w w') := q1
  have QB : Hid (∀ w, Calls Tryz.prog 82 #[.int .i64 bit] w fun e w' => e = .returned (.bool true) ∧ w' = w) := q2
  have QC : Hid (∀ w, Calls Tryz.prog 83 #[.int .i64 p] w fun e w' => e = .returned (.bool false) ∧ w' = w) := q3
  clear q1 q2 q3 hm hb hp
  go_enter Tryz.func49, Tryz.ntmps49
  go_wp2_with fail
  refine (QM.out _).mono ?_
  rintro e w1 ⟨rfl, b1⟩
  have c0 : w1.cell? ⟨w.heap.size + 1, 0, none⟩ = some (.int .i64 0) := b1.keep (by simp)
  have c1 : w1.cell? ⟨w.heap.size + 1, 1, none⟩ = some (.int .i64 0) := b1.keep (by simp)
  have c2 : w1.cell? ⟨w.heap.size + 1, 2, none⟩ = some (.string ⟨#[]⟩) := b1.keep (by simp)
  have f0 : w1.frozen? ⟨w.heap.size + 1, 0, none⟩ = false := by rw [b1.frozen (by simp)]; simp
  have f1 : w1.frozen? ⟨w.heap.size + 1, 1, none⟩ = false := by rw [b1.frozen (by simp)]; simp
  have f2 : w1.frozen? ⟨w.heap.size + 1, 2, none⟩ = false := by rw [b1.frozen (by simp)]; simp
  have HB : Hid (Bel w w1) := Bel.trans (((Bel.refl _).alloc _).alloc _) b1
  clear b1
  go_wp2_with fail
  refine (QB.out _).mono ?_
  rintro e w2 ⟨rfl, rfl⟩
  go_wp2_with fail
  refine (QC.out _).mono ?_
  rintro e w3 ⟨rfl, rfl⟩
  go_wp2
  obtain ⟨r0, r1, r2⟩ := set3 (x := .int .i64 0) (y := .int .i64 0) (z := .string ⟨#[]⟩) c0 c1 c2
  refine bodyPost_ret (results_coder2 Tryz.results49 rfl rfl r0 r1 r2) rfl ⟨rfl, ?_⟩
  exact ((HB.out.setCell (by show w.heap.size ≤ w.heap.size + 1; omega) _).setCell (by show w.heap.size ≤ w.heap.size + 1; omega) _).setCell (by show w.heap.size ≤ w.heap.size + 1; omega) _

theorem bit_ok (l h bit p : Int) (s : ByteArray) (hs : s.size ≤ maxLen) (w : World) :
    Calls Tryz.prog 49 #[.agg #[.int .i64 l, .int .i64 h, .string s], .int .i64 bit, .int .i64 p] w fun e w' => e = .returned (codeBit l h bit p s) ∧ Bel w w' := by
  cases hm : mayB l h s with
  | false => rw [codeBit, if_neg (by rw [hm]; simp)]; exact bit_no_may l h bit p s hs hm w
  | true => cases hb : bitB bit with
    | false => rw [codeBit, if_neg (by rw [hb]; simp)]; exact bit_no_bit l h bit p s hs hm hb w
    | true => cases hp : chanceB p with
      | false => rw [codeBit, if_neg (by rw [hp]; simp)]; exact bit_no_chance l h bit p s hs hm hb hp w
      | true =>
        rw [codeBit, if_pos ⟨hm, hb, hp⟩]
        have m := of_decide_eq_true hm
        have b := of_decide_eq_true hb
        have c := of_decide_eq_true hp
        exact bit_may l h bit p s m.1 m.2 b c.1 c.2 _ _ _ rfl w

end Go.Proofs.YtocnlefpbcnlmaaGreatDoor.Coder
