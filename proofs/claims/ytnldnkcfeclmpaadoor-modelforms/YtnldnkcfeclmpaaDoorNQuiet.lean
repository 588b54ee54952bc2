/-
  A model that is loaded in a region that draws its order; a new variable that is filled at once; which models may be, number by number. No condition.
-/
import Derived.Test.YtnldnkcfeclmpaaDoorNLearnY
namespace Go.Proofs.YtnldnkcfeclmpaaDoor.Mod
open Go.RowKit Go.Sort
set_option linter.unusedVariables false
set_option linter.unusedSimpArgs false

section
variable {ops : Array Oper} {rest : List Oper} {dst : Option Tmp} {a : Act} {w : World} {ty : TypeId} {pos : String} {after : Array Edge} {x y : Operand} {B : Nat} {L M : List Int}

theorem quiet_load26 {Q : Act → Prop} (h : Holds w B L) (hL : L.length = 195) (hx : a.eval x = .pointer (some ⟨B, 0, none⟩))
    (k : wpQuiet Tryd.prog ops (fun w' => ∃ p : Regrown, w' = grow (redrawn w p.d) p.os) Q rest (a.put dst (mdl L))) :
    wpQuiet Tryd.prog ops (fun w' => ∃ p : Regrown, w' = grow (redrawn w p.d) p.os) Q ({ dst := dst, op := .load 26 x, type := ty, pos := pos, after := after, guard := none } :: rest) a :=
  wpQuiet_step fun K hK => by
    rw [if_pos (show Region.wanted { dst := dst, op := .load 26 x, type := ty, pos := pos, after := after, guard := none } (yielded ops a.tmps) = true by simp [Region.wanted])]
    refine ⟨mdl L, fun w' hw => ?_, hK _ k⟩
    obtain ⟨p, rfl⟩ := hw
    unfold Oper.quietAt execOp
    simp only [hx, Sem.run_bind, load26' (h.regrown p.d p.os) hL, Result.andThen_ok]
    exact ⟨rfl, rfl⟩

theorem quiet_load26g {Q : Act → Prop} {g : Nat × Bool} (hw : Region.wanted { dst := dst, op := .load 26 x, type := ty, pos := pos, after := after, guard := some g } (yielded ops a.tmps) = true) (h : Holds w B L) (hL : L.length = 195) (hx : a.eval x = .pointer (some ⟨B, 0, none⟩))
    (k : wpQuiet Tryd.prog ops (fun w' => ∃ p : Regrown, w' = grow (redrawn w p.d) p.os) Q rest (a.put dst (mdl L))) :
    wpQuiet Tryd.prog ops (fun w' => ∃ p : Regrown, w' = grow (redrawn w p.d) p.os) Q ({ dst := dst, op := .load 26 x, type := ty, pos := pos, after := after, guard := some g } :: rest) a :=
  wpQuiet_step fun K hK => by
    rw [if_pos hw]
    refine ⟨mdl L, fun w' hw => ?_, hK _ k⟩
    obtain ⟨p, rfl⟩ := hw
    unfold Oper.quietAt execOp
    simp only [hx, Sem.run_bind, load26' (h.regrown p.d p.os) hL, Result.andThen_ok]
    exact ⟨rfl, rfl⟩

theorem quiet_build26g {Q : Act → Prop} {g : Nat × Bool} {p q r : Int} (hw : Region.wanted { dst := dst, op := .build 26 #[(1, x)], type := ty, pos := pos, after := after, guard := some g } (yielded ops a.tmps) = true) (hx : a.eval x = .agg #[.int .i64 p, .int .i64 q, .int .i64 r])
    (k : wpQuiet Tryd.prog ops (fun w' => ∃ p : Regrown, w' = grow (redrawn w p.d) p.os) Q rest (a.put dst (mdl (List.replicate 192 0 ++ [p, q, r])))) :
    wpQuiet Tryd.prog ops (fun w' => ∃ p : Regrown, w' = grow (redrawn w p.d) p.os) Q ({ dst := dst, op := .build 26 #[(1, x)], type := ty, pos := pos, after := after, guard := some g } :: rest) a :=
  wpQuiet_step fun K hK => by
    rw [if_pos hw]
    refine ⟨mdl (List.replicate 192 0 ++ [p, q, r]), fun w' hw => ?_, hK _ k⟩
    unfold Oper.quietAt execOp
    simp only [List.map_toArray, List.map_cons, List.map_nil, hx, Sem.run_bind, build26w, Result.andThen_ok]
    exact ⟨rfl, rfl⟩

theorem wpl_load26h {Q : Exit → Act → World → Prop} {g : Nat × Bool} (hw : Region.wanted { dst := dst, op := .load 26 x, type := ty, pos := pos, after := after, guard := some g } (yielded ops a.tmps) = true) (h : Holds w B L) (hL : L.length = 195) (hx : a.eval x = .pointer (some ⟨B, 0, none⟩)) (k : wpList Tryd.prog ops Q rest (a.put dst (mdl L)) w) :
    wpList Tryd.prog ops Q ({ dst := dst, op := .load 26 x, type := ty, pos := pos, after := after, guard := some g } :: rest) a w :=
  wpl_load26g hw h (by omega) hx (by rwa [List.take_of_length_le (by omega)])

theorem wpl_build26h {Q : Exit → Act → World → Prop} {g : Nat × Bool} (hw : Region.wanted { dst := dst, op := .build 26 #[], type := ty, pos := pos, after := after, guard := some g } (yielded ops a.tmps) = true) (k : wpList Tryd.prog ops Q rest (a.put dst (mdl zeros)) w) :
    wpList Tryd.prog ops Q ({ dst := dst, op := .build 26 #[], type := ty, pos := pos, after := after, guard := some g } :: rest) a w :=
  BigFrame.wpList_want hw fun _ hK => by
    unfold Oper.wp execOp
    simp only [List.map_toArray, List.map_nil, Sem.run_bind, build26 w, Result.andThen_ok]
    exact hK _ _ k

theorem wpl_store26n {Q : Exit → Act → World → Prop} (hL : L.length = 195) (hM : M.length = 195) (hx : a.eval x = .pointer (some ⟨w.heap.size, 0, none⟩)) (hy : a.eval y = mdl M) (k : wpList Tryd.prog ops Q rest (a.put dst undef) (w.alloc (.cells (vals M).toArray 26))) :
    wpList Tryd.prog ops Q ({ dst := dst, op := .store 26 x y, type := ty, pos := pos, after := after, guard := none } :: rest) a (w.alloc (.cells (vals L).toArray 26)) :=
  wpList_plain rfl fun _ hK => by
    unfold Oper.wp execOp
    simp only [hx, hy, Sem.run_bind, store26n hL hM, Result.andThen_ok]
    exact hK _ _ k
end

/-- Which models may be. -/
theorem may_iff (L : List Int) : mayM L = true ↔ (∀ k, k < 192 → 0 ≤ L.getD k 0 ∧ L.getD k 0 ≤ 65535) ∧ (∀ k, 192 ≤ k → k < 195 → -1048576 ≤ L.getD k 0 ∧ L.getD k 0 ≤ 1048576) := by
  constructor
  · intro h
    refine ⟨fun k hk => ?_, fun k h1 h2 => ?_⟩
    · by_cases h1 : k < 64
      · have := mayM_row h 0 (.inl rfl) k h1
        rwa [Nat.zero_add] at this
      · by_cases h2 : k < 128
        · have := mayM_row h 64 (.inr (.inl rfl)) (k - 64) (by omega)
          rwa [show 64 + (k - 64) = k by omega] at this
        · have := mayM_row h 128 (.inr (.inr rfl)) (k - 128) (by omega)
          rwa [show 128 + (k - 128) = k by omega] at this
    · obtain ⟨m0, m1, m2, _⟩ := mayM_wts h
      have : k = 192 ∨ k = 193 ∨ k = 194 := by omega
      rcases this with rfl | rfl | rfl
      · exact m0
      · exact m1
      · exact m2
  · rintro ⟨h, g⟩
    have r : ∀ o, o = 0 ∨ o = 64 ∨ o = 128 → rowBad L o = false := fun o ho => anyOf_no fun i hi => by
      have := h (o + i) (by omega)
      simp only [noCnt, Bool.not_eq_false']
      exact decide_eq_true this
    have m : wtsB L = true := Mix.mayB_yes ⟨g 192 (by omega) (by omega), g 193 (by omega) (by omega), g 194 (by omega) (by omega), by omega, by omega, by omega⟩
    rw [mayM, r 0 (by omega), r 64 (by omega), r 128 (by omega), m]
    rfl

theorem step_range (c b : Int) (h : 0 ≤ c ∧ c ≤ 65535) : 0 ≤ Cnt.step c b ∧ Cnt.step c b ≤ 65535 := by
  unfold Cnt.step
  split <;> omega

/-- What a model that has learned holds. -/
theorem learn_get (L : List Int) (hL : L.length = 195) (a b c : Nat) (ha : a < 64) (hb : b < 64) (hc : c < 64) (bit : Int) (k : Nat) :
    (learn L a b c bit).getD k 0 = if k = a then Cnt.step (L.getD a 0) bit else if k = 64 + b then Cnt.step (L.getD (64 + b) 0) bit else if k = 128 + c then Cnt.step (L.getD (128 + c) 0) bit
      else if k = 192 then trnW L a b c bit (L.getD 192 0) (L.getD a 0) else if k = 193 then trnW L a b c bit (L.getD 193 0) (L.getD (64 + b) 0) else if k = 194 then trnW L a b c bit (L.getD 194 0) (L.getD (128 + c) 0) else L.getD k 0 := by
  unfold learn setW
  by_cases k3 : k = 128 + c
  · subst k3
    rw [getD_set_eq _ _ _ (by simp; omega), if_neg (by omega), if_neg (by omega), if_pos rfl]
  · rw [getD_set_ne _ _ _ _ (Ne.symm k3)]
    by_cases k2 : k = 64 + b
    · subst k2
      rw [getD_set_eq _ _ _ (by simp; omega), if_neg (by omega), if_pos rfl]
    · rw [getD_set_ne _ _ _ _ (Ne.symm k2)]
      by_cases k1 : k = a
      · subst k1
        rw [getD_set_eq _ _ _ (by simp; omega), if_pos rfl]
      · rw [getD_set_ne _ _ _ _ (Ne.symm k1), if_neg k1, if_neg k2, if_neg k3]
        by_cases k6 : k = 194
        · subst k6
          rw [getD_set_eq _ _ _ (by simp; omega), if_neg (by decide), if_neg (by decide), if_pos rfl]
        · rw [getD_set_ne _ _ _ _ (Ne.symm k6)]
          by_cases k5 : k = 193
          · subst k5
            rw [getD_set_eq _ _ _ (by simp; omega), if_neg (by decide), if_pos rfl]
          · rw [getD_set_ne _ _ _ _ (Ne.symm k5)]
            by_cases k4 : k = 192
            · subst k4
              rw [getD_set_eq _ _ _ (by omega), if_pos rfl]
            · rw [getD_set_ne _ _ _ _ (Ne.symm k4), if_neg k4, if_neg k5, if_neg k6]

/-- A model that has learned may be. -/
theorem may_learn (L : List Int) (hL : L.length = 195) (a b c : Nat) (ha : a < 64) (hb : b < 64) (hc : c < 64) (bit : Int) (hm : mayM L = true) : mayM (learn L a b c bit) = true := by
  obtain ⟨h, g⟩ := (may_iff L).1 hm
  refine (may_iff _).2 ⟨fun k hk => ?_, fun k h1 h2 => ?_⟩
  · rw [learn_get L hL a b c ha hb hc bit k]
    split
    · exact step_range _ _ (h _ (by omega))
    · split
      · exact step_range _ _ (h _ (by omega))
      · split
        · exact step_range _ _ (h _ (by omega))
        · rw [if_neg (by omega), if_neg (by omega), if_neg (by omega)]
          exact h k hk
  · rw [learn_get L hL a b c ha hb hc bit k, if_neg (by omega), if_neg (by omega), if_neg (by omega)]
    split
    · exact Mix.trn_range _ _ _
    · split
      · exact Mix.trn_range _ _ _
      · split
        · exact Mix.trn_range _ _ _
        · exact g k h1 h2

/-- A new model's counters told by 2048, which is stretched to 1. -/
theorem inp_half : inp 32768 = 1 := by
  have e : Cnt.chance 32768 = 2048 := by decide +kernel
  unfold inp
  rw [e]
  exact (Str.st_is (Str.least_of 2048 1 (by omega) (by omega) (.inr (by decide +kernel)) (.inr (by decide +kernel)))).symm

theorem newM_get : ∀ k, k < 192 → newM.getD k 0 = 32768 := by decide +kernel
theorem newM_wts : newM.getD 192 0 = 22000 ∧ newM.getD 193 0 = 22000 ∧ newM.getD 194 0 = 22000 := by decide +kernel
theorem newM_may : mayM newM = true := (may_iff _).2 ⟨fun k hk => by rw [newM_get k hk]; omega, fun k h1 h2 => by
  have : k = 192 ∨ k = 193 ∨ k = 194 := by omega
  obtain ⟨w0, w1, w2⟩ := newM_wts
  rcases this with rfl | rfl | rfl
  · rw [w0]; omega
  · rw [w1]; omega
  · rw [w2]; omega⟩

theorem new_tell (a b c : Nat) (ha : a < 64) (hb : b < 64) (hc : c < 64) : tell newM a b c = 2051 := by
  obtain ⟨w0, w1, w2⟩ := newM_wts
  unfold tell
  rw [w0, w1, w2, newM_get a (by omega), newM_get (64 + b) (by omega), newM_get (128 + c) (by omega), inp_half]
  decide +kernel

end Go.Proofs.YtnldnkcfeclmpaaDoor.Mod
