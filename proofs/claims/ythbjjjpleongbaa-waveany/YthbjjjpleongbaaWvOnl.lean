/-
  Plain facts: the one chunk of a name, if there is just one; which two are a file's, so told; what a chunk of a format tells. No condition.
-/
import Derived.Test.YthbjjjpleongbaaWvRef
namespace Go.Proofs.Ythbjjjpleongbaa.Wav
open Go.Proofs.Ythbjjjpleongbaa.Num Go.Proofs.Ythbjjjpleongbaa.Chk
open Go.Proofs.Ythbjjjpleongbaa.Pcm (okF fC fQ okF_yes okF_nat)
set_option linter.unusedVariables false

/-- The first chunk of that name; whether there is one. -/
def fst1 (n : List UInt8) : List Ch → Nat → Option Nat
  | [], _ => none
  | c :: r, b => if c.1 = n then some b else fst1 n r (b + 1)
def has (n : List UInt8) (cs : List Ch) : Bool := (fst1 n cs 0).isSome
/-- The one of that name, and no second one. -/
def onl (n : List UInt8) : List Ch → Nat → Option Nat
  | [], _ => none
  | c :: r, b => if c.1 = n then (if has n r then none else some b) else onl n r (b + 1)
def getC (cs : List Ch) : Option Nat → Ch
  | some i => cs.getD i ([], 0, 0)
  | none => ([], 0, 0)

theorem fst1_off (n : List UInt8) : ∀ (cs : List Ch) (b : Nat), fst1 n cs b = (fst1 n cs 0).map (b + ·)
  | [], _ => rfl
  | c :: r, b => by
    unfold fst1
    by_cases h : c.1 = n
    · rw [if_pos h, if_pos h]; rfl
    · rw [if_neg h, if_neg h, fst1_off n r (b + 1), fst1_off n r (0 + 1)]
      cases fst1 n r 0 with
      | none => rfl
      | some k => simp only [Option.map_some]; congr 1; omega
theorem onl_off (n : List UInt8) : ∀ (cs : List Ch) (b : Nat), onl n cs b = (onl n cs 0).map (b + ·)
  | [], _ => rfl
  | c :: r, b => by
    unfold onl
    by_cases h : c.1 = n
    · rw [if_pos h, if_pos h]
      cases has n r <;> rfl
    · rw [if_neg h, if_neg h, onl_off n r (b + 1), onl_off n r (0 + 1)]
      cases onl n r 0 with
      | none => rfl
      | some k => simp only [Option.map_some]; congr 1; omega
theorem has_cons {n : List UInt8} {c : Ch} {r : List Ch} : has n (c :: r) = (decide (c.1 = n) || has n r) := by
  unfold has
  rw [fst1]
  by_cases h : c.1 = n
  · rw [if_pos h, decide_eq_true h]; rfl
  · rw [if_neg h, decide_eq_false h, fst1_off n r (0 + 1), Bool.false_or]
    cases fst1 n r 0 <;> rfl
/-- As the program finds it. -/
theorem onl_first (n : List UInt8) : ∀ (cs : List Ch), onl n cs 0 = match fst1 n cs 0 with
    | none => none
    | some i => if has n (cs.drop (i + 1)) then none else some i
  | [] => rfl
  | c :: r => by
    rw [onl, fst1]
    by_cases h : c.1 = n
    · rw [if_pos h, if_pos h]; rfl
    · rw [if_neg h, if_neg h, onl_off n r (0 + 1), fst1_off n r (0 + 1), onl_first n r]
      cases fst1 n r 0 with
      | none => rfl
      | some i =>
        simp only [Option.map_some]
        rw [show 0 + 1 + i + 1 = (i + 1) + 1 by omega, List.drop_succ_cons]
        cases has n (r.drop (i + 1)) <;> rfl
theorem fst1_lt {n : List UInt8} : ∀ {cs : List Ch} {i : Nat}, fst1 n cs 0 = some i → i < cs.length ∧ (cs.getD i ([], 0, 0)).1 = n
  | [], _, h => by cases h
  | c :: r, i, h => by
    rw [fst1] at h
    by_cases hc : c.1 = n
    · rw [if_pos hc] at h
      injection h with h
      subst h
      exact ⟨by simp, hc⟩
    · rw [if_neg hc, fst1_off n r (0 + 1)] at h
      cases hr : fst1 n r 0 with
      | none => rw [hr] at h; cases h
      | some k =>
        rw [hr] at h
        simp only [Option.map_some] at h
        injection h with h
        subst h
        have := fst1_lt hr
        rw [show 0 + 1 + k = k + 1 by omega]
        exact ⟨by simp; omega, this.2⟩
/-- The first ones are none. -/
theorem fst1_skip {n : List UInt8} : ∀ {cs : List Ch} {k : Nat}, (∀ j, j < k → (cs.getD j ([], 0, 0)).1 ≠ n) → k ≤ cs.length → fst1 n cs 0 = fst1 n (cs.drop k) k
  | cs, 0, _, _ => by rw [List.drop_zero]
  | [], k + 1, _, h => by simp at h
  | c :: r, k + 1, h, hk => by
    have h0 : c.1 ≠ n := h 0 (by omega)
    rw [List.drop_succ_cons, fst1, if_neg h0, fst1_off n r (0 + 1), fst1_skip (cs := r) (k := k) (fun j hj => h (j + 1) (by omega)) (by simpa using hk), fst1_off n _ (k + 1), fst1_off n _ k]
    cases fst1 n (r.drop k) 0 with
    | none => rfl
    | some i => simp only [Option.map_some]; congr 1; omega
theorem fst1_here {n : List UInt8} {cs : List Ch} {k : Nat} (h : ∀ j, j < k → (cs.getD j ([], 0, 0)).1 ≠ n) (hk : k < cs.length) (hn : (cs.getD k ([], 0, 0)).1 = n) : fst1 n cs 0 = some k := by
  rw [fst1_skip h (by omega), drop_cons hk, fst1, if_pos hn]
theorem fst1_no {n : List UInt8} {cs : List Ch} (h : ∀ j, j < cs.length → (cs.getD j ([], 0, 0)).1 ≠ n) : fst1 n cs 0 = none := by
  rw [fst1_skip h (Nat.le_refl _), List.drop_of_length_le (Nat.le_refl _), fst1]

def both : Option (Option Nat × Option Nat) → Option (Nat × Nat)
  | some (some i, some j) => some (i, j)
  | _ => none
/-- Two places, the first ahead of the second. -/
def twoOf : Option Nat → Option Nat → Option (Nat × Nat)
  | some i, some j => if i < j then some (i, j) else none
  | _, _ => none
theorem fm_dt : fm ≠ dt := by decide

theorem picks_ss : ∀ (r : List Ch) (b i j : Nat), both (picks r b (some i) (some j)) = if has fm r || has dt r then none else some (i, j)
  | [], _, _, _ => rfl
  | c :: r, b, i, j => by
    rw [has_cons, has_cons]
    by_cases h1 : c.1 = fm
    · rw [picks_fm h1, decide_eq_true h1]; rfl
    · by_cases h2 : c.1 = dt
      · rw [picks_dt h2, decide_eq_true h2, Bool.true_or, Bool.or_true]; rfl
      · rw [picks_no h1 h2, picks_ss r, decide_eq_false h1, decide_eq_false h2, Bool.false_or, Bool.false_or]
theorem picks_s : ∀ (r : List Ch) (b i : Nat), both (picks r b (some i) none) = if has fm r then none else (onl dt r b).map (fun j => (i, j))
  | [], _, _ => rfl
  | c :: r, b, i => by
    rw [has_cons]
    by_cases h1 : c.1 = fm
    · rw [picks_fm h1, decide_eq_true h1]; rfl
    · by_cases h2 : c.1 = dt
      · rw [picks_dt h2, decide_eq_false h1, Bool.false_or, onl, if_pos h2]
        show both (picks r (b + 1) (some i) (some b)) = _
        rw [picks_ss]
        cases has fm r <;> cases has dt r <;> rfl
      · rw [picks_no h1 h2, picks_s r, decide_eq_false h1, Bool.false_or, onl, if_neg h2]
theorem onl_ge {n : List UInt8} {cs : List Ch} {b i : Nat} (h : onl n cs b = some i) : b ≤ i := by
  rw [onl_off] at h
  cases ho : onl n cs 0 with
  | none => rw [ho] at h; cases h
  | some k =>
    rw [ho] at h
    simp only [Option.map_some] at h
    injection h with h
    omega
/-- The two are told as the reference tells them. -/
theorem picks_onl : ∀ (cs : List Ch) (b : Nat), both (picks cs b none none) = twoOf (onl fm cs b) (onl dt cs b)
  | [], _ => rfl
  | c :: r, b => by
    by_cases h1 : c.1 = fm
    · have h2 : c.1 ≠ dt := by rw [h1]; exact fm_dt
      rw [picks_fm h1, onl, if_pos h1, onl, if_neg h2]
      show both (picks r (b + 1) (some b) none) = _
      rw [picks_s]
      cases has fm r
      · cases ho : onl dt r (b + 1) with
        | none => rfl
        | some j =>
          have := onl_ge ho
          show some (b, j) = if b < j then some (b, j) else none
          rw [if_pos (by omega)]
      · rfl
    · by_cases h2 : c.1 = dt
      · rw [picks_dt h2, onl, if_neg h1, onl, if_pos h2]
        show none = _
        cases ho : onl fm r (b + 1) with
        | none => rfl
        | some i =>
          have := onl_ge ho
          cases has dt r
          · show none = if i < b then some (i, b) else none
            rw [if_neg (by omega)]
          · rfl
      · rw [picks_no h1 h2, picks_onl r, onl, if_neg h1, onl, if_neg h2]
theorem fitS_two (L : List UInt8) (cs : List Ch) : fitS L cs (picks cs 0 none none) = match twoOf (onl fm cs 0) (onl dt cs 0) with
    | some (i, j) => fitP L (cs.getD i ([], 0, 0)) (cs.getD j ([], 0, 0))
    | none => none := by
  rw [← picks_onl]
  cases h : picks cs 0 none none with
  | none => rfl
  | some p =>
    obtain ⟨f, s⟩ := p
    cases f <;> cases s <;> rfl
theorem onl_at {n : List UInt8} {cs : List Ch} {i : Nat} (h : onl n cs 0 = some i) : i < cs.length ∧ (cs.getD i ([], 0, 0)).1 = n := by
  rw [onl_first] at h
  cases hf : fst1 n cs 0 with
  | none => rw [hf] at h; cases h
  | some k =>
    rw [hf] at h
    simp only at h
    cases hh : has n (cs.drop (k + 1))
    · rw [hh] at h
      injection h with h
      subst h
      exact fst1_lt hf
    · rw [hh] at h; cases h

/-- Places follow the rows. -/
theorem stop_lt (L : List UInt8) : ∀ (d i p : Nat), stop L i p < stop L (i + d + 1) p
  | 0, i, p => by rw [stop_succ]; have := nxt_gt L (stop L i p); show _ < _; omega
  | d + 1, i, p => by
    have h1 := stop_lt L d i p
    have h2 := nxt_gt L (stop L (i + d + 1) p)
    rw [show i + (d + 1) + 1 = (i + d + 1) + 1 by omega, stop_succ]
    omega
theorem stop_mono (L : List UInt8) {i j : Nat} (p : Nat) (h : i < j) : stop L i p < stop L j p := by
  have := stop_lt L (j - i - 1) i p
  rwa [show i + (j - i - 1) + 1 = j by omega] at this
/-- The two of a file: in a row told by where their bytes begin. -/
theorem two_by {L : List UInt8} {cs : List Ch} (hc : chain L 12 cs) {i j : Nat} (hi : onl fm cs 0 = some i) (hj : onl dt cs 0 = some j) :
    twoOf (onl fm cs 0) (onl dt cs 0) = if (cs.getD j ([], 0, 0)).2.1 < (cs.getD i ([], 0, 0)).2.1 then none else some (i, j) := by
  rw [hi, hj]
  obtain ⟨li, ni⟩ := onl_at hi
  obtain ⟨lj, nj⟩ := onl_at hj
  have hne : i ≠ j := fun q => fm_dt (by rw [← ni, ← nj, q])
  rw [(chain_at L i cs 12 hc li).1, (chain_at L j cs 12 hc lj).1]
  show (if i < j then some (i, j) else none) = if stop L j 12 + 8 < stop L i 12 + 8 then none else some (i, j)
  by_cases h : i < j
  · have := stop_mono L 12 h
    rw [if_pos h, if_neg (by omega)]
  · have := stop_mono L 12 (show j < i by omega)
    rw [if_neg h, if_pos (by omega)]

/-- What a chunk of a format tells, by its own bytes. -/
def nAt (M : List UInt8) (i : Nat) : Int := num ((M.drop i).take 2)
def fmtOf (M : List UInt8) : Option (Int × Int) :=
  if M.length = 16 ∧ nAt M 0 = 1 ∧ okF (nAt M 2) (nAt M 14) = true ∧ nAt M 12 = ((fC (nAt M 2) * fQ (nAt M 14) : Nat) : Int) then some (nAt M 2, nAt M 14) else none
theorem fitP_fmt (L : List UInt8) (f d : Ch) (hf : f.2.1 + f.2.2 ≤ L.length) : fitP L f d = match fmtOf ((L.drop f.2.1).take f.2.2) with
    | some (c, b) => if (d.2.2 : Int) % ((fC c * fQ b : Nat) : Int) = 0 then some (c, b, L.take d.2.1, (L.drop d.2.1).take d.2.2, L.drop (d.2.1 + d.2.2)) else none
    | none => none := by
  have hl : ((L.drop f.2.1).take f.2.2).length = f.2.2 := by rw [List.length_take, List.length_drop]; omega
  unfold fitP fmtOf
  by_cases h16 : f.2.2 = 16
  · have hM : (L.drop f.2.1).take 16 = (L.drop f.2.1).take f.2.2 := by rw [h16]
    have t0 : two L f.2.1 = nAt ((L.drop f.2.1).take f.2.2) 0 := two_at hM 0 (by omega)
    have t2 : two L (f.2.1 + 2) = nAt ((L.drop f.2.1).take f.2.2) 2 := two_at hM 2 (by omega)
    have t12 : two L (f.2.1 + 12) = nAt ((L.drop f.2.1).take f.2.2) 12 := two_at hM 12 (by omega)
    have t14 : two L (f.2.1 + 14) = nAt ((L.drop f.2.1).take f.2.2) 14 := two_at hM 14 (by omega)
    rw [t0, t2, t12, t14]
    generalize (L.drop f.2.1).take f.2.2 = M at *
    by_cases hok : okF (nAt M 2) (nAt M 14) = true
    · have fe := (frame_eq hok).1
      rw [fe]
      by_cases h1 : nAt M 0 = 1
      · by_cases h3 : nAt M 12 = ((fC (nAt M 2) * fQ (nAt M 14) : Nat) : Int)
        · by_cases h4 : (d.2.2 : Int) % ((fC (nAt M 2) * fQ (nAt M 14) : Nat) : Int) = 0
          · rw [if_pos ⟨h16, h1, hok, h3, h4⟩, if_pos ⟨hl.trans h16, h1, hok, h3⟩]
            simp only
            rw [if_pos h4]
          · rw [if_neg (fun q => h4 q.2.2.2.2), if_pos ⟨hl.trans h16, h1, hok, h3⟩]
            simp only
            rw [if_neg h4]
        · rw [if_neg (fun q => h3 q.2.2.2.1), if_neg (fun q => h3 q.2.2.2)]
      · rw [if_neg (fun q => h1 q.2.1), if_neg (fun q => h1 q.2.1)]
    · rw [if_neg (fun q => hok q.2.2.1), if_neg (fun q => hok q.2.2.1)]
  · rw [if_neg (fun q => h16 q.1), if_neg (fun q => h16 (by rw [← hl]; exact q.1))]
theorem fmtOf_ok {M : List UInt8} {c b : Int} (h : fmtOf M = some (c, b)) : okF c b = true := by
  unfold fmtOf at h
  split at h
  · rename_i q
    injection h with h
    injection h with h1 h2
    rw [← h1, ← h2]
    exact q.2.2.1
  · cases h

end Go.Proofs.Ythbjjjpleongbaa.Wav
