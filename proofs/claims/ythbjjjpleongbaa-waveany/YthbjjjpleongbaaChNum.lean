/-
  Plain facts on a file's chunks: the text that is one, its chunks one behind the other, which texts have them, a text cut at a chunk's end. No condition.
-/
import Derived.Test.YthbjjjpleongbaaNum
namespace Go.Proofs.Ythbjjjpleongbaa.Chk
open Go.Proofs.Ythbjjjpleongbaa.Num
set_option linter.unusedVariables false

/-- A chunk: its name, where its bytes begin, how many there are. -/
abbrev Ch := List UInt8 × Nat × Nat
def cid (L : List UInt8) (p : Nat) : List UInt8 := (L.drop p).take 4
def csz (L : List UInt8) (p : Nat) : Nat := (num ((L.drop (p + 4)).take 4)).toNat
def whole (k : Nat) : Nat := k + k % 2
def at8 (L : List UInt8) (p : Nat) : Ch := (cid L p, p + 8, csz L p)
def nxt (L : List UInt8) (p : Nat) : Nat := p + 8 + whole (csz L p)
/-- No chunk begins here: n are told already. -/
def bad (L : List UInt8) (p n : Nat) : Bool := decide (L.length < p + 8) || (decide (n = 64) || decide (L.length < nxt L p))

def go (L : List UInt8) : Nat → Nat → List Ch → Option (List Ch)
  | 0, _, _ => none
  | f + 1, p, acc => if p < L.length then (if bad L p acc.length then none else go L f (nxt L p) (acc ++ [at8 L p])) else some acc
/-- What is told from place p on, behind acc. -/
def run (L : List UInt8) (p : Nat) (acc : List Ch) : Option (List Ch) := go L (L.length - p + 1) p acc

theorem nxt_gt (L : List UInt8) (p : Nat) : p + 8 ≤ nxt L p := by unfold nxt; omega
theorem go_fuel (L : List UInt8) : ∀ (f g p : Nat) (acc : List Ch), L.length - p + 1 ≤ f → L.length - p + 1 ≤ g → go L f p acc = go L g p acc
  | 0, _, _, _, h, _ => by omega
  | _ + 1, 0, _, _, _, h => by omega
  | f + 1, g + 1, p, acc, h1, h2 => by
    unfold go
    by_cases hp : p < L.length
    · rw [if_pos hp, if_pos hp]
      cases hb : bad L p acc.length
      · have := nxt_gt L p
        simp only [Bool.false_eq_true, if_false]
        exact go_fuel L f g (nxt L p) _ (by omega) (by omega)
      · rfl
    · rw [if_neg hp, if_neg hp]

/-- One step. -/
theorem run_end (L : List UInt8) (p : Nat) (acc : List Ch) (h : L.length ≤ p) : run L p acc = some acc := by
  unfold run go
  rw [if_neg (by omega)]
theorem run_bad (L : List UInt8) (p : Nat) (acc : List Ch) (h : p < L.length) (hb : bad L p acc.length = true) : run L p acc = none := by
  unfold run go
  rw [if_pos h, if_pos hb]
theorem run_on (L : List UInt8) (p : Nat) (acc : List Ch) (h : p < L.length) (hb : bad L p acc.length = false) : run L p acc = run L (nxt L p) (acc ++ [at8 L p]) := by
  have := nxt_gt L p
  unfold run
  rw [show go L (L.length - p + 1) p acc = go L (L.length - p) (nxt L p) (acc ++ [at8 L p]) by
    rw [go, if_pos h, hb]
    rfl]
  exact go_fuel L _ _ _ _ (by omega) (by omega)
theorem bad_no {L : List UInt8} {p n : Nat} (h : bad L p n = false) : p + 8 ≤ L.length ∧ n ≠ 64 ∧ nxt L p ≤ L.length := by
  unfold bad at h
  rw [Bool.or_eq_false_iff, Bool.or_eq_false_iff, decide_eq_false_iff_not, decide_eq_false_iff_not, decide_eq_false_iff_not] at h
  omega
theorem no_bad {L : List UInt8} {p n : Nat} (h2 : n ≠ 64) (h3 : nxt L p ≤ L.length) : bad L p n = false := by
  have := nxt_gt L p
  unfold bad
  rw [decide_eq_false (by omega), decide_eq_false h2, decide_eq_false (by omega)]
  rfl

/-- Chunks stand one behind the other, from p to the end. -/
def chain (L : List UInt8) : Nat → List Ch → Prop
  | p, [] => p = L.length
  | p, c :: r => c = at8 L p ∧ nxt L p ≤ L.length ∧ chain L (nxt L p) r

theorem chain_le (L : List UInt8) : ∀ (cs : List Ch) (p : Nat), chain L p cs → p + 8 * cs.length ≤ L.length
  | [], p, h => by have : p = L.length := h; simp; omega
  | c :: r, p, h => by
    have h1 := chain_le L r _ h.2.2
    have h2 := nxt_gt L p
    simp only [List.length_cons]
    omega

theorem run_chain (L : List UInt8) : ∀ (f p : Nat) (acc R : List Ch), L.length - p ≤ f → p ≤ L.length → acc.length ≤ 64 → run L p acc = some R → ∃ cs, R = acc ++ cs ∧ chain L p cs ∧ acc.length + cs.length ≤ 64
  | f, p, acc, R, hf, hp, ha, h => by
    by_cases hl : p < L.length
    · cases hb : bad L p acc.length
      · rw [run_on L p acc hl hb] at h
        obtain ⟨b1, b2, b3⟩ := bad_no hb
        have hn := nxt_gt L p
        match f, hf with
        | 0, hf => omega
        | f + 1, hf =>
          obtain ⟨cs, h1, h2, h3⟩ := run_chain L f (nxt L p) (acc ++ [at8 L p]) R (by omega) b3 (by simp; omega) h
          refine ⟨at8 L p :: cs, by rw [h1]; simp, ⟨rfl, b3, h2⟩, ?_⟩
          simp only [List.length_append, List.length_cons, List.length_nil] at h3 ⊢
          omega
      · rw [run_bad L p acc hl hb] at h; cases h
    · rw [run_end L p acc (by omega)] at h
      injection h with h
      exact ⟨[], by simp [h], (by omega : p = L.length), by simpa using ha⟩
theorem chain_run (L : List UInt8) : ∀ (cs : List Ch) (p : Nat) (acc : List Ch), chain L p cs → acc.length + cs.length ≤ 64 → run L p acc = some (acc ++ cs)
  | [], p, acc, h, _ => by
    have hp : p = L.length := h
    rw [run_end L p acc (by omega)]; simp
  | c :: r, p, acc, ⟨h1, h2, h3⟩, hl => by
    have hn := nxt_gt L p
    simp only [List.length_cons] at hl
    rw [run_on L p acc (by omega) (no_bad (by omega) h2), chain_run L r _ _ h3 (by simp; omega), h1]
    simp
/-- Too many. -/
theorem chain_many (L : List UInt8) : ∀ (cs : List Ch) (p : Nat) (acc : List Ch), chain L p cs → acc.length ≤ 64 → 64 < acc.length + cs.length → run L p acc = none
  | [], p, acc, _, h1, h2 => by simp at h2; omega
  | c :: r, p, acc, ⟨h1, h2, h3⟩, ha, hl => by
    have hn := nxt_gt L p
    simp only [List.length_cons] at hl
    by_cases h64 : acc.length = 64
    · refine run_bad L p acc (by omega) ?_
      unfold bad
      rw [decide_eq_true h64]
      simp
    · rw [run_on L p acc (by omega) (no_bad h64 h2)]
      exact chain_many L r _ _ h3 (by simp; omega) (by simp; omega)

/-- Where the chunks ahead of the k-th end. -/
def stop (L : List UInt8) : Nat → Nat → Nat
  | 0, p => p
  | k + 1, p => stop L k (nxt L p)
theorem stop_ge (L : List UInt8) : ∀ k p, p ≤ stop L k p
  | 0, _ => Nat.le_refl _
  | k + 1, p => Nat.le_trans (Nat.le_trans (Nat.le_add_right _ _) (nxt_gt L p)) (stop_ge L k (nxt L p))
theorem chain_get (L : List UInt8) : ∀ (k : Nat) (cs : List Ch) (p : Nat), chain L p cs → k < cs.length → cs.getD k ([], 0, 0) = at8 L (stop L k p) ∧ stop L k p + 8 ≤ L.length
  | 0, c :: r, p, ⟨h1, h2, _⟩, _ => ⟨h1, Nat.le_trans (nxt_gt L p) h2⟩
  | k + 1, c :: r, p, ⟨_, _, h3⟩, hk => by
    have := chain_get L k r (nxt L p) h3 (by simpa using hk)
    exact this
  | _, [], _, _, hk => by simp at hk

/-- Names and sizes hang on their eight bytes alone. -/
theorem at8_same {L M : List UInt8} {p e : Nat} (he : p + 8 ≤ e) (h : (L.drop p).take (e - p) = (M.drop p).take (e - p)) : at8 L p = at8 M p ∧ nxt L p = nxt M p := by
  have h8 : (L.drop p).take 8 = (M.drop p).take 8 := by
    have := congrArg (List.take 8) h
    rwa [List.take_take, List.take_take, Nat.min_eq_left (by omega)] at this
  have e1 : cid L p = cid M p := by
    have := congrArg (List.take 4) h8
    rwa [List.take_take, List.take_take] at this
  have e2 : (L.drop (p + 4)).take 4 = (M.drop (p + 4)).take 4 := by
    have := congrArg (List.drop 4) h8
    rwa [List.drop_take, List.drop_take, List.drop_drop, List.drop_drop] at this
  have e3 : csz L p = csz M p := by unfold csz; rw [e2]
  unfold at8 nxt
  rw [e1, e3]
  exact ⟨rfl, rfl⟩

/-- A text that is another one's up to the end of its k-th chunk has the chunks ahead. -/
theorem chain_cut (L M : List UInt8) : ∀ (k : Nat) (cs : List Ch) (p : Nat), chain L p cs → k ≤ cs.length → M.length = stop L k p → (M.drop p).take (stop L k p - p) = (L.drop p).take (stop L k p - p) → chain M p (cs.take k)
  | 0, cs, p, _, _, hM, _ => by rw [List.take_zero]; exact hM.symm
  | k + 1, [], _, _, hk, _, _ => by simp at hk
  | k + 1, c :: r, p, ⟨h1, h2, h3⟩, hk, hM, hd => by
    have hn := nxt_gt L p
    have hs : nxt L p ≤ stop L k (nxt L p) := stop_ge L k _
    change M.length = stop L k (nxt L p) at hM
    change (M.drop p).take (stop L k (nxt L p) - p) = (L.drop p).take (stop L k (nxt L p) - p) at hd
    obtain ⟨q1, q2⟩ := at8_same (e := stop L k (nxt L p)) (by omega) hd.symm
    rw [List.take_succ_cons]
    refine ⟨h1.trans q1, by rw [← q2]; omega, ?_⟩
    rw [← q2]
    refine chain_cut L M k r (nxt L p) h3 (by simpa using hk) hM ?_
    have := congrArg (List.drop (nxt L p - p)) hd
    rw [List.drop_take, List.drop_take, List.drop_drop, List.drop_drop, show p + (nxt L p - p) = nxt L p by omega] at this
    rwa [show stop L k (nxt L p) - p - (nxt L p - p) = stop L k (nxt L p) - nxt L p by omega] at this

/-- Is the text such a file, ahead of its chunks? -/
def isWav (L : List UInt8) : Bool := decide (12 ≤ L.length) && (decide (L.length ≤ 4096) && (decide (L.take 4 = [82, 73, 70, 70]) && (decide (num ((L.drop 4).take 4) = ((L.length - 8 : Nat) : Int)) && decide ((L.drop 8).take 4 = [87, 65, 86, 69]))))
def chunks (L : List UInt8) : Option (List Ch) := if isWav L then run L 12 [] else none
def ansC (L : List UInt8) : List Ch := (chunks L).getD []
def errC (L : List UInt8) : Int := match chunks L with | some _ => 0 | none => 2000

theorem ans_some {L : List UInt8} {cs : List Ch} (h : chunks L = some cs) : ansC L = cs ∧ errC L = 0 := by unfold ansC errC; rw [h]; exact ⟨rfl, rfl⟩
theorem ans_none {L : List UInt8} (h : chunks L = none) : ansC L = [] ∧ errC L = 2000 := by unfold ansC errC; rw [h]; exact ⟨rfl, rfl⟩
theorem chunks_chain {L : List UInt8} {cs : List Ch} (h : chunks L = some cs) : isWav L = true ∧ chain L 12 cs ∧ cs.length ≤ 64 := by
  unfold chunks at h
  cases hw : isWav L
  · rw [hw] at h; cases h
  · rw [hw] at h
    have h12 : 12 ≤ L.length := by
      unfold isWav at hw
      rw [Bool.and_eq_true, decide_eq_true_eq] at hw
      exact hw.1
    obtain ⟨cs', h1, h2, h3⟩ := run_chain L _ 12 [] cs (Nat.le_refl _) h12 (by simp) h
    rw [List.nil_append] at h1
    subst h1
    exact ⟨rfl, h2, by simpa using h3⟩

theorem stop_succ (L : List UInt8) : ∀ k p, stop L (k + 1) p = nxt L (stop L k p)
  | 0, _ => rfl
  | k + 1, p => stop_succ L k (nxt L p)
theorem chain_at (L : List UInt8) : ∀ (k : Nat) (cs : List Ch) (p : Nat), chain L p cs → k < cs.length → cs.getD k ([], 0, 0) = at8 L (stop L k p) ∧ nxt L (stop L k p) ≤ L.length
  | 0, c :: r, p, ⟨h1, h2, _⟩, _ => ⟨h1, h2⟩
  | k + 1, c :: r, p, ⟨_, _, h3⟩, hk => by
    have := chain_at L k r (nxt L p) h3 (by simpa using hk)
    exact this
  | _, [], _, _, hk => by simp at hk
theorem chain_end (L : List UInt8) : ∀ (cs : List Ch) (p : Nat), chain L p cs → stop L cs.length p = L.length
  | [], _, h => h
  | c :: r, p, ⟨_, _, h3⟩ => chain_end L r (nxt L p) h3

end Go.Proofs.Ythbjjjpleongbaa.Chk
