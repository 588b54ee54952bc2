/-
  Plain facts on a file's samples: which chunks are theirs, what a file tells, what is built. No condition.
-/
import Derived.Test.YthbjjjpleongbaaChNum
import Derived.Test.YthbjjjpleongbaaPcNum
namespace Go.Proofs.Ythbjjjpleongbaa.Wav
open Go.Proofs.Ythbjjjpleongbaa.Num Go.Proofs.Ythbjjjpleongbaa.Chk
open Go.Proofs.Ythbjjjpleongbaa.Pcm (okF fC fQ okF_yes okF_nat)
set_option linter.unusedVariables false

def fm : List UInt8 := [102, 109, 116, 32]
def dt : List UInt8 := [100, 97, 116, 97]
/-- Which chunk is the format's, which the samples': none where there are too many, or in another row. -/
def picks : List Ch → Nat → Option Nat → Option Nat → Option (Option Nat × Option Nat)
  | [], _, f, s => some (f, s)
  | c :: r, i, f, s =>
    if c.1 = fm then (if f.isSome || s.isSome then none else picks r (i + 1) (some i) s)
    else if c.1 = dt then (if f.isNone || s.isSome then none else picks r (i + 1) f (some i))
    else picks r (i + 1) f s

/-- A file's parts: channels, bits, what is ahead, the samples' bytes, what is behind. -/
abbrev Wv := Int × Int × List UInt8 × List UInt8 × List UInt8
abbrev wv0 : Wv := (0, 0, [], [], [])
def two (L : List UInt8) (p : Nat) : Int := num ((L.drop p).take 2)
/-- What is told by these two chunks. -/
def fitP (L : List UInt8) (f d : Ch) : Option Wv :=
  if f.2.2 = 16 ∧ two L f.2.1 = 1 ∧ okF (two L (f.2.1 + 2)) (two L (f.2.1 + 14)) = true ∧ two L (f.2.1 + 12) = two L (f.2.1 + 2) * two L (f.2.1 + 14) / 8 ∧ (d.2.2 : Int) % (two L (f.2.1 + 2) * two L (f.2.1 + 14) / 8) = 0
  then some (two L (f.2.1 + 2), two L (f.2.1 + 14), L.take d.2.1, (L.drop d.2.1).take d.2.2, L.drop (d.2.1 + d.2.2)) else none
def fitS (L : List UInt8) (cs : List Ch) : Option (Option Nat × Option Nat) → Option Wv
  | some (some i, some j) => fitP L (cs.getD i ([], 0, 0)) (cs.getD j ([], 0, 0))
  | _ => none
def parse (L : List UInt8) : Option Wv := match chunks L with
  | none => none
  | some cs => fitS L cs (picks cs 0 none none)
def ansW (R : Option Wv) : Wv := R.getD wv0
def errW (R : Option Wv) : Int := match R with | some _ => 0 | none => 2100
def all (w : Wv) : List UInt8 := w.2.2.1 ++ (w.2.2.2.1 ++ w.2.2.2.2)
def build (w : Wv) : Option (List UInt8) := if parse (all w) = some w then some (all w) else none
def ansB (R : Option (List UInt8)) : List UInt8 := R.getD []
def errB (R : Option (List UInt8)) : Int := match R with | some _ => 0 | none => 2100

/-- One step. -/
theorem picks_fm {c : Ch} {r : List Ch} {i : Nat} {f s : Option Nat} (h : c.1 = fm) : picks (c :: r) i f s = if f.isSome || s.isSome then none else picks r (i + 1) (some i) s := by rw [picks, if_pos h]
theorem picks_dt {c : Ch} {r : List Ch} {i : Nat} {f s : Option Nat} (h : c.1 = dt) : picks (c :: r) i f s = if f.isNone || s.isSome then none else picks r (i + 1) f (some i) := by
  rw [picks, if_neg (by rw [h]; decide), if_pos h]
theorem picks_no {c : Ch} {r : List Ch} {i : Nat} {f s : Option Nat} (h1 : c.1 ≠ fm) (h2 : c.1 ≠ dt) : picks (c :: r) i f s = picks r (i + 1) f s := by rw [picks, if_neg h1, if_neg h2]
theorem drop_cons {cs : List Ch} {j : Nat} (h : j < cs.length) : cs.drop j = cs.getD j ([], 0, 0) :: cs.drop (j + 1) := by
  rw [List.drop_eq_getElem_cons h]
  simp [List.getD_eq_getElem?_getD, List.getElem?_eq_getElem h]

theorem parse_chunks {L : List UInt8} {w : Wv} (h : parse L = some w) : ∃ cs, chunks L = some cs ∧ fitS L cs (picks cs 0 none none) = some w := by
  unfold parse at h
  cases e : chunks L with
  | none => rw [e] at h; cases h
  | some cs => rw [e] at h; exact ⟨cs, rfl, h⟩
theorem parse_le {L : List UInt8} {w : Wv} (h : parse L = some w) : L.length ≤ 4096 := by
  obtain ⟨cs, h1, _⟩ := parse_chunks h
  have h2 := (chunks_chain h1).1
  unfold isWav at h2
  simp only [Bool.and_eq_true, decide_eq_true_eq] at h2
  exact h2.2.1
theorem fitP_some {L : List UInt8} {f d : Ch} {w : Wv} (h : fitP L f d = some w) : f.2.2 = 16 ∧ okF w.1 w.2.1 = true ∧ w = (two L (f.2.1 + 2), two L (f.2.1 + 14), L.take d.2.1, (L.drop d.2.1).take d.2.2, L.drop (d.2.1 + d.2.2)) := by
  unfold fitP at h
  split at h
  · rename_i q
    injection h with h
    subst h
    exact ⟨q.1, q.2.2.1, rfl⟩
  · cases h
/-- The parts one behind the other are the file. -/
theorem parse_all {L : List UInt8} {w : Wv} (h : parse L = some w) : all w = L := by
  obtain ⟨cs, _, h2⟩ := parse_chunks h
  cases e : picks cs 0 none none with
  | none => rw [e] at h2; cases h2
  | some p =>
    obtain ⟨f, s⟩ := p
    rw [e] at h2
    cases f with
    | none => cases h2
    | some i =>
      cases s with
      | none => cases h2
      | some j =>
        have := (fitP_some h2).2.2
        subst this
        unfold all
        show L.take _ ++ ((L.drop _).take _ ++ L.drop _) = L
        rw [← List.drop_drop, List.take_append_drop, List.take_append_drop]
theorem build_parse {L : List UInt8} {w : Wv} (h : parse L = some w) : build w = some L := by
  unfold build
  rw [parse_all h, if_pos h]
theorem build_some {w : Wv} {T : List UInt8} (h : build w = some T) : T = all w ∧ parse T = some w := by
  unfold build at h
  split at h
  · rename_i q
    injection h with h
    subst h
    exact ⟨rfl, q⟩
  · cases h

end Go.Proofs.Ythbjjjpleongbaa.Wav
