/-
  Plain facts on a file made of chunks of given sizes: its text, its chunks. No condition.
-/
import Derived.Test.YtabmhoiaeeneiaaRcForms
namespace Go.Proofs.Ytabmhoiaeeneiaa.Chk
open Go.RowKit Go.Sort Go.Proofs.Ytabmhoiaeeneiaa.Mod Go.Proofs.Ytabmhoiaeeneiaa.Num
set_option linter.unusedVariables false
set_option linter.unusedSimpArgs false

def nm : List UInt8 := [97, 98, 99, 100]
def dg : List UInt8 := [48, 49, 50, 51, 52, 53, 54]
/-- One chunk's bytes. -/
def bod (z : Nat) : List UInt8 := nm ++ [UInt8.ofNat z, 0, 0, 0] ++ dg.take z ++ (if z % 2 = 1 then [63] else [])
/-- The text of i chunks, and what is told of them. -/
def txtM (f : Nat → Nat) : Nat → List UInt8
  | 0 => [87, 65, 86, 69]
  | i + 1 => txtM f i ++ bod (f i)
def wanM (f : Nat → Nat) : Nat → List Ch
  | 0 => []
  | i + 1 => wanM f i ++ [(nm, (txtM f i).length + 16, f i)]
theorem wanM_length (f : Nat → Nat) : ∀ i, (wanM f i).length = i
  | 0 => rfl
  | i + 1 => by rw [wanM, List.length_append, wanM_length f i]; rfl
theorem bod_length (z : Nat) (h : z ≤ 7) : (bod z).length = 8 + z + z % 2 := by
  have : z = 0 ∨ z = 1 ∨ z = 2 ∨ z = 3 ∨ z = 4 ∨ z = 5 ∨ z = 6 ∨ z = 7 := by omega
  rcases this with rfl | rfl | rfl | rfl | rfl | rfl | rfl | rfl <;> rfl
theorem txtM_length (f : Nat → Nat) (hf : ∀ i, f i ≤ 7) : ∀ i, 4 + 8 * i ≤ (txtM f i).length ∧ (txtM f i).length ≤ 4 + 16 * i
  | 0 => ⟨Nat.le_refl _, Nat.le_refl _⟩
  | i + 1 => by
    obtain ⟨h1, h2⟩ := txtM_length f hf i
    have h3 := hf i
    rw [txtM, List.length_append, bod_length _ (hf i)]
    omega
theorem txtM_pre (f : Nat → Nat) : ∀ (k j : Nat), ∃ X, txtM f (j + k) = txtM f j ++ X
  | 0, j => ⟨[], by simp⟩
  | k + 1, j => by
    obtain ⟨X, hX⟩ := txtM_pre f k j
    exact ⟨X ++ bod (f (j + k)), by rw [← Nat.add_assoc, txtM, hX, List.append_assoc]⟩

/-- A chunk that begins at p. -/
theorem at_bod (F rest : List UInt8) (p z : Nat) (hz : z ≤ 7) (h : F.drop p = bod z ++ rest) : at8 F p = (nm, p + 8, z) ∧ nxt F p = p + (bod z).length ∧ nxt F p ≤ F.length ∧ p < F.length := by
  have hb := bod_length z hz
  have hl : F.length - p = (bod z).length + rest.length := by rw [← List.length_append, ← h, List.length_drop]
  have e1 : cid F p = nm := by unfold cid; rw [h]; rfl
  have e2 : (F.drop (p + 4)).take 4 = [UInt8.ofNat z, 0, 0, 0] := by rw [← List.drop_drop, h]; rfl
  have e3 : csz F p = z := by
    unfold csz
    rw [e2]
    simp only [num]
    rw [UInt8.toNat_ofNat', Nat.mod_eq_of_lt (by omega)]
    have : (0 : UInt8).toNat = 0 := rfl
    omega
  have e4 : nxt F p = p + (bod z).length := by unfold nxt whole; rw [e3, hb]; omega
  refine ⟨by unfold at8; rw [e1, e3], e4, by omega, by omega⟩

/-- The file. -/
def filM (n : Nat) (T : List UInt8) : List UInt8 := [82, 73, 70, 70] ++ [UInt8.ofNat (n % 256), UInt8.ofNat (n / 256), 0, 0] ++ T

theorem filM_wav (T X : List UInt8) (hT : T = [87, 65, 86, 69] ++ X) (hl : T.length ≤ 4088) : isWav (filM T.length T) = true := by
  unfold isWav filM
  simp only [Bool.and_eq_true, decide_eq_true_eq]
  have l1 : ([82, 73, 70, 70] ++ [UInt8.ofNat (T.length % 256), UInt8.ofNat (T.length / 256), 0, 0] ++ T).length = T.length + 8 := by simp
  have l2 : 4 ≤ T.length := by rw [hT]; simp
  rw [l1]
  refine ⟨by omega, by omega, rfl, ?_, ?_⟩
  · show num [UInt8.ofNat (T.length % 256), UInt8.ofNat (T.length / 256), 0, 0] = _
    simp only [num]
    rw [UInt8.toNat_ofNat', UInt8.toNat_ofNat']
    have : (0 : UInt8).toNat = 0 := rfl
    omega
  · show T.take 4 = _
    rw [hT]; rfl

theorem run_many (f : Nat → Nat) (hf : ∀ i, f i ≤ 7) (k : Nat) : ∀ j, j ≤ k → j ≤ 64 → run (filM (txtM f k).length (txtM f k)) 12 [] = run (filM (txtM f k).length (txtM f k)) ((txtM f j).length + 8) (wanM f j)
  | 0, _, _ => rfl
  | j + 1, hk, h64 => by
    rw [run_many f hf k j (by omega) (by omega)]
    obtain ⟨X, hX⟩ := txtM_pre f (k - (j + 1)) (j + 1)
    rw [show j + 1 + (k - (j + 1)) = k by omega, txtM, List.append_assoc] at hX
    have hd : (filM (txtM f k).length (txtM f k)).drop ((txtM f j).length + 8) = bod (f j) ++ X := by
      show (txtM f k).drop ((txtM f j).length) = _
      rw [hX, List.drop_left]
    obtain ⟨e1, e2, e3, e4⟩ := at_bod _ _ _ _ (hf j) hd
    rw [run_on _ _ _ e4 (no_bad (by rw [wanM_length]; omega) e3), e1, e2]
    rw [txtM, wanM, List.length_append]
    congr 1
    omega

theorem chunks_few (f : Nat → Nat) (hf : ∀ i, f i ≤ 7) (k : Nat) (hk : k ≤ 64) : chunks (filM (txtM f k).length (txtM f k)) = some (wanM f k) := by
  obtain ⟨X, hX⟩ := txtM_pre f k 0
  rw [Nat.zero_add] at hX
  have h2 := (txtM_length f hf k).2
  unfold chunks
  rw [if_pos (filM_wav _ X hX (by omega)), run_many f hf k k (Nat.le_refl _) hk]
  refine run_end _ _ _ ?_
  unfold filM
  simp
theorem chunks_lots (f : Nat → Nat) (hf : ∀ i, f i ≤ 7) (k : Nat) (hk : 64 < k) (hk2 : k ≤ 127) : chunks (filM (txtM f k).length (txtM f k)) = none := by
  obtain ⟨X, hX⟩ := txtM_pre f k 0
  rw [Nat.zero_add] at hX
  have h2 := (txtM_length f hf k).2
  unfold chunks
  rw [if_pos (filM_wav _ X hX (by omega)), run_many f hf k 64 (by omega) (Nat.le_refl _)]
  obtain ⟨Y, hY⟩ := txtM_pre f (k - 65) 65
  rw [show 65 + (k - 65) = k by omega] at hY
  have h3 : (txtM f 65).length ≤ (txtM f k).length := by rw [hY]; simp
  have h4 : (txtM f 65).length = (txtM f 64).length + (bod (f 64)).length := by rw [txtM, List.length_append]
  have h5 := bod_length (f 64) (hf 64)
  refine run_bad _ _ _ ?_ ?_
  · unfold filM
    simp
    omega
  · unfold bad
    rw [wanM_length]
    simp

end Go.Proofs.Ytabmhoiaeeneiaa.Chk
