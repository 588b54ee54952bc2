/-
  Plain facts on a file of one channel of 8 bits, whatever its samples, its rates and its last byte: its parts. No condition.
-/
import Derived.Test.YthbjjjpleongbaaWvAwake
namespace Go.Proofs.Ythbjjjpleongbaa.Wav
open Go.RowKit Go.Sort Go.Proofs.Ythbjjjpleongbaa.Mod Go.Proofs.Ythbjjjpleongbaa.Num Go.Proofs.Ythbjjjpleongbaa.Chk
open Go.Proofs.Ythbjjjpleongbaa.Pcm (okF)
set_option linter.unusedVariables false

theorem num_l4 (n : Nat) (h : n < 4294967296) : num (l4 n) = (n : Int) := by
  unfold l4
  simp only [num, UInt8.toNat_ofNat']
  omega
theorem pad_length (D : List UInt8) : (pad D).length = D.length % 2 := by
  unfold pad
  split <;> simp <;> omega

/-- A chunk that begins at p. -/
theorem at_head {F rest : List UInt8} {p z : Nat} {a b c d s0 s1 s2 s3 : UInt8} (h : F.drop p = a :: b :: c :: d :: s0 :: s1 :: s2 :: s3 :: rest) (hz : num [s0, s1, s2, s3] = (z : Int)) (hr : z + z % 2 ≤ rest.length) :
    at8 F p = ([a, b, c, d], p + 8, z) ∧ nxt F p = p + 8 + z + z % 2 ∧ nxt F p ≤ F.length ∧ p < F.length := by
  have hl : F.length - p = rest.length + 8 := by rw [← List.length_drop, h]; simp
  have e1 : cid F p = [a, b, c, d] := by unfold cid; rw [h]; rfl
  have e2 : (F.drop (p + 4)).take 4 = [s0, s1, s2, s3] := by rw [← List.drop_drop, h]; rfl
  have e3 : csz F p = z := by unfold csz; rw [e2, hz]; rfl
  have e4 : nxt F p = p + 8 + z + z % 2 := by unfold nxt whole; rw [e3]; omega
  exact ⟨by unfold at8; rw [e1, e3], e4, by omega, by omega⟩

/-- The file, whatever its rates R and its last byte q. -/
def tailA (q : UInt8) : List UInt8 := [109, 111, 114, 101, 3, 0, 0, 0, 97, 98, 99, q]
def restA (D : List UInt8) (q : UInt8) : List UInt8 := D ++ (pad D ++ tailA q)
def filA (n : Nat) (D : List UInt8) (r0 r1 r2 r3 r4 r5 r6 r7 q : UInt8) : List UInt8 :=
  82 :: 73 :: 70 :: 70 :: UInt8.ofNat (n % 256) :: UInt8.ofNat (n / 256 % 256) :: UInt8.ofNat (n / 65536 % 256) :: UInt8.ofNat (n / 16777216 % 256) :: 87 :: 65 :: 86 :: 69 :: 102 :: 109 :: 116 :: 32 :: 16 :: 0 :: 0 :: 0 :: 1 :: 0 :: 1 :: 0 :: r0 :: r1 :: r2 :: r3 :: r4 :: r5 :: r6 :: r7 :: 1 :: 0 :: 8 :: 0 :: 100 :: 97 :: 116 :: 97 :: UInt8.ofNat (D.length % 256) :: UInt8.ofNat (D.length / 256 % 256) :: UInt8.ofNat (D.length / 65536 % 256) :: UInt8.ofNat (D.length / 16777216 % 256) :: restA D q

theorem restA_length (D : List UInt8) (q : UInt8) : (restA D q).length = D.length + D.length % 2 + 12 := by
  unfold restA tailA
  rw [List.length_append, List.length_append, pad_length]
  simp
  omega
theorem filA_length (n : Nat) (D : List UInt8) (r0 r1 r2 r3 r4 r5 r6 r7 q : UInt8) : (filA n D r0 r1 r2 r3 r4 r5 r6 r7 q).length = D.length + D.length % 2 + 56 := by
  unfold filA
  simp only [List.length_cons, restA_length]

theorem parse_any (D : List UInt8) (hD : D.length + D.length % 2 + 56 ≤ 4096) (n : Nat) (hn : n = D.length + D.length % 2 + 48) (r0 r1 r2 r3 r4 r5 r6 r7 q : UInt8) :
    parse (filA n D r0 r1 r2 r3 r4 r5 r6 r7 q) = some (1, 8, (filA n D r0 r1 r2 r3 r4 r5 r6 r7 q).take 44, D, (filA n D r0 r1 r2 r3 r4 r5 r6 r7 q).drop (44 + D.length)) := by
  have hl := filA_length n D r0 r1 r2 r3 r4 r5 r6 r7 q
  have hr := restA_length D q
  obtain ⟨F, hF⟩ : ∃ F, filA n D r0 r1 r2 r3 r4 r5 r6 r7 q = F := ⟨_, rfl⟩
  have hw : isWav F = true := by
    unfold isWav
    simp only [Bool.and_eq_true, decide_eq_true_eq]
    rw [← hF, hl]
    refine ⟨by omega, hD, rfl, ?_, rfl⟩
    show num (l4 n) = _
    rw [num_l4 n (by omega), hn]
    congr 1
  have d12 : F.drop 12 = 102 :: 109 :: 116 :: 32 :: 16 :: 0 :: 0 :: 0 :: (1 :: 0 :: 1 :: 0 :: r0 :: r1 :: r2 :: r3 :: r4 :: r5 :: r6 :: r7 :: 1 :: 0 :: 8 :: 0 :: 100 :: 97 :: 116 :: 97 :: UInt8.ofNat (D.length % 256) :: UInt8.ofNat (D.length / 256 % 256) :: UInt8.ofNat (D.length / 65536 % 256) :: UInt8.ofNat (D.length / 16777216 % 256) :: restA D q) := by rw [← hF]; rfl
  have d36 : F.drop 36 = 100 :: 97 :: 116 :: 97 :: UInt8.ofNat (D.length % 256) :: UInt8.ofNat (D.length / 256 % 256) :: UInt8.ofNat (D.length / 65536 % 256) :: UInt8.ofNat (D.length / 16777216 % 256) :: restA D q := by rw [← hF]; rfl
  have d44 : F.drop 44 = restA D q := by rw [← hF]; rfl
  have dq : F.drop (44 + D.length + D.length % 2) = tailA q := by
    rw [show 44 + D.length + D.length % 2 = 44 + (D.length + D.length % 2) by omega, ← List.drop_drop, d44]
    unfold restA
    rw [← List.append_assoc, show D.length + D.length % 2 = (D ++ pad D).length by rw [List.length_append, pad_length], List.drop_left]
  obtain ⟨a1, a2, a3, a4⟩ := at_head d12 (z := 16) (by decide) (by simp only [List.length_cons]; omega)
  obtain ⟨b1, b2, b3, b4⟩ := at_head d36 (z := D.length) (by exact num_l4 D.length (by omega)) (by omega)
  obtain ⟨c1, c2, c3, c4⟩ := at_head (F := F) (p := 44 + D.length + D.length % 2) (z := 3) (rest := [97, 98, 99, q]) dq (by decide) (by simp)
  have hlF : F.length = D.length + D.length % 2 + 56 := by rw [← hF]; exact hl
  have hch : chunks F = some [([102, 109, 116, 32], 20, 16), ([100, 97, 116, 97], 44, D.length), ([109, 111, 114, 101], 44 + D.length + D.length % 2 + 8, 3)] := by
    unfold chunks
    rw [if_pos hw]
    have hc : chain F 12 [([102, 109, 116, 32], 20, 16), ([100, 97, 116, 97], 44, D.length), ([109, 111, 114, 101], 44 + D.length + D.length % 2 + 8, 3)] := by
      refine ⟨a1.symm, a3, ?_⟩
      rw [a2]
      refine ⟨b1.symm, b3, ?_⟩
      rw [show 12 + 8 + 16 + 16 % 2 = 36 from rfl, b2]
      refine ⟨?_, ?_, ?_⟩
      · rw [show 36 + 8 + D.length + D.length % 2 = 44 + D.length + D.length % 2 by omega]; exact c1.symm
      · rw [show 36 + 8 + D.length + D.length % 2 = 44 + D.length + D.length % 2 by omega]; exact c3
      · show nxt F (36 + 8 + D.length + D.length % 2) = F.length
        rw [show 36 + 8 + D.length + D.length % 2 = 44 + D.length + D.length % 2 by omega, c2]
        omega
    exact chain_run F _ 12 [] hc (by simp)
  have hp : picks [([102, 109, 116, 32], 20, 16), ([100, 97, 116, 97], 44, D.length), ([109, 111, 114, 101], 44 + D.length + D.length % 2 + 8, 3)] 0 none none = some (some 0, some 1) := by
    rw [picks_fm rfl]
    show picks _ 1 (some 0) none = _
    rw [picks_dt rfl]
    show picks _ 2 (some 0) (some 1) = _
    rw [picks_no (c := ([109, 111, 114, 101], 44 + D.length + D.length % 2 + 8, 3)) (show ([109, 111, 114, 101] : List UInt8) ≠ fm by decide) (show ([109, 111, 114, 101] : List UInt8) ≠ dt by decide)]
    rfl
  rw [hF]
  unfold parse
  rw [hch]
  show fitS F _ (picks _ 0 none none) = _
  rw [hp]
  show fitP F ([102, 109, 116, 32], 20, 16) ([100, 97, 116, 97], 44, D.length) = _
  have t20 : two F 20 = 1 := by rw [← hF]; rfl
  have t22 : two F 22 = 1 := by rw [← hF]; rfl
  have t34 : two F 34 = 8 := by rw [← hF]; rfl
  have t32 : two F 32 = 1 := by rw [← hF]; rfl
  have hd : (F.drop 44).take D.length = D := by
    rw [d44]
    unfold restA
    exact List.take_left
  unfold fitP
  show (if (16 : Nat) = 16 ∧ two F 20 = 1 ∧ okF (two F 22) (two F 34) = true ∧ two F 32 = two F 22 * two F 34 / 8 ∧ (D.length : Int) % (two F 22 * two F 34 / 8) = 0 then some (two F 22, two F 34, F.take 44, (F.drop 44).take D.length, F.drop (44 + D.length)) else none) = _
  rw [t20, t22, t34, t32, hd]
  rw [if_pos ⟨rfl, rfl, by decide, by decide, by omega⟩]

theorem filA_of (D : List UInt8) : fil_1_8 D = filA (D.length + D.length % 2 + 48) D 114 97 116 101 97 110 100 98 100 := by
  have hb : (bod_1_8 D).length = D.length + D.length % 2 + 48 := by
    unfold bod_1_8 l4 more
    simp only [List.length_append, pad_length, List.length_cons, List.length_nil]
    omega
  unfold fil_1_8
  rw [hb]
  rfl
theorem set_last (X : List UInt8) (a q : UInt8) : (X ++ [a]).set X.length q = X ++ [q] := by simp
theorem filA_last (n : Nat) (D : List UInt8) (r0 r1 r2 r3 r4 r5 r6 r7 a q : UInt8) : (filA n D r0 r1 r2 r3 r4 r5 r6 r7 a).set (D.length + D.length % 2 + 55) q = filA n D r0 r1 r2 r3 r4 r5 r6 r7 q := by
  have e : ∀ q, restA D q = (D ++ (pad D ++ [109, 111, 114, 101, 3, 0, 0, 0, 97, 98, 99])) ++ [q] := fun q => by unfold restA tailA; simp
  have hl : (D ++ (pad D ++ [109, 111, 114, 101, 3, 0, 0, 0, 97, 98, 99])).length = D.length + D.length % 2 + 11 := by
    rw [List.length_append, List.length_append, pad_length]; simp; omega
  have h : (restA D a).set (D.length + D.length % 2 + 11) q = restA D q := by
    rw [e a, e q, ← hl, set_last]
  unfold filA
  show 82 :: 73 :: 70 :: 70 :: UInt8.ofNat (n % 256) :: UInt8.ofNat (n / 256 % 256) :: UInt8.ofNat (n / 65536 % 256) :: UInt8.ofNat (n / 16777216 % 256) :: 87 :: 65 :: 86 :: 69 :: 102 :: 109 :: 116 :: 32 :: 16 :: 0 :: 0 :: 0 :: 1 :: 0 :: 1 :: 0 :: r0 :: r1 :: r2 :: r3 :: r4 :: r5 :: r6 :: r7 :: 1 :: 0 :: 8 :: 0 :: 100 :: 97 :: 116 :: 97 :: UInt8.ofNat (D.length % 256) :: UInt8.ofNat (D.length / 256 % 256) :: UInt8.ofNat (D.length / 65536 % 256) :: UInt8.ofNat (D.length / 16777216 % 256) :: (restA D a).set (D.length + D.length % 2 + 11) q = _
  rw [h]

end Go.Proofs.Ythbjjjpleongbaa.Wav
