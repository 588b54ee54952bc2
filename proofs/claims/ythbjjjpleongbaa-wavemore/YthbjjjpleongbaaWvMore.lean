/-
  Plain facts on a file with one chunk more behind, its size told anew: its parts. No condition.
-/
import Derived.Test.YthbjjjpleongbaaWvAny
namespace Go.Proofs.Ythbjjjpleongbaa.Wav
open Go.RowKit Go.Sort Go.Proofs.Ythbjjjpleongbaa.Mod Go.Proofs.Ythbjjjpleongbaa.Num Go.Proofs.Ythbjjjpleongbaa.Chk
open Go.Proofs.Ythbjjjpleongbaa.Pcm (okF)
set_option linter.unusedVariables false

theorem picks_more (c : Ch) (h1 : c.1 ≠ fm) (h2 : c.1 ≠ dt) : ∀ (cs : List Ch) (i : Nat) (f s : Option Nat), picks (cs ++ [c]) i f s = picks cs i f s
  | [], i, f, s => by rw [List.nil_append, picks_no h1 h2]; rfl
  | d :: r, i, f, s => by
    rw [List.cons_append]
    by_cases e1 : d.1 = fm
    · rw [picks_fm e1, picks_fm e1, picks_more c h1 h2 r]
    · by_cases e2 : d.1 = dt
      · rw [picks_dt e2, picks_dt e2, picks_more c h1 h2 r]
      · rw [picks_no e1 e2, picks_no e1 e2, picks_more c h1 h2 r]
theorem picks_lt : ∀ (cs : List Ch) (i : Nat) (f s : Option Nat) (a b : Nat), (∀ k, f = some k → k < i + cs.length) → (∀ k, s = some k → k < i + cs.length) → picks cs i f s = some (some a, some b) → a < i + cs.length ∧ b < i + cs.length
  | [], i, f, s, a, b, hf, hs, h => by
    injection h with h
    injection h with h1 h2
    exact ⟨hf a h1, hs b h2⟩
  | d :: r, i, f, s, a, b, hf, hs, h => by
    rw [List.length_cons] at hf hs ⊢
    by_cases e1 : d.1 = fm
    · rw [picks_fm e1] at h
      split at h
      · cases h
      · have := picks_lt r (i + 1) (some i) s a b (fun k hk => by injection hk with hk; omega) (fun k hk => by have := hs k hk; omega) h
        omega
    · by_cases e2 : d.1 = dt
      · rw [picks_dt e2] at h
        split at h
        · cases h
        · have := picks_lt r (i + 1) f (some i) a b (fun k hk => by have := hf k hk; omega) (fun k hk => by injection hk with hk; omega) h
          omega
      · rw [picks_no e1 e2] at h
        have := picks_lt r (i + 1) f s a b (fun k hk => by have := hf k hk; omega) (fun k hk => by have := hs k hk; omega) h
        omega

/-- One chunk more. -/
def moB (K : Nat) : List UInt8 := 97 :: 98 :: 99 :: 100 :: (l4 K ++ List.replicate K 0)
def filM (L : List UInt8) (n : Nat) (K : Nat) : List UInt8 := 82 :: 73 :: 70 :: 70 :: UInt8.ofNat (n % 256) :: UInt8.ofNat (n / 256 % 256) :: UInt8.ofNat (n / 65536 % 256) :: UInt8.ofNat (n / 16777216 % 256) :: (L.drop 8 ++ moB K)
theorem moB_length (K : Nat) : (moB K).length = 8 + K := by
  unfold moB l4
  simp only [List.length_cons, List.length_append, List.length_nil, List.length_replicate]
  omega
theorem filM_length (L : List UInt8) (n K : Nat) (h : 8 ≤ L.length) : (filM L n K).length = L.length + 8 + K := by
  unfold filM
  simp only [List.length_cons, List.length_append, List.length_drop, moB_length]
  omega
theorem filM_drop (L : List UInt8) (n K p : Nat) (h8 : 8 ≤ p) (hp : p ≤ L.length) : (filM L n K).drop p = L.drop p ++ moB K := by
  have e : (filM L n K).drop 8 = L.drop 8 ++ moB K := rfl
  rw [show p = 8 + (p - 8) by omega, ← List.drop_drop, e, List.drop_append_of_le_length (by rw [List.length_drop]; omega), List.drop_drop]
theorem filM_take (L : List UInt8) (n K q : Nat) (h8 : 8 ≤ q) (hq : q ≤ L.length) : ((filM L n K).take q).drop 8 = (L.take q).drop 8 ∧ ((filM L n K).take q).length = q := by
  refine ⟨?_, by rw [List.length_take, filM_length L n K (by omega)]; omega⟩
  rw [List.drop_take, List.drop_take, filM_drop L n K 8 (by omega) (by omega), List.take_append_of_le_length (by rw [List.length_drop]; omega)]
theorem filM_mid (L : List UInt8) (n K p k : Nat) (h8 : 8 ≤ p) (hp : p + k ≤ L.length) : ((filM L n K).drop p).take k = (L.drop p).take k := by
  rw [filM_drop L n K p h8 (by omega), List.take_append_of_le_length (by rw [List.length_drop]; omega)]
theorem two_more (L : List UInt8) (n K p : Nat) (h8 : 8 ≤ p) (hp : p + 2 ≤ L.length) : two (filM L n K) p = two L p := by unfold two; rw [filM_mid L n K p 2 h8 hp]

theorem chain_more (L : List UInt8) (n K : Nat) (hK : K ≤ 14) (hK2 : K % 2 = 0) (h8 : 8 ≤ L.length) : ∀ (cs : List Ch) (p : Nat), 8 ≤ p → chain L p cs → chain (filM L n K) p (cs ++ [([97, 98, 99, 100], L.length + 8, K)])
  | [], p, hp, h => by
    have hpl : p = L.length := h
    subst hpl
    have hd : (filM L n K).drop L.length = 97 :: 98 :: 99 :: 100 :: UInt8.ofNat (K % 256) :: UInt8.ofNat (K / 256 % 256) :: UInt8.ofNat (K / 65536 % 256) :: UInt8.ofNat (K / 16777216 % 256) :: List.replicate K 0 := by
      rw [filM_drop L n K _ h8 (Nat.le_refl _), List.drop_length]
      rfl
    obtain ⟨a1, a2, a3, a4⟩ := at_head hd (z := K) (num_l4 K (by omega)) (by rw [List.length_replicate]; omega)
    refine ⟨a1.symm, a3, ?_⟩
    show nxt _ _ = _
    rw [a2, filM_length L n K h8]
    omega
  | c :: r, p, hp, ⟨h1, h2, h3⟩ => by
    have hn := nxt_gt L p
    obtain ⟨q1, q2⟩ := at8_same (L := L) (M := filM L n K) (p := p) (e := p + 8) (Nat.le_refl _) (by rw [filM_mid L n K p _ hp (by omega)])
    refine ⟨h1.trans q1, ?_, ?_⟩
    · rw [← q2, filM_length L n K h8]; omega
    · rw [← q2]
      exact chain_more L n K hK hK2 h8 r _ (by omega) h3

theorem parse_more (L : List UInt8) (A : List Ch) (hA : chunks L = some A) (c b : Int) (H D T : List UInt8) (h : parse L = some (c, b, H, D, T)) (hl : L.length ≤ 4056) (h64 : A.length < 64) (K : Nat) (hK : K ≤ 14) (hK2 : K % 2 = 0) :
    ∃ H', parse (filM L (L.length + K) K) = some (c, b, H', D, T ++ moB K) ∧ H'.length = H.length ∧ H'.drop 8 = H.drop 8 ∧ 12 ≤ H.length := by
  obtain ⟨hw, hc, _⟩ := chunks_chain hA
  have h12 : 12 ≤ L.length ∧ num ((L.drop 4).take 4) = ((L.length - 8 : Nat) : Int) ∧ (L.drop 8).take 4 = [87, 65, 86, 69] := by
    unfold isWav at hw
    simp only [Bool.and_eq_true, decide_eq_true_eq] at hw
    exact ⟨hw.1, hw.2.2.2.1, hw.2.2.2.2⟩
  have hlen := filM_length L (L.length + K) K (by omega)
  obtain ⟨F, hF⟩ : ∃ F, filM L (L.length + K) K = F := ⟨_, rfl⟩
  have hw2 : isWav F = true := by
    unfold isWav
    simp only [Bool.and_eq_true, decide_eq_true_eq]
    rw [← hF, hlen]
    refine ⟨by omega, by omega, rfl, ?_, ?_⟩
    · show num (l4 (L.length + K)) = _
      rw [num_l4 _ (by omega)]
      congr 1
      omega
    · rw [filM_mid L _ K 8 4 (by omega) (by omega)]; exact h12.2.2
  have hch : chunks F = some (A ++ [([97, 98, 99, 100], L.length + 8, K)]) := by
    unfold chunks
    rw [if_pos hw2]
    exact chain_run F _ 12 [] (by rw [← hF]; exact chain_more L _ K hK hK2 (by omega) A 12 (by omega) hc) (by simp; omega)
  obtain ⟨A', hA', hfit⟩ := parse_chunks h
  rw [hA] at hA'
  injection hA' with hA'
  subst hA'
  cases hp : picks A 0 none none with
  | none => rw [hp] at hfit; cases hfit
  | some pr =>
    obtain ⟨fo, so⟩ := pr
    rw [hp] at hfit
    cases fo with
    | none => cases hfit
    | some i =>
      cases so with
      | none => cases hfit
      | some j =>
        obtain ⟨hi, hj⟩ := picks_lt A 0 none none i j (fun k hk => by cases hk) (fun k hk => by cases hk) hp
        rw [Nat.zero_add] at hi hj
        obtain ⟨ei, li⟩ := chain_at L i A 12 hc hi
        obtain ⟨ej, lj⟩ := chain_at L j A 12 hc hj
        have hfit2 : fitP L (at8 L (stop L i 12)) (at8 L (stop L j 12)) = some (c, b, H, D, T) := by rw [← ei, ← ej]; exact hfit
        have gi := stop_ge L i 12
        have gj := stop_ge L j 12
        have hp2 : picks (A ++ [([97, 98, 99, 100], L.length + 8, K)]) 0 none none = some (some i, some j) := by
          rw [picks_more _ (show ([97, 98, 99, 100] : List UInt8) ≠ fm by decide) (show ([97, 98, 99, 100] : List UInt8) ≠ dt by decide)]; exact hp
        have gi2 : (A ++ [([97, 98, 99, 100], L.length + 8, K)]).getD i ([], 0, 0) = at8 L (stop L i 12) := by
          rw [List.getD_eq_getElem?_getD, List.getElem?_append_left hi, ← List.getD_eq_getElem?_getD]; exact ei
        have gj2 : (A ++ [([97, 98, 99, 100], L.length + 8, K)]).getD j ([], 0, 0) = at8 L (stop L j 12) := by
          rw [List.getD_eq_getElem?_getD, List.getElem?_append_left hj, ← List.getD_eq_getElem?_getD]; exact ej
        generalize stop L i 12 = pi at *
        generalize stop L j 12 = pj at *
        have ui : pi + 8 + csz L pi ≤ L.length := by unfold nxt whole at li; omega
        have uj : pj + 8 + csz L pj ≤ L.length := by unfold nxt whole at lj; omega
        obtain ⟨s16, ok, eq⟩ := fitP_some hfit2
        have s16' : csz L pi = 16 := s16
        rw [s16'] at ui
        obtain ⟨d1, d2⟩ := filM_take L (L.length + K) K (pj + 8) (by omega) (by omega)
        have hq : (c, b, H, D, T) = (two L (pi + 8 + 2), two L (pi + 8 + 14), L.take (pj + 8), (L.drop (pj + 8)).take (csz L pj), L.drop (pj + 8 + csz L pj)) := eq
        have hH : H = L.take (pj + 8) := congrArg (fun x : Wv => x.2.2.1) hq
        refine ⟨F.take (pj + 8), ?_, by rw [← hF, d2, hH, List.length_take]; omega, by rw [← hF, d1, hH], by rw [hH, List.length_take]; omega⟩
        rw [hF]
        unfold parse
        rw [hch]
        show fitS F _ (picks _ 0 none none) = _
        rw [hp2]
        show fitP F ((A ++ [([97, 98, 99, 100], L.length + 8, K)]).getD i ([], 0, 0)) ((A ++ [([97, 98, 99, 100], L.length + 8, K)]).getD j ([], 0, 0)) = _
        rw [gi2, gj2]
        unfold fitP at hfit2 ⊢
        have w1 : ∀ x, x ≤ 14 → two F (pi + 8 + x) = two L (pi + 8 + x) := fun x hx => by rw [← hF]; exact two_more L _ K _ (by omega) (by omega)
        have w0 := w1 0 (by omega)
        rw [Nat.add_zero] at w0
        show (if csz L pi = 16 ∧ two F (pi + 8) = 1 ∧ okF (two F (pi + 8 + 2)) (two F (pi + 8 + 14)) = true ∧ two F (pi + 8 + 12) = two F (pi + 8 + 2) * two F (pi + 8 + 14) / 8 ∧ (csz L pj : Int) % (two F (pi + 8 + 2) * two F (pi + 8 + 14) / 8) = 0 then some (two F (pi + 8 + 2), two F (pi + 8 + 14), F.take (pj + 8), (F.drop (pj + 8)).take (csz L pj), F.drop (pj + 8 + csz L pj)) else none) = _
        rw [w0, w1 2 (by omega), w1 14 (by omega), w1 12 (by omega)]
        split at hfit2
        · rename_i cond
          have cond2 : csz L pi = 16 ∧ two L (pi + 8) = 1 ∧ okF (two L (pi + 8 + 2)) (two L (pi + 8 + 14)) = true ∧ two L (pi + 8 + 12) = two L (pi + 8 + 2) * two L (pi + 8 + 14) / 8 ∧ (csz L pj : Int) % (two L (pi + 8 + 2) * two L (pi + 8 + 14) / 8) = 0 := cond
          have e1 : (F.drop (pj + 8)).take (csz L pj) = (L.drop (pj + 8)).take (csz L pj) := by rw [← hF]; exact filM_mid L _ K _ _ (by omega) uj
          have e2 : F.drop (pj + 8 + csz L pj) = L.drop (pj + 8 + csz L pj) ++ moB K := by rw [← hF]; exact filM_drop L _ K _ (by omega) uj
          rw [if_pos cond2, e1, e2]
          have q1 := congrArg (fun x : Wv => x.1) hq
          have q2 := congrArg (fun x : Wv => x.2.1) hq
          have q3 := congrArg (fun x : Wv => x.2.2.2.1) hq
          have q4 := congrArg (fun x : Wv => x.2.2.2.2) hq
          simp only at q1 q2 q3 q4
          rw [q1, q2, q3, q4]
        · cases hfit2

end Go.Proofs.Ythbjjjpleongbaa.Wav
