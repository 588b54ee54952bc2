/-
  Plain facts on a file cut at a chunk's end, its size told anew. No condition.
-/
import Derived.Test.YtabmhoiaeeneiaaRiffRowWalk
import Derived.Test.YtabmhoiaeeneiaaRcForms
namespace Go.Proofs.Ytabmhoiaeeneiaa.Chk
open Go.RowKit Go.Sort Go.Proofs.Ytabmhoiaeeneiaa.Mod Go.Proofs.Ytabmhoiaeeneiaa.Num
set_option linter.unusedVariables false
set_option linter.unusedSimpArgs false

theorem twelve (L : List UInt8) (h : 12 ≤ L.length) : ∃ a0 a1 a2 a3 a4 a5 a6 a7 a8 a9 b0 b1 r, L = a0 :: a1 :: a2 :: a3 :: a4 :: a5 :: a6 :: a7 :: a8 :: a9 :: b0 :: b1 :: r := by
  match L, h with
  | a0 :: a1 :: a2 :: a3 :: a4 :: a5 :: a6 :: a7 :: a8 :: a9 :: b0 :: b1 :: r, _ => exact ⟨a0, a1, a2, a3, a4, a5, a6, a7, a8, a9, b0, b1, r, rfl⟩

theorem cut_chunks (L : List UInt8) (A : List Ch) (h : chunks L = some A) (k : Nat) (hk : k < A.length) (x y : UInt8)
    (hx : x.toNat = (stop L k 12 - 8) % 256) (hy : y.toNat = (stop L k 12 - 8) / 256 % 256) : chunks (((L.take (stop L k 12)).set 4 x).set 5 y) = some (A.take k) := by
  obtain ⟨hw, hc, h64⟩ := chunks_chain h
  obtain ⟨z1, z2, z3⟩ := wav_size hw
  have hP := stop_ge L k 12
  obtain ⟨_, hP2⟩ := chain_get L k A 12 hc hk
  obtain ⟨a0, a1, a2, a3, a4, a5, a6, a7, a8, a9, b0, b1, r, rfl⟩ := twelve L z2
  obtain ⟨Q, hPP⟩ : ∃ Q, stop (a0 :: a1 :: a2 :: a3 :: a4 :: a5 :: a6 :: a7 :: a8 :: a9 :: b0 :: b1 :: r) k 12 = Q := ⟨_, rfl⟩
  rw [hPP] at hP
  obtain ⟨P, rfl⟩ : ∃ P, Q = P + 12 := ⟨Q - 12, by omega⟩
  have hM : (((((a0 :: a1 :: a2 :: a3 :: a4 :: a5 :: a6 :: a7 :: a8 :: a9 :: b0 :: b1 :: r).take (P + 12)).set 4 x).set 5 y)) = a0 :: a1 :: a2 :: a3 :: x :: y :: a6 :: a7 :: a8 :: a9 :: b0 :: b1 :: r.take P := rfl
  rw [hPP] at hx hy hP2 ⊢
  rw [hM]
  simp only [List.length_cons] at hP2 z1 z3
  have n1 : num [a4, a5, a6, a7] = ((r.length + 1 + 1 + 1 + 1 + 1 + 1 + 1 + 1 + 1 + 1 + 1 + 1 - 8 : Nat) : Int) := z1
  simp only [num] at n1
  have hl : (a0 :: a1 :: a2 :: a3 :: x :: y :: a6 :: a7 :: a8 :: a9 :: b0 :: b1 :: r.take P).length = P + 12 := by
    simp only [List.length_cons, List.length_take]; omega
  have n2 : num [x, y, a6, a7] = ((P + 12 - 8 : Nat) : Int) := by
    simp only [num]
    omega
  have hw2 : isWav (a0 :: a1 :: a2 :: a3 :: x :: y :: a6 :: a7 :: a8 :: a9 :: b0 :: b1 :: r.take P) = true := by
    unfold isWav at hw ⊢
    simp only [Bool.and_eq_true, decide_eq_true_eq] at hw ⊢
    refine ⟨by rw [hl]; omega, by rw [hl]; omega, hw.2.2.1, ?_, hw.2.2.2.2⟩
    rw [hl]
    exact n2
  have hch : chain (a0 :: a1 :: a2 :: a3 :: x :: y :: a6 :: a7 :: a8 :: a9 :: b0 :: b1 :: r.take P) 12 (A.take k) := by
    refine chain_cut _ _ k A 12 hc (by omega) (by rw [hl, hPP]) ?_
    rw [hPP]
    show (r.take P).take (P + 12 - 12) = r.take (P + 12 - 12)
    rw [Nat.add_sub_cancel, List.take_take, Nat.min_self]
  unfold chunks
  rw [if_pos hw2]
  exact chain_run _ _ 12 [] hch (by simp; omega)

theorem Slk.exc {S : Nat → Prop} {w w' : World} {ao : Option Addr} {Cs : List Ch} (h : Slk w ao Cs) (e : Exc S w w') (hS : ∀ g, ao = some ⟨g, 0, none⟩ → ¬ S g) : Slk w' ao Cs := fun k hk => by
  obtain ⟨g, hg, c0, c1, c2⟩ := h k hk
  exact ⟨g, hg, e.keep c0 (hS g hg), e.keep c1 (hS g hg), e.keep c2 (hS g hg)⟩
theorem own_cap {w : World} {B n cap : Nat} {ao : Option Addr} {Cs : List Ch} (h : OwnR w B (.slice ao n cap) n Cs) : n ≤ cap := by
  rcases h.2 with ⟨_, h0⟩ | ⟨g, c, cur, e, _, _, hc, _⟩
  · omega
  · injection e with _ _ e3
    omega
/-- riff.Chunks, with the room that there is. -/
theorem chunks_k (s : ByteArray) (L : List UInt8) (hs : s.data.toList = L) (hx : s.size ≤ maxLen) (R : Option (List Ch)) (hR : chunks L = R) (w : World) :
    Calls Try.prog 8 #[.string s] w fun e w' => (∃ ao cap, e = .returned (.tuple #[.slice ao (ansR R).length cap, .int .i64 (errR R)]) ∧ (ansR R).length ≤ cap ∧ Slk w' ao (ansR R)) ∧ Bel w w' := by
  subst hR
  refine (chunks_ok s L hs hx w).mono ?_
  rintro e w' ⟨⟨v, rfl, ho⟩, b⟩
  obtain ⟨ao, cap, rfl, hs2, _⟩ := own_c ho
  exact ⟨⟨ao, cap, rfl, own_cap ho, hs2⟩, b⟩

end Go.Proofs.Ytabmhoiaeeneiaa.Chk
