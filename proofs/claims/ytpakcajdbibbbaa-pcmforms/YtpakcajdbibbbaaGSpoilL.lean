/-
  The contract of the statements' own SpoilLists: rows that a call made, each in a block of its own. Conditions: they are there and may be written.
-/
import Derived.Test.YtpakcajdbibbbaaGList
import Derived.Test.YtpakcajdbibbbaaGSpoil
namespace Go.Proofs.Ytpakcajdbibbbaa.Mod
open Go.RowKit Go.Proofs.Ytpakcajdbibbbaa.Ints
set_option linter.unusedVariables false

/-- The rows Ls, each in a block of its own between lo and hi. -/
def OwnL (w : World) (lo hi : Nat) (ao : Option Addr) (Ls : List (List Int)) : Prop :=
  ∃ (g : Nat) (h c : Nat → Nat), (∀ k, k < Ls.length → ao = some ⟨g, 0, none⟩ ∧ (lo ≤ g ∧ lo ≤ h k) ∧ h k < hi ∧ h k ≠ g ∧ (∀ j, j < k → h j ≠ h k) ∧ w.cell? ⟨g, k, none⟩ = some (.slice (some ⟨h k, 0, none⟩) (Ls.getD k []).length (c k)) ∧ (Ls.getD k []).length * 8 ≤ 140737488351232 ∧ Holds w (h k) (Ls.getD k []))

theorem ownL_nil (w : World) (lo hi : Nat) (ao : Option Addr) : OwnL w lo hi ao [] := ⟨0, fun _ => 0, fun _ => 0, fun k hk => absurd hk (by simp)⟩
theorem OwnL.lls {w : World} {lo hi : Nat} {ao : Option Addr} {Ls : List (List Int)} (H : OwnL w lo hi ao Ls) : Lls w ao Ls := fun k hk => by
  obtain ⟨g, h, c, H⟩ := H
  obtain ⟨h1, h2, h3, h4, h5, h6, h7, h8⟩ := H k hk
  exact ⟨_, h1, _, c k, by rw [Addr.add_lit, Nat.zero_add]; exact h6, h7, (fun q => by cases q), h8.slc⟩
theorem OwnL.bel {w w' : World} {lo hi : Nat} {ao : Option Addr} {Ls : List (List Int)} (H : OwnL w lo hi ao Ls) (b : Bel w w') : OwnL w' lo hi ao Ls := by
  obtain ⟨g, h, c, H⟩ := H
  refine ⟨g, h, c, fun k hk => ?_⟩
  obtain ⟨h1, h2, h3, h4, h5, h6, h7, h8⟩ := H k hk
  exact ⟨h1, h2, h3, h4, h5, b.keep h6, h7, h8.bel b⟩
/-- Where blocks turn that lie ahead of them all. -/
theorem OwnL.exc {w w' : World} {lo hi lo' hi' : Nat} {ao : Option Addr} {Ls : List (List Int)} (H : OwnL w lo hi ao Ls) (e : Exc (fun k => lo' ≤ k ∧ k < hi') w w') (hh : hi' ≤ lo) : OwnL w' lo hi ao Ls := by
  obtain ⟨g, h, c, H⟩ := H
  refine ⟨g, h, c, fun k hk => ?_⟩
  obtain ⟨h1, h2, h3, h4, h5, h6, h7, h8⟩ := H k hk
  exact ⟨h1, h2, h3, h4, h5, e.keep h6 (by show ¬ (lo' ≤ g ∧ g < hi'); omega), h7, e.holds h8 (by show ¬ (lo' ≤ h k ∧ h k < hi'); omega)⟩
theorem OwnL.drewN {w : World} {lo hi : Nat} {ao : Option Addr} {Ls : List (List Int)} (H : OwnL w lo hi ao Ls) (n : Nat) : OwnL (w.drewN n) lo hi ao Ls := H.bel ((Bel.refl _).drewN n)

set_option maxHeartbeats 1000000 in
/-- Spoilt: blocks between lo and hi alone are written. -/
theorem spoilL_ok (ao : Option Addr) (Ls : List (List Int)) (n cap lo hi : Nat) (hn : n = Ls.length) (hx : n ≤ maxLen) (w : World) (H : OwnL w lo hi ao Ls) :
    Calls Try.prog 16 #[.slice ao n cap] w fun e w' => e = .returned (.tuple #[]) ∧ Exc (fun k => lo ≤ k ∧ k < hi) w w' := by
  unfold maxLen at hx
  obtain ⟨g, h, c, H⟩ := H
  have HN : Hid (n = Ls.length) := hn
  have HH : Hid (∀ k, k < n → ao = some ⟨g, 0, none⟩ ∧ (lo ≤ g ∧ lo ≤ h k) ∧ h k < hi ∧ h k ≠ g ∧ (∀ j, j < k → h j ≠ h k) ∧ w.cell? ⟨g, k, none⟩ = some (.slice (some ⟨h k, 0, none⟩) (Ls.getD k []).length (c k)) ∧ (Ls.getD k []).length * 8 ≤ 140737488351232 ∧ Holds w (h k) (Ls.getD k [])) := fun k hk => H k (hn ▸ hk)
  clear H hn
  go_enter Try.func16, Try.ntmps16
  go_wp2
  go_loopw [2] (fun i wr => ∃ j : Nat, j ≤ n ∧ i = .int .i64 j ∧ Hid (∀ k, j ≤ k → k < n → wr.cell? ⟨g, k, none⟩ = some (.slice (some ⟨h k, 0, none⟩) (Ls.getD k []).length (c k)) ∧ Holds wr (h k) (Ls.getD k [])) ∧ Hid (Exc (fun k => lo ≤ k ∧ k < hi) w wr)) (fun i _ => n - (intOf i).toNat)
  case atStart => exact ⟨0, Nat.zero_le _, rfl, (fun k _ hk => ⟨(HH.out k hk).2.2.2.2.2.1, (HH.out k hk).2.2.2.2.2.2.2⟩), Exc.refl _ _⟩
  case round =>
    obtain ⟨j, hj, rfl, hh, hb⟩ := hrel
    by_cases hlt : j < n
    · obtain ⟨rfl, q2, q3, q4, q5, _, q7, _⟩ := HH.out j hlt
      obtain ⟨d1, d2⟩ := hh.out j (Nat.le_refl _) hlt
      have hd : decide ((j : Int) < (n : Int)) = true := decide_eq_true (by omega)
      have C : Hid (Calls Try.prog 31 #[.slice (some ⟨h j, 0, none⟩) (Ls.getD j []).length (c j)] wr fun e w' => e = .returned (.tuple #[]) ∧ Exc (fun k => k = h j) wr w') := spoil_exc _ _ (h j) (c j) rfl (by unfold maxLen; omega) wr d2
      have Q : Hid (lo ≤ h j ∧ h j < hi) := ⟨q2.2, q3⟩
      clear d2 q2 q3 q4 q5 q7
      generalize hl : (Ls.getD j []).length = l at d1 C
      clear hl
      generalize hg : h j = gj at d1 C Q
      have G : Hid (h j = gj) := hg
      clear hg
      go_wp2_with fail
      refine C.out.mono ?_
      rintro e w1 ⟨rfl, xe⟩
      have E1 : Hid (Exc (fun k => lo ≤ k ∧ k < hi) w w1) := hb.out.trans xe (fun i _ e => by rw [e]; exact Q.out)
      have hh2 : Hid (∀ k, j + 1 ≤ k → k < n → w1.cell? ⟨g, k, none⟩ = some (.slice (some ⟨h k, 0, none⟩) (Ls.getD k []).length (c k)) ∧ Holds w1 (h k) (Ls.getD k [])) := fun k h1 h2 => by
        obtain ⟨e1, e2⟩ := hh.out k (by omega) h2
        obtain ⟨_, _, _, u4, _⟩ := HH.out j hlt
        obtain ⟨_, _, _, _, v5, _⟩ := HH.out k h2
        exact ⟨xe.keep e1 (fun q => u4 (G.out.trans q.symm)), xe.holds e2 (fun q => v5 j (by omega) (G.out.trans q.symm))⟩
      clear xe hb hh C d1
      go_wp2
      go_roundw
      case rel => exact ⟨j + 1, by omega, by go_num, hh2, E1⟩
      case measure => simp [intOf]; omega
    · obtain rfl : j = n := by omega
      have hd : decide ((j : Int) < (j : Int)) = false := decide_eq_false (by omega)
      go_wp2
      go_end0
      exact ⟨rfl, hb.out⟩

end Go.Proofs.Ytpakcajdbibbbaa.Mod
