/-
  The contract of the statements' own SpoilChunks: chunks that a call made, in a block of their own. Condition: they may be written.
-/
import Derived.Test.YtabmhoiaeeneiaaRcApp
namespace Go.Proofs.Ytabmhoiaeeneiaa.Chk
open Go.RowKit Go.Proofs.Ytabmhoiaeeneiaa.Mod Go.Proofs.Ytabmhoiaeeneiaa.Num
set_option linter.unusedVariables false
set_option linter.unusedSimpArgs false

set_option maxHeartbeats 1000000 in
/-- Spoilt: blocks between lo and hi alone are written. -/
theorem spoil_ok (v : Value) (Cs : List Ch) (lo hi : Nat) (hx : Cs.length ≤ 4096) (w : World) (H : OwnC w lo hi v Cs) :
    Calls Try.prog 12 #[v] w fun e w' => e = .returned (.tuple #[]) ∧ Exc (fun k => lo ≤ k ∧ k < hi) w w' := by
  obtain ⟨ao, cap, rfl, hs, hf⟩ := H
  obtain ⟨n, hn⟩ : ∃ n, Cs.length = n := ⟨_, rfl⟩
  rw [hn] at hx ⊢
  have HS : Hid (∀ k, k < n → ∃ g, ao = some ⟨g, 0, none⟩ ∧ (lo ≤ g ∧ g < hi) ∧ w.cell? ⟨g, k * 3 + 1, none⟩ = some (.int .i64 ((Cs.getD k ch0).2.1 : Int)) ∧ w.frozen? ⟨g, k * 3 + 1, none⟩ = false) := fun k hk => by
    obtain ⟨g, e, _, h1, _⟩ := hs k (by omega)
    obtain ⟨g', e', q1, q2, q3⟩ := hf (by omega)
    rw [e] at e'
    injection e' with e'
    injection e' with e' _ _
    subst e'
    exact ⟨g, e, ⟨q1, q2⟩, h1, q3 _⟩
  clear hs hf hn
  go_enter Try.func12, Try.ntmps12
  go_wp2
  go_loopw [2] (fun i wr => ∃ j : Nat, j ≤ n ∧ i = .int .i64 j ∧ Hid (∀ g k, j ≤ k → (∃ v, w.cell? ⟨g, k * 3 + 1, none⟩ = some v) → wr.cell? ⟨g, k * 3 + 1, none⟩ = w.cell? ⟨g, k * 3 + 1, none⟩ ∧ wr.frozen? ⟨g, k * 3 + 1, none⟩ = w.frozen? ⟨g, k * 3 + 1, none⟩) ∧ Hid (Exc (fun k => lo ≤ k ∧ k < hi) w wr)) (fun i _ => n - (intOf i).toNat)
  case atStart => exact ⟨0, Nat.zero_le _, rfl, (fun _ _ _ _ => ⟨rfl, rfl⟩), Exc.refl _ _⟩
  case round =>
    obtain ⟨j, hj, rfl, hh, hb⟩ := hrel
    by_cases hlt : j < n
    · obtain ⟨g, rfl, ⟨q1, q2⟩, c1, f1⟩ := HS.out j hlt
      obtain ⟨d1, d2⟩ := hh.out g j (Nat.le_refl _) ⟨_, c1⟩
      rw [c1] at d1
      rw [f1] at d2
      have hd : decide ((j : Int) < (n : Int)) = true := decide_eq_true (by omega)
      have Q : Hid (lo ≤ g ∧ g < hi) := ⟨q1, q2⟩
      clear q1 q2 c1 f1
      generalize (Cs.getD j ch0).2.1 = q at *
      have E1 : ∀ x, Hid (Exc (fun k => lo ≤ k ∧ k < hi) w (wr.setCell ⟨g, j * 3 + 1, none⟩ (.int .i64 x))) := fun x => hb.out.setCell (fun _ => Q.out) _
      have hh2 : ∀ x, Hid (∀ g' k, j + 1 ≤ k → (∃ v, w.cell? ⟨g', k * 3 + 1, none⟩ = some v) → (wr.setCell ⟨g, j * 3 + 1, none⟩ (.int .i64 x)).cell? ⟨g', k * 3 + 1, none⟩ = w.cell? ⟨g', k * 3 + 1, none⟩ ∧ (wr.setCell ⟨g, j * 3 + 1, none⟩ (.int .i64 x)).frozen? ⟨g', k * 3 + 1, none⟩ = w.frozen? ⟨g', k * 3 + 1, none⟩) := fun x g' k hk hv => by
        obtain ⟨e1, e2⟩ := hh.out g' k (by omega) hv
        exact ⟨by rw [World.cell?_setCell_other (h := by intro q; injection q with _ q2 _; omega)]; exact e1, by rw [World.frozen?_setCell]; exact e2⟩
      clear hh hb
      go_wp2
      go_roundw
      case rel => exact ⟨j + 1, by omega, by go_num, hh2 _, E1 _⟩
      case measure => simp [intOf]; omega
    · obtain rfl : j = n := by omega
      have hd : decide ((j : Int) < (j : Int)) = false := decide_eq_false (by omega)
      go_wp2
      go_end0
      exact ⟨rfl, hb.out⟩

end Go.Proofs.Ytabmhoiaeeneiaa.Chk
