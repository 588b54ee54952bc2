/-
  The reference's NewModel. No condition.
-/
import Derived.Test.YtnldnkcfeclmpaaDoorNNew
namespace Go.Proofs.YtnldnkcfeclmpaaDoor.Mod
open Go.RowKit Go.Sort
set_option linter.unusedVariables false
set_option linter.unusedSimpArgs false

set_option maxHeartbeats 1000000 in
theorem ref_new_ok (w : World) :
    Calls Tryd.prog 16 #[] w fun e w' => e = .returned (mdl newM) ∧ Bel w w' := by
  have z := zero26
  have zl := zeros_len
  have ZZ : Hid (zeros = newL 0 0) := newL_0.symm
  generalize zeros = Z at *
  have NA : Hid (newL 192 3 = newM) := newL_all
  have NL : Hid (newM.length = 195) := newM_len
  generalize newM = M at *
  go_enter Tryd.func16, Tryd.ntmps16
  go_wp2_with fail
  go_loopw [2] (fun i wr => ∃ k : Nat, k ≤ 3 ∧ i = .int .i64 (k : Int) ∧ Holds wr (w.heap.size + 1) (newL (k * 64) k) ∧ Holds wr w.heap.size Z ∧ Bel w wr) (fun i _ => 3 - (intOf i).toNat)
  case atStart =>
    refine ⟨0, by omega, rfl, ?_, (holds_new w Z 26).bel ((Bel.refl _).alloc _), ((Bel.refl _).alloc _).alloc _⟩
    have h := holds_new (w.alloc (.cells (vals Z).toArray 26)) Z 26
    rw [World.size_alloc] at h
    have e := ZZ.out
    rwa [← e]
  case round =>
    obtain ⟨k, hk, rfl, h1, h0, hb⟩ := hrel
    have H1 : Hid (Holds wr (w.heap.size + 1) (newL (k * 64) k)) := h1
    have H0 : Hid (Holds wr w.heap.size Z) := h0
    have HB : Hid (Bel w wr) := hb
    clear h1 h0 hb
    by_cases hlt : k < 3
    · have hd : decide ((k : Int) < 3) = true := decide_eq_true (by omega)
      have c1 := H1.out.cell (192 + k) (by rw [newL_len]; omega)
      have f1 := H1.out.free (192 + k) (by rw [newL_len]; omega)
      generalize (newL (k * 64) k).getD (192 + k) 0 = old at *
      go_wp2_with fail
      go_loopw [3] (fun i wx => ∃ j : Nat, j ≤ 64 ∧ i = .int .i64 (j : Int) ∧ Holds wx (w.heap.size + 1) (newL (k * 64 + j) (k + 1)) ∧ Holds wx w.heap.size Z ∧ Bel w wx) (fun i _ => 64 - (intOf i).toNat)
      case atStart =>
        refine ⟨0, by omega, rfl, ?_, H0.out.other _ _ (by omega) _, HB.out.setCell (by simp) _⟩
        have h := H1.out.set (192 + k) (by rw [newL_len]; omega) 22000
        rwa [newL_weight (k * 64) k (by omega) hlt] at h
      case round =>
        clear c1 f1 H1 H0 HB
        obtain ⟨j, hj, rfl, h1, h0, hb⟩ := hrel
        have H1 : Hid (Holds wr (w.heap.size + 1) (newL (k * 64 + j) (k + 1))) := h1
        have H0 : Hid (Holds wr w.heap.size Z) := h0
        have HB : Hid (Bel w wr) := hb
        clear h1 h0 hb
        by_cases hjt : j < 64
        · have hd2 : decide ((j : Int) < 64) = true := decide_eq_true (by omega)
          have c1 := H1.out.cell (k * 64 + j) (by rw [newL_len]; omega)
          have f1 := H1.out.free (k * 64 + j) (by rw [newL_len]; omega)
          generalize (newL (k * 64 + j) (k + 1)).getD (k * 64 + j) 0 = old at *
          go_wp2
          go_roundw
          case rel =>
            have h := H1.out.set (k * 64 + j) (by rw [newL_len]; omega) 32768
            rw [newL_count _ _ (by omega)] at h
            exact ⟨j + 1, by omega, by go_num, h, (H0.out.other _ _ (by omega) _), (HB.out.setCell (by simp) _)⟩
          case measure => simp [intOf]; omega
        · obtain rfl : j = 64 := by omega
          go_wp2
          go_roundw
          case rel => exact ⟨k + 1, by omega, by go_num, by rw [show (k + 1) * 64 = k * 64 + 64 by omega]; exact H1.out, H0.out, HB.out⟩
          case measure => simp [intOf]; omega
    · obtain rfl : k = 3 := by omega
      have h1 : Holds wr (w.heap.size + 1) (newL 192 3) := H1.out
      have na := NA.out
      rw [na] at h1
      have R0 : Hid (Holds (wr.setCells w.heap.size 0 (vals M)) w.heap.size M) := holds_all H0.out M (zl.trans NL.out.symm)
      have HB2 : Hid (Bel w (wr.setCells w.heap.size 0 (vals M))) := Bel.setCells (Nat.le_refl _) _ _ HB.out
      have H2 : Hid (Holds wr (w.heap.size + 1) M) := h1
      clear h1 na H1 HB
      go_wp2_with (first | (with_reducible refine wpl_load26' H2.out NL.out rfl ?_) | (with_reducible refine wpl_store26 H0.out zl NL.out rfl rfl ?_))
      refine bodyPost_ret (v := mdl M) (results_model Tryd.results16 rfl R0.out NL.out) rfl ⟨rfl, HB2.out⟩

end Go.Proofs.YtnldnkcfeclmpaaDoor.Mod
