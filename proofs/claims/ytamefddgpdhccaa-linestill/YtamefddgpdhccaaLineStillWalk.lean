/-
  LineStill answers true for every two ints: of samples that stay the residuals are soon 0. No condition.
-/
import Derived.Test.YtamefddgpdhccaaJAwake
namespace Go.Proofs.Ytamefddgpdhccaa.Ser
open Go.RowKit Go.Sort Go.Proofs.Ytamefddgpdhccaa.Mod Go.Proofs.Ytamefddgpdhccaa.Lin Go.Proofs.Ytamefddgpdhccaa.Chn Go.Proofs.Ytamefddgpdhccaa.Ints
set_option linter.unusedVariables false
set_option linter.unusedSimpArgs false

theorem still_res {L : List Int} {v : Int} (h : ∀ i, i < L.length → ith L i = v) (hv : 0 ≤ v ∧ v ≤ 65535) (hl : L.length ≤ 256) : okP L = true ∧ ∀ i, i < L.length → (resL L).getD i 0 = if i = 0 then v else 0 := by
  refine ⟨(okP_iff L).2 ⟨hl, fun i hi => by rw [h i hi]; exact passed_no.2 (by omega)⟩, fun i hi => ?_⟩
  have e := ith_res L i hi
  unfold ith at e
  rw [e]
  exact res_still i (fun k hk => h k (by omega))

set_option maxRecDepth 20000 in
set_option maxHeartbeats 2000000 in
theorem still_go (x y v : Int) (K : Nat) (hv : bits .and .i64 x 65535 = v) (v0 : 0 ≤ v) (v1 : v ≤ 65535) (m : Int) (hm : bits .and .i64 y 127 = m) (m0 : 0 ≤ m) (m1 : m ≤ 127) (hK : 30 + m = (K : Int)) (w : World) :
    Calls Try.prog 6 #[.int .i64 x, .int .i64 y] w fun e w' => e = .returned (.bool true) ∧ Bel w w' := by
  have AW : Hid (∀ w, Calls Try.prog 17 #[] w fun e w' => e = .returned (.bool true) ∧ Bel w w') := awake_true
  have HK : Hid (30 ≤ K ∧ K ≤ 157) := ⟨by omega, by omega⟩
  have KE : Hid (30 + m = (K : Int)) := hK
  have P0 : Hid (∀ (w' : World) (g : Nat) (L : List Int), L.length = K → (∀ i, i < K → L.getD i 0 = v) → Holds w' g L → ∃ R : List Int, R.length = K ∧ (∀ i, i < K → R.getD i 0 = if i = 0 then v else 0) ∧ Calls Try.prog 9 #[.slice (some ⟨g, 0, none⟩) K K] w' fun e w'' => ∃ g, e = .returned (.tuple #[.slice (some ⟨g, 0, none⟩) K K, .int .i64 0]) ∧ w'.heap.size ≤ g ∧ g < w''.heap.size ∧ Holds w'' g R ∧ Bel w' w'') := fun w' g L hl hL h => by
    obtain ⟨q1, q2⟩ := still_res (L := L) (v := v) (fun i hi => hL i (by omega)) ⟨v0, v1⟩ (by omega)
    exact ⟨resL L, by rw [resL_len, hl], fun i hi => q2 i (by omega), put_yes _ L K K hl.symm q1 w' h.slc⟩
  have MK : Hid (∀ w, (Instr.makeSlice 22 (.int .i64 (K : Int)) (.int .i64 (K : Int))).run Try.prog w = .ok (.slice (some ⟨w.heap.size, 0, none⟩) K K) (w.alloc (.cells (vals (List.replicate K 0)).toArray 3))) := mk_ints K (by omega)
  go_enter Try.func6, Try.ntmps6
  go_wp2_with fail
  refine (AW.out _).mono ?_
  rintro e w1 ⟨rfl, b1⟩
  have B1 : Hid (Bel w w1) := b1
  clear b1 hK
  go_upto_region 3 with fail
  go_cut [5, 6] from 14 to 18 (fun v5 v6 wx => v5 = .int .i64 v ∧ v6 = .int .i64 (K : Int) ∧ wx = w1)
  case first =>
    go_wp2_with fail
    go_meet
    exact ⟨rfl, congrArg (Value.int .i64) KE.out, rfl⟩
  case rest =>
    obtain ⟨rfl, rfl, rfl⟩ := hcut
    have mk := MK.out wc
    have k1 : (K : Int) ≤ 157 := by have := HK.out; omega
    have k2 : (30 : Int) ≤ (K : Int) := by have := HK.out; omega
    have W0 : Hid (Holds (wc.alloc (.cells (vals (List.replicate K 0)).toArray 3)) wc.heap.size (List.replicate K 0) ∧ Bel w (wc.alloc (.cells (vals (List.replicate K 0)).toArray 3))) := ⟨holds_new _ _ _, B1.out.alloc _⟩
    have SZ : Hid (w.heap.size ≤ wc.heap.size) := B1.out.size
    clear hv hm m0 m1 KE MK AW
    go_wp2_with fail
    generalize wc.alloc (.cells (vals (List.replicate K 0)).toArray 3) = W1 at *
    generalize wc.heap.size = g at *
    go_loopw [8] (fun i wr => ∃ (j : Nat) (L : List Int), j ≤ K ∧ i = .int .i64 (j : Int) ∧ Hid (L.length = K ∧ ∀ i, i < j → L.getD i 0 = v) ∧ Hid (Holds wr g L ∧ Bel w wr)) (fun i _ => K - (intOf i).toNat)
    case atStart => exact ⟨0, List.replicate K 0, Nat.zero_le _, rfl, ⟨by simp, fun i hi => by omega⟩, W0⟩
    case round =>
      obtain ⟨j, L, hj, rfl, HL, H⟩ := hrel
      clear W0 mk
      by_cases hlt : j < K
      · have hd : decide ((j : Int) < (K : Int)) = true := decide_eq_true (by omega)
        have hi : (j : Int) < (K : Int) := by omega
        have hc := H.out.1.cell j (by have := HL.out.1; omega)
        have hf := H.out.1.free j (by have := HL.out.1; omega)
        have H2 : Hid (Holds (wr.setCell ⟨g, j, none⟩ (.int .i64 v)) g (L.set j v) ∧ Bel w (wr.setCell ⟨g, j, none⟩ (.int .i64 v))) := ⟨H.out.1.set j (by have := HL.out.1; omega) v, H.out.2.setCell SZ.out _⟩
        have HL2 : Hid ((L.set j v).length = K ∧ ∀ i, i < j + 1 → (L.set j v).getD i 0 = v) := ⟨by rw [List.length_set]; exact HL.out.1, fun i hi => by
          rcases Nat.lt_or_ge i j with h | h
          · rw [Mod.getD_set_ne _ _ _ _ (by omega)]; exact HL.out.2 i h
          · obtain rfl : i = j := by omega
            exact Mod.getD_set_eq _ _ _ (by have := HL.out.1; omega)⟩
        generalize L.getD j 0 = p at *
        go_wp2
        go_roundw
        case rel => exact ⟨j + 1, L.set j v, by omega, by go_num, HL2, H2⟩
        case measure => simp [intOf]; omega
      · have hd : decide ((j : Int) < (K : Int)) = false := decide_eq_false (by omega)
        have hi : ¬ (j : Int) < (K : Int) := by omega
        obtain ⟨R, r1, r2, PQ⟩ := P0.out wr g L HL.out.1 (fun i hi => HL.out.2 i (by omega)) H.out.1
        have P1 : Hid (Calls Try.prog 9 #[.slice (some ⟨g, 0, none⟩) K K] wr fun e w'' => ∃ g, e = .returned (.tuple #[.slice (some ⟨g, 0, none⟩) K K, .int .i64 0]) ∧ wr.heap.size ≤ g ∧ g < w''.heap.size ∧ Holds w'' g R ∧ Bel wr w'') := PQ
        have R2 : Hid (R.length = K ∧ ∀ i, i < K → R.getD i 0 = if i = 0 then v else 0) := ⟨r1, r2⟩
        clear P0 r1 r2 PQ HL hlt
        go_wp2_with fail
        refine P1.out.mono ?_
        rintro e w2 ⟨g2, rfl, _, _, h2, b2⟩
        have B2 : Hid (Bel w w2) := H.out.2.trans b2
        have H2 : Hid (Holds w2 g2 R) := h2
        clear b2 h2 H P1
        have c0 := H2.out.cell 0 (by have := HK.out; have := R2.out.1; omega)
        rw [R2.out.2 0 (by have := HK.out; omega), if_pos rfl] at c0
        have hvv : (v != v) = false := by simp
        have hkk : ((K : Int) != (K : Int)) = false := by simp
        have h00 : (0 : Int) < (K : Int) := by omega
        go_wp2_with (go_at_call 14; refine (Lin.num_ok _ _).mono ?_; rintro e w9 ⟨rfl, hw⟩; replace hw := hw.symm; subst hw)
        go_loopw [11] (fun i wr => ∃ j : Nat, 20 ≤ j ∧ j ≤ K ∧ i = .int .i64 (j : Int) ∧ wr = w2) (fun i _ => K - (intOf i).toNat)
        case atStart => exact ⟨20, by omega, by have := HK.out; omega, rfl, rfl⟩
        case round =>
          obtain ⟨j2, hj20, hj2, rfl, rfl⟩ := hrel
          by_cases hlt2 : j2 < K
          · have hd2 : decide ((j2 : Int) < (K : Int)) = true := decide_eq_true (by omega)
            have hi2 : (j2 : Int) < (K : Int) := by omega
            have hc2 := H2.out.cell j2 (by have := R2.out.1; omega)
            rw [R2.out.2 j2 hlt2, if_neg (by omega)] at hc2
            go_wp2
            go_roundw
            case rel => exact ⟨j2 + 1, by omega, by omega, by go_num, by trivial⟩
            case measure => simp [intOf]; omega
          · have hd2 : decide ((j2 : Int) < (K : Int)) = false := decide_eq_false (by omega)
            have hi2 : ¬ (j2 : Int) < (K : Int) := by omega
            go_wp2
            go_ret
            exact ⟨rfl, B2.out⟩

theorem still_walk (x y : Int) (w : World) :
    Calls Try.prog 6 #[.int .i64 x, .int .i64 y] w fun e w' => e = .returned (.bool true) ∧ Bel w w' :=
  still_go x y (x % 65536) (30 + y % 128).toNat (Num.and_mask 16 65535 (by decide) (by decide) x) (by omega) (by omega) (y % 128) (Num.and_mask 7 127 (by decide) (by decide) y) (by omega) (by omega) (by omega) w

end Go.Proofs.Ytamefddgpdhccaa.Ser
