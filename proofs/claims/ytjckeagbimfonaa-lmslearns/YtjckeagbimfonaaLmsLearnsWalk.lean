/-
  LmsLearns answers true for every int. No condition.
-/
import Derived.Test.YtjckeagbimfonaaLAwake
import Derived.Test.YtjckeagbimfonaaLForm
namespace Go.Proofs.Ytjckeagbimfonaa.Lin
open Go.RowKit Go.Sort Go.Proofs.Ytjckeagbimfonaa.Mod Go.Proofs.Ytjckeagbimfonaa.Num
set_option linter.unusedVariables false
set_option linter.unusedSimpArgs false

set_option maxRecDepth 20000 in
set_option maxHeartbeats 1000000 in
theorem learns_ok (x u v : Int) (hx : bits .and .i64 x 1023 = u) (hu0 : 0 ≤ u) (hu1 : u ≤ 1023) (huv : 1 + u = v) (hv : 1 ≤ v ∧ v ≤ 1024) (w : World) :
    Calls Try.prog 6 #[.int .i64 x] w fun e w' => e = .returned (.bool true) ∧ Bel w w' := by
  have LE : Hid (∀ (n : Nat) (L : List Int), (∃ t, Form v n t L) → (∃ A, (∃ t, Form v (n + 1) t A) ∧ A.length = 16 ∧ ∀ w, Calls Try.prog 11 #[mdl L, .int .i64 v] w fun e w' => e = .returned (.tuple #[mdl A, .int .i64 0]) ∧ Bel w w')) := fun n L h => by
    obtain ⟨t, F⟩ := h
    exact ⟨learn L v, F.step hv, (learn_len L v).trans F.len, learn_yes L F.len v (F.may hv) (passed_no.2 (by omega))⟩
  have GE : Hid (∀ L, (∃ t, Form v 80 t L) → ∃ g, (v - v / 64 - 1 ≤ g ∧ g ≤ v + v / 64) ∧ ∀ w, Calls Try.prog 9 #[mdl L] w fun e w' => e = .returned (.tuple #[.int .i64 g, .int .i64 0]) ∧ Bel w w') := fun L h => by
    obtain ⟨t, F⟩ := h
    exact ⟨guess L, (F.guess hv).2.2 (by decide), guess_yes L F.len (F.may hv)⟩
  have FL : Hid (∀ (n : Nat) (L : List Int), (∃ t, Form v n t L) → L.length = 16) := fun n L h => by obtain ⟨t, F⟩ := h; exact F.len
  have F0 : Hid (∃ t, Form v 0 t zeros16) := ⟨0, form_zero v⟩
  have NZ : Hid (zeros16.length = 16) := zeros16_len
  have z := zero24
  have UV : Hid (1 + u = v) := huv
  obtain ⟨v0, v1⟩ := hv
  clear huv
  go_enter Try.func6, Try.ntmps6
  go_wp2_with fail
  refine (awake_true _).mono ?_
  rintro e w1 ⟨rfl, b1⟩
  have h1 : Holds (w1.alloc (.cells (vals zeros16).toArray 24)) w1.heap.size zeros16 := holds_new w1 zeros16 _
  have c1 : Bel w (w1.alloc (.cells (vals zeros16).toArray 24)) := Bel.alloc b1 _
  have CB : Hid (w.heap.size ≤ w1.heap.size) := b1.size
  clear b1
  go_wp2_with fail
  rw [UV.out]
  generalize w1.alloc (.cells (vals zeros16).toArray 24) = W1 at *
  have H1 : Hid (Holds W1 w1.heap.size zeros16) := h1
  have C1 : Hid (Bel w W1) := c1
  clear h1 c1
  generalize w1.heap.size = C at *
  obtain ⟨K, hK⟩ : ∃ K : Nat, K = 80 := ⟨_, rfl⟩
  have HK : Hid (K = 80) := hK
  clear hK
  go_loopw [5] (fun i wr => ∃ (j : Nat) (L : List Int), j ≤ K ∧ i = .int .i64 (j : Int) ∧ Hid (∃ t, Form v j t L) ∧ Holds wr C L ∧ Bel w wr) (fun i _ => K - (intOf i).toNat)
  case atStart => exact ⟨0, zeros16, Nat.zero_le _, rfl, F0, H1.out, C1.out⟩
  case round =>
    obtain ⟨j, L, hj, rfl, F, h, b⟩ := hrel
    have H3 : Hid (Holds wr C L) := h
    have B3 : Hid (Bel w wr) := b
    have NL : Hid (L.length = 16) := FL.out j L F.out
    clear h b H1 C1
    by_cases hlt : j < K
    · have hd : decide ((j : Int) < 80) = true := decide_eq_true (by have := HK.out; omega)
      obtain ⟨A, fA, nA, lA⟩ := LE.out j L F.out
      have FA : Hid (∃ t, Form v (j + 1) t A) := fA
      have NA : Hid (A.length = 16) := nA
      have LA : Hid (∀ w, Calls Try.prog 11 #[mdl L, .int .i64 v] w fun e w' => e = .returned (.tuple #[mdl A, .int .i64 0]) ∧ Bel w w') := lA
      have HJ : Hid (j + 1 ≤ K) := hlt
      have hj2 : (j : Int) < 80 := by have := HK.out; omega
      clear fA nA lA hlt hj
      go_wp2_with (first | (with_reducible refine wpl_load24 H3.out NL.out rfl ?_))
      refine (LA.out _).mono ?_
      rintro e w2 ⟨rfl, b⟩
      have h4 := (H3.out.bel b).bel ((Bel.refl _).alloc (.cells (vals A).toArray 24))
      have a4 : Holds (w2.alloc (.cells (vals A).toArray 24)) w2.heap.size A := holds_new w2 A _
      have b4 : Bel w (w2.alloc (.cells (vals A).toArray 24)) := (B3.out.trans b).alloc _
      clear b H3 B3 LA
      go_wp2_with (first | (with_reducible refine wpl_store24n NZ.out NA.out rfl rfl ?_))
      refine (num_ok _ _).mono ?_
      rintro e W ⟨rfl, rfl⟩
      generalize w2.alloc (.cells (vals A).toArray 24) = W at *
      have H4 : Hid (Holds W C L) := h4
      have A4 : Hid (Holds W w2.heap.size A) := a4
      have B4 : Hid (Bel w W) := b4
      clear h4 a4 b4
      go_wp2_with (first
        | (with_reducible refine wpl_load24 A4.out NA.out rfl ?_)
        | ((with_reducible refine wpl_store24w B4.out H4.out CB.out NL.out NA.out rfl rfl ?_); intro V VH VB VO))
      go_roundw
      case rel => exact ⟨j + 1, A, HJ.out, by go_num, FA, VH.out, VB.out⟩
      case measure => simp [intOf]; have := HJ.out; omega
    · have e8 : j = 80 := by have := HK.out; omega
      have hd : decide ((j : Int) < 80) = false := decide_eq_false (by omega)
      have hj2 : ¬ (j : Int) < 80 := by omega
      have F8 := F.out
      rw [e8] at F8
      obtain ⟨g, ⟨g0, g1⟩, gE⟩ := GE.out L F8
      have GG : Hid (∀ w, Calls Try.prog 9 #[mdl L] w fun e w' => e = .returned (.tuple #[.int .i64 g, .int .i64 0]) ∧ Bel w w') := gE
      have t1 : v - v / 8 - 2 ≤ g := by omega
      have t2 : g ≤ v + v / 8 + 2 := by omega
      have g2 : -2000 ≤ g := by omega
      have g3 : g ≤ 2000 := by omega
      clear gE F8 F e8 g0 g1 GE LE hlt hj
      go_wp2_with (first | (with_reducible refine wpl_load24 H3.out NL.out rfl ?_))
      refine (GG.out _).mono ?_
      rintro e w2 ⟨rfl, b⟩
      have B4 : Hid (Bel w w2) := B3.out.trans b
      clear b
      go_wp2_with fail
      refine (num_ok _ _).mono ?_
      rintro e W ⟨rfl, rfl⟩
      go_wp2
      go_ret
      exact ⟨rfl, B4.out⟩

theorem learns_walk (x : Int) (w : World) :
    Calls Try.prog 6 #[.int .i64 x] w fun e w' => e = .returned (.bool true) ∧ Bel w w' :=
  learns_ok x (x % 1024) (1 + x % 1024) (and1023 x) (by omega) (by omega) rfl (by omega) w

end Go.Proofs.Ytjckeagbimfonaa.Lin
