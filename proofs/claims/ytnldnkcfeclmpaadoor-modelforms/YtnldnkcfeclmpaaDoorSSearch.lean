/-
  The contracts of Stretch's function literal, of sort.Search over it, and of Stretch. Condition: the package's table is laid as its text lays it.
-/
import Derived.Test.YtnldnkcfeclmpaaDoorSSquash
import Derived.Test.YtnldnkcfeclmpaaDoorOnto
import Derived.Deep.LoopGhost
namespace Go.Proofs.YtnldnkcfeclmpaaDoor.Str
open Go.RowKit
set_option linter.unusedVariables false

set_option maxHeartbeats 1000000 in
theorem lit_ok (i p : Int) (B : Nat) (h0 : 0 ≤ i) (h1 : i ≤ 4094) (w : World) (T : Tab w) (hp : w.cell? ⟨B, 0, none⟩ = some (.int .i64 p)) :
    Calls Tryd.prog 54 #[.int .i64 i, .pointer (some ⟨B, 0, none⟩)] w fun e w' => e = .returned (.bool (decide (p ≤ sq (-2047 + i)))) ∧ ∃ m, w' = w.drewN m := by
  have q := fun n => squash_ok (-2047 + i) (w.drewN n) (T.drewN n)
  generalize sq (-2047 + i) = y at *
  have Q : Hid (∀ n, Calls Tryd.prog 38 #[.int .i64 (-2047 + i)] (w.drewN n) fun e w' => e = .returned (.int .i64 y) ∧ ∃ m, w' = (w.drewN n).drewN m) := q
  clear q T
  go_enter Tryd.func54, Tryd.ntmps54
  go_wp2
  go_quiet (first | (go_at_call 38; with_reducible exact Calls.quiet_of (Q.out _)))
  go_wp2
  go_ret
  exact ⟨rfl, _, rfl⟩

set_option maxHeartbeats 2000000 in
theorem search_any (N : Nat) (hN0 : N ≤ 4094) (hN : Hid (N = 4094)) (p : Int) (B : Nat) (w : World) (T : Tab w) (hp : w.cell? ⟨B, 0, none⟩ = some (.int .i64 p)) :
    Calls Tryd.prog 53 #[.int .i64 (N : Int), .func (.func 54) #[] #[.pointer (some ⟨B, 0, none⟩)]] w fun e w' => e = .returned (.int .i64 (st p + 2047)) ∧ ∃ m, w' = w.drewN m := by
  have hc : Hid (∀ (i : Int) (n : Nat), 0 ≤ i → i ≤ 4094 → Calls Tryd.prog 54 #[.int .i64 i, .pointer (some ⟨B, 0, none⟩)] (w.drewN n) fun e w' => e = .returned (.bool (decide (p ≤ sq (-2047 + i)))) ∧ ∃ m, w' = (w.drewN n).drewN m) :=
    fun i n a b => lit_ok i p B a b (w.drewN n) (T.drewN n) hp
  clear hp T
  generalize hz : st p + 2047 = z
  have Z : Hid (st p + 2047 = z) := hz
  clear hz
  go_enter Tryd.func53, Tryd.ntmps53
  go_wp2
  go_loopg [5, 6] N (fun kx s5 s6 wr => ∃ (lo hi q : Nat), s5 = .int .i64 lo ∧ s6 = .int .i64 hi ∧ lo ≤ hi ∧ hi ≤ N ∧ hi - lo ≤ kx ∧ wr = w.drewN q ∧
    Hid ((∀ t : Int, -2047 ≤ t → t < -2047 + (lo : Int) → sq t < p) ∧ (hi = N ∨ p ≤ sq (-2047 + (hi : Int)))))
  case atStart => exact ⟨0, N, 0, rfl, rfl, by omega, by omega, by omega, rfl, (⟨fun t a b => by omega, .inl rfl⟩ : (∀ t : Int, -2047 ≤ t → t < -2047 + ((0 : Nat) : Int) → sq t < p) ∧ (N = N ∨ p ≤ sq (-2047 + (N : Int))))⟩
  case round =>
    obtain ⟨lo, hi, q, rfl, rfl, hlh, hin, hg, rfl, I⟩ := hrel
    by_cases hlt : lo < hi
    · have hq := hc.out (((lo : Int) + (hi : Int)) / 2) q (by omega) (by omega)
      cases hd : decide (p ≤ sq (-2047 + ((lo : Int) + (hi : Int)) / 2)) <;> rw [hd] at hq
      · have HP : Hid (sq (-2047 + ((lo : Int) + (hi : Int)) / 2) < p) := show sq (-2047 + ((lo : Int) + (hi : Int)) / 2) < p from by have := of_decide_eq_false hd; omega
        clear hd
        go_wp2_with (go_at_call 54; refine hq.mono ?_; rintro e w' ⟨rfl, nq, rfl⟩)
        go_roundg (hi - ((lo + hi) / 2 + 1))
        case measure => omega
        case rel =>
          have I2 : Hid ((∀ t : Int, -2047 ≤ t → t < -2047 + (((lo + hi) / 2 + 1 : Nat) : Int) → sq t < p) ∧ (hi = N ∨ p ≤ sq (-2047 + (hi : Int)))) := ⟨fun t a b => (by
            have h1 := sq_mono t (-2047 + ((lo : Int) + (hi : Int)) / 2) (by omega) (by omega) (by omega)
            have h2 := HP.out
            omega), I.out.2⟩
          exact ⟨(lo + hi) / 2 + 1, hi, q + nq, by rw [show ((lo : Int) + (hi : Int)) / 2 + 1 = (((lo + hi) / 2 + 1 : Nat) : Int) by omega], rfl, by omega, hin, Nat.le_refl _, by simp, I2⟩
      · have HP : Hid (p ≤ sq (-2047 + ((lo : Int) + (hi : Int)) / 2)) := show p ≤ sq (-2047 + ((lo : Int) + (hi : Int)) / 2) from of_decide_eq_true hd
        clear hd
        go_wp2_with (go_at_call 54; refine hq.mono ?_; rintro e w' ⟨rfl, nq, rfl⟩)
        go_roundg ((lo + hi) / 2 - lo)
        case measure => omega
        case rel =>
          have I2 : Hid ((∀ t : Int, -2047 ≤ t → t < -2047 + (lo : Int) → sq t < p) ∧ ((lo + hi) / 2 = N ∨ p ≤ sq (-2047 + (((lo + hi) / 2 : Nat) : Int)))) := ⟨I.out.1, .inr (by
            rw [show (((lo + hi) / 2 : Nat) : Int) = ((lo : Int) + (hi : Int)) / 2 by omega]; exact HP.out)⟩
          exact ⟨lo, (lo + hi) / 2, q + nq, rfl, by rw [show ((lo : Int) + (hi : Int)) / 2 = (((lo + hi) / 2 : Nat) : Int) by omega], by omega, by omega, Nat.le_refl _, by simp, I2⟩
    · obtain rfl : hi = lo := by omega
      have E : z = (hi : Int) := by
        have h : Least p (-2047 + (hi : Int)) := ⟨by omega, by omega, I.out.1, by
          rcases I.out.2 with h | h
          · have h5 : N = 4094 := hN.out
            exact .inl (by omega)
          · exact .inr h⟩
        have h6 := st_is h
        have h7 := Z.out
        omega
      subst E
      clear I Z
      go_wp2
      go_ret
      exact ⟨rfl, q, rfl⟩

theorem search_ok (p : Int) (B : Nat) (w : World) (T : Tab w) (hp : w.cell? ⟨B, 0, none⟩ = some (.int .i64 p)) :
    Calls Tryd.prog 53 #[.int .i64 4094, .func (.func 54) #[] #[.pointer (some ⟨B, 0, none⟩)]] w fun e w' => e = .returned (.int .i64 (st p + 2047)) ∧ ∃ m, w' = w.drewN m :=
  search_any 4094 (Nat.le_refl _) (show (4094 : Nat) = 4094 from rfl) p B w T hp

theorem Tab.onto {w w' : World} (T : Tab w) (h : Onto w w') : Tab w' := fun d hd => h.cell_some (T d hd)

set_option maxHeartbeats 1000000 in
theorem stretch_ok (p : Int) (h0 : 0 ≤ p) (h1 : p ≤ 4095) (w : World) (T : Tab w) :
    Calls Tryd.prog 40 #[.int .i64 p] w fun e w' => e = .returned (.tuple #[.int .i64 (st p), .int .i64 0]) ∧ Onto w w' := by
  have TT : Hid (Tab w) := T
  have b1 : -2047 ≤ st p := (st_least p).1
  have b2 : st p ≤ 2047 := (st_least p).2.1
  have q := fun B W => search_ok p B W
  have Q : Hid (∀ B W, Tab W → W.cell? ⟨B, 0, none⟩ = some (.int .i64 p) → Calls Tryd.prog 53 #[.int .i64 4094, .func (.func 54) #[] #[.pointer (some ⟨B, 0, none⟩)]] W fun e w' => e = .returned (.int .i64 (st p + 2047)) ∧ ∃ m, w' = W.drewN m) := q
  clear q T
  have bz : -2047 + (st p + 2047) = st p := by omega
  generalize st p = z at *
  go_enter Tryd.func40, Tryd.ntmps40
  go_wp2_with fail
  refine (Q.out _ _ (TT.out.onto ((Onto.refl _).alloc _ _)) (by simp)).mono ?_
  rintro e w1 ⟨rfl, m, rfl⟩
  go_wp2
  go_ret2
  exact ⟨rfl, ((Onto.refl _).alloc _ _).drewN _⟩

set_option maxHeartbeats 1000000 in
theorem stretch_no (p : Int) (h : p < 0 ∨ 4095 < p) (w : World) :
    Calls Tryd.prog 40 #[.int .i64 p] w fun e w' => e = .returned (.tuple #[.int .i64 0, .int .i64 600]) ∧ Onto w w' := by
  by_cases h0 : p < 0
  · clear h
    go_enter Tryd.func40, Tryd.ntmps40
    go_wp2
    go_ret2
    exact ⟨rfl, (Onto.refl _).alloc _ _⟩
  · have h1 : 4095 < p := by omega
    clear h
    go_enter Tryd.func40, Tryd.ntmps40
    go_wp2
    go_ret2
    exact ⟨rfl, (Onto.refl _).alloc _ _⟩

end Go.Proofs.YtnldnkcfeclmpaaDoor.Str
