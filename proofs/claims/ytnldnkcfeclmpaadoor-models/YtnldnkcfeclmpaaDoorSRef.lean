/-
  The contracts of the reference's Squash and Stretch: they answer as the program's do. No condition but that the numbers are ints.
-/
import Derived.Test.YtnldnkcfeclmpaaDoorSSearch
import Derived.Test.YtnldnkcfeclmpaaDoorNum
namespace Go.Proofs.YtnldnkcfeclmpaaDoor.Str
open Go.RowKit Go.Proofs.YtnldnkcfeclmpaaDoor.Num
set_option linter.unusedVariables false

set_option maxHeartbeats 400000 in
theorem ref_above (x : Int) (h : 2047 < x) (w : World) :
    Calls Tryd.prog 43 #[.int .i64 x] w fun e w' => e = .returned (.int .i64 4095) ∧ Onto w w' := by
  go_enter Tryd.func43, Tryd.ntmps43
  go_wp2
  go_ret
  exact ⟨rfl, Onto.refl _⟩

set_option maxHeartbeats 400000 in
theorem ref_below (x : Int) (h : x < -2047) (w : World) :
    Calls Tryd.prog 43 #[.int .i64 x] w fun e w' => e = .returned (.int .i64 0) ∧ Onto w w' := by
  have h2 : ¬ 2047 < x := by omega
  go_enter Tryd.func43, Tryd.ntmps43
  go_wp2
  go_ret
  exact ⟨rfl, Onto.refl _⟩

theorem row_cell (w : World) (d : Nat) (hd : d < 33) : (w.alloc (.cells #[.int .i64 1, .int .i64 2, .int .i64 3, .int .i64 6, .int .i64 10, .int .i64 16, .int .i64 27, .int .i64 45, .int .i64 73, .int .i64 120, .int .i64 194, .int .i64 310, .int .i64 488, .int .i64 747, .int .i64 1101, .int .i64 1546, .int .i64 2047, .int .i64 2549, .int .i64 2994, .int .i64 3348, .int .i64 3607, .int .i64 3785, .int .i64 3901, .int .i64 3975, .int .i64 4022, .int .i64 4050, .int .i64 4068, .int .i64 4079, .int .i64 4085, .int .i64 4089, .int .i64 4092, .int .i64 4093, .int .i64 4094] 3)).cell? ⟨w.heap.size, d, none⟩ = some (.int .i64 (places.getD d 0)) := by
  have e : (#[.int .i64 1, .int .i64 2, .int .i64 3, .int .i64 6, .int .i64 10, .int .i64 16, .int .i64 27, .int .i64 45, .int .i64 73, .int .i64 120, .int .i64 194, .int .i64 310, .int .i64 488, .int .i64 747, .int .i64 1101, .int .i64 1546, .int .i64 2047, .int .i64 2549, .int .i64 2994, .int .i64 3348, .int .i64 3607, .int .i64 3785, .int .i64 3901, .int .i64 3975, .int .i64 4022, .int .i64 4050, .int .i64 4068, .int .i64 4079, .int .i64 4085, .int .i64 4089, .int .i64 4092, .int .i64 4093, .int .i64 4094] : Array Value) = (places.map fun z => Value.int .i64 z).toArray := rfl
  have hl : d < places.length := hd
  rw [e, World.cell?_alloc_at _ _ _ _ (by simp)]
  simp [List.getD, hl]

set_option maxHeartbeats 1000000 in
theorem ref_mid (x a b : Int) (d v : Nat) (h0 : -2047 ≤ x) (h1 : x ≤ 2047) (hd : x / 128 + 16 = (d : Int)) (hv : x % 128 = (v : Int)) (hd1 : d < 32) (hv1 : v < 128)
    (ha0 : 0 ≤ a) (ha1 : a ≤ 4094) (hb0 : 0 ≤ b) (hb1 : b ≤ 4094) (w : World) (ea : places.getD d 0 = a) (eb : places.getD (d + 1) 0 = b) :
    Calls Tryd.prog 43 #[.int .i64 x] w fun e w' => e = .returned (.int .i64 ((a * (128 - (v : Int)) + b * (v : Int) + 64) / 128)) ∧ Onto w w' := by
  have h2 : ¬ 2047 < x := by omega
  have h3 : ¬ x < -2047 := by omega
  have v0 : (0 : Int) ≤ v := by omega
  have v1 : (v : Int) ≤ 127 := by omega
  have m0 : 0 ≤ a * (128 - (v : Int)) := Int.mul_nonneg ha0 (by omega)
  have m1 : a * (128 - (v : Int)) ≤ 4094 * 128 := Int.mul_le_mul ha1 (by omega) (by omega) (by omega)
  have n0 : 0 ≤ b * (v : Int) := Int.mul_nonneg hb0 v0
  have n1 : b * (v : Int) ≤ 4094 * 128 := Int.mul_le_mul hb1 (by omega) (by omega) (by omega)
  have hm : bits .and .i64 x 127 = (v : Int) := (and_mask 7 127 (by decide) (by decide) x).trans hv
  have ca := row_cell w d (by omega)
  have cb := row_cell w (d + 1) (by omega)
  rw [ea] at ca
  rw [eb] at cb
  have oo : Hid (Onto w (w.alloc (.cells #[.int .i64 1, .int .i64 2, .int .i64 3, .int .i64 6, .int .i64 10, .int .i64 16, .int .i64 27, .int .i64 45, .int .i64 73, .int .i64 120, .int .i64 194, .int .i64 310, .int .i64 488, .int .i64 747, .int .i64 1101, .int .i64 1546, .int .i64 2047, .int .i64 2549, .int .i64 2994, .int .i64 3348, .int .i64 3607, .int .i64 3785, .int .i64 3901, .int .i64 3975, .int .i64 4022, .int .i64 4050, .int .i64 4068, .int .i64 4079, .int .i64 4085, .int .i64 4089, .int .i64 4092, .int .i64 4093, .int .i64 4094] 3))) := (Onto.refl w).alloc _ _
  clear ea eb hv
  go_enter Tryd.func43, Tryd.ntmps43
  go_wp2
  generalize w.alloc (.cells #[.int .i64 1, .int .i64 2, .int .i64 3, .int .i64 6, .int .i64 10, .int .i64 16, .int .i64 27, .int .i64 45, .int .i64 73, .int .i64 120, .int .i64 194, .int .i64 310, .int .i64 488, .int .i64 747, .int .i64 1101, .int .i64 1546, .int .i64 2047, .int .i64 2549, .int .i64 2994, .int .i64 3348, .int .i64 3607, .int .i64 3785, .int .i64 3901, .int .i64 3975, .int .i64 4022, .int .i64 4050, .int .i64 4068, .int .i64 4079, .int .i64 4085, .int .i64 4089, .int .i64 4092, .int .i64 4093, .int .i64 4094] 3) = W at *
  go_quiet (fail)
  go_wp2
  go_ret
  exact ⟨rfl, oo.out.drewN _⟩

/-- The reference's Squash answers the chance of P6.1. -/
theorem ref_squash (x : Int) (w : World) :
    Calls Tryd.prog 43 #[.int .i64 x] w fun e w' => e = .returned (.int .i64 (sq x)) ∧ Onto w w' := by
  by_cases h : 2047 < x
  · rw [sq_above x h]; exact ref_above x h w
  · by_cases k : x < -2047
    · rw [sq_below x k]; exact ref_below x k w
    · have e1 : x / 128 + 16 = ((((x + 2048) / 128).toNat : Nat) : Int) := by omega
      have e2 : x % 128 = ((((x + 2048) % 128).toNat : Nat) : Int) := by omega
      have l1 := places_low ((x + 2048) / 128).toNat (by omega)
      have l2 := places_low (((x + 2048) / 128).toNat + 1) (by omega)
      have c := ref_mid x _ _ _ _ (by omega) (by omega) e1 e2 (by omega) (by omega) l1.1 l1.2 l2.1 l2.2 w rfl rfl
      rw [sq_at x (by omega) (by omega)]
      have e3 : ((((x + 2048) % 128).toNat : Nat) : Int) = (x + 2048) % 128 := by omega
      rw [e3] at c
      exact c

set_option maxHeartbeats 400000 in
theorem upTo_yes (x a b : Int) (h0 : a ≤ x) (h1 : x ≤ b) (w : World) :
    Calls Tryd.prog 41 #[.int .i64 x, .int .i64 a, .int .i64 b] w fun e w' => e = .returned (.bool true) ∧ w' = w := by
  go_enter Tryd.func41, Tryd.ntmps41
  go_wp2
  go_ret
  exact ⟨rfl, rfl⟩

set_option maxHeartbeats 400000 in
theorem upTo_no (x a b : Int) (h : x < a ∨ b < x) (w : World) :
    Calls Tryd.prog 41 #[.int .i64 x, .int .i64 a, .int .i64 b] w fun e w' => e = .returned (.bool false) ∧ w' = w := by
  by_cases h0 : a ≤ x
  · have h1 : decide (x ≤ b) = false := decide_eq_false (by omega)
    clear h
    go_enter Tryd.func41, Tryd.ntmps41
    go_wp2
    go_ret
    exact ⟨rfl, rfl⟩
  · have h1 : decide (a ≤ x) = false := decide_eq_false h0
    clear h
    go_enter Tryd.func41, Tryd.ntmps41
    go_wp2
    go_ret
    exact ⟨rfl, rfl⟩

set_option maxHeartbeats 1000000 in
theorem ref_no (p : Int) (h : p < 0 ∨ 4095 < p) (w : World) :
    Calls Tryd.prog 45 #[.int .i64 p] w fun e w' => e = .returned (.tuple #[.int .i64 0, .int .i64 600]) ∧ Onto w w' := by
  have Q : Hid (∀ w, Calls Tryd.prog 41 #[.int .i64 p, .int .i64 0, .int .i64 4095] w fun e w' => e = .returned (.bool false) ∧ w' = w) := fun w => upTo_no p 0 4095 h w
  clear h
  go_enter Tryd.func45, Tryd.ntmps45
  go_wp2_with fail
  refine (Q.out _).mono ?_
  rintro e w1 ⟨rfl, rfl⟩
  go_wp2
  go_ret2
  exact ⟨rfl, Onto.refl _⟩

set_option maxHeartbeats 2000000 in
theorem ref_any (K : Nat) (hK : 4094 ≤ K) (p : Int) (h0 : 0 ≤ p) (h1 : p ≤ 4095) (w : World) :
    Calls Tryd.prog 45 #[.int .i64 p] w fun e w' => e = .returned (.tuple #[.int .i64 (st p), .int .i64 0]) ∧ Onto w w' := by
  have Q : Hid (∀ w, Calls Tryd.prog 41 #[.int .i64 p, .int .i64 0, .int .i64 4095] w fun e w' => e = .returned (.bool true) ∧ w' = w) := fun w => upTo_yes p 0 4095 h0 h1 w
  generalize hz : st p = z
  have Z : Hid (st p = z) := hz
  clear hz
  go_enter Tryd.func45, Tryd.ntmps45
  go_wp2_with fail
  refine (Q.out _).mono ?_
  rintro e w ⟨rfl, rfl⟩
  clear Q
  go_wp2
  go_loopg [4, 5] K (fun kx s4 s5 wr => ∃ (lo hi : Int), s4 = .int .i64 lo ∧ s5 = .int .i64 hi ∧ -2047 ≤ lo ∧ lo ≤ hi ∧ hi ≤ 2047 ∧ hi - lo ≤ (kx : Int) ∧ Hid (Onto w wr) ∧
    Hid ((∀ t : Int, -2047 ≤ t → t < lo → sq t < p) ∧ (hi = 2047 ∨ p ≤ sq hi)))
  case atStart => exact ⟨-2047, 2047, rfl, rfl, by omega, by omega, by omega, by omega, Onto.refl _, (⟨fun t a b => by omega, .inl rfl⟩ : (∀ t : Int, -2047 ≤ t → t < -2047 → sq t < p) ∧ ((2047 : Int) = 2047 ∨ p ≤ sq 2047))⟩
  case round =>
    obtain ⟨lo, hi, rfl, rfl, b0, b1, b2, hg, O, I⟩ := hrel
    by_cases hlt : lo < hi
    · have hq := ref_squash ((lo + hi) / 2) wr
      have hm0 : lo ≤ (lo + hi) / 2 := by omega
      have hm1 : (lo + hi) / 2 < hi := by omega
      by_cases hd : p ≤ sq ((lo + hi) / 2)
      · have HP : Hid (p ≤ sq ((lo + hi) / 2)) := hd
        generalize sq ((lo + hi) / 2) = y at hq hd
        go_wp2_with (go_at_call 43; refine hq.mono ?_; rintro e w' ⟨rfl, o1⟩)
        go_roundg (((lo + hi) / 2 - lo).toNat)
        case measure => omega
        case rel =>
          have I2 : Hid ((∀ t : Int, -2047 ≤ t → t < lo → sq t < p) ∧ ((lo + hi) / 2 = 2047 ∨ p ≤ sq ((lo + hi) / 2))) := ⟨I.out.1, .inr HP.out⟩
          exact ⟨lo, (lo + hi) / 2, rfl, rfl, by omega, by omega, by omega, by omega, O.out.trans o1, I2⟩
      · have HP : Hid (sq ((lo + hi) / 2) < p) := show sq ((lo + hi) / 2) < p from by omega
        have hd' : decide (p ≤ sq ((lo + hi) / 2)) = false := decide_eq_false hd
        clear hd
        generalize sq ((lo + hi) / 2) = y at hq hd'
        go_wp2_with (go_at_call 43; refine hq.mono ?_; rintro e w' ⟨rfl, o1⟩)
        go_roundg ((hi - ((lo + hi) / 2 + 1)).toNat)
        case measure => omega
        case rel =>
          have I2 : Hid ((∀ t : Int, -2047 ≤ t → t < (lo + hi) / 2 + 1 → sq t < p) ∧ (hi = 2047 ∨ p ≤ sq hi)) := ⟨fun t a b => (by
            have h5 := sq_mono t ((lo + hi) / 2) (by omega) (by omega) (by omega)
            have h6 := HP.out
            omega), I.out.2⟩
          exact ⟨(lo + hi) / 2 + 1, hi, rfl, rfl, by omega, by omega, by omega, by omega, O.out.trans o1, I2⟩
    · obtain rfl : hi = lo := by omega
      have E : z = hi := by
        have h : Least p hi := ⟨by omega, by omega, I.out.1, I.out.2⟩
        exact (Z.out).symm.trans (st_is h).symm
      subst E
      clear I Z
      go_wp2
      go_ret2
      exact ⟨rfl, O.out⟩

theorem ref_stretch (p : Int) (h0 : 0 ≤ p) (h1 : p ≤ 4095) (w : World) :
    Calls Tryd.prog 45 #[.int .i64 p] w fun e w' => e = .returned (.tuple #[.int .i64 (st p), .int .i64 0]) ∧ Onto w w' :=
  ref_any 4094 (Nat.le_refl _) p h0 h1 w

end Go.Proofs.YtnldnkcfeclmpaaDoor.Str
