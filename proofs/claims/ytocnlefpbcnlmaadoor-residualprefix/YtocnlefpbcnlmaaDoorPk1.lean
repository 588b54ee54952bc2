/-
  Plain facts on the chance of a number (P6.1) and the least number of a chance (P6.2). No condition.
  The contract of Squash: it answers the chance of P6.1 for any int. Condition: the package's table is laid as its text lays it.
  From the row's condition (the package's table is laid as its text lays it) to what the walks ask; the witness. No condition of its own.
  Plain facts on three inputs with their weights (P8.1, P8.2): which may be, the chance, a weight's step, where a weight is held. No condition.
  Plain facts on numbers and bytes that the proofs of this seat use: masks and joins of Go's int, numbers told byte by byte, the lowest first. No condition.
  'Onto w w'': the world w' is w with new blocks laid behind it, and nothing old has turned; both of the library's words for that at once. No condition.
-/
import Derived.WalkKit
import Derived.Test.YtocnlefpbcnlmaaDoorRows
import Derived.WalkLawsBesides
import Derived.WalkSpells
import Derived.ProofKit
import Derived.Deep.QuietTactic
import Derived.BigQuiet
import Derived.LaidMore
import Derived.Lib.LaidTab
import Derived.OpenShut
import Derived.Stop.Joined
import Derived.Laws.BytesArg
import Derived.Laws.BitsLemmas
import Derived.Below
import Derived.Deep.Draws

namespace Go.Proofs.YtocnlefpbcnlmaaDoor.Str

/-- The table of P6.1. -/
def places : List Int := [1, 2, 3, 6, 10, 16, 27, 45, 73, 120, 194, 310, 488, 747, 1101, 1546, 2047, 2549, 2994, 3348, 3607, 3785, 3901, 3975, 4022, 4050, 4068, 4079, 4085, 4089, 4092, 4093, 4094]

/-- The chance that x stands for. -/
def sq (x : Int) : Int :=
  if x > 2047 then 4095 else if x < -2047 then 0
  else (places.getD ((x + 2048) / 128).toNat 0 * (128 - (x + 2048) % 128) + places.getD (((x + 2048) / 128).toNat + 1) 0 * ((x + 2048) % 128) + 64) / 128

theorem sq_above (x : Int) (h : 2047 < x) : sq x = 4095 := by simp [sq, h]
theorem sq_below (x : Int) (h : x < -2047) : sq x = 0 := by
  have : ¬ x > 2047 := by omega
  simp [sq, h, this]

theorem sq_at (x : Int) (h0 : -2047 ≤ x) (h1 : x ≤ 2047) : sq x = (places.getD ((x + 2048) / 128).toNat 0 * (128 - (x + 2048) % 128) + places.getD (((x + 2048) / 128).toNat + 1) 0 * ((x + 2048) % 128) + 64) / 128 := by
  have a : ¬ x > 2047 := by omega
  have b : ¬ x < -2047 := by omega
  simp only [sq, if_neg a, if_neg b]

theorem places_low : ∀ d, d < 33 → 0 ≤ places.getD d 0 ∧ places.getD d 0 ≤ 4094 := by decide +kernel

set_option maxRecDepth 100000 in
theorem steps : ((List.range 4096).all fun i => decide (sq ((i : Int) - 2048) ≤ sq ((i : Int) - 2047))) = true := by decide +kernel

theorem sq_step (x : Int) (h0 : -2048 ≤ x) (h1 : x ≤ 2047) : sq x ≤ sq (x + 1) := by
  have h := List.all_eq_true.1 steps (x + 2048).toNat (by simp; omega)
  have e1 : (((x + 2048).toNat : Nat) : Int) - 2048 = x := by omega
  have e2 : (((x + 2048).toNat : Nat) : Int) - 2047 = x + 1 := by omega
  rw [e1, e2] at h
  exact of_decide_eq_true h

theorem sq_mono_nat (x : Int) (h0 : -2048 ≤ x) : ∀ n : Nat, x + n ≤ 2048 → sq x ≤ sq (x + n)
  | 0, _ => by simp
  | n + 1, h => by
    have h2 := sq_mono_nat x h0 n (by omega)
    have h3 := sq_step (x + n) (by omega) (by omega)
    have e : x + ((n + 1 : Nat) : Int) = x + n + 1 := by omega
    rw [e]
    omega

theorem sq_mono (x y : Int) (h0 : -2048 ≤ x) (h1 : x ≤ y) (h2 : y ≤ 2048) : sq x ≤ sq y := by
  have h := sq_mono_nat x h0 (y - x).toNat (by omega)
  have e : x + (((y - x).toNat : Nat) : Int) = y := by omega
  rwa [e] at h

theorem sq_least : sq (-2047) = 1 := by decide +kernel
theorem sq_most : sq 2047 = 4094 := by decide +kernel

theorem sq_within (x : Int) (h0 : -2047 ≤ x) (h1 : x ≤ 2047) : 1 ≤ sq x ∧ sq x ≤ 4094 := by
  have a := sq_mono (-2047) x (by omega) h0 (by omega)
  have b := sq_mono x 2047 (by omega) h1 (by omega)
  rw [sq_least] at a
  rw [sq_most] at b
  exact ⟨a, b⟩

theorem sq_chance (x : Int) : 0 ≤ sq x ∧ sq x ≤ 4095 := by
  by_cases h : 2047 < x
  · rw [sq_above x h]; omega
  · by_cases k : x < -2047
    · rw [sq_below x k]; omega
    · have := sq_within x (by omega) (by omega); omega

/-- y is the least number from -2047 to 2047 that stands for the chance p or more; 2047, if there is none. -/
def Least (p y : Int) : Prop := -2047 ≤ y ∧ y ≤ 2047 ∧ (∀ x, -2047 ≤ x → x < y → sq x < p) ∧ (y = 2047 ∨ p ≤ sq y)

theorem least_unique {p y z : Int} (h : Least p y) (k : Least p z) : y = z := by
  obtain ⟨h1, h2, h3, h4⟩ := h
  obtain ⟨k1, k2, k3, k4⟩ := k
  by_cases a : y < z
  · have := k3 y h1 a
    omega
  · by_cases b : z < y
    · have := h3 z k1 b
      omega
    · omega

def seek (p : Int) : Nat → Int → Int
  | 0, x => x
  | k + 1, x => if p ≤ sq x then x else seek p k (x + 1)

/-- The least number of a chance. -/
def st (p : Int) : Int := seek p 4094 (-2047)

theorem seek_least (p : Int) : ∀ (k : Nat) (x : Int), -2047 ≤ x → x + k = 2047 → (∀ y, -2047 ≤ y → y < x → sq y < p) → Least p (seek p k x)
  | 0, x, h0, h1, h2 => ⟨h0, by simp at h1; simp [seek]; omega, h2, .inl (by simp at h1; simpa [seek] using h1)⟩
  | k + 1, x, h0, h1, h2 => by
    unfold seek
    by_cases c : p ≤ sq x
    · rw [if_pos c]
      exact ⟨h0, by omega, h2, .inr c⟩
    · rw [if_neg c]
      refine seek_least p k (x + 1) (by omega) (by omega) fun y a b => ?_
      by_cases d : y < x
      · exact h2 y a d
      · have : y = x := by omega
        subst this; omega

theorem st_least (p : Int) : Least p (st p) := seek_least p 4094 (-2047) (by omega) (by omega) (fun y a b => by omega)

theorem st_is {p y : Int} (h : Least p y) : y = st p := least_unique h (st_least p)

/-- A number at which p is met, and ahead of which it is not, is the least one. -/
theorem least_of (p y : Int) (h0 : -2047 ≤ y) (h1 : y ≤ 2047) (h2 : y = -2047 ∨ sq (y - 1) < p) (h3 : y = 2047 ∨ p ≤ sq y) : Least p y := by
  refine ⟨h0, h1, fun x a b => ?_, h3⟩
  rcases h2 with h | h
  · omega
  · have := sq_mono x (y - 1) (by omega) (by omega) (by omega)
    omega

theorem st_2047 : st 2047 = 0 := (st_is (least_of 2047 0 (by omega) (by omega) (.inr (by decide +kernel)) (.inr (by decide +kernel)))).symm
theorem st_0 : st 0 = -2047 := (st_is (least_of 0 (-2047) (by omega) (by omega) (.inl rfl) (.inr (by decide +kernel)))).symm
theorem st_4095 : st 4095 = 2047 := (st_is (least_of 4095 2047 (by omega) (by omega) (.inr (by decide +kernel)) (.inl rfl))).symm
theorem sq_0 : sq 0 = 2047 := by decide +kernel

/-- What StretchRises asks of the least number. -/
theorem st_ahead (p : Int) : -2047 ≤ st p ∧ st p ≤ 2047 ∧ (p ≤ sq (st p) ∨ st p = 2047) ∧ (st p = -2047 ∨ sq (st p - 1) < p) := by
  obtain ⟨h1, h2, h3, h4⟩ := st_least p
  refine ⟨h1, h2, h4.symm, ?_⟩
  by_cases c : st p = -2047
  · exact .inl c
  · exact .inr (h3 _ (by omega) (by omega))

/-- A number's chance, stretched, has that chance. -/
theorem st_back (k : Int) (h0 : -2047 ≤ k) (h1 : k ≤ 2047) : st (sq k) ≤ k ∧ sq (st (sq k)) = sq k := by
  obtain ⟨l1, l2, l3, l4⟩ := st_least (sq k)
  have a : st (sq k) ≤ k := by
    by_cases c : k < st (sq k)
    · have := l3 k h0 c; omega
    · omega
  have b := sq_mono (st (sq k)) k (by omega) a (by omega)
  refine ⟨a, ?_⟩
  rcases l4 with h | h
  · have : k = 2047 := by omega
    rw [h, this]
  · omega

set_option maxRecDepth 100000 in
theorem mirrors : ((List.range 2048).all fun i => decide (4090 ≤ sq (i : Int) + sq (-(i : Int)) ∧ sq (i : Int) + sq (-(i : Int)) ≤ 4100 ∧ sq (-(i : Int)) ≤ sq (i : Int))) = true := by decide +kernel

theorem mirror (k : Int) (h0 : 0 ≤ k) (h1 : k < 2048) : 4090 ≤ sq k + sq (-k) ∧ sq k + sq (-k) ≤ 4100 ∧ sq (-k) ≤ sq k := by
  have h := List.all_eq_true.1 mirrors k.toNat (by simp; omega)
  rw [Int.toNat_of_nonneg h0] at h
  exact of_decide_eq_true h

/-- At multiples of 128 the table stands. -/
theorem knots : ∀ i : Nat, i < 31 → sq (128 * ((i : Int) - 15)) = places.getD (i + 1) 0 := by decide +kernel

end Go.Proofs.YtocnlefpbcnlmaaDoor.Str

namespace Go.Proofs.YtocnlefpbcnlmaaDoor.Str
open Go.RowKit
set_option linter.unusedVariables false

/-- The table of package stretch, cell by cell. -/
def Tab (w : World) : Prop := ∀ d, d < 33 → w.cell? ⟨0, d, none⟩ = some (.int .i64 (places.getD d 0))

set_option maxHeartbeats 400000 in
theorem squash_above (x : Int) (h : 2047 < x) (w : World) :
    Calls Tryd.prog 72 #[.int .i64 x] w fun e w' => e = .returned (.int .i64 4095) ∧ ∃ m, w' = w.drewN m := by
  have hh : decide (x > 2047) = true := decide_eq_true h
  go_enter Tryd.func72, Tryd.ntmps72
  go_wp2
  go_ret
  exact ⟨rfl, 0, rfl⟩

set_option maxHeartbeats 400000 in
theorem squash_below (x : Int) (h : x < -2047) (w : World) :
    Calls Tryd.prog 72 #[.int .i64 x] w fun e w' => e = .returned (.int .i64 0) ∧ ∃ m, w' = w.drewN m := by
  have h2 : ¬ 2047 < x := by omega
  go_enter Tryd.func72, Tryd.ntmps72
  go_wp2
  go_ret
  exact ⟨rfl, 0, rfl⟩

set_option maxHeartbeats 1000000 in
theorem squash_mid (x a b : Int) (d v : Nat) (h0 : -2047 ≤ x) (h1 : x ≤ 2047) (hd : (x + 2048).tdiv 128 = (d : Int)) (hv : (x + 2048).tmod 128 = (v : Int)) (hd1 : d < 32) (hv1 : v < 128)
    (ha0 : 0 ≤ a) (ha1 : a ≤ 4094) (hb0 : 0 ≤ b) (hb1 : b ≤ 4094) (w : World) (ca : w.cell? ⟨0, d, none⟩ = some (.int .i64 a)) (cb : w.cell? ⟨0, d + 1, none⟩ = some (.int .i64 b)) :
    Calls Tryd.prog 72 #[.int .i64 x] w fun e w' => e = .returned (.int .i64 ((a * (128 - (v : Int)) + b * (v : Int) + 64) / 128)) ∧ ∃ m, w' = w.drewN m := by
  have h2 : ¬ 2047 < x := by omega
  have h3 : ¬ x < -2047 := by omega
  have v0 : (0 : Int) ≤ v := by omega
  have v1 : (v : Int) ≤ 127 := by omega
  have m0 : 0 ≤ a * (128 - (v : Int)) := Int.mul_nonneg ha0 (by omega)
  have m1 : a * (128 - (v : Int)) ≤ 4094 * 128 := Int.mul_le_mul ha1 (by omega) (by omega) (by omega)
  have n0 : 0 ≤ b * (v : Int) := Int.mul_nonneg hb0 v0
  have n1 : b * (v : Int) ≤ 4094 * 128 := Int.mul_le_mul hb1 (by omega) (by omega) (by omega)
  have hq : (a * (128 - (v : Int)) + b * (v : Int) + 64).tdiv 128 = (a * (128 - (v : Int)) + b * (v : Int) + 64) / 128 := Int.tdiv_eq_ediv_of_nonneg (by omega)
  go_enter Tryd.func72, Tryd.ntmps72
  go_wp2
  go_quiet (fail)
  go_wp2
  go_ret
  exact ⟨rfl, _, rfl⟩

/-- Squash answers the chance of P6.1. -/
theorem squash_ok (x : Int) (w : World) (T : Tab w) :
    Calls Tryd.prog 72 #[.int .i64 x] w fun e w' => e = .returned (.int .i64 (sq x)) ∧ ∃ m, w' = w.drewN m := by
  by_cases h : 2047 < x
  · rw [sq_above x h]; exact squash_above x h w
  · by_cases k : x < -2047
    · rw [sq_below x k]; exact squash_below x k w
    · have e1 : (x + 2048).tdiv 128 = ((((x + 2048) / 128).toNat : Nat) : Int) := by
        rw [Int.tdiv_eq_ediv_of_nonneg (by omega)]; omega
      have e2 : (x + 2048).tmod 128 = ((((x + 2048) % 128).toNat : Nat) : Int) := by
        rw [Int.tmod_eq_emod_of_nonneg (by omega)]; omega
      have l1 := places_low ((x + 2048) / 128).toNat (by omega)
      have l2 := places_low (((x + 2048) / 128).toNat + 1) (by omega)
      have c := squash_mid x _ _ _ _ (by omega) (by omega) e1 e2 (by omega) (by omega) l1.1 l1.2 l2.1 l2.2 w (T _ (by omega)) (T _ (by omega))
      rw [sq_at x (by omega) (by omega)]
      have e3 : ((((x + 2048) % 128).toNat : Nat) : Int) = (x + 2048) % 128 := by omega
      rw [e3] at c
      exact c

theorem Tab.drewN {w : World} (T : Tab w) (n : Nat) : Tab (w.drewN n) := T

end Go.Proofs.YtocnlefpbcnlmaaDoor.Str

namespace Go.Proofs.YtocnlefpbcnlmaaDoor.Str
open Go.RowKit

theorem own : ownKnob Tryd.prog.godebug = none := by kernel_rfl
/-- What the rows list: the table of package stretch. -/
def laid : List (String × DataW Unit) := Rows.residualBackRow.laid
def name : String := Rows.residualBackRow.named.headD ""

theorem gPlaces : Tryd.prog.globalNamed name = some 0 := by kernel_rfl
theorem tPlaces : (Tryd.prog.globals[0]?).map (·.type) = some 114 := by kernel_rfl
theorem cPlaces : Tryd.prog.cellsOf 114 = 33 := by kernel_rfl
theorem cInt : Tryd.prog.cellsOf 3 = 1 := by kernel_rfl

/-- The door's own heap meets the condition: three closed facts. -/
theorem door_met (os : Os) (args : Array Value) : laidMetH Tryd.prog laid ((World.doorLaid Tryd.prog 400 os).forCall (fun _ _ => 0) ⟨#[], args, []⟩).memory :=
  laidMetH_of_parts3 (fuel := 8) (laidMet_of_run' 8 (by kernel_rfl) (by kernel_rfl)) (by kernel_rfl) (by kernel_rfl)

/-- What the condition gives the walks: the table's cells. -/
theorem of_laid {W : World} (h : laidMetH Tryd.prog laid W) : Tab W := by
  rw [MakeChecks.laidMetH_plain _ _ _ (by kernel_rfl)] at h
  have h2 : laidMet Tryd.prog [(name, Lib.tabData .i64 places)] W := h
  have hT := Lib.tabIs_of_head gPlaces tPlaces Tryd.underlying114 Tryd.underlying3 cInt cPlaces h2
  exact fun d hd => hT.cell gPlaces d hd

end Go.Proofs.YtocnlefpbcnlmaaDoor.Str

namespace Go.Proofs.YtocnlefpbcnlmaaDoor.Mix
open Go.Proofs.YtocnlefpbcnlmaaDoor.Str

/-- Is x further from 0 than l? -/
def passed (l x : Int) : Bool := decide (x < -l ∨ l < x)

/-- May the weights, may the inputs be? -/
def mayB (a b c x y z : Int) : Bool := !(passed 1048576 a || passed 1048576 b || passed 1048576 c) && !(passed 2047 x || passed 2047 y || passed 2047 z)

def May (a b c x y z : Int) : Prop := (-1048576 ≤ a ∧ a ≤ 1048576) ∧ (-1048576 ≤ b ∧ b ≤ 1048576) ∧ (-1048576 ≤ c ∧ c ≤ 1048576) ∧ (-2047 ≤ x ∧ x ≤ 2047) ∧ (-2047 ≤ y ∧ y ≤ 2047) ∧ (-2047 ≤ z ∧ z ≤ 2047)

theorem mayB_iff (a b c x y z : Int) : mayB a b c x y z = true ↔ May a b c x y z := by
  simp only [mayB, passed, May, Bool.and_eq_true, Bool.not_eq_true', Bool.or_eq_false_iff, decide_eq_false_iff_not]
  omega

theorem mayB_yes {a b c x y z : Int} (h : May a b c x y z) : mayB a b c x y z = true := (mayB_iff a b c x y z).2 h
theorem mayB_no {a b c x y z : Int} (h : ¬ May a b c x y z) : mayB a b c x y z = false := by
  cases e : mayB a b c x y z
  · rfl
  · exact absurd ((mayB_iff a b c x y z).1 e) h

/-- At least 1. -/
def raise (p : Int) : Int := if p ≤ 1 then 1 else p

def sum (a b c x y z : Int) : Int := a * x + b * y + c * z

/-- What Dot answers, for what may be. -/
def dot (a b c x y z : Int) : Int := raise (sq (sum a b c x y z / 65536))

/-- A weight's step. -/
def stp (x off : Int) : Int := (x * off + 512) / 1024

/-- Where a weight is held. -/
def hold (x : Int) : Int := if x ≤ -1048576 then -1048576 else if 1048576 < x then 1048576 else x

/-- What becomes of a weight. -/
def trn (a x off : Int) : Int := hold (a + stp x off)

theorem raise_range (x : Int) : 1 ≤ raise (sq x) ∧ raise (sq x) ≤ 4095 := by
  have := sq_chance x
  unfold raise
  split <;> omega

theorem dot_range (a b c x y z : Int) : 1 ≤ dot a b c x y z ∧ dot a b c x y z ≤ 4095 := raise_range _

theorem prod_le (a x : Int) (ha0 : -1048576 ≤ a) (ha1 : a ≤ 1048576) (hx0 : -2047 ≤ x) (hx1 : x ≤ 2047) : -2146435072 ≤ a * x ∧ a * x ≤ 2146435072 := by
  by_cases h : 0 ≤ x
  · have h1 : a * x ≤ 1048576 * x := Int.mul_le_mul_of_nonneg_right ha1 h
    have h2 : -1048576 * x ≤ a * x := Int.mul_le_mul_of_nonneg_right ha0 h
    omega
  · have h1 : 1048576 * x ≤ a * x := Int.mul_le_mul_of_nonpos_right ha1 (by omega)
    have h2 : a * x ≤ -1048576 * x := Int.mul_le_mul_of_nonpos_right ha0 (by omega)
    omega

theorem off_le (x o : Int) (hx0 : -2047 ≤ x) (hx1 : x ≤ 2047) (ho0 : -4096 ≤ o) (ho1 : o ≤ 4096) : -8384512 ≤ x * o ∧ x * o ≤ 8384512 := by
  by_cases h : 0 ≤ o
  · have h1 : x * o ≤ 2047 * o := Int.mul_le_mul_of_nonneg_right hx1 h
    have h2 : -2047 * o ≤ x * o := Int.mul_le_mul_of_nonneg_right hx0 h
    omega
  · have h1 : 2047 * o ≤ x * o := Int.mul_le_mul_of_nonpos_right hx1 (by omega)
    have h2 : x * o ≤ -2047 * o := Int.mul_le_mul_of_nonpos_right hx0 (by omega)
    omega

theorem stp_range (x o : Int) (hx0 : -2047 ≤ x) (hx1 : x ≤ 2047) (ho0 : -4096 ≤ o) (ho1 : o ≤ 4096) : -8192 ≤ stp x o ∧ stp x o ≤ 8192 := by
  have := off_le x o hx0 hx1 ho0 ho1
  unfold stp
  omega

theorem hold_range (x : Int) : -1048576 ≤ hold x ∧ hold x ≤ 1048576 := by
  unfold hold
  split
  · omega
  · split <;> omega

theorem trn_range (a x o : Int) : -1048576 ≤ trn a x o ∧ trn a x o ≤ 1048576 := hold_range _

/-- Over all numbers a greater one has no lesser chance. -/
theorem sq_mono_all (x y : Int) (h : x ≤ y) : sq x ≤ sq y := by
  by_cases hx : x < -2047
  · rw [sq_below x hx]; exact (sq_chance y).1
  · by_cases hy : 2047 < y
    · rw [sq_above y hy]; exact (sq_chance x).2
    · exact sq_mono x y (by omega) h (by omega)

theorem raise_mono {p q : Int} (h : p ≤ q) : raise p ≤ raise q := by
  unfold raise
  split <;> split <;> omega

/-- A greater sum is no lesser chance. -/
theorem dot_mono {a b c x y z a' b' c' x' y' z' : Int} (h : sum a b c x y z ≤ sum a' b' c' x' y' z') : dot a b c x y z ≤ dot a' b' c' x' y' z' :=
  raise_mono (sq_mono_all _ _ (by omega))

end Go.Proofs.YtocnlefpbcnlmaaDoor.Mix

namespace Go.Proofs.YtocnlefpbcnlmaaDoor.Num

theorem wraps_i64 (n : Int) (h0 : 0 ≤ n) (h1 : n < 2 ^ 63) : IntKind.i64.wrap n = n := by
  rw [IntKind.wrap_i64]; omega

/-- 'n & (2^i - 1)' of any int, a negative one too. -/
theorem and_mask (i m : Nat) (hi : i ≤ 62) (hm : m = 2 ^ i - 1) (n : Int) : bits .and .i64 n (m : Int) = n % ((2 ^ i : Nat) : Int) := by
  subst hm
  have hp : 2 ^ i ≤ 2 ^ 62 := Nat.pow_le_pow_right (by decide) hi
  have hpos : 0 < 2 ^ i := Nat.two_pow_pos i
  have hc : (BitVec.ofInt 64 ((2 ^ i - 1 : Nat) : Int)).toNat = 2 ^ i - 1 := by
    rw [BitVec.ofInt_natCast, BitVec.toNat_ofNat]
    exact Nat.mod_eq_of_lt (by omega)
  have key : (BitVec.ofInt 64 n &&& BitVec.ofInt 64 ((2 ^ i - 1 : Nat) : Int)).toNat = (n % ((2 ^ 64 : Nat) : Int)).toNat % 2 ^ i := by
    rw [BitVec.toNat_and, BitVec.toNat_ofInt, hc, Nat.and_two_pow_sub_one_eq_mod]
  show IntKind.i64.wrap ((BitVec.ofInt 64 n &&& BitVec.ofInt 64 ((2 ^ i - 1 : Nat) : Int)).toNat : Nat) = _
  rw [key]
  have hd : ((2 ^ i : Nat) : Int) ∣ ((2 ^ 64 : Nat) : Int) := by
    exact_mod_cast Nat.pow_dvd_pow 2 (by omega : i ≤ 64)
  have e1 : (((n % ((2 ^ 64 : Nat) : Int)).toNat % 2 ^ i : Nat) : Int) = n % ((2 ^ i : Nat) : Int) := by
    have h0 : 0 ≤ n % ((2 ^ 64 : Nat) : Int) := Int.emod_nonneg _ (by decide)
    rw [Int.natCast_emod, Int.toNat_of_nonneg h0]
    exact Int.emod_emod_of_dvd n hd
  rw [e1]
  have hq : (0 : Int) < ((2 ^ i : Nat) : Int) := by exact_mod_cast hpos
  have l1 := Int.emod_nonneg n (Int.ne_of_gt hq)
  have l2 := Int.emod_lt_of_pos n hq
  have l3 : ((2 ^ i : Nat) : Int) ≤ ((2 ^ 62 : Nat) : Int) := by exact_mod_cast hp
  exact wraps_i64 _ l1 (by have : ((2 ^ 62 : Nat) : Int) < 2 ^ 63 := by decide
                           omega)

theorem and3 (n : Int) : bits .and .i64 n 3 = n % 4 := and_mask 2 3 (by decide) (by decide) n
theorem and255 (n : Int) : bits .and .i64 n 255 = n % 256 := and_mask 8 255 (by decide) (by decide) n
theorem and1023 (n : Int) : bits .and .i64 n 1023 = n % 1024 := and_mask 10 1023 (by decide) (by decide) n
theorem and16 (n : Int) : bits .and .i64 n 65535 = n % 65536 := and_mask 16 65535 (by decide) (by decide) n
theorem and24 (n : Int) : bits .and .i64 n 16777215 = n % 16777216 := and_mask 24 16777215 (by decide) (by decide) n
theorem and32 (n : Int) : bits .and .i64 n 4294967295 = n % 4294967296 := and_mask 32 4294967295 (by decide) (by decide) n

/-- 'x | y' where y lies below x's lowest bit. -/
theorem or_join (i : Nat) (hi : i ≤ 63) (x y : Int) (hx0 : 0 ≤ x) (hx : x % 2 ^ i = 0) (hx1 : x < 2 ^ 63) (hy0 : 0 ≤ y) (hy : y < 2 ^ i) : bits .or .i64 x y = x + y :=
  bits_join .i64 63 (by decide) wraps_i64 i x y hx0 hx hx1 hy0 hy (by
    have hp : (2 : Nat) ^ i ≤ 2 ^ 63 := Nat.pow_le_pow_right (by decide) hi
    have : ((2 ^ i : Nat) : Int) ≤ ((2 ^ 63 : Nat) : Int) := by exact_mod_cast hp
    have e : ((2 ^ i : Nat) : Int) = (2 : Int) ^ i := by simp
    have e' : ((2 ^ 63 : Nat) : Int) = (2 : Int) ^ 63 := by simp
    omega)

theorem or_comm64 (x y : Int) : bits .or .i64 x y = bits .or .i64 y x := by simp only [bits, BitVec.or_comm]

theorem or8 (x y : Int) (a : 0 ≤ x) (b : x % 256 = 0) (c : x < 9223372036854775808) (d : 0 ≤ y) (e : y < 256) : bits .or .i64 x y = x + y := or_join 8 (by decide) x y a b c d e
theorem or8' (x y : Int) (a : 0 ≤ x) (b : x % 256 = 0) (c : x < 9223372036854775808) (d : 0 ≤ y) (e : y < 256) : bits .or .i64 y x = y + x := by rw [or_comm64, or8 x y a b c d e]; omega
theorem or16' (x y : Int) (a : 0 ≤ x) (b : x % 65536 = 0) (c : x < 9223372036854775808) (d : 0 ≤ y) (e : y < 65536) : bits .or .i64 y x = y + x := by rw [or_comm64, or_join 16 (by decide) x y a b c d e]; omega
theorem or24' (x y : Int) (a : 0 ≤ x) (b : x % 16777216 = 0) (c : x < 9223372036854775808) (d : 0 ≤ y) (e : y < 16777216) : bits .or .i64 y x = y + x := by rw [or_comm64, or_join 24 (by decide) x y a b c d e]; omega
theorem or0 (x : Int) (a : 0 ≤ x) (c : x < 9223372036854775808) : bits .or .i64 0 x = x := by
  rw [or_comm64, or_join 0 (by decide) x 0 a (by omega) c (by omega) (by decide)]; omega

/-- A number in k bytes, the lowest first. -/
def low : Nat → Int → List Int
  | 0, _ => []
  | k + 1, x => x % 256 :: low k (x / 256)

theorem low_length : ∀ (k : Nat) (x : Int), (low k x).length = k
  | 0, _ => rfl
  | k + 1, x => by simp [low, low_length k]

/-- The number that the bytes tell, the lowest first. -/
def num : List UInt8 → Int
  | [] => 0
  | b :: r => (b.toNat : Int) + 256 * num r

theorem byte_of (x : Int) : (((UInt8.ofNat (x % 256).toNat).toNat : Nat) : Int) = x % 256 := by
  have : (UInt8.ofNat (x % 256).toNat).toNat = (x % 256).toNat % 2 ^ 8 := UInt8.toNat_ofNat'
  rw [this]; omega

theorem num_low : ∀ (k : Nat) (x : Int), 0 ≤ x → x < 256 ^ k → num ((low k x).map fun n => UInt8.ofNat n.toNat) = x
  | 0, x, h0, h1 => by simp at h1; simp [low, num]; omega
  | k + 1, x, h0, h1 => by
    have e : (256 : Int) ^ (k + 1) = 256 ^ k * 256 := Int.pow_succ 256 k
    have h2 : x / 256 < 256 ^ k := by omega
    simp only [low, List.map_cons, num, byte_of, num_low k (x / 256) (by omega) h2]
    omega

theorem num_nonneg : ∀ l : List UInt8, 0 ≤ num l
  | [] => by simp [num]
  | b :: r => by have := num_nonneg r; simp only [num]; omega

theorem num_lt : ∀ l : List UInt8, num l < 256 ^ l.length
  | [] => by simp [num]
  | b :: r => by
    have h := num_lt r
    have hb := b.toNat_lt
    have e : (256 : Int) ^ (r.length + 1) = 256 ^ r.length * 256 := Int.pow_succ 256 _
    simp only [num, List.length_cons]
    omega

theorem low_num : ∀ l : List UInt8, (low l.length (num l)).map (fun n => UInt8.ofNat n.toNat) = l
  | [] => rfl
  | b :: r => by
    have hb := b.toNat_lt
    have h0 := num_nonneg r
    have e1 : ((b.toNat : Int) + 256 * num r) % 256 = b.toNat := by omega
    have e2 : ((b.toNat : Int) + 256 * num r) / 256 = num r := by omega
    simp only [List.length_cons, num, low, List.map_cons, e1, e2, low_num r]
    simp

theorem str_low_num (s : ByteArray) : strOfNums (low s.size (num s.data.toList)) = s := by
  have h := low_num s.data.toList
  rw [show s.data.toList.length = s.size from by simp] at h
  unfold strOfNums
  rw [h]

theorem num_str_low (k : Nat) (x : Int) (h0 : 0 ≤ x) (h1 : x < 256 ^ k) : num (strOfNums (low k x)).data.toList = x := by
  rw [strOfNums_data]; exact num_low k x h0 h1

end Go.Proofs.YtocnlefpbcnlmaaDoor.Num

namespace Go.Proofs.YtocnlefpbcnlmaaDoor
open Go.RowKit

structure Onto (w w' : World) : Prop where
  g : Grown w w'
  b : Below w.heap.size w w'

theorem Onto.refl (w : World) : Onto w w := ⟨Grown.refl _, Below.refl _ _⟩

theorem Onto.trans {a b c : World} (h : Onto a b) (k : Onto b c) : Onto a c := by
  refine ⟨?_, h.b.trans (k.b.mono h.b.size)⟩
  obtain ⟨h1, h2, h3⟩ := h.g
  obtain ⟨k1, k2, k3⟩ := k.g
  exact ⟨World.keptBut_trans h1 k1, fun x => (k2 x).trans (h2 x), Nat.le_trans h3 k3⟩

theorem Onto.alloc {w w' : World} (h : Onto w w') (c : Array Value) (t : TypeId) : Onto w (w'.alloc (.cells c t)) :=
  ⟨h.g.alloc c t, h.b.alloc h.b.size _⟩

theorem Onto.setCell {w w' : World} (h : Onto w w') {a : Addr} (ha : w.heap.size ≤ a.block) (v : Value) : Onto w (w'.setCell a v) :=
  ⟨h.g.setCell ha v, h.b.setCell ha v⟩

theorem Onto.drew {w w' : World} (h : Onto w w') : Onto w w'.drew := ⟨h.g.drew, h.b.drew⟩

theorem Onto.drewN {w w' : World} (h : Onto w w') (n : Nat) : Onto w (w'.drewN n) := by
  obtain ⟨h1, h2, h3⟩ := h.g
  exact ⟨⟨h1, h2, h3⟩, h.b.trans ⟨rfl, rfl, rfl, Nat.le_refl _, fun _ _ => rfl⟩⟩

/-- A cell that was there reads as it did. -/
theorem Onto.cell {w w' : World} (h : Onto w w') {p : Addr} (hp : p.block < w.heap.size) : w'.cell? p = w.cell? p := h.b.cell hp

theorem Onto.cell_some {w w' : World} (h : Onto w w') {p : Addr} {v : Value} (hp : w.cell? p = some v) : w'.cell? p = some v := by
  rcases Nat.lt_or_ge p.block w.heap.size with hb | hb
  · rw [h.cell hb]; exact hp
  · have e : w.heap[p.block]? = none := Array.getElem?_eq_none hb
    simp [World.cell?, e] at hp

end Go.Proofs.YtocnlefpbcnlmaaDoor
