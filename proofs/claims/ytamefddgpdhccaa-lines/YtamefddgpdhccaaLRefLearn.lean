/-
  The contract of the reference's Learn of a line: what lms.Learn answers. No condition.
-/
import Derived.Test.YtamefddgpdhccaaLRef
import Derived.Deep.RegionHeld3
namespace Go.Proofs.Ytamefddgpdhccaa.Lin
open Go.RowKit Go.Sort Go.Proofs.Ytamefddgpdhccaa.Mod
set_option linter.unusedVariables false
set_option linter.unusedSimpArgs false

/-- Behind n rounds of the reference: a weight that learned, a number that went one further on. -/
def rturned (L : List Int) (off : Int) : Nat → List Int
  | 0 => L
  | n + 1 => if 0 < n then ((rturned L off n).set n (stp L off n)).set (8 + n) (L.getD (8 + (n - 1)) 0) else (rturned L off n).set n (stp L off n)

theorem rturned_len (L : List Int) (off : Int) : ∀ n, (rturned L off n).length = L.length
  | 0 => rfl
  | n + 1 => by rw [rturned]; split <;> simp [rturned_len L off n]

theorem rturned_w (L : List Int) (off : Int) (hL : L.length = 16) (k : Nat) (hk : k < 8) : ∀ n, n ≤ 8 → (rturned L off n).getD k 0 = if k < n then stp L off k else L.getD k 0
  | 0, _ => by rw [if_neg (by omega)]; rfl
  | n + 1, h => by
    have ih := rturned_w L off hL k hk n (by omega)
    have one : ((rturned L off n).set n (stp L off n)).getD k 0 = if k < n + 1 then stp L off k else L.getD k 0 := by
      by_cases e : k = n
      · subst e
        rw [Mod.getD_set_eq _ _ _ (by rw [rturned_len]; omega), if_pos (by omega)]
      · rw [Mod.getD_set_ne _ _ _ _ (fun q => e q.symm), ih]
        by_cases h1 : k < n
        · rw [if_pos h1, if_pos (by omega)]
        · rw [if_neg h1, if_neg (by omega)]
    rw [rturned]
    split
    · rw [Mod.getD_set_ne _ _ _ _ (by omega), one]
    · exact one

theorem rturned_h (L : List Int) (off : Int) (hL : L.length = 16) (k : Nat) (hk : k < 8) : ∀ n, n ≤ 8 → (rturned L off n).getD (8 + k) 0 = if 0 < k ∧ k < n then L.getD (8 + (k - 1)) 0 else L.getD (8 + k) 0
  | 0, _ => by rw [if_neg (by omega)]; rfl
  | n + 1, h => by
    have ih := rturned_h L off hL k hk n (by omega)
    have one : ((rturned L off n).set n (stp L off n)).getD (8 + k) 0 = (rturned L off n).getD (8 + k) 0 := Mod.getD_set_ne _ _ _ _ (by omega)
    rw [rturned]
    by_cases h0 : 0 < n
    · rw [if_pos h0]
      by_cases e : k = n
      · subst e
        rw [Mod.getD_set_eq _ _ _ (by rw [List.length_set, rturned_len]; omega), if_pos (by omega)]
      · rw [Mod.getD_set_ne _ _ _ _ (by omega), one, ih]
        by_cases h1 : 0 < k ∧ k < n
        · rw [if_pos h1, if_pos (by omega)]
        · rw [if_neg h1, if_neg (by omega)]
    · rw [if_neg h0, one, ih, if_neg (by omega), if_neg (by omega)]

theorem rlearn_is (L : List Int) (x : Int) (hL : L.length = 16) : (rturned L (x - guess L) 8).set 8 x = learn L x := by
  have l1 : ((rturned L (x - guess L) 8).set 8 x).length = 16 := by rw [List.length_set, rturned_len, hL]
  refine ext_getD _ _ (l1.trans ((learn_len L x).trans hL).symm) fun k hk => ?_
  rw [l1] at hk
  rw [learn_get L x hL k hk]
  by_cases h1 : k < 8
  · rw [if_pos h1, Mod.getD_set_ne _ _ _ _ (by omega), rturned_w L _ hL k h1 8 (by decide), if_pos h1]
  · rw [if_neg h1]
    by_cases h2 : k = 8
    · subst h2
      rw [if_pos rfl, Mod.getD_set_eq _ _ _ (by rw [rturned_len]; omega)]
    · rw [if_neg h2, Mod.getD_set_ne _ _ _ _ (fun q => h2 q.symm)]
      have := rturned_h L (x - guess L) hL (k - 8) (by omega) 8 (by decide)
      rw [if_pos (by omega), show 8 + (k - 8) = k by omega, show 8 + (k - 8 - 1) = k - 1 by omega] at this
      exact this

set_option maxHeartbeats 1000000 in
theorem rlearn_no (L : List Int) (hL : L.length = 16) (x : Int) (hm : mayL L = false) (w : World) :
    Calls Try.prog 32 #[mdl L, .int .i64 x] w fun e w' => e = .returned (.tuple #[mdl zeros16, .int .i64 1400]) ∧ Bel w w' := by
  have NL : Hid (L.length = 16) := hL
  have NZ : Hid (zeros16.length = 16) := zeros16_len
  have z := zero24
  have G : Hid (∀ w, Calls Try.prog 30 #[mdl L] w fun e w' => e = .returned (.tuple #[.int .i64 0, .int .i64 1400]) ∧ Bel w w') := rguess_no L hL hm
  have H1 : Hid (Holds ((w.alloc (.cells (vals L).toArray 41)).alloc (.cells (vals zeros16).toArray 41)) w.heap.size L) := (holds_new w L 41).bel ((Bel.refl _).alloc _)
  have R1 : Hid (Holds ((w.alloc (.cells (vals L).toArray 41)).alloc (.cells (vals zeros16).toArray 41)) (w.heap.size + 1) zeros16) := holds_at (by simp) zeros16 41
  clear hm hL
  go_enter Try.func32, Try.ntmps32
  go_wp2_with (first | (with_reducible refine wpl_load24 H1.out NL.out rfl ?_))
  refine (G.out _).mono ?_
  rintro e w1 ⟨rfl, b⟩
  have B1 : Hid (Bel w w1) := (((Bel.refl w).alloc _).alloc _).trans b
  have R2 : Hid (Holds w1 (w.heap.size + 1) zeros16) := R1.out.bel b
  clear b R1 H1
  go_wp2_with (first
    | (with_reducible refine wpl_build24 ?_)
    | (with_reducible refine wpl_store24 R2.out NZ.out NZ.out rfl rfl ?_))
  have R3 := holds_all R2.out zeros16 rfl
  exact bodyPost_ret (v := .tuple #[mdl zeros16, .int .i64 1400]) (results_lms2 Try.results32 rfl rfl R3 NZ.out) rfl ⟨rfl, Bel.setCells (by omega) _ _ B1.out⟩

set_option maxHeartbeats 1000000 in
theorem rlearn_far (L : List Int) (hL : L.length = 16) (x : Int) (hm : mayL L = true) (hx : passed 4194304 x = true) (w : World) :
    Calls Try.prog 32 #[mdl L, .int .i64 x] w fun e w' => e = .returned (.tuple #[mdl zeros16, .int .i64 1400]) ∧ Bel w w' := by
  have NL : Hid (L.length = 16) := hL
  have NZ : Hid (zeros16.length = 16) := zeros16_len
  have z := zero24
  have G : Hid (∀ w, Calls Try.prog 30 #[mdl L] w fun e w' => e = .returned (.tuple #[.int .i64 (guess L), .int .i64 0]) ∧ Bel w w') := rguess_yes L hL hm
  have P : Hid (∀ w, Calls Try.prog 26 #[.int .i64 x, .int .i64 (-4194304), .int .i64 4194304] w fun e w' => e = .returned (.bool false) ∧ w' = w) := fun w => by
    have := upto_ok 4194304 x w
    rwa [hx] at this
  have H1 : Hid (Holds ((w.alloc (.cells (vals L).toArray 41)).alloc (.cells (vals zeros16).toArray 41)) w.heap.size L) := (holds_new w L 41).bel ((Bel.refl _).alloc _)
  have R1 : Hid (Holds ((w.alloc (.cells (vals L).toArray 41)).alloc (.cells (vals zeros16).toArray 41)) (w.heap.size + 1) zeros16) := holds_at (by simp) zeros16 41
  generalize guess L = g at *
  clear hm hL hx
  go_enter Try.func32, Try.ntmps32
  go_wp2_with (first | (with_reducible refine wpl_load24 H1.out NL.out rfl ?_))
  refine (G.out _).mono ?_
  rintro e w1 ⟨rfl, b⟩
  have B1 : Hid (Bel w w1) := (((Bel.refl w).alloc _).alloc _).trans b
  have R2 : Hid (Holds w1 (w.heap.size + 1) zeros16) := R1.out.bel b
  clear b R1 H1
  go_wp2_with fail
  refine (P.out _).mono ?_
  rintro e w2 ⟨rfl, rfl⟩
  go_wp2_with (first
    | (with_reducible refine wpl_build24 ?_)
    | (with_reducible refine wpl_store24 R2.out NZ.out NZ.out rfl rfl ?_))
  have R3 := holds_all R2.out zeros16 rfl
  exact bodyPost_ret (v := .tuple #[mdl zeros16, .int .i64 1400]) (results_lms2 Try.results32 rfl rfl R3 NZ.out) rfl ⟨rfl, Bel.setCells (by omega) _ _ B1.out⟩

end Go.Proofs.Ytamefddgpdhccaa.Lin
