/-
  The contracts of slices.IndexFunc and slices.ContainsFunc over a limit's method, and of lms.May. Conditions: the cells of the slice that is asked.
-/
import Derived.Test.YtamefddgpdhccaaLSmall
namespace Go.Proofs.Ytamefddgpdhccaa.Lin
open Go.RowKit Go.Sort Go.Proofs.Ytamefddgpdhccaa.Mod
set_option linter.unusedVariables false
set_option linter.unusedSimpArgs false

set_option maxHeartbeats 1000000 in
theorem index_passed (l : Int) (hl0 : 0 ≤ l) (hl1 : l ≤ 4194304) (n : Nat) (hn : n ≤ 64) (o B : Nat) (f : Nat → Int) (w : World) (cs : ∀ j, j < n → w.cell? ⟨B, o + j, none⟩ = some (.int .i64 (f j))) :
    Calls Try.prog 33 #[.slice (some ⟨B, o, none⟩) n n, .func (.func 24) #[.int .i64 l] #[]] w fun e w' => (∃ r : Int, e = .returned (.int .i64 r) ∧ decide (0 ≤ r) = anyOf (passed l) f n) ∧ w' = w := by
  have P : Hid (∀ x w, Calls Try.prog 24 #[.int .i64 l, .int .i64 x] w fun e w' => e = .returned (.bool (passed l x)) ∧ w' = w) := fun x w => passed_ok l x hl0 hl1 w
  have CS : Hid (∀ j, j < n → w.cell? ⟨B, o + j, none⟩ = some (.int .i64 (f j))) := cs
  clear cs
  go_enter Try.func33, Try.ntmps33
  go_wp2_with fail
  go_loopw [8] (fun i wr => ∃ j : Nat, j ≤ n ∧ i = .int .i64 (j : Int) ∧ Hid (∀ i, i < j → passed l (f i) = false) ∧ wr = w) (fun i _ => n - (intOf i).toNat)
  case atStart => exact ⟨0, by omega, rfl, (fun i hi => by omega : ∀ i, i < 0 → passed l (f i) = false), rfl⟩
  case round =>
    obtain ⟨j, hj, rfl, HN, rfl⟩ := hrel
    by_cases hlt : j < n
    · have hc := CS.out j hlt
      have hd : decide ((j : Int) < (n : Int)) = true := decide_eq_true (by omega)
      obtain ⟨x, hx⟩ : ∃ x, f j = x := ⟨_, rfl⟩
      rw [hx] at hc
      cases hp : passed l x
      · have HN2 : Hid (∀ i, i < j + 1 → passed l (f i) = false) := fun i hi => by
          rcases Nat.lt_or_ge i j with h | h
          · exact HN.out i h
          · obtain rfl : i = j := by omega
            rw [hx]; exact hp
        have PP := P.out x
        rw [hp] at PP
        have PQ : Hid (∀ w, Calls Try.prog 24 #[.int .i64 l, .int .i64 x] w fun e w' => e = .returned (.bool false) ∧ w' = w) := PP
        clear PP hx hp HN
        go_wp2_with fail
        refine (PQ.out _).mono ?_
        rintro e w1 ⟨rfl, rfl⟩
        go_wp2
        go_roundw
        case rel => exact ⟨j + 1, by omega, by go_num, HN2, by trivial⟩
        case measure => simp [intOf]; omega
      · have HA : Hid (anyOf (passed l) f n = true) := anyOf_yes j hlt (by rw [hx]; exact hp)
        have PP := P.out x
        rw [hp] at PP
        have PQ : Hid (∀ w, Calls Try.prog 24 #[.int .i64 l, .int .i64 x] w fun e w' => e = .returned (.bool true) ∧ w' = w) := PP
        clear PP hx hp HN
        go_wp2_with fail
        refine (PQ.out _).mono ?_
        rintro e w1 ⟨rfl, rfl⟩
        go_wp2
        go_ret
        exact ⟨⟨_, rfl, by rw [HA.out]; exact decide_eq_true (by omega)⟩, rfl⟩
    · have hd : decide ((j : Int) < (n : Int)) = false := decide_eq_false (by omega)
      have HA : Hid (anyOf (passed l) f n = false) := anyOf_no fun i hi => HN.out i (by omega)
      clear HN
      go_wp2
      go_ret
      exact ⟨⟨_, rfl, by rw [HA.out]; decide⟩, rfl⟩

set_option maxHeartbeats 400000 in
theorem contains_passed (l : Int) (hl0 : 0 ≤ l) (hl1 : l ≤ 4194304) (n : Nat) (hn : n ≤ 64) (o B : Nat) (f : Nat → Int) (w : World) (cs : ∀ j, j < n → w.cell? ⟨B, o + j, none⟩ = some (.int .i64 (f j))) :
    Calls Try.prog 23 #[.slice (some ⟨B, o, none⟩) n n, .func (.func 24) #[.int .i64 l] #[]] w fun e w' => e = .returned (.bool (anyOf (passed l) f n)) ∧ w' = w := by
  have I := index_passed l hl0 hl1 n hn o B f w cs
  generalize anyOf (passed l) f n = k at *
  clear cs
  have I2 : Hid (Calls Try.prog 33 #[.slice (some ⟨B, o, none⟩) n n, .func (.func 24) #[.int .i64 l] #[]] w fun e w' => (∃ r : Int, e = .returned (.int .i64 r) ∧ decide (0 ≤ r) = k) ∧ w' = w) := I
  clear I
  go_enter Try.func23, Try.ntmps23
  go_wp2_with fail
  refine (I2.out).mono ?_
  rintro e w1 ⟨⟨r, rfl, hr⟩, rfl⟩
  subst hr
  go_wp2
  go_ret
  exact ⟨rfl, rfl⟩

set_option maxHeartbeats 1000000 in
theorem may_ok (L : List Int) (hL : L.length = 16) (w : World) :
    Calls Try.prog 40 #[mdl L] w fun e w' => e = .returned (.bool (mayL L)) ∧ Bel w w' := by
  have C : Hid (∀ (B : Nat) (w : World), Holds w B L → Calls Try.prog 23 #[.slice (some ⟨B, 0, none⟩) 8 8, .func (.func 24) #[.int .i64 1048576] #[]] w fun e w' => e = .returned (.bool (anyOf (passed 1048576) (fun j => L.getD j 0) 8)) ∧ w' = w) :=
    fun B w h => contains_passed 1048576 (by decide) (by decide) 8 (by decide) 0 B _ w (fun j hj => by rw [Nat.zero_add]; exact h.cell j (by omega))
  have D : Hid (∀ (B : Nat) (w : World), Holds w B L → Calls Try.prog 23 #[.slice (some ⟨B, 8, none⟩) 8 8, .func (.func 24) #[.int .i64 4194304] #[]] w fun e w' => e = .returned (.bool (anyOf (passed 4194304) (fun j => L.getD (8 + j) 0) 8)) ∧ w' = w) :=
    fun B w h => contains_passed 4194304 (by decide) (by decide) 8 (by decide) 8 B _ w (fun j hj => h.cell (8 + j) (by omega))
  have H1 : Hid (Holds (w.alloc (.cells (vals L).toArray 41)) w.heap.size L) := holds_new w L 41
  unfold mayL
  generalize anyOf (passed 1048576) (fun j => L.getD j 0) 8 = p at *
  generalize anyOf (passed 4194304) (fun j => L.getD (8 + j) 0) 8 = q at *
  clear hL
  cases p
  · go_enter Try.func40, Try.ntmps40
    go_wp2_with fail
    refine (C.out _ _ H1.out).mono ?_
    rintro e w1 ⟨rfl, rfl⟩
    go_wp2_with fail
    refine (D.out _ _ H1.out).mono ?_
    rintro e w1 ⟨rfl, rfl⟩
    go_wp2
    go_ret
    exact ⟨rfl, (Bel.refl _).alloc _⟩
  · go_enter Try.func40, Try.ntmps40
    go_wp2_with fail
    refine (C.out _ _ H1.out).mono ?_
    rintro e w1 ⟨rfl, rfl⟩
    go_wp2
    go_ret
    exact ⟨rfl, (Bel.refl _).alloc _⟩

end Go.Proofs.Ytamefddgpdhccaa.Lin
