/-
  The contracts of slices.IndexFunc and slices.ContainsFunc over the two tests of package model, of May and of a view's may. Condition: the package's table is laid as its text lays it.
-/
import Derived.Test.YtnldnkcfeclmpaaDoorNNew
namespace Go.Proofs.YtnldnkcfeclmpaaDoor.Mod
open Go.RowKit Go.Sort
set_option linter.unusedVariables false
set_option linter.unusedSimpArgs false

/-- Is it no counter; is it no place? -/
def noCnt (c : Int) : Bool := !Cnt.cntB c
def noPlace (i : Int) : Bool := decide (i < 0 ∨ 64 ≤ i)

set_option maxHeartbeats 400000 in
theorem noCnt_ok (c : Int) (w : World) :
    Calls Tryd.prog 32 #[.int .i64 c] w fun e w' => e = .returned (.bool (noCnt c)) ∧ w' = w := by
  have q := Cnt.p_ok c
  by_cases h : Cnt.cntB c = true
  · have e : noCnt c = false := by unfold noCnt; rw [h]; rfl
    have e2 : Cnt.pAns c = .tuple #[.int .i64 (Cnt.chance c), .int .i64 0] := if_pos h
    rw [e]
    rw [e2] at q
    have Q : Hid (∀ w, Calls Tryd.prog 39 #[.int .i64 c] w fun e w' => e = .returned (.tuple #[.int .i64 (Cnt.chance c), .int .i64 0]) ∧ w' = w) := q
    clear q e2 h e
    generalize Cnt.chance c = y at *
    go_enter Tryd.func32, Tryd.ntmps32
    go_wp2_with fail
    refine (Q.out _).mono ?_
    rintro e w1 ⟨rfl, rfl⟩
    go_wp2
    go_ret
    exact ⟨rfl, rfl⟩
  · have h' : Cnt.cntB c = false := by simpa using h
    have e : noCnt c = true := by unfold noCnt; rw [h']; rfl
    have e2 : Cnt.pAns c = .tuple #[.int .i64 0, .int .i64 700] := if_neg h
    rw [e]
    rw [e2] at q
    have Q : Hid (∀ w, Calls Tryd.prog 39 #[.int .i64 c] w fun e w' => e = .returned (.tuple #[.int .i64 0, .int .i64 700]) ∧ w' = w) := q
    clear q e2 h e h'
    go_enter Tryd.func32, Tryd.ntmps32
    go_wp2_with fail
    refine (Q.out _).mono ?_
    rintro e w1 ⟨rfl, rfl⟩
    go_wp2
    go_ret
    exact ⟨rfl, rfl⟩

set_option maxHeartbeats 400000 in
theorem noPlace_ok (i : Int) (w : World) :
    Calls Tryd.prog 36 #[.int .i64 i] w fun e w' => e = .returned (.bool (noPlace i)) ∧ w' = w := by
  by_cases h : i < 0
  · have e : noPlace i = true := decide_eq_true (.inl h)
    rw [e]
    have h3 : decide (i < 0) = true := decide_eq_true h
    go_enter Tryd.func36, Tryd.ntmps36
    go_wp2
    go_ret
    exact ⟨rfl, rfl⟩
  · have e : noPlace i = decide (64 ≤ i) := by unfold noPlace; simp [h]
    rw [e]
    have h3 : decide (i < 0) = false := decide_eq_false h
    go_enter Tryd.func36, Tryd.ntmps36
    go_wp2
    go_ret
    exact ⟨rfl, rfl⟩

set_option maxHeartbeats 1000000 in
theorem index_noCnt (n : Nat) (hn : n ≤ 64) (o B : Nat) (f : Nat → Int) (w : World) (cs : ∀ j, j < n → w.cell? ⟨B, o + j, none⟩ = some (.int .i64 (f j))) :
    Calls Tryd.prog 51 #[.slice (some ⟨B, o, none⟩) n n, .func (.func 32) #[] #[]] w fun e w' => (∃ r : Int, e = .returned (.int .i64 r) ∧ decide (0 ≤ r) = anyOf noCnt f n) ∧ w' = w := by
  have P : Hid (∀ x w, Calls Tryd.prog 32 #[.int .i64 x] w fun e w' => e = .returned (.bool (noCnt x)) ∧ w' = w) := noCnt_ok
  have CS : Hid (∀ j, j < n → w.cell? ⟨B, o + j, none⟩ = some (.int .i64 (f j))) := cs
  clear cs
  go_enter Tryd.func51, Tryd.ntmps51
  go_wp2_with fail
  go_loopw [8] (fun i wr => ∃ j : Nat, j ≤ n ∧ i = .int .i64 (j : Int) ∧ Hid (∀ i, i < j → noCnt (f i) = false) ∧ wr = w) (fun i _ => n - (intOf i).toNat)
  case atStart => exact ⟨0, by omega, rfl, (fun i hi => by omega : ∀ i, i < 0 → noCnt (f i) = false), rfl⟩
  case round =>
    obtain ⟨j, hj, rfl, HN, rfl⟩ := hrel
    by_cases hlt : j < n
    · have hc := CS.out j hlt
      have hd : decide ((j : Int) < (n : Int)) = true := decide_eq_true (by omega)
      obtain ⟨x, hx⟩ : ∃ x, f j = x := ⟨_, rfl⟩
      rw [hx] at hc
      cases hp : noCnt x
      · have HN2 : Hid (∀ i, i < j + 1 → noCnt (f i) = false) := fun i hi => by
          rcases Nat.lt_or_ge i j with h | h
          · exact HN.out i h
          · obtain rfl : i = j := by omega
            rw [hx]; exact hp
        have PP := P.out x
        rw [hp] at PP
        have PQ : Hid (∀ w, Calls Tryd.prog 32 #[.int .i64 x] w fun e w' => e = .returned (.bool false) ∧ w' = w) := PP
        clear PP hx hp HN
        go_wp2_with fail
        refine (PQ.out _).mono ?_
        rintro e w1 ⟨rfl, rfl⟩
        go_wp2
        go_roundw
        case rel => exact ⟨j + 1, by omega, by go_num, HN2, by trivial⟩
        case measure => simp [intOf]; omega
      · have HA : Hid (anyOf noCnt f n = true) := anyOf_yes j hlt (by rw [hx]; exact hp)
        have PP := P.out x
        rw [hp] at PP
        have PQ : Hid (∀ w, Calls Tryd.prog 32 #[.int .i64 x] w fun e w' => e = .returned (.bool true) ∧ w' = w) := PP
        clear PP hx hp HN
        go_wp2_with fail
        refine (PQ.out _).mono ?_
        rintro e w1 ⟨rfl, rfl⟩
        go_wp2
        go_ret
        exact ⟨⟨_, rfl, by rw [HA.out]; exact decide_eq_true (by omega)⟩, rfl⟩
    · have hd : decide ((j : Int) < (n : Int)) = false := decide_eq_false (by omega)
      have HA : Hid (anyOf noCnt f n = false) := anyOf_no fun i hi => HN.out i (by omega)
      clear HN
      go_wp2
      go_ret
      exact ⟨⟨_, rfl, by rw [HA.out]; decide⟩, rfl⟩

set_option maxHeartbeats 400000 in
theorem contains_noCnt (n : Nat) (hn : n ≤ 64) (o B : Nat) (f : Nat → Int) (w : World) (cs : ∀ j, j < n → w.cell? ⟨B, o + j, none⟩ = some (.int .i64 (f j))) :
    Calls Tryd.prog 31 #[.slice (some ⟨B, o, none⟩) n n, .func (.func 32) #[] #[]] w fun e w' => e = .returned (.bool (anyOf noCnt f n)) ∧ w' = w := by
  have I := index_noCnt n hn o B f w cs
  generalize anyOf noCnt f n = k at *
  clear cs
  have I2 : Hid (Calls Tryd.prog 51 #[.slice (some ⟨B, o, none⟩) n n, .func (.func 32) #[] #[]] w fun e w' => (∃ r : Int, e = .returned (.int .i64 r) ∧ decide (0 ≤ r) = k) ∧ w' = w) := I
  clear I
  go_enter Tryd.func31, Tryd.ntmps31
  go_wp2_with fail
  refine (I2.out).mono ?_
  rintro e w1 ⟨⟨r, rfl, hr⟩, rfl⟩
  subst hr
  go_wp2
  go_ret
  exact ⟨rfl, rfl⟩

set_option maxHeartbeats 1000000 in
theorem index_noPlace (n : Nat) (hn : n ≤ 64) (o B : Nat) (f : Nat → Int) (w : World) (cs : ∀ j, j < n → w.cell? ⟨B, o + j, none⟩ = some (.int .i64 (f j))) :
    Calls Tryd.prog 51 #[.slice (some ⟨B, o, none⟩) n n, .func (.func 36) #[] #[]] w fun e w' => (∃ r : Int, e = .returned (.int .i64 r) ∧ decide (0 ≤ r) = anyOf noPlace f n) ∧ w' = w := by
  have P : Hid (∀ x w, Calls Tryd.prog 36 #[.int .i64 x] w fun e w' => e = .returned (.bool (noPlace x)) ∧ w' = w) := noPlace_ok
  have CS : Hid (∀ j, j < n → w.cell? ⟨B, o + j, none⟩ = some (.int .i64 (f j))) := cs
  clear cs
  go_enter Tryd.func51, Tryd.ntmps51
  go_wp2_with fail
  go_loopw [8] (fun i wr => ∃ j : Nat, j ≤ n ∧ i = .int .i64 (j : Int) ∧ Hid (∀ i, i < j → noPlace (f i) = false) ∧ wr = w) (fun i _ => n - (intOf i).toNat)
  case atStart => exact ⟨0, by omega, rfl, (fun i hi => by omega : ∀ i, i < 0 → noPlace (f i) = false), rfl⟩
  case round =>
    obtain ⟨j, hj, rfl, HN, rfl⟩ := hrel
    by_cases hlt : j < n
    · have hc := CS.out j hlt
      have hd : decide ((j : Int) < (n : Int)) = true := decide_eq_true (by omega)
      obtain ⟨x, hx⟩ : ∃ x, f j = x := ⟨_, rfl⟩
      rw [hx] at hc
      cases hp : noPlace x
      · have HN2 : Hid (∀ i, i < j + 1 → noPlace (f i) = false) := fun i hi => by
          rcases Nat.lt_or_ge i j with h | h
          · exact HN.out i h
          · obtain rfl : i = j := by omega
            rw [hx]; exact hp
        have PP := P.out x
        rw [hp] at PP
        have PQ : Hid (∀ w, Calls Tryd.prog 36 #[.int .i64 x] w fun e w' => e = .returned (.bool false) ∧ w' = w) := PP
        clear PP hx hp HN
        go_wp2_with fail
        refine (PQ.out _).mono ?_
        rintro e w1 ⟨rfl, rfl⟩
        go_wp2
        go_roundw
        case rel => exact ⟨j + 1, by omega, by go_num, HN2, by trivial⟩
        case measure => simp [intOf]; omega
      · have HA : Hid (anyOf noPlace f n = true) := anyOf_yes j hlt (by rw [hx]; exact hp)
        have PP := P.out x
        rw [hp] at PP
        have PQ : Hid (∀ w, Calls Tryd.prog 36 #[.int .i64 x] w fun e w' => e = .returned (.bool true) ∧ w' = w) := PP
        clear PP hx hp HN
        go_wp2_with fail
        refine (PQ.out _).mono ?_
        rintro e w1 ⟨rfl, rfl⟩
        go_wp2
        go_ret
        exact ⟨⟨_, rfl, by rw [HA.out]; exact decide_eq_true (by omega)⟩, rfl⟩
    · have hd : decide ((j : Int) < (n : Int)) = false := decide_eq_false (by omega)
      have HA : Hid (anyOf noPlace f n = false) := anyOf_no fun i hi => HN.out i (by omega)
      clear HN
      go_wp2
      go_ret
      exact ⟨⟨_, rfl, by rw [HA.out]; decide⟩, rfl⟩

set_option maxHeartbeats 400000 in
theorem contains_noPlace (n : Nat) (hn : n ≤ 64) (o B : Nat) (f : Nat → Int) (w : World) (cs : ∀ j, j < n → w.cell? ⟨B, o + j, none⟩ = some (.int .i64 (f j))) :
    Calls Tryd.prog 31 #[.slice (some ⟨B, o, none⟩) n n, .func (.func 36) #[] #[]] w fun e w' => e = .returned (.bool (anyOf noPlace f n)) ∧ w' = w := by
  have I := index_noPlace n hn o B f w cs
  generalize anyOf noPlace f n = k at *
  clear cs
  have I2 : Hid (Calls Tryd.prog 51 #[.slice (some ⟨B, o, none⟩) n n, .func (.func 36) #[] #[]] w fun e w' => (∃ r : Int, e = .returned (.int .i64 r) ∧ decide (0 ≤ r) = k) ∧ w' = w) := I
  clear I
  go_enter Tryd.func31, Tryd.ntmps31
  go_wp2_with fail
  refine (I2.out).mono ?_
  rintro e w1 ⟨⟨r, rfl, hr⟩, rfl⟩
  subst hr
  go_wp2
  go_ret
  exact ⟨rfl, rfl⟩

end Go.Proofs.YtnldnkcfeclmpaaDoor.Mod
