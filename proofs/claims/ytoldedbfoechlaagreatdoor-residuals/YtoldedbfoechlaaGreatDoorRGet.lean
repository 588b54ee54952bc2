/-
  The contract of Get. Condition: the package's table is laid as its text lays it.
-/
import Derived.Test.YtoldedbfoechlaaGreatDoorRTaken
namespace Go.Proofs.YtoldedbfoechlaaGreatDoor.Res
open Go.RowKit Go.Sort Go.Proofs.YtoldedbfoechlaaGreatDoor.Mod Go.Proofs.YtoldedbfoechlaaGreatDoor.Ints
set_option linter.unusedVariables false
set_option linter.unusedSimpArgs false

theorem str_ne {s t : ByteArray} (h : ¬ s = t) : (s.toList == t.toList) = false := by
  refine Bool.eq_false_iff.2 fun e => h ?_
  have := eq_of_beq e
  rw [ByteArray.toList_eq, ByteArray.toList_eq] at this
  exact ByteArray.ext (Array.toList_inj.1 this)

theorem takes_fits (t : ByteArray) : ∀ (m : Nat) (s : Sta) (rs : List Int), takes t m s = some rs → rs.length = m ∧ AllFit rs
  | 0, s, rs, h => by
    rw [takes] at h
    obtain rfl := Option.some.inj h
    exact ⟨rfl, fun k hk => absurd hk (by simp)⟩
  | m + 1, s, rs, h => by
    rw [takes] at h
    split at h
    · cases h
    · rename_i L c bs _
      by_cases he : (Gam.numP bs).2 = 0
      · rw [if_pos he] at h
        obtain ⟨xs, hx, rfl⟩ := Option.map_eq_some_iff.1 h
        obtain ⟨i1, i2⟩ := takes_fits t m _ xs hx
        refine ⟨by simp [i1], fun k hk => ?_⟩
        match k with
        | 0 => exact unfolded_fits (numP_fine he).1 (numP_fine he).2.1
        | k + 1 => simpa using i2 k (by simpa using hk)
      · rw [if_neg he] at h
        cases h

/-- What Get finds. -/
def getP (t : ByteArray) (many : Int) : Option (List Int) :=
  if 0 ≤ many ∧ many ≤ 256 ∧ t.size ≤ 65536 then
    match takes t many.toNat s0 with
    | some rs => if told rs = t then some rs else none
    | none => none
  else none

/-- What Get answers. -/
def Got (w w' : World) (e : Ending) : Option (List Int) → Prop
  | none => e = .returned (.tuple #[.slice none 0 0, .int .i64 1300])
  | some rs => ∃ g, e = .returned (.tuple #[.slice (some ⟨g, 0, none⟩) rs.length rs.length, .int .i64 0]) ∧ w.heap.size ≤ g ∧ Holds w' g rs

theorem getP_bad {t : ByteArray} {many : Int} (h : ¬ (0 ≤ many ∧ many ≤ 256 ∧ t.size ≤ 65536)) : getP t many = none := if_neg h
theorem getP_none {t : ByteArray} {m : Nat} (h : takes t m s0 = none) : getP t (m : Int) = none := by
  unfold getP
  split
  · rw [Int.toNat_natCast, h]
  · rfl
theorem getP_yes {t : ByteArray} {m : Nat} {rs : List Int} (hm : m ≤ 256) (ht : t.size ≤ 65536) (h : takes t m s0 = some rs) (he : told rs = t) : getP t (m : Int) = some rs := by
  unfold getP
  rw [if_pos ⟨by omega, by omega, ht⟩, Int.toNat_natCast, h]
  simp [he]
theorem getP_not {t : ByteArray} {m : Nat} {rs : List Int} (h : takes t m s0 = some rs) (he : ¬ told rs = t) : getP t (m : Int) = none := by
  unfold getP
  split
  · rw [Int.toNat_natCast, h]
    simp [he]
  · rfl

theorem get_bad (t : ByteArray) (hs : t.size ≤ maxLen) (many : Int) (h : ¬ (0 ≤ many ∧ many ≤ 256 ∧ t.size ≤ 65536)) (w : World) :
    Calls Tryz.prog 8 #[.string t, .int .i64 many] w fun e w' => e = .returned (.tuple #[.slice none 0 0, .int .i64 1300]) ∧ w' = w := by
  unfold maxLen at hs
  by_cases h1 : many < 0
  · clear h hs
    have hd : decide (many < 0) = true := decide_eq_true h1
    go_enter Tryz.func8, Tryz.ntmps8
    go_wp2
    go_ret2
    exact ⟨rfl, rfl⟩
  · have hd : decide (many < 0) = false := decide_eq_false h1
    by_cases h2 : 256 < many
    · have hd2 : decide (256 < many) = true := decide_eq_true h2
      clear h hs h1
      go_enter Tryz.func8, Tryz.ntmps8
      go_wp2
      go_ret2
      exact ⟨rfl, rfl⟩
    · have hd2 : decide (256 < many) = false := decide_eq_false h2
      have hd3 : decide (65536 < (t.size : Int)) = true := decide_eq_true (by omega)
      clear h h1 h2
      go_enter Tryz.func8, Tryz.ntmps8
      go_wp2
      go_ret2
      exact ⟨rfl, rfl⟩

set_option maxHeartbeats 1000000 in
theorem get_fine (t : ByteArray) (m : Nat) (hm : m ≤ 256) (ht : t.size ≤ 65536) (w : World) (T : Str.Tab w) :
    Calls Tryz.prog 8 #[.string t, .int .i64 (m : Int)] w fun e w' => Got w w' e (getP t (m : Int)) ∧ Bel w w' := by
  have TT : Hid (Str.Tab w) := T
  have TK : Hid (Calls Tryz.prog 35 #[.string t, .int .i64 (m : Int)] w fun e w' => Found m w w' e (takes t m s0) ∧ Bel w w') := taken_ok t m hm ht _ rfl w T
  have hd : decide ((m : Int) < 0) = false := decide_eq_false (by omega)
  have hd2 : decide (256 < (m : Int)) = false := decide_eq_false (by omega)
  have hd3 : decide (65536 < (t.size : Int)) = false := decide_eq_false (by omega)
  cases ht2 : takes t m s0 with
  | none =>
    rw [ht2] at TK
    have GP : Hid (getP t (m : Int) = none) := getP_none ht2
    clear ht2 T ht hm
    go_enter Tryz.func8, Tryz.ntmps8
    go_wp2_with fail
    refine TK.out.mono ?_
    rintro e w1 ⟨rfl, b1⟩
    clear TK
    go_wp2
    go_ret2
    refine ⟨?_, b1⟩
    rw [GP.out]
    rfl
  | some rs =>
    rw [ht2] at TK
    obtain ⟨rl, rf⟩ := takes_fits t m s0 rs ht2
    have PY : Hid (∀ (g : Nat) w, Str.Tab w → Holds w g rs → Calls Tryz.prog 6 #[.slice (some ⟨g, 0, none⟩) m m] w fun e w' => e = .returned (.tuple #[.string (told rs), .int .i64 0]) ∧ Bel w w') := fun g w T h => put_yes _ rs m m rl.symm hm rf w T h.slc
    by_cases he : told rs = t
    · have GP : Hid (getP t (m : Int) = some rs ∧ rs.length = m) := ⟨getP_yes hm ht ht2 he, rl⟩
      rw [he] at PY
      clear ht2 T ht hm rl rf he
      go_enter Tryz.func8, Tryz.ntmps8
      go_wp2_with fail
      refine TK.out.mono ?_
      rintro e w1 ⟨⟨g, rfl, hg, hh⟩, b1⟩
      clear TK
      have G1 : Hid (w.heap.size ≤ g ∧ Holds w1 g rs ∧ Bel w w1) := ⟨hg, hh, b1⟩
      clear hg hh b1
      go_wp2_with fail
      refine (PY.out g _ (tab_bel TT.out G1.out.2.2) G1.out.2.1).mono ?_
      rintro e w2 ⟨rfl, b2⟩
      clear PY
      have B2 : Hid (Bel w1 w2) := b2
      clear b2
      go_wp2
      go_ret2
      refine ⟨?_, G1.out.2.2.trans B2.out⟩
      rw [GP.out.1]
      refine ⟨g, ?_, G1.out.1, G1.out.2.1.bel B2.out⟩
      rw [GP.out.2]
      rfl
    · have GP : Hid (getP t (m : Int) = none) := getP_not ht2 he
      have hne : ((told rs).toList == t.toList) = false := str_ne he
      generalize told rs = s at *
      clear ht2 T ht hm rl rf he
      go_enter Tryz.func8, Tryz.ntmps8
      go_wp2_with fail
      refine TK.out.mono ?_
      rintro e w1 ⟨⟨g, rfl, hg, hh⟩, b1⟩
      clear TK
      have G1 : Hid (w.heap.size ≤ g ∧ Holds w1 g rs ∧ Bel w w1) := ⟨hg, hh, b1⟩
      clear hg hh b1
      go_wp2_with fail
      refine (PY.out g _ (tab_bel TT.out G1.out.2.2) G1.out.2.1).mono ?_
      rintro e w2 ⟨rfl, b2⟩
      clear PY
      have B2 : Hid (Bel w1 w2) := b2
      clear b2
      go_wp2
      go_ret2
      refine ⟨?_, G1.out.2.2.trans B2.out⟩
      rw [GP.out]
      rfl

/-- Get, of any text and number. -/
theorem get_ok (t : ByteArray) (hs : t.size ≤ maxLen) (many : Int) (w : World) (T : Str.Tab w) :
    Calls Tryz.prog 8 #[.string t, .int .i64 many] w fun e w' => Got w w' e (getP t many) ∧ Bel w w' := by
  by_cases h : 0 ≤ many ∧ many ≤ 256 ∧ t.size ≤ 65536
  · obtain ⟨m, rfl⟩ := Int.eq_ofNat_of_zero_le h.1
    exact get_fine t m (by omega) h.2.2 w T
  · rw [getP_bad h]
    exact (get_bad t hs many h w).mono fun _ _ k => ⟨k.1, k.2 ▸ Bel.refl _⟩

end Go.Proofs.YtoldedbfoechlaaGreatDoor.Res
