/-
  ResidualBack answers true: the walk. Condition: the package's table is laid as its text lays it.
-/
import Derived.Test.YtocnlefpbcnlmaaDoorPk16
import Derived.Deep.RegionWith
namespace Go.Proofs.YtocnlefpbcnlmaaDoor.Res
open Go.RowKit Go.Sort Go.Proofs.YtocnlefpbcnlmaaDoor.Mod Go.Proofs.YtocnlefpbcnlmaaDoor.Ints
set_option linter.unusedVariables false
set_option linter.unusedSimpArgs false

theorem cut_at (cut : Int) (z : Nat) (hz : z ≤ 1000000) : ∃ K : Nat, K ≤ z ∧ wrap64 ((IntKind.u64.wrap cut).tmod ((z : Int) + 1)) = (K : Int) := by
  have e : IntKind.u64.wrap cut = cut % 18446744073709551616 := by simp [IntKind.wrap, IntKind.bits, IntKind.signed]
  have h0 : 0 ≤ cut % 18446744073709551616 := by omega
  rw [e, Int.tmod_eq_emod_of_nonneg h0]
  have h1 := Int.emod_nonneg (cut % 18446744073709551616) (show (z : Int) + 1 ≠ 0 by omega)
  have h2 := Int.emod_lt_of_pos (cut % 18446744073709551616) (show 0 < (z : Int) + 1 by omega)
  refine ⟨(cut % 18446744073709551616 % ((z : Int) + 1)).toNat, by omega, ?_⟩
  generalize cut % 18446744073709551616 % ((z : Int) + 1) = x at *
  unfold wrap64
  omega

theorem getP_some {t : ByteArray} {m : Nat} {ys : List Int} (h : getP t (m : Int) = some ys) : told ys = t ∧ ys.length = m := by
  unfold getP at h
  split at h
  · rw [Int.toNat_natCast] at h
    cases ht : takes t m s0 with
    | none => rw [ht] at h; cases h
    | some rs =>
      rw [ht] at h
      simp only at h
      split at h
      · obtain rfl := Option.some.inj h
        rename_i he
        exact ⟨he, (takes_fits t m s0 _ ht).1⟩
      · cases h
  · cases h

theorem extract_size (s : ByteArray) (K : Nat) (h : K ≤ s.size) : (s.extract 0 K).size = K := by
  rw [ByteArray.size_extract]; omega

set_option maxRecDepth 20000 in
set_option maxHeartbeats 2000000 in
theorem back_no (ao : Option Addr) (rs : List Int) (n cap : Nat) (hn : n = rs.length) (hc : n ≤ cap) (hm : cap ≤ maxLen) (hno : ¬ (n ≤ 256 ∧ AllFit rs)) (cut : Int) (w : World) (T : Str.Tab w) (hA : Slc w ao rs) :
    Calls Tryd.prog 3 #[.slice ao n cap, .int .i64 cut] w fun e w' => e = .returned (.bool true) ∧ Bel w w' := by
  have AW : Hid (Calls Tryd.prog 7 #[] w fun e w' => e = .returned (.bool true) ∧ Bel w w') := awake_ok w T
  have PN : Hid (∀ w', Bel w w' → Calls Tryd.prog 8 #[.slice ao n cap] w' fun e w'' => e = .returned (.tuple #[.string ⟨#[]⟩, .int .i64 1300]) ∧ w'' = w') := fun w' b => put_no ao rs n cap hn (by omega) hno w' (hA.bel b)
  have NM : Hid (∀ n w, Calls Tryd.prog 9 #[.int .i64 n] w fun e w' => e = .returned (.int .i64 n) ∧ w' = w) := Ints.num_ok
  clear hno hA hn T
  go_enter Tryd.func3, Tryd.ntmps3
  go_wp2_with fail
  refine AW.out.mono ?_
  rintro e w1 ⟨rfl, b1⟩
  clear AW
  have B1 : Hid (Bel w w1) := b1
  clear b1
  go_wp2_with fail
  refine (PN.out _ B1.out).mono ?_
  rintro e w2 ⟨rfl, rfl⟩
  go_wp2_with (first
    | (go_at_call 9; (with_reducible refine (NM.out _ _).mono ?_); rintro e w9 ⟨rfl, hw9⟩; replace hw9 := hw9.symm; subst hw9))
  go_ret
  exact ⟨rfl, B1.out⟩

set_option maxRecDepth 20000 in
set_option maxHeartbeats 2000000 in
theorem back_yes (ao : Option Addr) (rs : List Int) (n cap : Nat) (hn : n = rs.length) (hc : n ≤ cap) (hm : cap ≤ maxLen) (h256 : n ≤ 256) (hf : AllFit rs) (cut : Int) (w : World) (T : Str.Tab w) (hA : Slc w ao rs) :
    Calls Tryd.prog 3 #[.slice ao n cap, .int .i64 cut] w fun e w' => e = .returned (.bool true) ∧ Bel w w' := by
  have fr := fits_of hf
  have sz := told_bound fr
  have TT : Hid (Str.Tab w) := T
  have HA : Hid (Slc w ao rs) := hA
  have AW : Hid (Calls Tryd.prog 7 #[] w fun e w' => e = .returned (.bool true) ∧ Bel w w') := awake_ok w T
  have PY : Hid (∀ w', Bel w w' → Calls Tryd.prog 8 #[.slice ao n cap] w' fun e w'' => e = .returned (.tuple #[.string (told rs), .int .i64 0]) ∧ Bel w' w'') := fun w' b => put_yes ao rs n cap hn h256 hf w' (tab_bel T b) (hA.bel b)
  have G1 : Hid (∀ w, Str.Tab w → Calls Tryd.prog 10 #[.string (told rs), .int .i64 (n : Int)] w fun e w' => (∃ g, e = .returned (.tuple #[.slice (some ⟨g, 0, none⟩) n n, .int .i64 0]) ∧ w.heap.size ≤ g ∧ Holds w' g rs) ∧ Bel w w') := fun w T => by
    have := get_ok (told rs) (by unfold maxLen; omega) (n : Int) w T
    rw [hn, show getP (told rs) (rs.length : Nat) = some rs from getP_told fr (hn ▸ h256)] at this
    rwa [hn]
  have G3 : Hid (∀ w, Str.Tab w → Calls Tryd.prog 10 #[.string (told rs ++ ⟨#[0]⟩), .int .i64 (n : Int)] w fun e w' => e = .returned (.tuple #[.slice none 0 0, .int .i64 1300]) ∧ Bel w w') := fun w T => by
    have := get_ok (told rs ++ ⟨#[0]⟩) (by rw [ByteArray.size_append, show ByteArray.size ⟨#[0]⟩ = 1 from rfl]; unfold maxLen; omega) (n : Int) w T
    rwa [hn, show getP (told rs ++ ⟨#[0]⟩) (rs.length : Nat) = none from getP_longer fr ⟨#[0]⟩ (by decide), ← hn] at this
  have NM : Hid (∀ n w, Calls Tryd.prog 9 #[.int .i64 n] w fun e w' => e = .returned (.int .i64 n) ∧ w' = w) := Ints.num_ok
  have s1 : (told rs).size ≤ 60000 := by omega
  have HN : Hid (n = rs.length) := hn
  obtain ⟨s, hs⟩ : ∃ s, told rs = s := ⟨_, rfl⟩
  rw [hs] at PY G1 G3 s1
  have TD : Hid (told rs = s) := hs
  obtain ⟨K, hK, hk⟩ := cut_at cut s.size (by omega)
  have G2 : Hid (∀ w, Str.Tab w → Calls Tryd.prog 10 #[.string (s.extract 0 K), .int .i64 (n : Int)] w fun e w' => Got w w' e (getP (s.extract 0 K) (n : Int)) ∧ Bel w w') := fun w T => get_ok _ (by rw [extract_size s K hK]; unfold maxLen; omega) (n : Int) w T
  have QS : Hid ((s.extract 0 K).size = K) := extract_size s K hK
  clear hs fr sz T hA hn hf hc
  go_enter Tryd.func3, Tryd.ntmps3
  go_wp2_with fail
  refine AW.out.mono ?_
  rintro e w1 ⟨rfl, b1⟩
  clear AW
  have B1 : Hid (Bel w w1) := b1
  clear b1
  go_wp2_with fail
  refine (PY.out _ B1.out).mono ?_
  rintro e w2 ⟨rfl, b2⟩
  have B2 : Hid (Bel w w2) := B1.out.trans b2
  clear b2 B1 PY
  go_wp2_with (first
    | (go_at_call 9; (with_reducible refine (NM.out _ _).mono ?_); rintro e w9 ⟨rfl, hw9⟩; replace hw9 := hw9.symm; subst hw9))
  refine (G1.out _ (tab_bel TT.out B2.out)).mono ?_
  rintro e w3 ⟨⟨g, rfl, hg, hh⟩, b3⟩
  have B3 : Hid (Bel w w3) := B2.out.trans b3
  have H3 : Hid (Holds w3 g rs) := hh
  clear b3 B2 G1 hg hh
  go_wp2_with fail
  generalize s.extract 0 K = qq at *
  cases hq : getP qq (n : Int) with
  | none =>
    rw [hq] at G2
    refine (G2.out _ (tab_bel TT.out B3.out)).mono ?_
    rintro e w4 ⟨rfl, b4⟩
    have B4 : Hid (Bel w w4 ∧ Bel w3 w4) := ⟨B3.out.trans b4, b4⟩
    clear b4 B3 G2 hq
    go_wp2_with fail
    refine (G3.out _ (tab_bel TT.out B4.out.1)).mono ?_
    rintro e w5 ⟨rfl, b5⟩
    by_cases hz : K = s.size
    · have hd : ((K : Int) == (s.size : Int)) = true := by rw [hz]; exact beq_self_eq_true _
      clear hz
      have B5 : Hid (Bel w w5 ∧ Bel w3 w5 ∧ Bel w4 w5) := ⟨B4.out.1.trans b5, B4.out.2.trans b5, b5⟩
      clear b5 B4 G3
      have SI : Hid (∀ w', Bel w5 w' → Calls Tryd.prog 11 #[.slice (some ⟨g, 0, none⟩) n n, .slice ao n cap] w' fun e w'' => e = .returned (.bool true) ∧ ∃ q, w'' = w'.drewN q) := fun w' b => by
        have := same_ok (some ⟨g, 0, none⟩) ao rs rs n n n cap HN.out HN.out (by unfold maxLen; omega) (by unfold maxLen; omega) w' ((H3.out.bel B5.out.2.1).bel b).slc ((HA.out.bel B5.out.1).bel b)
        rwa [decide_eq_true rfl] at this
      go_wp2_with (first
        | (go_at_call 9; (with_reducible refine (NM.out _ _).mono ?_); rintro e w9 ⟨rfl, hw9⟩; replace hw9 := hw9.symm; subst hw9)
        | (go_at_call 11; (with_reducible refine (SI.out _ (Bel.refl _)).mono ?_); rintro e w6 ⟨rfl, q6, hw6⟩; have B7 : Hid (Bel w w6 ∧ Bel w5 w6) := ⟨hw6 ▸ B5.out.1.drewN q6, hw6 ▸ (Bel.refl w5).drewN q6⟩; clear hw6))
      go_ret
      exact ⟨rfl, B7.out.1⟩
    · have hd : ((K : Int) == (s.size : Int)) = false := by rw [beq_eq_false_iff_ne]; omega
      clear hz
      have B5 : Hid (Bel w w5 ∧ Bel w3 w5 ∧ Bel w4 w5) := ⟨B4.out.1.trans b5, B4.out.2.trans b5, b5⟩
      clear b5 B4 G3
      have SI : Hid (∀ w', Bel w5 w' → Calls Tryd.prog 11 #[.slice (some ⟨g, 0, none⟩) n n, .slice ao n cap] w' fun e w'' => e = .returned (.bool true) ∧ ∃ q, w'' = w'.drewN q) := fun w' b => by
        have := same_ok (some ⟨g, 0, none⟩) ao rs rs n n n cap HN.out HN.out (by unfold maxLen; omega) (by unfold maxLen; omega) w' ((H3.out.bel B5.out.2.1).bel b).slc ((HA.out.bel B5.out.1).bel b)
        rwa [decide_eq_true rfl] at this
      go_wp2_with (first
        | (go_at_call 9; (with_reducible refine (NM.out _ _).mono ?_); rintro e w9 ⟨rfl, hw9⟩; replace hw9 := hw9.symm; subst hw9)
        | (go_at_call 11; (with_reducible refine (SI.out _ (Bel.refl _)).mono ?_); rintro e w6 ⟨rfl, q6, hw6⟩; have B7 : Hid (Bel w w6 ∧ Bel w5 w6) := ⟨hw6 ▸ B5.out.1.drewN q6, hw6 ▸ (Bel.refl w5).drewN q6⟩; clear hw6))
      go_ret
      exact ⟨rfl, B7.out.1⟩
  | some ys =>
    rw [hq] at G2
    obtain ⟨y1, y2⟩ := getP_some hq
    refine (G2.out _ (tab_bel TT.out B3.out)).mono ?_
    rintro e w4 ⟨⟨g2, rfl, hg2, hh2⟩, b4⟩
    rw [y2]
    have B4 : Hid (Bel w w4 ∧ Bel w3 w4) := ⟨B3.out.trans b4, b4⟩
    have H4 : Hid (Holds w4 g2 ys ∧ ys.length = n) := ⟨hh2, y2⟩
    clear b4 B3 G2 hq hg2 hh2 y2
    go_wp2_with fail
    refine (G3.out _ (tab_bel TT.out B4.out.1)).mono ?_
    rintro e w5 ⟨rfl, b5⟩
    by_cases hz : K = s.size
    · have hd : ((K : Int) == (s.size : Int)) = true := by rw [hz]; exact beq_self_eq_true _
      clear hz y1
      have B5 : Hid (Bel w w5 ∧ Bel w3 w5 ∧ Bel w4 w5) := ⟨B4.out.1.trans b5, B4.out.2.trans b5, b5⟩
      clear b5 B4 G3
      have SI : Hid (∀ w', Bel w5 w' → Calls Tryd.prog 11 #[.slice (some ⟨g, 0, none⟩) n n, .slice ao n cap] w' fun e w'' => e = .returned (.bool true) ∧ ∃ q, w'' = w'.drewN q) := fun w' b => by
        have := same_ok (some ⟨g, 0, none⟩) ao rs rs n n n cap HN.out HN.out (by unfold maxLen; omega) (by unfold maxLen; omega) w' ((H3.out.bel B5.out.2.1).bel b).slc ((HA.out.bel B5.out.1).bel b)
        rwa [decide_eq_true rfl] at this
      go_wp2_with (first
        | (go_at_call 9; (with_reducible refine (NM.out _ _).mono ?_); rintro e w9 ⟨rfl, hw9⟩; replace hw9 := hw9.symm; subst hw9)
        | (go_at_call 11; (with_reducible refine (SI.out _ (Bel.refl _)).mono ?_); rintro e w6 ⟨rfl, q6, hw6⟩; have B7 : Hid (Bel w w6 ∧ Bel w5 w6) := ⟨hw6 ▸ B5.out.1.drewN q6, hw6 ▸ (Bel.refl w5).drewN q6⟩; clear hw6))
      go_ret
      exact ⟨rfl, B7.out.1⟩
    · have hd : ((K : Int) == (s.size : Int)) = false := by rw [beq_eq_false_iff_ne]; omega
      have ne : ys ≠ rs := fun e => hz (by rw [e, TD.out] at y1; rw [← QS.out, y1])
      have NE : Hid (ys ≠ rs) := ne
      clear hz y1 ne
      have B5 : Hid (Bel w w5 ∧ Bel w3 w5 ∧ Bel w4 w5) := ⟨B4.out.1.trans b5, B4.out.2.trans b5, b5⟩
      clear b5 B4 G3
      have SI : Hid (∀ w', Bel w5 w' → Calls Tryd.prog 11 #[.slice (some ⟨g, 0, none⟩) n n, .slice ao n cap] w' fun e w'' => e = .returned (.bool true) ∧ ∃ q, w'' = w'.drewN q) := fun w' b => by
        have := same_ok (some ⟨g, 0, none⟩) ao rs rs n n n cap HN.out HN.out (by unfold maxLen; omega) (by unfold maxLen; omega) w' ((H3.out.bel B5.out.2.1).bel b).slc ((HA.out.bel B5.out.1).bel b)
        rwa [decide_eq_true rfl] at this
      have SJ : Hid (∀ w', Bel w5 w' → Calls Tryd.prog 11 #[.slice (some ⟨g2, 0, none⟩) n n, .slice ao n cap] w' fun e w'' => e = .returned (.bool false) ∧ ∃ q, w'' = w'.drewN q) := fun w' b => by
        have := same_ok (some ⟨g2, 0, none⟩) ao ys rs n n n cap H4.out.2.symm HN.out (by unfold maxLen; omega) (by unfold maxLen; omega) w' ((H4.out.1.bel B5.out.2.2).bel b).slc ((HA.out.bel B5.out.1).bel b)
        rwa [decide_eq_false NE.out] at this
      go_wp2_with (first
        | (go_at_call 9; (with_reducible refine (NM.out _ _).mono ?_); rintro e w9 ⟨rfl, hw9⟩; replace hw9 := hw9.symm; subst hw9)
        | (go_at_call_of 11 (Value.slice (some ⟨g, 0, none⟩) n n); (with_reducible refine (SI.out _ (Bel.refl _)).mono ?_); rintro e w6 ⟨rfl, q6, hw6⟩; have B7 : Hid (Bel w w6 ∧ Bel w5 w6) := ⟨hw6 ▸ B5.out.1.drewN q6, hw6 ▸ (Bel.refl w5).drewN q6⟩; clear hw6)
        | (go_at_call_of 11 (Value.slice (some ⟨g2, 0, none⟩) n n); (with_reducible refine (SJ.out _ B7.out.2).mono ?_); rintro e w7 ⟨rfl, q7, hw7⟩; have B8 : Hid (Bel w w7) := hw7 ▸ B7.out.1.drewN q7; clear hw7))
      go_ret
      exact ⟨rfl, B8.out⟩

theorem back_walk (ao : Option Addr) (rs : List Int) (n cap : Nat) (hn : n = rs.length) (hc : n ≤ cap) (hm : cap ≤ maxLen) (cut : Int) (w : World) (T : Str.Tab w) (hA : Slc w ao rs) :
    Calls Tryd.prog 3 #[.slice ao n cap, .int .i64 cut] w fun e w' => e = .returned (.bool true) ∧ Bel w w' := by
  by_cases h : n ≤ 256 ∧ AllFit rs
  · exact back_yes ao rs n cap hn hc hm h.1 h.2 cut w T hA
  · exact back_no ao rs n cap hn hc hm h cut w T hA

end Go.Proofs.YtocnlefpbcnlmaaDoor.Res
