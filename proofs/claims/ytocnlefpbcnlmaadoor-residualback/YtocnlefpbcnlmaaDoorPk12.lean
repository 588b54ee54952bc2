/-
  The contracts of context's small functions and of slices.IndexFunc, ContainsFunc and Index over rows of ints. Condition: the row is there.
  Arrays of three ints: as a call's first answer, and two of them held against each other. No condition.
  The contract of context.Of, of any int and any row of ints, as P12.1 has it. Condition: the row is there.
  The contracts of package fold: Put and Get of any ints, as P10.1 has them. No condition.
-/
import Derived.Test.YtocnlefpbcnlmaaDoorPk8
import Derived.Test.YtocnlefpbcnlmaaDoorPk11
import Derived.Test.YtocnlefpbcnlmaaDoorPk4
import Derived.Test.YtocnlefpbcnlmaaDoorRows
import Derived.ProofKit
import Derived.ChangeKeysEq
import Derived.Test.YtocnlefpbcnlmaaDoorPk1
import Derived.WalkLawsBesides
import Derived.WalkSpells

namespace Go.Proofs.YtocnlefpbcnlmaaDoor.Ctx
open Go.RowKit Go.Proofs.YtocnlefpbcnlmaaDoor.Mod Go.Proofs.YtocnlefpbcnlmaaDoor.Ints Go.Proofs.YtocnlefpbcnlmaaDoor.Num Go.Proofs.YtocnlefpbcnlmaaDoor.Gam
set_option linter.unusedVariables false

theorem counted_ok (x : Int) (w : World) :
    Calls Tryd.prog 45 #[.int .i64 x] w fun e w' => e = .returned (.int .i64 (upto31 x)) ∧ w' = w := by
  by_cases h : x ≤ 31
  · have e : upto31 x = x := if_pos h
    rw [e]
    clear e
    go_enter Tryd.func45, Tryd.ntmps45
    go_wp2
    go_ret
    exact ⟨rfl, rfl⟩
  · have e : upto31 x = 31 := if_neg h
    rw [e]
    clear e
    go_enter Tryd.func45, Tryd.ntmps45
    go_wp2
    go_ret
    exact ⟨rfl, rfl⟩

theorem oneIf_ok (r : Bool) (w : World) :
    Calls Tryd.prog 46 #[.bool r] w fun e w' => e = .returned (.int .i64 (oneB r)) ∧ w' = w := by
  cases r
  · go_enter Tryd.func46, Tryd.ntmps46
    go_wp2
    go_ret
    exact ⟨rfl, rfl⟩
  · go_enter Tryd.func46, Tryd.ntmps46
    go_wp2
    go_ret
    exact ⟨rfl, rfl⟩

def noBit (b : Int) : Bool := decide (¬(b = 0 ∨ b = 1))

theorem noBit_ok (b : Int) (w : World) :
    Calls Tryd.prog 44 #[.int .i64 b] w fun e w' => e = .returned (.bool (noBit b)) ∧ w' = w := by
  by_cases a : b = 0
  · subst a
    go_enter Tryd.func44, Tryd.ntmps44
    go_wp2
    go_ret
    exact ⟨rfl, rfl⟩
  · have hb : (b != 0) = true := by simpa using a
    have hr : noBit b = (b != 1) := by
      unfold noBit
      by_cases q : b = 1
      · simp [q]
      · simp [a, q]
    rw [hr]
    clear hr a
    go_enter Tryd.func44, Tryd.ntmps44
    go_wp2
    go_ret
    exact ⟨rfl, rfl⟩

theorem noBit_no {b : Int} (h : noBit b = false) : b = 0 ∨ b = 1 := by
  unfold noBit at h
  have := of_decide_eq_false h
  omega

set_option maxHeartbeats 1000000 in
/-- Where none is bad none is found; else one is. -/
theorem indexF_ok (ao : Option Addr) (L : List Int) (n cap : Nat) (hn : n = L.length) (hx : n ≤ 63) (r : Bool) (hr : r = true ↔ ¬ Bits01 L) (w : World) (hA : Slc w ao L) :
    Calls Tryd.prog 26 #[.slice ao n cap, .func (.func 44) #[] #[]] w fun e w' => (∃ q : Int, e = .returned (.int .i64 q) ∧ decide (0 ≤ q) = r) ∧ w' = w := by
  have P : Hid (∀ x w, Calls Tryd.prog 44 #[.int .i64 x] w fun e w' => e = .returned (.bool (noBit x)) ∧ w' = w) := noBit_ok
  have HA : Hid (Slc w ao L) := hA
  have HN : Hid (n = L.length) := hn
  have HR : Hid (r = true ↔ ¬ Bits01 L) := hr
  clear hA hn hr
  go_enter Tryd.func26, Tryd.ntmps26
  go_wp2_with fail
  go_loopw [8] (fun i wr => ∃ j : Nat, j ≤ n ∧ i = .int .i64 (j : Int) ∧ Hid (∀ i, i < j → noBit (L.getD i 0) = false) ∧ wr = w) (fun i _ => n - (intOf i).toNat)
  case atStart => exact ⟨0, by omega, rfl, (fun i hi => by omega : ∀ i, i < 0 → noBit (L.getD i 0) = false), rfl⟩
  case round =>
    obtain ⟨j, hj, rfl, HB, hw⟩ := hrel
    replace hw := hw.symm
    subst hw
    by_cases hlt : j < n
    · obtain ⟨x, rfl, hc⟩ := HA.out j (HN.out ▸ hlt)
      have hd : decide ((j : Int) < (n : Int)) = true := decide_eq_true (by omega)
      obtain ⟨p, hp⟩ : ∃ p, L.getD j 0 = p := ⟨_, rfl⟩
      rw [hp] at hc
      cases hq : noBit p
      · have HB2 : Hid (∀ i, i < j + 1 → noBit (L.getD i 0) = false) := fun i hi => by
          rcases Nat.lt_or_ge i j with h | h
          · exact HB.out i h
          · obtain rfl : i = j := by omega
            rw [hp]; exact hq
        have PP := P.out p
        rw [hq] at PP
        have PQ : Hid (∀ w, Calls Tryd.prog 44 #[.int .i64 p] w fun e w' => e = .returned (.bool false) ∧ w' = w) := PP
        clear PP hp hq HB
        go_wp2_with fail
        refine (PQ.out _).mono ?_
        rintro e w1 ⟨rfl, h2⟩
        replace h2 := h2.symm
        subst h2
        go_wp2
        go_roundw
        case rel => exact ⟨j + 1, by omega, by go_num, HB2, by first | rfl | trivial⟩
        case measure => simp [intOf]; omega
      · obtain rfl : r = true := HR.out.2 fun h => by
          have h1 := h j (HN.out ▸ hlt)
          rw [hp] at h1
          rw [noBit, decide_eq_true_eq] at hq
          exact hq h1
        have PP := P.out p
        rw [hq] at PP
        have PQ : Hid (∀ w, Calls Tryd.prog 44 #[.int .i64 p] w fun e w' => e = .returned (.bool true) ∧ w' = w) := PP
        clear PP hp hq HB
        go_wp2_with fail
        refine (PQ.out _).mono ?_
        rintro e w1 ⟨rfl, h2⟩
        replace h2 := h2.symm
        subst h2
        go_wp2
        go_ret
        exact ⟨⟨_, rfl, decide_eq_true (by omega)⟩, rfl⟩
    · have hd : decide ((j : Int) < (n : Int)) = false := decide_eq_false (by omega)
      obtain rfl : r = false := by
        cases hr : r
        · rfl
        · exact absurd (fun k hk => noBit_no (HB.out k (by have := HN.out; omega))) (HR.out.1 hr)
      clear HB
      go_wp2
      go_ret
      exact ⟨⟨_, rfl, by decide⟩, rfl⟩

set_option maxHeartbeats 400000 in
theorem contains_ok (ao : Option Addr) (L : List Int) (n cap : Nat) (hn : n = L.length) (hx : n ≤ 63) (r : Bool) (hr : r = true ↔ ¬ Bits01 L) (w : World) (hA : Slc w ao L) :
    Calls Tryd.prog 14 #[.slice ao n cap, .func (.func 44) #[] #[]] w fun e w' => e = .returned (.bool r) ∧ w' = w := by
  have I : Hid (Calls Tryd.prog 26 #[.slice ao n cap, .func (.func 44) #[] #[]] w fun e w' => (∃ q : Int, e = .returned (.int .i64 q) ∧ decide (0 ≤ q) = r) ∧ w' = w) := indexF_ok ao L n cap hn hx r hr w hA
  clear hA hn hr
  go_enter Tryd.func14, Tryd.ntmps14
  go_wp2_with fail
  refine (I.out).mono ?_
  rintro e w1 ⟨⟨q, rfl, hq⟩, h2⟩
  replace h2 := h2.symm
  subst h2
  subst hq
  go_wp2
  go_ret
  exact ⟨rfl, rfl⟩

set_option maxHeartbeats 1000000 in
/-- slices.Index of 0, of bits. -/
theorem index_ok (ao : Option Addr) (L : List Int) (n cap : Nat) (hn : n = L.length) (hx : n ≤ 63) (hb : Bits01 L) (r : Int) (hr : r = if has0 L then (ones L : Int) else -1) (w : World) (hA : Slc w ao L) :
    Calls Tryd.prog 43 #[.slice ao n cap, .int .i64 0] w fun e w' => e = .returned (.int .i64 r) ∧ w' = w := by
  have HA : Hid (Slc w ao L) := hA
  have HN : Hid (n = L.length) := hn
  have HR : Hid (r = if has0 L then (ones L : Int) else -1) := hr
  have HT : Hid (Bits01 L) := hb
  clear hA hn hr hb
  go_enter Tryd.func43, Tryd.ntmps43
  go_wp2_with fail
  go_loopw [8] (fun i wr => ∃ j : Nat, j ≤ n ∧ i = .int .i64 (j : Int) ∧ Hid (∀ i, i < j → L.getD i 0 ≠ 0) ∧ wr = w) (fun i _ => n - (intOf i).toNat)
  case atStart => exact ⟨0, by omega, rfl, (fun i hi => by omega : ∀ i, i < 0 → L.getD i 0 ≠ 0), rfl⟩
  case round =>
    obtain ⟨j, hj, rfl, HB, hw⟩ := hrel
    replace hw := hw.symm
    subst hw
    by_cases hlt : j < n
    · obtain ⟨x, rfl, hc⟩ := HA.out j (HN.out ▸ hlt)
      have hd : decide ((j : Int) < (n : Int)) = true := decide_eq_true (by omega)
      by_cases he : L.getD j 0 = 0
      · obtain rfl : r = (j : Int) := by
          have e := first0 HT.out j (HN.out ▸ hlt) he HB.out
          rw [HR.out, e, has0, decide_eq_true (by rw [e]; exact HN.out ▸ hlt), if_pos rfl]
        rw [he] at hc
        clear he HB HR
        go_wp2
        go_ret
        exact ⟨rfl, rfl⟩
      · have HB2 : Hid (∀ i, i < j + 1 → L.getD i 0 ≠ 0) := fun i hi => by
          rcases Nat.lt_or_ge i j with h | h
          · exact HB.out i h
          · obtain rfl : i = j := by omega
            exact he
        generalize L.getD j 0 = p at *
        have hb : ((0 : Int) == p) = false := by simp; omega
        clear HB
        go_wp2
        go_roundw
        case rel => exact ⟨j + 1, by omega, by go_num, HB2, by first | rfl | trivial⟩
        case measure => simp [intOf]; omega
    · have hd : decide ((j : Int) < (n : Int)) = false := decide_eq_false (by omega)
      obtain rfl : r = -1 := by
        have e := no0 HT.out fun i hi => HB.out i (by have := HN.out; omega)
        rw [HR.out, has0, decide_eq_false (by omega), if_neg (by decide)]
      clear HB
      go_wp2
      go_ret
      exact ⟨rfl, rfl⟩

end Go.Proofs.YtocnlefpbcnlmaaDoor.Ctx

namespace Go.Proofs.YtocnlefpbcnlmaaDoor.Ctx
open Go.RowKit Go.Proofs.YtocnlefpbcnlmaaDoor.Mod
set_option linter.unusedVariables false
set_option linter.unusedSimpArgs false

theorem results_arr2 {fn : Func} {t u : Tmp} (hf : fn.results = #[.cell t 44, .tmp u]) {tmps : Array Value} {b : Nat} {w : World} {x y z v : Value} (ht : tmps[t]?.getD undef = .pointer (some ⟨b, 0, none⟩)) (hv : tmps[u]?.getD undef = v)
    (c0 : w.cell? ⟨b, 0, none⟩ = some x) (c1 : w.cell? ⟨b, 1, none⟩ = some y) (c2 : w.cell? ⟨b, 2, none⟩ = some z) : (results fn tmps).run Tryd.prog w = .ok (.tuple #[.agg #[x, y, z], v]) w := by
  simp [results, hf, ht, hv, go_sem, c0, c1, c2]

theorem eq_in (a b c a' b' c' : Int) (w : World) : (Op.equalIn 10000 44 (.agg #[.int .i64 a, .int .i64 b, .int .i64 c]) (.agg #[.int .i64 a', .int .i64 b', .int .i64 c'])).run Tryd.prog w = .ok (a == a' && (b == b' && c == c')) w := by
  rw [run_equalIn_array (i := Tryd.prog.types[3]!) w 9999 _ _ Tryd.underlying44 (by kernel_rfl)]
  have hc : Tryd.prog.cellsOf 3 = 1 := by kernel_rfl
  rw [hc]
  show (Op.eqItems (9998 + 1) 3 1 _ _ [0, 1, 2]).run Tryd.prog w = _
  have hk : Tryd.prog.plainKey 3 = true := by kernel_rfl
  have q : ∀ (x y : Int), (Op.equalIn (9998 + 1) 3 (.int .i64 x) (.int .i64 y)).run Tryd.prog w = .ok (x == y) w := fun x y => run_equalIn_int w 9998 3 .i64 .i64 x y Tryd.underlying3
  have p0 : ∀ (x y z : Int), (part 3 #[.int .i64 x, .int .i64 y, .int .i64 z] (0 * 1)).run Tryd.prog w = .ok (.int .i64 x) w := fun x y z => run_part_plain w hk rfl
  have p1 : ∀ (x y z : Int), (part 3 #[.int .i64 x, .int .i64 y, .int .i64 z] (1 * 1)).run Tryd.prog w = .ok (.int .i64 y) w := fun x y z => run_part_plain w hk rfl
  have p2 : ∀ (x y z : Int), (part 3 #[.int .i64 x, .int .i64 y, .int .i64 z] (2 * 1)).run Tryd.prog w = .ok (.int .i64 z) w := fun x y z => run_part_plain w hk rfl
  cases ha : a == a' <;> cases hb : b == b' <;> cases hcc : c == c' <;> simp only [Op.eqItems, Sem.run_bind, p0, p1, p2, q, ha, hb, hcc, Result.andThen_ok, Bool.not_true, Bool.not_false, Bool.false_eq_true, if_true, if_false, Sem.run_pure, Bool.true_and, Bool.false_and, Bool.and_false, Bool.and_true]

theorem eq_arr (a b c a' b' c' : Int) (w : World) : (binOp .eql 44 (.agg #[.int .i64 a, .int .i64 b, .int .i64 c]) (.agg #[.int .i64 a', .int .i64 b', .int .i64 c'])).run Tryd.prog w = .ok (.bool (a == a' && (b == b' && c == c'))) w := by
  rw [run_eql_struct, eq_in]; rfl

/-- Two that are one. -/
theorem eq_same (a b c : Int) (w : World) : (binOp .eql 44 (.agg #[.int .i64 a, .int .i64 b, .int .i64 c]) (.agg #[.int .i64 a, .int .i64 b, .int .i64 c])).run Tryd.prog w = .ok (.bool true) w := by
  rw [eq_arr]; simp
theorem eq_in_same (a b c : Int) (w : World) : (Op.equalIn 10000 44 (.agg #[.int .i64 a, .int .i64 b, .int .i64 c]) (.agg #[.int .i64 a, .int .i64 b, .int .i64 c])).run Tryd.prog w = .ok true w := by
  rw [eq_in]; simp
/-- Two whose last ones are unlike. -/
theorem eq_other (a b c a' b' c' : Int) (h : c ≠ c') (w : World) : (binOp .eql 44 (.agg #[.int .i64 a, .int .i64 b, .int .i64 c]) (.agg #[.int .i64 a', .int .i64 b', .int .i64 c'])).run Tryd.prog w = .ok (.bool false) w := by
  rw [eq_arr]; simp [h]
theorem eq_in_other (a b c a' b' c' : Int) (h : c ≠ c') (w : World) : (Op.equalIn 10000 44 (.agg #[.int .i64 a, .int .i64 b, .int .i64 c]) (.agg #[.int .i64 a', .int .i64 b', .int .i64 c'])).run Tryd.prog w = .ok false w := by
  rw [eq_in]; simp [h]

end Go.Proofs.YtocnlefpbcnlmaaDoor.Ctx

namespace Go.Proofs.YtocnlefpbcnlmaaDoor.Ctx
open Go.RowKit Go.Proofs.YtocnlefpbcnlmaaDoor.Mod Go.Proofs.YtocnlefpbcnlmaaDoor.Ints Go.Proofs.YtocnlefpbcnlmaaDoor.Num Go.Proofs.YtocnlefpbcnlmaaDoor.Gam
set_option linter.unusedVariables false

theorem last_is {L : List Int} (h0 : 0 < L.length) : last1 L = (L.getD (L.length - 1) 0 == 1) := by
  unfold last1
  by_cases q : L.getD (L.length - 1) 0 = 1
  · rw [decide_eq_true ⟨h0, q⟩, q]; rfl
  · rw [decide_eq_false fun h => q h.2]
    exact (by simpa using q : (L.getD (L.length - 1) 0 == 1) = false).symm

set_option maxRecDepth 20000 in
set_option maxHeartbeats 1000000 in
theorem of_nil (ao : Option Addr) (n cap : Nat) (b y0 y1 y2 f t : Int) (n63 : n ≤ 63) (b0 : 0 ≤ b) (b63 : b ≤ 63) (hy0 : 0 ≤ y0) (hy0' : y0 ≤ 31) (hy1 : 0 ≤ y1) (hy1' : y1 ≤ 31) (hy2 : 0 ≤ y2) (hy2' : y2 ≤ 31) (hf : 0 ≤ f) (hf' : f ≤ 1) (ht : 0 ≤ t) (ht' : t ≤ 1) (hn : n = 0) (w : World)
    (k1 : ∀ w', Bel w w' → Calls Tryd.prog 14 #[.slice ao n cap, .func (.func 44) #[] #[]] w' fun e w'' => e = .returned (.bool false) ∧ w'' = w')
    (k2 : ∀ w', Bel w w' → Calls Tryd.prog 43 #[.slice ao n cap, .int .i64 0] w' fun e w'' => e = .returned (.int .i64 (-1)) ∧ w'' = w')
    (k3 : ∀ w, Calls Tryd.prog 45 #[.int .i64 ((n : Nat) : Int)] w fun e w' => e = .returned (.int .i64 y0) ∧ w' = w)
    (k4 : ∀ w, Calls Tryd.prog 45 #[.int .i64 b] w fun e w' => e = .returned (.int .i64 y1) ∧ w' = w)
    (k5 : ∀ w, Calls Tryd.prog 45 #[.int .i64 ((n : Nat) : Int)] w fun e w' => e = .returned (.int .i64 y2) ∧ w' = w)
    (k6 : ∀ w, Calls Tryd.prog 46 #[.bool false] w fun e w' => e = .returned (.int .i64 f) ∧ w' = w)
    (k7 : ∀ w, Calls Tryd.prog 46 #[.bool false] w fun e w' => e = .returned (.int .i64 t) ∧ w' = w) :
    Calls Tryd.prog 31 #[.int .i64 b, .slice ao n cap] w fun e w' => e = .returned (.tuple #[.agg #[.int .i64 (y0 + 32 * f), .int .i64 (2 * y1 + f), .int .i64 (y2 + 32 * t)], .int .i64 0]) ∧ Bel w w' := by
  subst hn
  have K1 : Hid (∀ w', Bel w w' → Calls Tryd.prog 14 _ w' _) := k1
  have K2 : Hid (∀ w', Bel w w' → Calls Tryd.prog 43 _ w' _) := k2
  have K3 : Hid (∀ w, Calls Tryd.prog 45 _ w _) := k3
  have K4 : Hid (∀ w, Calls Tryd.prog 45 _ w _) := k4
  have K5 : Hid (∀ w, Calls Tryd.prog 45 _ w _) := k5
  have K6 : Hid (∀ w, Calls Tryd.prog 46 _ w _) := k6
  have K7 : Hid (∀ w, Calls Tryd.prog 46 _ w _) := k7
  clear k1 k2 k3 k4 k5 k6 k7
  go_enter Tryd.func31, Tryd.ntmps31
  go_wp2_with fail
  refine (K1.out _ ((Bel.refl w).alloc _)).mono ?_
  rintro e w1 ⟨rfl, h2⟩
  replace h2 := h2.symm
  subst h2
  go_wp2_with fail
  refine (K2.out _ ((Bel.refl w).alloc _)).mono ?_
  rintro e w1 ⟨rfl, h2⟩
  replace h2 := h2.symm
  subst h2
  go_wp2_with fail
  refine (K3.out _).mono ?_
  rintro e w1 ⟨rfl, h2⟩
  replace h2 := h2.symm
  subst h2
  go_wp2_with fail
  refine (K6.out _).mono ?_
  rintro e w1 ⟨rfl, h2⟩
  replace h2 := h2.symm
  subst h2
  go_wp2_with fail
  refine (K4.out _).mono ?_
  rintro e w1 ⟨rfl, h2⟩
  replace h2 := h2.symm
  subst h2
  go_wp2_with fail
  refine (K6.out _).mono ?_
  rintro e w1 ⟨rfl, h2⟩
  replace h2 := h2.symm
  subst h2
  go_wp2_with fail
  refine (K5.out _).mono ?_
  rintro e w1 ⟨rfl, h2⟩
  replace h2 := h2.symm
  subst h2
  go_wp2_with fail
  refine (K7.out _).mono ?_
  rintro e w1 ⟨rfl, h2⟩
  replace h2 := h2.symm
  subst h2
  go_wp2
  refine bodyPost_ret (results_arr2 Tryd.results31 rfl rfl (by simp) (by simp) (by simp)) rfl ⟨rfl, ?_⟩
  exact (Bel.refl w).alloc _

set_option maxRecDepth 20000 in
set_option maxHeartbeats 1000000 in
theorem of_has (ao : Option Addr) (n cap : Nat) (b y0 y1 y2 f t : Int) (n63 : n ≤ 63) (b0 : 0 ≤ b) (b63 : b ≤ 63) (hy0 : 0 ≤ y0) (hy0' : y0 ≤ 31) (hy1 : 0 ≤ y1) (hy1' : y1 ≤ 31) (hy2 : 0 ≤ y2) (hy2' : y2 ≤ 31) (hf : 0 ≤ f) (hf' : f ≤ 1) (ht : 0 ≤ t) (ht' : t ≤ 1) (k : Nat) (hk : k < n) (x : Addr) (hx : ao = some x) (hn : 0 < n) (p : Int) (w : World) (hc : ∀ w', Bel w w' → w'.cell? (x.add (n - 1)) = some (.int .i64 p))
    (k1 : ∀ w', Bel w w' → Calls Tryd.prog 14 #[.slice ao n cap, .func (.func 44) #[] #[]] w' fun e w'' => e = .returned (.bool false) ∧ w'' = w')
    (k2 : ∀ w', Bel w w' → Calls Tryd.prog 43 #[.slice ao n cap, .int .i64 0] w' fun e w'' => e = .returned (.int .i64 ((k : Nat) : Int)) ∧ w'' = w')
    (k3 : ∀ w, Calls Tryd.prog 45 #[.int .i64 ((k : Nat) : Int)] w fun e w' => e = .returned (.int .i64 y0) ∧ w' = w)
    (k4 : ∀ w, Calls Tryd.prog 45 #[.int .i64 b] w fun e w' => e = .returned (.int .i64 y1) ∧ w' = w)
    (k5 : ∀ w, Calls Tryd.prog 45 #[.int .i64 ((n : Nat) : Int)] w fun e w' => e = .returned (.int .i64 y2) ∧ w' = w)
    (k6 : ∀ w, Calls Tryd.prog 46 #[.bool true] w fun e w' => e = .returned (.int .i64 f) ∧ w' = w)
    (k7 : ∀ w, Calls Tryd.prog 46 #[.bool (p == 1)] w fun e w' => e = .returned (.int .i64 t) ∧ w' = w) :
    Calls Tryd.prog 31 #[.int .i64 b, .slice ao n cap] w fun e w' => e = .returned (.tuple #[.agg #[.int .i64 (y0 + 32 * f), .int .i64 (2 * y1 + f), .int .i64 (y2 + 32 * t)], .int .i64 0]) ∧ Bel w w' := by
  subst hx
  have hcc := hc _ ((Bel.refl w).alloc (.cells #[.int .i64 0, .int .i64 0, .int .i64 0] 44))
  clear hc
  have K1 : Hid (∀ w', Bel w w' → Calls Tryd.prog 14 _ w' _) := k1
  have K2 : Hid (∀ w', Bel w w' → Calls Tryd.prog 43 _ w' _) := k2
  have K3 : Hid (∀ w, Calls Tryd.prog 45 _ w _) := k3
  have K4 : Hid (∀ w, Calls Tryd.prog 45 _ w _) := k4
  have K5 : Hid (∀ w, Calls Tryd.prog 45 _ w _) := k5
  have K6 : Hid (∀ w, Calls Tryd.prog 46 _ w _) := k6
  have K7 : Hid (∀ w, Calls Tryd.prog 46 _ w _) := k7
  clear k1 k2 k3 k4 k5 k6 k7
  go_enter Tryd.func31, Tryd.ntmps31
  go_wp2_with fail
  refine (K1.out _ ((Bel.refl w).alloc _)).mono ?_
  rintro e w1 ⟨rfl, h2⟩
  replace h2 := h2.symm
  subst h2
  go_wp2_with fail
  refine (K2.out _ ((Bel.refl w).alloc _)).mono ?_
  rintro e w1 ⟨rfl, h2⟩
  replace h2 := h2.symm
  subst h2
  go_wp2_with fail
  refine (K3.out _).mono ?_
  rintro e w1 ⟨rfl, h2⟩
  replace h2 := h2.symm
  subst h2
  go_wp2_with fail
  refine (K6.out _).mono ?_
  rintro e w1 ⟨rfl, h2⟩
  replace h2 := h2.symm
  subst h2
  go_wp2_with fail
  refine (K4.out _).mono ?_
  rintro e w1 ⟨rfl, h2⟩
  replace h2 := h2.symm
  subst h2
  go_wp2_with fail
  refine (K6.out _).mono ?_
  rintro e w1 ⟨rfl, h2⟩
  replace h2 := h2.symm
  subst h2
  go_wp2_with fail
  refine (K5.out _).mono ?_
  rintro e w1 ⟨rfl, h2⟩
  replace h2 := h2.symm
  subst h2
  go_wp2_with fail
  refine (K7.out _).mono ?_
  rintro e w1 ⟨rfl, h2⟩
  replace h2 := h2.symm
  subst h2
  go_wp2
  refine bodyPost_ret (results_arr2 Tryd.results31 rfl rfl (by simp) (by simp) (by simp)) rfl ⟨rfl, ?_⟩
  exact (Bel.refl w).alloc _

set_option maxRecDepth 20000 in
set_option maxHeartbeats 1000000 in
theorem of_none (ao : Option Addr) (n cap : Nat) (b y0 y1 y2 f t : Int) (n63 : n ≤ 63) (b0 : 0 ≤ b) (b63 : b ≤ 63) (hy0 : 0 ≤ y0) (hy0' : y0 ≤ 31) (hy1 : 0 ≤ y1) (hy1' : y1 ≤ 31) (hy2 : 0 ≤ y2) (hy2' : y2 ≤ 31) (hf : 0 ≤ f) (hf' : f ≤ 1) (ht : 0 ≤ t) (ht' : t ≤ 1) (x : Addr) (hx : ao = some x) (hn : 0 < n) (p : Int) (w : World) (hc : ∀ w', Bel w w' → w'.cell? (x.add (n - 1)) = some (.int .i64 p))
    (k1 : ∀ w', Bel w w' → Calls Tryd.prog 14 #[.slice ao n cap, .func (.func 44) #[] #[]] w' fun e w'' => e = .returned (.bool false) ∧ w'' = w')
    (k2 : ∀ w', Bel w w' → Calls Tryd.prog 43 #[.slice ao n cap, .int .i64 0] w' fun e w'' => e = .returned (.int .i64 (-1)) ∧ w'' = w')
    (k3 : ∀ w, Calls Tryd.prog 45 #[.int .i64 ((n : Nat) : Int)] w fun e w' => e = .returned (.int .i64 y0) ∧ w' = w)
    (k4 : ∀ w, Calls Tryd.prog 45 #[.int .i64 b] w fun e w' => e = .returned (.int .i64 y1) ∧ w' = w)
    (k5 : ∀ w, Calls Tryd.prog 45 #[.int .i64 ((n : Nat) : Int)] w fun e w' => e = .returned (.int .i64 y2) ∧ w' = w)
    (k6 : ∀ w, Calls Tryd.prog 46 #[.bool false] w fun e w' => e = .returned (.int .i64 f) ∧ w' = w)
    (k7 : ∀ w, Calls Tryd.prog 46 #[.bool (p == 1)] w fun e w' => e = .returned (.int .i64 t) ∧ w' = w) :
    Calls Tryd.prog 31 #[.int .i64 b, .slice ao n cap] w fun e w' => e = .returned (.tuple #[.agg #[.int .i64 (y0 + 32 * f), .int .i64 (2 * y1 + f), .int .i64 (y2 + 32 * t)], .int .i64 0]) ∧ Bel w w' := by
  subst hx
  have hcc := hc _ ((Bel.refl w).alloc (.cells #[.int .i64 0, .int .i64 0, .int .i64 0] 44))
  clear hc
  have K1 : Hid (∀ w', Bel w w' → Calls Tryd.prog 14 _ w' _) := k1
  have K2 : Hid (∀ w', Bel w w' → Calls Tryd.prog 43 _ w' _) := k2
  have K3 : Hid (∀ w, Calls Tryd.prog 45 _ w _) := k3
  have K4 : Hid (∀ w, Calls Tryd.prog 45 _ w _) := k4
  have K5 : Hid (∀ w, Calls Tryd.prog 45 _ w _) := k5
  have K6 : Hid (∀ w, Calls Tryd.prog 46 _ w _) := k6
  have K7 : Hid (∀ w, Calls Tryd.prog 46 _ w _) := k7
  clear k1 k2 k3 k4 k5 k6 k7
  go_enter Tryd.func31, Tryd.ntmps31
  go_wp2_with fail
  refine (K1.out _ ((Bel.refl w).alloc _)).mono ?_
  rintro e w1 ⟨rfl, h2⟩
  replace h2 := h2.symm
  subst h2
  go_wp2_with fail
  refine (K2.out _ ((Bel.refl w).alloc _)).mono ?_
  rintro e w1 ⟨rfl, h2⟩
  replace h2 := h2.symm
  subst h2
  go_wp2_with fail
  refine (K3.out _).mono ?_
  rintro e w1 ⟨rfl, h2⟩
  replace h2 := h2.symm
  subst h2
  go_wp2_with fail
  refine (K6.out _).mono ?_
  rintro e w1 ⟨rfl, h2⟩
  replace h2 := h2.symm
  subst h2
  go_wp2_with fail
  refine (K4.out _).mono ?_
  rintro e w1 ⟨rfl, h2⟩
  replace h2 := h2.symm
  subst h2
  go_wp2_with fail
  refine (K6.out _).mono ?_
  rintro e w1 ⟨rfl, h2⟩
  replace h2 := h2.symm
  subst h2
  go_wp2_with fail
  refine (K5.out _).mono ?_
  rintro e w1 ⟨rfl, h2⟩
  replace h2 := h2.symm
  subst h2
  go_wp2_with fail
  refine (K7.out _).mono ?_
  rintro e w1 ⟨rfl, h2⟩
  replace h2 := h2.symm
  subst h2
  go_wp2
  refine bodyPost_ret (results_arr2 Tryd.results31 rfl rfl (by simp) (by simp) (by simp)) rfl ⟨rfl, ?_⟩
  exact (Bel.refl w).alloc _

/-- Of what may be asked. -/
theorem of_yes (b : Int) (ao : Option Addr) (L : List Int) (n cap : Nat) (hn : n = L.length) (hm : May b L) (w : World) (hA : Slc w ao L) :
    Calls Tryd.prog 31 #[.int .i64 b, .slice ao n cap] w fun e w' => e = .returned (.tuple #[ctxV b L, .int .i64 0]) ∧ Bel w w' := by
  obtain ⟨b0, b63, l63, hb⟩ := hm
  have n63 : n ≤ 63 := by omega
  have k1 := fun w' (q : Bel w w') => contains_ok ao L n cap hn n63 false ⟨fun h => absurd h (by decide), fun h => absurd hb h⟩ w' (hA.bel q)
  have k2 := fun w' (q : Bel w w') => index_ok ao L n cap hn n63 hb _ rfl w' (hA.bel q)
  have r0 := upto31_range (ones L) (by omega)
  have r1 := upto31_range b b0
  have r2 := upto31_range L.length (by omega)
  have rf := oneB_range (has0 L)
  have rt := oneB_range (last1 L)
  rcases Nat.eq_zero_or_pos n with h0 | h0
  · obtain rfl : L = [] := List.eq_nil_of_length_eq_zero (hn.symm.trans h0)
    exact of_nil ao n cap b _ _ _ _ _ n63 b0 b63 r0.1 r0.2 r1.1 r1.2 r2.1 r2.2 rf.1 rf.2 rt.1 rt.2 h0 w k1 k2 (by rw [h0]; exact counted_ok _) (counted_ok b) (by rw [h0]; exact counted_ok _) (oneIf_ok false) (oneIf_ok false)
  · obtain ⟨x, hx, _⟩ := hA (n - 1) (by omega)
    have hc : ∀ w', Bel w w' → w'.cell? (x.add (n - 1)) = some (.int .i64 (L.getD (n - 1) 0)) := fun w' q => by
      obtain ⟨y, hy, h⟩ := hA (n - 1) (by omega)
      rw [hx] at hy
      injection hy with hy
      subst hy
      exact q.keep h
    have kl : ∀ w, Calls Tryd.prog 46 #[.bool (L.getD (n - 1) 0 == 1)] w fun e w' => e = .returned (.int .i64 (oneB (last1 L))) ∧ w' = w := by
      rw [last_is (by omega), hn]
      exact oneIf_ok _
    by_cases hz : ones L < L.length
    · have e : has0 L = true := decide_eq_true hz
      rw [e, if_pos rfl] at k2
      exact of_has ao n cap b _ _ _ _ _ n63 b0 b63 r0.1 r0.2 r1.1 r1.2 r2.1 r2.2 rf.1 rf.2 rt.1 rt.2 (ones L) (by omega) x hx h0 _ w hc k1 k2 (counted_ok _) (counted_ok b) (by rw [hn]; exact counted_ok _) (by rw [e]; exact oneIf_ok true) kl
    · have e : has0 L = false := decide_eq_false hz
      have e2 : ones L = n := by have := ones_le L; omega
      rw [e, if_neg (by decide)] at k2
      exact of_none ao n cap b _ _ _ _ _ n63 b0 b63 r0.1 r0.2 r1.1 r1.2 r2.1 r2.2 rf.1 rf.2 rt.1 rt.2 x hx h0 _ w hc k1 k2 (by rw [e2]; exact counted_ok _) (counted_ok b) (by rw [hn]; exact counted_ok _) (by rw [e]; exact oneIf_ok false) kl

set_option maxRecDepth 20000 in
set_option maxHeartbeats 1000000 in
/-- Of what may not be asked. -/
theorem of_no (b : Int) (ao : Option Addr) (L : List Int) (n cap : Nat) (hn : n = L.length) (hx : n ≤ maxLen) (hm : ¬ May b L) (w : World) (hA : Slc w ao L) :
    Calls Tryd.prog 31 #[.int .i64 b, .slice ao n cap] w fun e w' => e = .returned (.tuple #[.agg #[.int .i64 0, .int .i64 0, .int .i64 0], .int .i64 1200]) ∧ Bel w w' := by
  unfold maxLen at hx
  by_cases h1 : b < 0
  · clear hm hA hn
    have hb : decide (b < 0) = true := decide_eq_true h1
    go_enter Tryd.func31, Tryd.ntmps31
    go_wp2
    refine bodyPost_ret (results_arr2 Tryd.results31 rfl rfl (by simp) (by simp) (by simp)) rfl ⟨rfl, ?_⟩
    exact (Bel.refl w).alloc _
  have hb1 : decide (b < 0) = false := decide_eq_false h1
  by_cases h2 : 63 < b
  · clear hm hA hn
    have hb : decide (63 < b) = true := decide_eq_true h2
    go_enter Tryd.func31, Tryd.ntmps31
    go_wp2
    refine bodyPost_ret (results_arr2 Tryd.results31 rfl rfl (by simp) (by simp) (by simp)) rfl ⟨rfl, ?_⟩
    exact (Bel.refl w).alloc _
  have hb2 : decide (63 < b) = false := decide_eq_false h2
  by_cases h3 : 63 < n
  · clear hm hA hn
    have hb : decide (63 < (n : Int)) = true := decide_eq_true (by omega)
    go_enter Tryd.func31, Tryd.ntmps31
    go_wp2
    refine bodyPost_ret (results_arr2 Tryd.results31 rfl rfl (by simp) (by simp) (by simp)) rfl ⟨rfl, ?_⟩
    exact (Bel.refl w).alloc _
  have hb3 : decide (63 < (n : Int)) = false := decide_eq_false (by omega)
  have K1 : Hid (∀ w', Bel w w' → Calls Tryd.prog 14 _ w' _) := fun w' (q : Bel w w') => contains_ok ao L n cap hn (by omega) true ⟨fun _ h => hm ⟨by omega, by omega, by omega, h⟩, fun _ => rfl⟩ w' (hA.bel q)
  clear hm hA hn
  go_enter Tryd.func31, Tryd.ntmps31
  go_wp2_with fail
  refine (K1.out _ ((Bel.refl w).alloc _)).mono ?_
  rintro e w1 ⟨rfl, h2⟩
  replace h2 := h2.symm
  subst h2
  go_wp2
  refine bodyPost_ret (results_arr2 Tryd.results31 rfl rfl (by simp) (by simp) (by simp)) rfl ⟨rfl, ?_⟩
  exact (Bel.refl w).alloc _

end Go.Proofs.YtocnlefpbcnlmaaDoor.Ctx

namespace Go.Proofs.YtocnlefpbcnlmaaDoor.Fld
open Go.RowKit Go.Proofs.YtocnlefpbcnlmaaDoor.Num
set_option linter.unusedVariables false

theorem num_ok (n : Int) (w : World) :
    Calls Tryd.prog 9 #[.int .i64 n] w fun e w' => e = .returned (.int .i64 n) ∧ w' = w := by
  go_enter Tryd.func9, Tryd.ntmps9
  go_wp2
  go_ret
  exact ⟨rfl, rfl⟩

set_option maxHeartbeats 400000 in
/-- Put of a number below 0. -/
theorem put_neg (x y : Int) (h0 : x < 0) (h1 : -16777216 ≤ x) (hy : 2 * -x - 1 = y) (w : World) :
    Calls Tryd.prog 18 #[.int .i64 x] w fun e w' => e = .returned (.tuple #[.int .i64 y, .int .i64 0]) ∧ w' = w := by
  subst hy
  go_enter Tryd.func18, Tryd.ntmps18
  go_wp2
  go_ret2
  exact ⟨rfl, rfl⟩

set_option maxHeartbeats 400000 in
/-- Put of a number that is not below 0. -/
theorem put_pos (x y : Int) (h0 : 0 ≤ x) (h1 : x ≤ 16777216) (hy : 2 * x = y) (w : World) :
    Calls Tryd.prog 18 #[.int .i64 x] w fun e w' => e = .returned (.tuple #[.int .i64 y, .int .i64 0]) ∧ w' = w := by
  subst hy
  go_enter Tryd.func18, Tryd.ntmps18
  go_wp2
  go_ret2
  exact ⟨rfl, rfl⟩

set_option maxHeartbeats 400000 in
/-- Put of a number that is none. -/
theorem put_no (x : Int) (h : x < -16777216 ∨ 16777216 < x) (w : World) :
    Calls Tryd.prog 18 #[.int .i64 x] w fun e w' => e = .returned (.tuple #[.int .i64 0, .int .i64 1000]) ∧ w' = w := by
  rcases h with h | h
  · go_enter Tryd.func18, Tryd.ntmps18
    go_wp2
    go_ret2
    exact ⟨rfl, rfl⟩
  · go_enter Tryd.func18, Tryd.ntmps18
    go_wp2
    go_ret2
    exact ⟨rfl, rfl⟩

set_option maxHeartbeats 400000 in
/-- Get of an odd number. -/
theorem get_odd (u y : Int) (h0 : 0 ≤ u) (h1 : u ≤ 33554432) (hy : u = 2 * -y - 1) (w : World) :
    Calls Tryd.prog 39 #[.int .i64 u] w fun e w' => e = .returned (.tuple #[.int .i64 y, .int .i64 0]) ∧ w' = w := by
  have m : u.tmod 2 = 1 := by rw [Int.tmod_eq_emod_of_nonneg h0]; omega
  have q : (-(u + 1)).tdiv 2 = y := by
    have e : -(u + 1) = y * 2 := by omega
    rw [e]; exact Int.mul_tdiv_cancel y (by decide)
  have y0 : -33554432 ≤ y := by omega
  have y1 : y ≤ 33554432 := by omega
  clear hy
  go_enter Tryd.func39, Tryd.ntmps39
  go_wp2
  go_ret2
  exact ⟨rfl, rfl⟩

set_option maxHeartbeats 400000 in
/-- Get of an even number. -/
theorem get_even (u y : Int) (h0 : 0 ≤ u) (h1 : u ≤ 33554432) (hy : u = 2 * y) (w : World) :
    Calls Tryd.prog 39 #[.int .i64 u] w fun e w' => e = .returned (.tuple #[.int .i64 y, .int .i64 0]) ∧ w' = w := by
  have m : u.tmod 2 = 0 := by rw [Int.tmod_eq_emod_of_nonneg h0]; omega
  have q : u.tdiv 2 = y := by
    have e : u = y * 2 := by omega
    rw [e]; exact Int.mul_tdiv_cancel y (by decide)
  have y0 : -33554432 ≤ y := by omega
  have y1 : y ≤ 33554432 := by omega
  clear hy
  go_enter Tryd.func39, Tryd.ntmps39
  go_wp2
  go_ret2
  exact ⟨rfl, rfl⟩

set_option maxHeartbeats 400000 in
/-- Get of a number that is none's. -/
theorem get_no (u : Int) (h : u < 0 ∨ 33554432 < u) (w : World) :
    Calls Tryd.prog 39 #[.int .i64 u] w fun e w' => e = .returned (.tuple #[.int .i64 0, .int .i64 1000]) ∧ w' = w := by
  rcases h with h | h
  · go_enter Tryd.func39, Tryd.ntmps39
    go_wp2
    go_ret2
    exact ⟨rfl, rfl⟩
  · go_enter Tryd.func39, Tryd.ntmps39
    go_wp2
    go_ret2
    exact ⟨rfl, rfl⟩

end Go.Proofs.YtocnlefpbcnlmaaDoor.Fld
