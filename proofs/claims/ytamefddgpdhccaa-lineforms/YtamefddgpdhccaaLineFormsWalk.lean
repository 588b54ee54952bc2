/-
  LineForms answers true for every two ints: samples and residuals that may not be are refused. No condition.
-/
import Derived.Test.YtamefddgpdhccaaJAwake
namespace Go.Proofs.Ytamefddgpdhccaa.Ser
open Go.RowKit Go.Sort Go.Proofs.Ytamefddgpdhccaa.Mod Go.Proofs.Ytamefddgpdhccaa.Lin Go.Proofs.Ytamefddgpdhccaa.Chn Go.Proofs.Ytamefddgpdhccaa.Ints
set_option linter.unusedVariables false
set_option linter.unusedSimpArgs false

/-- A chain that learned 0 alone guesses 0. -/
theorem still_back {r : Nat → Int} : ∀ n, (∀ i, i < n → r i = 0) → Still 0 n (back r n) ∧ guessC (back r n) = 0
  | 0, _ => ⟨still_zero 0, by show guessC zeros33 = 0; decide +kernel⟩
  | n + 1, h => by
    obtain ⟨s, g⟩ := still_back n (fun i hi => h i (by omega))
    have e : back r (n + 1) = learnC (back r n) 0 := by rw [back, g, h n (by omega)]; rfl
    have s2 : Still 0 (n + 1) (back r (n + 1)) := e ▸ s.step
    exact ⟨s2, s2.guess (by omega)⟩

theorem zero_ith (k i : Nat) (v : Int) (h : i ≠ k) : ith ((List.replicate 8 (0 : Int)).set k v) i = 0 := by
  unfold ith
  rw [Mod.getD_set_ne _ _ _ _ (fun e => h e.symm)]
  rw [List.getD_eq_getElem?_getD, List.getElem?_replicate]
  split <;> rfl
theorem at_ith (k : Nat) (hk : k < 8) (v : Int) : ith ((List.replicate 8 (0 : Int)).set k v) k = v := Mod.getD_set_eq _ _ _ (by simp; omega)

theorem bad_put (k : Nat) (hk : k < 8) (v : Int) (hv : passed 131072 v = true) : okP ((List.replicate 8 (0 : Int)).set k v) = false := by
  cases h : okP ((List.replicate 8 (0 : Int)).set k v)
  · rfl
  · have := ((okP_iff _).1 h).2 k (by simp; omega)
    rw [at_ith k hk v, hv] at this
    cases this
theorem bad_get (k : Nat) (hk : k < 8) (v : Int) (hv : passed 131072 v = true) : okG ((List.replicate 8 (0 : Int)).set k v) = false := by
  cases h : okG ((List.replicate 8 (0 : Int)).set k v)
  · rfl
  · have := ((okG_iff _).1 h).2.2 k (by simp; omega)
    rw [smp, (still_back k (fun i hi => zero_ith k i v (by omega))).2, at_ith k hk v, Int.add_zero, hv] at this
    cases this

theorem store_new {w : World} {g : Nat} {L : List Int} (h : Holds w g L) (k : Nat) (hk : k < L.length) (o : Obj) (v v' : Int) (e : v' = v) : Holds ((w.setCell ⟨g, k, none⟩ (.int .i64 v')).alloc o) g (L.set k v) := by
  subst e
  exact (h.set k hk _).bel ((Bel.refl _).alloc o)
theorem bel_new {a w : World} {g : Nat} (b : Bel a w) (hg : a.heap.size ≤ g) (k : Nat) (o : Obj) (v : Value) : Bel a ((w.setCell ⟨g, k, none⟩ v).alloc o) := (b.setCell hg v).alloc o

set_option maxRecDepth 20000 in
set_option maxHeartbeats 2000000 in
theorem forms_0 (x y : Int) (K D : Nat) (hk : bits .and .i64 x 7 = (K : Int)) (hk8 : K < 8) (m : Int) (hm : bits .and .i64 y 1023 = m) (m0 : 0 ≤ m) (m1 : m ≤ 1023) (hD : 1 + m = (D : Int)) (d0 : 1 ≤ D) (d1 : D ≤ 1024) (hb : bits .and .i64 (x / 8) 1 = 0) (w : World) :
    Calls Try.prog 4 #[.int .i64 x, .int .i64 y] w fun e w' => e = .returned (.bool true) ∧ Bel w w' := by
  have AW : Hid (∀ w, Calls Try.prog 17 #[] w fun e w' => e = .returned (.bool true) ∧ Bel w w') := awake_true
  have DE : Hid (1 + m = (D : Int)) := hD
  have DR : Hid (1 ≤ D ∧ D ≤ 1024) := ⟨d0, d1⟩
  have DI : (1 : Int) ≤ (D : Int) ∧ (D : Int) ≤ 1024 := ⟨by omega, by omega⟩
  obtain ⟨e0, e1⟩ := DI
  have K8 : Hid (K < 8) := hk8
  obtain ⟨v1, hv1⟩ : ∃ v, -131072 - (D : Int) = v := ⟨_, rfl⟩
  obtain ⟨v2, hv2⟩ : ∃ v, -16777216 - (D : Int) = v := ⟨_, rfl⟩
  have E1 : Hid (-131072 - (D : Int) = v1) := hv1
  have E2 : Hid (-16777216 - (D : Int) = v2) := hv2
  have b1 : passed 131072 v1 = true := decide_eq_true (by omega)
  have b2 : passed 16777216 v2 = true := decide_eq_true (by omega)
  have P1 : Hid (∀ (w' : World) (g : Nat), Holds w' g ((List.replicate 8 (0 : Int)).set K v1) → Calls Try.prog 9 #[.slice (some ⟨g, 0, none⟩) 8 8] w' fun e w'' => e = .returned (.tuple #[.slice none 0 0, .int .i64 1600]) ∧ Bel w' w'') := fun w' g h => put_no _ _ 8 8 (by simp) (by decide) (bad_put K hk8 v1 b1) w' h.slc
  have G1 : Hid (∀ (w' : World) (g : Nat), Holds w' g ((List.replicate 8 (0 : Int)).set K v1) → Calls Try.prog 11 #[.slice (some ⟨g, 0, none⟩) 8 8] w' fun e w'' => e = .returned (.tuple #[.slice none 0 0, .int .i64 1600]) ∧ Bel w' w'') := fun w' g h => get_no _ _ 8 8 (by simp) (by decide) (bad_get K hk8 v1 b1) w' h.slc
  have G2 : Hid (∀ (w' : World) (g : Nat), Holds w' g (((List.replicate 8 (0 : Int)).set K v1).set K v2) → Calls Try.prog 11 #[.slice (some ⟨g, 0, none⟩) 8 8] w' fun e w'' => e = .returned (.tuple #[.slice none 0 0, .int .i64 1600]) ∧ Bel w' w'') := fun w' g h =>
    get_far _ _ 8 8 (by simp) (by decide) (anyOf_yes K hk8 (by show passed 16777216 (ith _ K) = true; rw [show ith (((List.replicate 8 (0 : Int)).set K v1).set K v2) K = v2 from Mod.getD_set_eq _ _ _ (by simp; omega)]; exact b2)) w' h.slc
  have PL : Hid (∀ (w' : World) (ao : Option Addr), Calls Try.prog 9 #[.slice ao (256 + D) (256 + D)] w' fun e w'' => e = .returned (.tuple #[.slice none 0 0, .int .i64 1600]) ∧ Bel w' w'') := fun w' ao => put_long ao [] _ _ (by omega) (by unfold maxLen; omega) w'
  have GL : Hid (∀ (w' : World) (ao : Option Addr), Calls Try.prog 11 #[.slice ao (256 + D) (256 + D)] w' fun e w'' => e = .returned (.tuple #[.slice none 0 0, .int .i64 1600]) ∧ Bel w' w'') := fun w' ao => get_long ao _ _ (by omega) (by unfold maxLen; omega) w'
  have mk8 : ∀ w, (Instr.makeSlice 22 (.int .i64 8) (.int .i64 8)).run Try.prog w = .ok (.slice (some ⟨w.heap.size, 0, none⟩) 8 8) (w.alloc (.cells (vals (List.replicate 8 0)).toArray 3)) := mk_ints 8 (by decide)
  have mkD : ∀ w, (Instr.makeSlice 22 (.int .i64 (256 + (D : Int))) (.int .i64 (256 + (D : Int)))).run Try.prog w = .ok (.slice (some ⟨w.heap.size, 0, none⟩) (256 + D) (256 + D)) (w.alloc (.cells (vals (List.replicate (256 + D) 0)).toArray 3)) := fun w => by
    have := mk_ints (256 + D) (by omega) w
    rwa [show ((256 + D : Nat) : Int) = 256 + (D : Int) by omega] at this
  have L8 : Hid ((List.replicate 8 (0 : Int)).length = 8) := by show _ = _; simp
  clear hD d0 d1 hv1 hv2 b1 b2
  generalize List.replicate 8 (0 : Int) = Z at *
  have HN : ∀ w : World, Holds (w.alloc (.cells (vals Z).toArray 3)) w.heap.size Z := fun w => holds_new w Z _
  go_enter Try.func4, Try.ntmps4
  go_wp2_with fail
  refine (AW.out _).mono ?_
  rintro e w1 ⟨rfl, b1⟩
  have B1 : Hid (Bel w w1) := b1
  clear b1 AW
  go_upto_region 3 with fail
  go_cut [5] from 20 to 22 (fun v5 wx => v5 = .int .i64 (D : Int) ∧ wx = w1)
  case first =>
    go_wp2_with fail
    go_meet
    exact ⟨congrArg (Value.int .i64) DE.out, rfl⟩
  case rest =>
    obtain ⟨rfl, rfl⟩ := hcut
    clear hm m0 m1
    have H2 : Hid (Holds (wc.alloc (.cells (vals Z).toArray 3)) wc.heap.size Z ∧ Bel w (wc.alloc (.cells (vals Z).toArray 3)) ∧ w.heap.size ≤ wc.heap.size ∧ wc.heap.size < (wc.alloc (.cells (vals Z).toArray 3)).heap.size) := ⟨HN _, B1.out.alloc _, B1.out.size, by simp⟩
    go_upto_region 6 with fail
    generalize wc.alloc (.cells (vals Z).toArray 3) = W2 at *
    generalize wc.heap.size = g at *
    have GB : Hid (w.heap.size ≤ g) := H2.out.2.2.1
    have k0 : (0 : Int) ≤ (K : Int) := by omega
    have k8 : (K : Int) < 8 := by have := K8.out; omega
    have k8n := K8.out
    have c0 := H2.out.1.cell K (by rw [L8.out]; exact K8.out)
    have f0 := H2.out.1.free K (by rw [L8.out]; exact K8.out)
    generalize Z.getD K 0 = p0 at *
    have gl := H2.out.2.2.2
    go_cut [] from 26 to 38 (fun wx => Holds wx g (Z.set K v1) ∧ Bel w wx)
    case first =>
      go_wp2_with fail
      go_meet
      exact ⟨store_new H2.out.1 K (by rw [L8.out]; exact K8.out) _ v1 _ (by first | exact E1.out | (have := E1.out; omega)), bel_new H2.out.2.1 H2.out.2.2.1 K _ _⟩
    case rest =>
      have H3 : Hid (Holds wc g (Z.set K v1) ∧ Bel w wc) := hcut
      clear hcut c0 f0 gl H2
      go_wp2_with fail
      refine (P1.out _ g H3.out.1).mono ?_
      rintro e w3 ⟨rfl, b3⟩
      have H4 : Hid (Holds w3 g (Z.set K v1) ∧ Bel w w3) := ⟨H3.out.1.bel b3, H3.out.2.trans b3⟩
      clear b3 H3
      go_wp2_with fail
      refine (G1.out _ g H4.out.1).mono ?_
      rintro e w4 ⟨rfl, b4⟩
      have H5 : Hid (Holds w4 g (Z.set K v1) ∧ Bel w w4) := ⟨H4.out.1.bel b4, H4.out.2.trans b4⟩
      clear b4 H4
      go_wp2_with fail
      refine (PL.out _ _).mono ?_
      rintro e w5 ⟨rfl, b5⟩
      have bb := ((Bel.refl w4).alloc _).trans b5
      have H6 : Hid (Holds w5 g (Z.set K v1) ∧ Bel w w5) := ⟨H5.out.1.bel bb, H5.out.2.trans bb⟩
      clear b5 bb H5
      go_wp2_with fail
      refine (GL.out _ _).mono ?_
      rintro e w6 ⟨rfl, b6⟩
      have bb := ((Bel.refl w5).alloc _).trans b6
      have H7 : Hid (Holds w6 g (Z.set K v1) ∧ Bel w w6) := ⟨H6.out.1.bel bb, H6.out.2.trans bb⟩
      clear b6 bb H6
      have c0 := H7.out.1.cell K (by rw [List.length_set, L8.out]; exact K8.out)
      have f0 := H7.out.1.free K (by rw [List.length_set, L8.out]; exact K8.out)
      have gl := block_lt_of_cell c0
      generalize (Z.set K v1).getD K 0 = p1 at *
      go_upto_region 11 with fail
      go_cut [] from 63 to 75 (fun wx => Holds wx g ((Z.set K v1).set K v2) ∧ Bel w wx)
      case first =>
        go_wp2_with fail
        go_meet
        exact ⟨store_new H7.out.1 K (by rw [List.length_set, L8.out]; exact K8.out) _ v2 _ (by first | exact E2.out | (have := E2.out; omega)), bel_new H7.out.2 GB.out K _ _⟩
      case rest =>
        have H8 : Hid (Holds wc g ((Z.set K v1).set K v2) ∧ Bel w wc) := hcut
        clear hcut c0 f0 gl H7
        go_wp2_with fail
        refine (G2.out _ g H8.out.1).mono ?_
        rintro e w7 ⟨rfl, b7⟩
        have B7 : Hid (Bel w w7) := H8.out.2.trans b7
        clear b7 H8
        go_wp2_with (go_at_call 14; refine (Lin.num_ok _ _).mono ?_; rintro e w9 ⟨rfl, hw⟩; replace hw := hw.symm; subst hw)
        go_ret
        exact ⟨rfl, B7.out⟩

set_option maxRecDepth 20000 in
set_option maxHeartbeats 2000000 in
theorem forms_1 (x y : Int) (K D : Nat) (hk : bits .and .i64 x 7 = (K : Int)) (hk8 : K < 8) (m : Int) (hm : bits .and .i64 y 1023 = m) (m0 : 0 ≤ m) (m1 : m ≤ 1023) (hD : 1 + m = (D : Int)) (d0 : 1 ≤ D) (d1 : D ≤ 1024) (hb : bits .and .i64 (x / 8) 1 = 1) (w : World) :
    Calls Try.prog 4 #[.int .i64 x, .int .i64 y] w fun e w' => e = .returned (.bool true) ∧ Bel w w' := by
  have AW : Hid (∀ w, Calls Try.prog 17 #[] w fun e w' => e = .returned (.bool true) ∧ Bel w w') := awake_true
  have DE : Hid (1 + m = (D : Int)) := hD
  have DR : Hid (1 ≤ D ∧ D ≤ 1024) := ⟨d0, d1⟩
  have DI : (1 : Int) ≤ (D : Int) ∧ (D : Int) ≤ 1024 := ⟨by omega, by omega⟩
  obtain ⟨e0, e1⟩ := DI
  have K8 : Hid (K < 8) := hk8
  obtain ⟨v1, hv1⟩ : ∃ v, 131072 + (D : Int) = v := ⟨_, rfl⟩
  obtain ⟨v2, hv2⟩ : ∃ v, 16777216 + (D : Int) = v := ⟨_, rfl⟩
  have E1 : Hid (131072 + (D : Int) = v1) := hv1
  have E2 : Hid (16777216 + (D : Int) = v2) := hv2
  have b1 : passed 131072 v1 = true := decide_eq_true (by omega)
  have b2 : passed 16777216 v2 = true := decide_eq_true (by omega)
  have P1 : Hid (∀ (w' : World) (g : Nat), Holds w' g ((List.replicate 8 (0 : Int)).set K v1) → Calls Try.prog 9 #[.slice (some ⟨g, 0, none⟩) 8 8] w' fun e w'' => e = .returned (.tuple #[.slice none 0 0, .int .i64 1600]) ∧ Bel w' w'') := fun w' g h => put_no _ _ 8 8 (by simp) (by decide) (bad_put K hk8 v1 b1) w' h.slc
  have G1 : Hid (∀ (w' : World) (g : Nat), Holds w' g ((List.replicate 8 (0 : Int)).set K v1) → Calls Try.prog 11 #[.slice (some ⟨g, 0, none⟩) 8 8] w' fun e w'' => e = .returned (.tuple #[.slice none 0 0, .int .i64 1600]) ∧ Bel w' w'') := fun w' g h => get_no _ _ 8 8 (by simp) (by decide) (bad_get K hk8 v1 b1) w' h.slc
  have G2 : Hid (∀ (w' : World) (g : Nat), Holds w' g (((List.replicate 8 (0 : Int)).set K v1).set K v2) → Calls Try.prog 11 #[.slice (some ⟨g, 0, none⟩) 8 8] w' fun e w'' => e = .returned (.tuple #[.slice none 0 0, .int .i64 1600]) ∧ Bel w' w'') := fun w' g h =>
    get_far _ _ 8 8 (by simp) (by decide) (anyOf_yes K hk8 (by show passed 16777216 (ith _ K) = true; rw [show ith (((List.replicate 8 (0 : Int)).set K v1).set K v2) K = v2 from Mod.getD_set_eq _ _ _ (by simp; omega)]; exact b2)) w' h.slc
  have PL : Hid (∀ (w' : World) (ao : Option Addr), Calls Try.prog 9 #[.slice ao (256 + D) (256 + D)] w' fun e w'' => e = .returned (.tuple #[.slice none 0 0, .int .i64 1600]) ∧ Bel w' w'') := fun w' ao => put_long ao [] _ _ (by omega) (by unfold maxLen; omega) w'
  have GL : Hid (∀ (w' : World) (ao : Option Addr), Calls Try.prog 11 #[.slice ao (256 + D) (256 + D)] w' fun e w'' => e = .returned (.tuple #[.slice none 0 0, .int .i64 1600]) ∧ Bel w' w'') := fun w' ao => get_long ao _ _ (by omega) (by unfold maxLen; omega) w'
  have mk8 : ∀ w, (Instr.makeSlice 22 (.int .i64 8) (.int .i64 8)).run Try.prog w = .ok (.slice (some ⟨w.heap.size, 0, none⟩) 8 8) (w.alloc (.cells (vals (List.replicate 8 0)).toArray 3)) := mk_ints 8 (by decide)
  have mkD : ∀ w, (Instr.makeSlice 22 (.int .i64 (256 + (D : Int))) (.int .i64 (256 + (D : Int)))).run Try.prog w = .ok (.slice (some ⟨w.heap.size, 0, none⟩) (256 + D) (256 + D)) (w.alloc (.cells (vals (List.replicate (256 + D) 0)).toArray 3)) := fun w => by
    have := mk_ints (256 + D) (by omega) w
    rwa [show ((256 + D : Nat) : Int) = 256 + (D : Int) by omega] at this
  have L8 : Hid ((List.replicate 8 (0 : Int)).length = 8) := by show _ = _; simp
  clear hD d0 d1 hv1 hv2 b1 b2
  generalize List.replicate 8 (0 : Int) = Z at *
  have HN : ∀ w : World, Holds (w.alloc (.cells (vals Z).toArray 3)) w.heap.size Z := fun w => holds_new w Z _
  go_enter Try.func4, Try.ntmps4
  go_wp2_with fail
  refine (AW.out _).mono ?_
  rintro e w1 ⟨rfl, b1⟩
  have B1 : Hid (Bel w w1) := b1
  clear b1 AW
  go_upto_region 3 with fail
  go_cut [5] from 20 to 22 (fun v5 wx => v5 = .int .i64 (D : Int) ∧ wx = w1)
  case first =>
    go_wp2_with fail
    go_meet
    exact ⟨congrArg (Value.int .i64) DE.out, rfl⟩
  case rest =>
    obtain ⟨rfl, rfl⟩ := hcut
    clear hm m0 m1
    have H2 : Hid (Holds (wc.alloc (.cells (vals Z).toArray 3)) wc.heap.size Z ∧ Bel w (wc.alloc (.cells (vals Z).toArray 3)) ∧ w.heap.size ≤ wc.heap.size ∧ wc.heap.size < (wc.alloc (.cells (vals Z).toArray 3)).heap.size) := ⟨HN _, B1.out.alloc _, B1.out.size, by simp⟩
    go_upto_region 6 with fail
    generalize wc.alloc (.cells (vals Z).toArray 3) = W2 at *
    generalize wc.heap.size = g at *
    have GB : Hid (w.heap.size ≤ g) := H2.out.2.2.1
    have k0 : (0 : Int) ≤ (K : Int) := by omega
    have k8 : (K : Int) < 8 := by have := K8.out; omega
    have k8n := K8.out
    have c0 := H2.out.1.cell K (by rw [L8.out]; exact K8.out)
    have f0 := H2.out.1.free K (by rw [L8.out]; exact K8.out)
    generalize Z.getD K 0 = p0 at *
    have gl := H2.out.2.2.2
    go_cut [] from 26 to 38 (fun wx => Holds wx g (Z.set K v1) ∧ Bel w wx)
    case first =>
      go_wp2_with fail
      go_meet
      exact ⟨store_new H2.out.1 K (by rw [L8.out]; exact K8.out) _ v1 _ (by first | exact E1.out | (have := E1.out; omega)), bel_new H2.out.2.1 H2.out.2.2.1 K _ _⟩
    case rest =>
      have H3 : Hid (Holds wc g (Z.set K v1) ∧ Bel w wc) := hcut
      clear hcut c0 f0 gl H2
      go_wp2_with fail
      refine (P1.out _ g H3.out.1).mono ?_
      rintro e w3 ⟨rfl, b3⟩
      have H4 : Hid (Holds w3 g (Z.set K v1) ∧ Bel w w3) := ⟨H3.out.1.bel b3, H3.out.2.trans b3⟩
      clear b3 H3
      go_wp2_with fail
      refine (G1.out _ g H4.out.1).mono ?_
      rintro e w4 ⟨rfl, b4⟩
      have H5 : Hid (Holds w4 g (Z.set K v1) ∧ Bel w w4) := ⟨H4.out.1.bel b4, H4.out.2.trans b4⟩
      clear b4 H4
      go_wp2_with fail
      refine (PL.out _ _).mono ?_
      rintro e w5 ⟨rfl, b5⟩
      have bb := ((Bel.refl w4).alloc _).trans b5
      have H6 : Hid (Holds w5 g (Z.set K v1) ∧ Bel w w5) := ⟨H5.out.1.bel bb, H5.out.2.trans bb⟩
      clear b5 bb H5
      go_wp2_with fail
      refine (GL.out _ _).mono ?_
      rintro e w6 ⟨rfl, b6⟩
      have bb := ((Bel.refl w5).alloc _).trans b6
      have H7 : Hid (Holds w6 g (Z.set K v1) ∧ Bel w w6) := ⟨H6.out.1.bel bb, H6.out.2.trans bb⟩
      clear b6 bb H6
      have c0 := H7.out.1.cell K (by rw [List.length_set, L8.out]; exact K8.out)
      have f0 := H7.out.1.free K (by rw [List.length_set, L8.out]; exact K8.out)
      have gl := block_lt_of_cell c0
      generalize (Z.set K v1).getD K 0 = p1 at *
      go_upto_region 11 with fail
      go_cut [] from 63 to 75 (fun wx => Holds wx g ((Z.set K v1).set K v2) ∧ Bel w wx)
      case first =>
        go_wp2_with fail
        go_meet
        exact ⟨store_new H7.out.1 K (by rw [List.length_set, L8.out]; exact K8.out) _ v2 _ (by first | exact E2.out | (have := E2.out; omega)), bel_new H7.out.2 GB.out K _ _⟩
      case rest =>
        have H8 : Hid (Holds wc g ((Z.set K v1).set K v2) ∧ Bel w wc) := hcut
        clear hcut c0 f0 gl H7
        go_wp2_with fail
        refine (G2.out _ g H8.out.1).mono ?_
        rintro e w7 ⟨rfl, b7⟩
        have B7 : Hid (Bel w w7) := H8.out.2.trans b7
        clear b7 H8
        go_wp2_with (go_at_call 14; refine (Lin.num_ok _ _).mono ?_; rintro e w9 ⟨rfl, hw⟩; replace hw := hw.symm; subst hw)
        go_ret
        exact ⟨rfl, B7.out⟩

theorem forms_walk (x y : Int) (w : World) :
    Calls Try.prog 4 #[.int .i64 x, .int .i64 y] w fun e w' => e = .returned (.bool true) ∧ Bel w w' := by
  have hk : bits .and .i64 x 7 = x % 8 := Num.and_mask 3 7 (by decide) (by decide) x
  have hm : bits .and .i64 y 1023 = y % 1024 := Num.and_mask 10 1023 (by decide) (by decide) y
  have hb : bits .and .i64 (x / 8) 1 = x / 8 % 2 := Num.and_mask 1 1 (by decide) (by decide) (x / 8)
  rcases (by omega : x / 8 % 2 = 0 ∨ x / 8 % 2 = 1) with h | h
  · exact forms_0 x y (x % 8).toNat (1 + y % 1024).toNat (by rw [hk]; omega) (by omega) (y % 1024) hm (by omega) (by omega) (by omega) (by omega) (by omega) (hb.trans h) w
  · exact forms_1 x y (x % 8).toNat (1 + y % 1024).toNat (by rw [hk]; omega) (by omega) (y % 1024) hm (by omega) (by omega) (by omega) (by omega) (by omega) (hb.trans h) w

end Go.Proofs.Ytamefddgpdhccaa.Ser
