/-
  The walk of DecoderBack: it answers true for any two rows of ints, nil ones too. No condition but that the rows are there.
-/
import Derived.Test.YtckhehiaoodkoaaDCell
namespace Go.Proofs.Ytckhehiaoodkoaa.Coder
open Go.RowKit Go.Proofs.Ytckhehiaoodkoaa.Num
set_option linter.unusedVariables false
attribute [local go_sem ↓] Go.wp_at_zero Go.wp_at_succ

set_option maxRecDepth 20000 in
set_option maxHeartbeats 8000000 in
theorem back_rows (a0 a1 : Option Addr) (n0 c0' n1 c1' : Nat) (z0 z1 : Nat → Int) (m : Nat) (hm0 : m ≤ n0) (hm1 : m ≤ n1) (hm2 : m ≤ 60) (hm : m = n0 ∨ m = n1 ∨ m = 60) (hn0 : n0 ≤ maxLen) (hn1 : n1 ≤ maxLen) (w : World)
    (hz0 : ∀ i, i < m → ∃ x, a0 = some x ∧ w.cell? (x.add i) = some (.int .i64 (z0 i))) (hz1 : ∀ i, i < m → ∃ x, a1 = some x ∧ w.cell? (x.add i) = some (.int .i64 (z1 i))) :
    Calls Try.prog 4 #[.slice a0 n0 c0', .slice a1 n1 c1'] w fun e w' => e = .returned (.bool true) ∧ Bel w w' := by
  unfold maxLen at hn0 hn1
  have hmi : ∀ (ts : Array TypeId) (t : TypeId) (w : World), (Builtin.min_ ts t #[.int .i64 (n0 : Int), .int .i64 (n1 : Int), .int .i64 60]).run Try.prog w = .ok (.int .i64 (m : Int)) w := min3 n0 n1 60 m hm0 hm1 hm2 hm
  have HP : Hid (∀ i : Nat, 1 ≤ (fun i => chOf (z1 i)) i ∧ (fun i => chOf (z1 i)) i ≤ 4095) := fun i => chOf_in (z1 i)
  have HT : Hid (∀ i : Nat, (fun i => z0 i % 2) i = 0 ∨ (fun i => z0 i % 2) i = 1) := fun i => by show z0 i % 2 = 0 ∨ z0 i % 2 = 1; omega
  have HPS : Hid (∀ i : Nat, 0 ≤ bits .and .i64 (z1 i) 4094 ∧ bits .and .i64 (z1 i) 4094 ≤ 4094 ∧ chOf (z1 i) = 1 + bits .and .i64 (z1 i) 4094) := fun i => ⟨(and4094 _).1, (and4094 _).2, rfl⟩
  have HBS : Hid (∀ i : Nat, (fun i => z0 i % 2) i = z0 i % 2) := fun i => rfl
  have HQS : Hid (∀ i : Nat, (fun i => chOf (z1 i)) i = chOf (z1 i)) := fun i => rfl
  generalize (fun i => chOf (z1 i)) = ps at *
  generalize (fun i => z0 i % 2) = bs at *
  have HZ0 : Hid (∀ i, i < m → ∃ x, a0 = some x ∧ w.cell? (x.add i) = some (.int .i64 (z0 i))) := hz0
  have HZ1 : Hid (∀ i, i < m → ∃ x, a1 = some x ∧ w.cell? (x.add i) = some (.int .i64 (z1 i))) := hz1
  clear hz0 hz1 hm
  go_enter Try.func4, Try.ntmps4
  go_wp2_with fail
  refine (awake_true _).mono ?_
  rintro e w1 ⟨rfl, b1⟩
  have HB1 : Hid (Bel w w1) := b1
  clear b1
  go_wp2_with fail
  refine (newCoder_ok _).mono ?_
  rintro e w2 ⟨rfl, b2⟩
  have HB2 : Hid (Bel w w2) := HB1.out.trans b2
  clear b2 HB1
  go_wp2_with fail
  go_loopw [7] (fun i wr => ∃ (j : Nat), j ≤ m ∧ i = .int .i64 (j : Int) ∧ Bel w wr ∧ CC wr w2.heap.size (coded bs ps j).2.1 (coded bs ps j).2.2 ⟨(coded bs ps j).1.toArray⟩) (fun i _ => m - (intOf i).toNat)
  case atStart =>
    exact ⟨0, Nat.zero_le _, rfl, HB2.out.alloc _, CC.made w2 0 4294967295 ⟨#[]⟩⟩
  case round =>
    obtain ⟨j, hj, rfl, hb, C⟩ := hrel
    have hw2 : w.heap.size ≤ w2.heap.size := HB2.out.size
    have HB : Hid (Bel w wr) := hb
    have HC : Hid (CC wr w2.heap.size (coded bs ps j).2.1 (coded bs ps j).2.2 ⟨(coded bs ps j).1.toArray⟩) := C
    clear hb C HB2 hmi
    by_cases hlt : j < m
    · have i0 : decide ((j : Int) < (m : Int)) = true := by simp; omega
      obtain ⟨x0, rfl, e0⟩ := HZ0.out j hlt
      obtain ⟨x1, rfl, e1⟩ := HZ1.out j hlt
      replace e0 := HB.out.keep e0
      replace e1 := HB.out.keep e1
      have m1 := and1 (z0 j)
      obtain ⟨v2, v3, v4⟩ := HPS.out j
      obtain ⟨v1, m2⟩ : ∃ v1, bits .and .i64 (z1 j) 4094 = v1 := ⟨_, rfl⟩
      rw [m2] at v2 v3 v4
      have q := codeBit_ok (coded bs ps j).2.1 (coded bs ps j).2.2 (bs j) (ps j) ⟨(coded bs ps j).1.toArray⟩ (by have := (coded_facts bs ps HP.out j).2; rw [mk_size]; unfold maxLen; omega)
      rw [coded_step bs ps HP.out HT.out j (by omega), HBS.out j, HQS.out j, v4] at q
      have HN : Hid (∀ {wx : World}, CC wx w2.heap.size (coded bs ps (j + 1)).2.1 (coded bs ps (j + 1)).2.2 ⟨(coded bs ps (j + 1)).1.toArray⟩ → CC wx w2.heap.size (coded bs ps (j + 1)).2.1 (coded bs ps (j + 1)).2.2 ⟨(coded bs ps (j + 1)).1.toArray⟩) := fun h => h
      obtain ⟨c0, c1, c2, f0, f1, f2⟩ := HC.out
      obtain ⟨u, hu⟩ : ∃ u, u = (coded bs ps (j + 1)).2.1 := ⟨_, rfl⟩
      obtain ⟨v, hv⟩ : ∃ v, v = (coded bs ps (j + 1)).2.2 := ⟨_, rfl⟩
      obtain ⟨s', hs'⟩ : ∃ s' : ByteArray, s' = ⟨(coded bs ps (j + 1)).1.toArray⟩ := ⟨_, rfl⟩
      have HUV : Hid (u = (coded bs ps (j + 1)).2.1 ∧ v = (coded bs ps (j + 1)).2.2 ∧ s' = ⟨(coded bs ps (j + 1)).1.toArray⟩) := ⟨hu, hv, hs'⟩
      rw [← hu, ← hv, ← hs'] at q
      clear hu hv hs' HN
      generalize (coded bs ps j).2.1 = l at *
      generalize (coded bs ps j).2.2 = h at *
      generalize (⟨(coded bs ps j).1.toArray⟩ : ByteArray) = s at *
      have Q : Hid (∀ w, Calls Try.prog 17 #[.agg #[.int .i64 l, .int .i64 h, .string s], .int .i64 (z0 j % 2), .int .i64 (1 + v1)] w fun e w' => e = .returned (.tuple #[.agg #[.int .i64 u, .int .i64 v, .string s'], .int .i64 0]) ∧ Bel w w') := q
      have mw : IntKind.i64.wrap (1 + v1) = 1 + v1 := wraps_i64 _ (by omega) (by omega)
      have i1 : (j : Int) < (n0 : Int) := by omega
      have i2 : (j : Int) < (n1 : Int) := by omega
      clear q v4
      go_wp2_with fail
      go_region_with (go_at_call 17; (with_reducible refine (Q.out _).mono ?_); rintro e w3 ⟨rfl, b3⟩; have C3 := HC.out.drew.keep b3; have HB3 : Hid (Bel w w3) := HB.out.drew.trans b3; have HC3 : Hid (CC w3 w2.heap.size l h s) := C3; have k0 := C3.c0; have k1 := C3.c1; have k2 := C3.c2; have g0 := C3.f0; have g1 := C3.f1; have g2 := C3.f2; clear b3 C3)
      all_goals go_wp2
      all_goals go_roundw
      all_goals first
        | (obtain ⟨hu, hv, hs'⟩ := HUV.out
           subst hu hv hs'
           exact ⟨j + 1, by omega, by go_num, ((HB3.out.setCell hw2 _).setCell hw2 _).setCell hw2 _, HC3.out.set _ _ _⟩)
        | (simp [intOf]; omega)
    · have i0 : decide ((j : Int) < (m : Int)) = false := by simp; omega
      have ejm : j = m := by omega
      rw [ejm] at HC
      obtain ⟨fb, fl⟩ := coded_facts bs ps HP.out m
      have q := endCoder_may (coded bs ps m).2.1 (coded bs ps m).2.2 ⟨(coded bs ps m).1.toArray⟩ fb (by rw [mk_size]; omega)
      have tz : (txt bs ps m).size ≤ 244 := txt_size bs ps HP.out m hm2
      have q2 := new_ok (txt bs ps m) (by unfold maxLen; omega)
      rw [newAns, if_pos (by omega)] at q2
      have HQ : Hid (∀ k, k < m → _) := fun k hk => back_step bs ps HP.out HT.out m hm2 k hk
      have HTX : Hid (⟨(coded bs ps m).1.toArray⟩ ++ four (coded bs ps m).2.1 = txt bs ps m) := rfl
      rw [HTX.out] at q
      obtain ⟨c0, c1, c2, f0, f1, f2⟩ := HC.out
      generalize txt bs ps m = t at *
      generalize (coded bs ps m).2.1 = l at *
      generalize (coded bs ps m).2.2 = h at *
      generalize (⟨(coded bs ps m).1.toArray⟩ : ByteArray) = s at *
      have QE : Hid (∀ w, Calls Try.prog 18 #[.agg #[.int .i64 l, .int .i64 h, .string s]] w fun e w' => e = .returned (.tuple #[.string t, .int .i64 0]) ∧ Bel w w') := q
      have QN : Hid (∀ w, Calls Try.prog 10 #[.string t] w fun e w' => e = .returned (.tuple #[.agg #[.int .i64 0, .int .i64 4294967295, .int .i64 (win t 0), .string t, .int .i64 4], .int .i64 0]) ∧ Bel w w') := q2
      clear q q2 fb fl HTX HC ejm
      go_wp2_with fail
      refine (QE.out _).mono ?_
      rintro e w5 ⟨rfl, b5⟩
      go_wp2_with fail
      refine (QN.out _).mono ?_
      rintro e w6 ⟨rfl, b6⟩
      have HB6 : Hid (Bel w w6) := HB.out.trans (b5.trans b6)
      clear b5 b6 c0 c1 c2 f0 f1 f2 HB QE QN
      go_wp2_with fail
      refine (num_ok _ _).mono ?_
      rintro e w7 ⟨rfl, rfl⟩
      go_wp2_with fail
      go_loopw [12] (fun i wx => ∃ (k : Nat), k ≤ m ∧ i = .int .i64 (k : Int) ∧ Bel w wx ∧ DD wx w6.heap.size (coded bs ps k).2.1 (coded bs ps k).2.2 (win t (coded bs ps k).1.length) t (((coded bs ps k).1.length + 4 : Nat) : Int)) (fun i _ => m - (intOf i).toNat)
      case atStart =>
        exact ⟨0, Nat.zero_le _, rfl, HB6.out.alloc _, DD.made w6 0 4294967295 (win t 0) t 4⟩
      case round =>
        obtain ⟨k, hk, rfl, hb, C⟩ := hrel
        have hw6 : w.heap.size ≤ w6.heap.size := HB6.out.size
        have HB : Hid (Bel w wr) := hb
        have HC : Hid (DD wr w6.heap.size (coded bs ps k).2.1 (coded bs ps k).2.2 (win t (coded bs ps k).1.length) t (((coded bs ps k).1.length + 4 : Nat) : Int)) := C
        clear hb C HB6
        by_cases hlt' : k < m
        · have i1 : decide ((k : Int) < (m : Int)) = true := by simp; omega
          obtain ⟨x0, rfl, e0⟩ := HZ0.out k hlt'
          obtain ⟨x1, rfl, e1⟩ := HZ1.out k hlt'
          replace e0 := HB.out.keep e0
          replace e1 := HB.out.keep e1
          have m1 := and1 (z0 k)
          obtain ⟨v2, v3, v4⟩ := HPS.out k
          obtain ⟨v1, m2⟩ : ∃ v1, bits .and .i64 (z1 k) 4094 = v1 := ⟨_, rfl⟩
          rw [m2] at v2 v3 v4
          have q := bit_ok (coded bs ps k).2.1 (coded bs ps k).2.2 (win t (coded bs ps k).1.length) (ps k) t (((coded bs ps k).1.length + 4 : Nat) : Int) (by unfold maxLen; omega)
          rw [HQ.out k hlt', HBS.out k, HQS.out k, v4] at q
          obtain ⟨c0, c1, c2, c3, c4, f0, f1, f2, f3, f4⟩ := HC.out
          obtain ⟨u, hu⟩ : ∃ u, u = (coded bs ps (k + 1)).2.1 := ⟨_, rfl⟩
          obtain ⟨v, hv⟩ : ∃ v, v = (coded bs ps (k + 1)).2.2 := ⟨_, rfl⟩
          obtain ⟨x', hx'⟩ : ∃ x', x' = win t (coded bs ps (k + 1)).1.length := ⟨_, rfl⟩
          obtain ⟨a', ha'⟩ : ∃ a' : Int, a' = (((coded bs ps (k + 1)).1.length + 4 : Nat) : Int) := ⟨_, rfl⟩
          have HUV : Hid (u = (coded bs ps (k + 1)).2.1 ∧ v = (coded bs ps (k + 1)).2.2 ∧ x' = win t (coded bs ps (k + 1)).1.length ∧ a' = (((coded bs ps (k + 1)).1.length + 4 : Nat) : Int)) := ⟨hu, hv, hx', ha'⟩
          rw [← hu, ← hv, ← hx', ← ha'] at q
          clear hu hv hx' ha'
          generalize (coded bs ps k).2.1 = l at *
          generalize (coded bs ps k).2.2 = h at *
          generalize win t (coded bs ps k).1.length = x at *
          generalize (((coded bs ps k).1.length + 4 : Nat) : Int) = a at *
          have Q : Hid (∀ w, Calls Try.prog 8 #[.agg #[.int .i64 l, .int .i64 h, .int .i64 x, .string t, .int .i64 a], .int .i64 (1 + v1)] w fun e w' => e = .returned (.tuple #[.agg #[.int .i64 u, .int .i64 v, .int .i64 x', .string t, .int .i64 a'], .int .i64 (z0 k % 2), .int .i64 0]) ∧ Bel w w') := q
          have mw : IntKind.i64.wrap (1 + v1) = 1 + v1 := wraps_i64 _ (by omega) (by omega)
          have j0 : (k : Int) < (n0 : Int) := by omega
          have j1 : (k : Int) < (n1 : Int) := by omega
          clear q v4
          go_wp2_with fail
          have nx : w6.heap.size ≠ wr.heap.size := Nat.ne_of_lt (block_lt_of_cell c0)
          have nx1 : (x1.add k).block ≠ wr.heap.size := Nat.ne_of_lt (block_lt_of_cell e1)
          go_region_held3 (fun w' => w'.cell? ⟨w6.heap.size, 0, none⟩ = some (.int .i64 l) ∧ w'.cell? ⟨w6.heap.size, 1, none⟩ = some (.int .i64 h) ∧ w'.cell? ⟨w6.heap.size, 2, none⟩ = some (.int .i64 x) ∧ w'.cell? ⟨w6.heap.size, 3, none⟩ = some (.string t) ∧ w'.cell? ⟨w6.heap.size, 4, none⟩ = some (.int .i64 a) ∧ w'.cell? (x1.add k) = some (.int .i64 (z1 k)))
            (first
              | (with_reducible exact ⟨k0, k1, k2, k3, k4, k5⟩)
              | (with_reducible exact ⟨(Bel.refl wr).drew.keep c0, (Bel.refl wr).drew.keep c1, (Bel.refl wr).drew.keep c2, (Bel.refl wr).drew.keep c3, (Bel.refl wr).drew.keep c4, (Bel.refl wr).drew.keep e1⟩)
              | (with_reducible exact ⟨((Bel.refl w3).alloc _).keep k0, ((Bel.refl w3).alloc _).keep k1, ((Bel.refl w3).alloc _).keep k2, ((Bel.refl w3).alloc _).keep k3, ((Bel.refl w3).alloc _).keep k4, ((Bel.refl w3).alloc _).keep k5⟩)
              | (with_reducible exact ⟨away5 nx k0, away5 nx k1, away5 nx k2, away5 nx k3, away5 nx k4, away5 nx1 k5⟩)
              | (with_reducible exact ⟨((Bel.refl wr).drew.alloc _).keep c0, ((Bel.refl wr).drew.alloc _).keep c1, ((Bel.refl wr).drew.alloc _).keep c2, ((Bel.refl wr).drew.alloc _).keep c3, ((Bel.refl wr).drew.alloc _).keep c4, ((Bel.refl wr).drew.alloc _).keep e1⟩)
              | (with_reducible exact ⟨((Bel.refl wr).alloc _).drew.keep c0, ((Bel.refl wr).alloc _).drew.keep c1, ((Bel.refl wr).alloc _).drew.keep c2, ((Bel.refl wr).alloc _).drew.keep c3, ((Bel.refl wr).alloc _).drew.keep c4, ((Bel.refl wr).alloc _).drew.keep e1⟩)
              | go_keep)
            (first
              | (go_at_call 8
                 with_reducible refine (Q.out _).mono ?_
                 rintro e w3 ⟨rfl, b3⟩
                 have p0 : w3.cell? ⟨wr.heap.size, 0, none⟩ = some (.int .i64 0) := b3.keep (by simp)
                 have p1 : w3.cell? ⟨wr.heap.size, 1, none⟩ = some (.int .i64 0) := b3.keep (by simp)
                 have p2 : w3.cell? ⟨wr.heap.size, 2, none⟩ = some (.int .i64 0) := b3.keep (by simp)
                 have p3 : w3.cell? ⟨wr.heap.size, 3, none⟩ = some (.string ⟨#[]⟩) := b3.keep (by simp)
                 have p4 : w3.cell? ⟨wr.heap.size, 4, none⟩ = some (.int .i64 0) := b3.keep (by simp)
                 have r0 : w3.frozen? ⟨wr.heap.size, 0, none⟩ = false := by rw [b3.frozen (by simp)]; simp
                 have r1 : w3.frozen? ⟨wr.heap.size, 1, none⟩ = false := by rw [b3.frozen (by simp)]; simp
                 have r2 : w3.frozen? ⟨wr.heap.size, 2, none⟩ = false := by rw [b3.frozen (by simp)]; simp
                 have r3 : w3.frozen? ⟨wr.heap.size, 3, none⟩ = false := by rw [b3.frozen (by simp)]; simp
                 have r4 : w3.frozen? ⟨wr.heap.size, 4, none⟩ = false := by rw [b3.frozen (by simp)]; simp
                 have bb : Bel wr w3 := ((Bel.refl wr).alloc _).drew.trans b3
                 have k0 := bb.keep c0
                 have k1 := bb.keep c1
                 have k2 := bb.keep c2
                 have k3 := bb.keep c3
                 have k4 := bb.keep c4
                 have k5 := bb.keep e1
                 clear b3)
              | (go_at_call 8
                 with_reducible refine (Q.out _).mono ?_
                 rintro e w3 ⟨rfl, b3⟩
                 have bb : Bel wr w3 := (Bel.refl wr).drew.trans b3
                 have k0 := bb.keep c0
                 have k1 := bb.keep c1
                 have k2 := bb.keep c2
                 have k3 := bb.keep c3
                 have k4 := bb.keep c4
                 have k5 := bb.keep e1
                 clear b3))
          · have A : DD (w3.alloc (.cells #[.int .i64 u, .int .i64 v, .int .i64 x', .string t, .int .i64 a'] 23)) w3.heap.size u v x' t a' := DD.made w3 _ _ _ _ _
            have ba := (Bel.refl w3).alloc (.cells #[.int .i64 u, .int .i64 v, .int .i64 x', .string t, .int .i64 a'] 23)
            have KD := HC.out.keep (bb.trans ba)
            have ROW := ba.keep k5
            have BW := bb.trans ba
            have hne : w6.heap.size ≠ w3.heap.size := Nat.ne_of_lt (block_lt_of_cell k0)
            have HBW : Hid (Bel w (w3.alloc (.cells #[.int .i64 u, .int .i64 v, .int .i64 x', .string t, .int .i64 a'] 23))) := HB.out.trans BW
            have NBW : Hid (wr.heap.size ≤ w3.heap.size) := bb.size
            have E0 := BW.keep e0
            obtain ⟨A0, A1, A2, A3, A4, _, _, _, _, _⟩ := A
            obtain ⟨K0, K1, K2, K3, K4, F0, F1, F2, F3, F4⟩ := KD
            have HKD : Hid (DD (w3.alloc (.cells #[.int .i64 u, .int .i64 v, .int .i64 x', .string t, .int .i64 a'] 23)) w6.heap.size l h x t a) := ⟨K0, K1, K2, K3, K4, F0, F1, F2, F3, F4⟩
            clear ba bb k0 k1 k2 k3 k4 k5 nx nx1 BW NBW c0 c1 c2 c3 c4 f0 f1 f2 f3 f4 e0 e1 HB HC ROW
            generalize w3.alloc (.cells #[.int .i64 u, .int .i64 v, .int .i64 x', .string t, .int .i64 a'] 23) = W at *
            generalize w3.heap.size = B at *
            go_wp2_with fail
            refine (num_ok _ _).mono ?_
            rintro e w8 ⟨rfl, rfl⟩
            go_wp2
            go_roundw
            case rel =>
              obtain ⟨hu, hv, hx', ha'⟩ := HUV.out
              subst hu hv hx' ha'
              exact ⟨k + 1, by omega, by go_num, bel5 HBW.out hw6 _ _ _ _ _, HKD.out.set _ _ _ _ _⟩
            case measure => simp [intOf]; omega
          · have A : DD (((((w3.setCell ⟨wr.heap.size, 0, none⟩ (.int .i64 u)).setCell ⟨wr.heap.size, 1, none⟩ (.int .i64 v)).setCell ⟨wr.heap.size, 2, none⟩ (.int .i64 x')).setCell ⟨wr.heap.size, 3, none⟩ (.string t)).setCell ⟨wr.heap.size, 4, none⟩ (.int .i64 a')) wr.heap.size u v x' t a' := DD.set (l := 0) (h := 0) (x := 0) (s := ⟨#[]⟩) (k := 0) ⟨p0, p1, p2, p3, p4, r0, r1, r2, r3, r4⟩ _ _ _ _ _
            have KD : DD (((((w3.setCell ⟨wr.heap.size, 0, none⟩ (.int .i64 u)).setCell ⟨wr.heap.size, 1, none⟩ (.int .i64 v)).setCell ⟨wr.heap.size, 2, none⟩ (.int .i64 x')).setCell ⟨wr.heap.size, 3, none⟩ (.string t)).setCell ⟨wr.heap.size, 4, none⟩ (.int .i64 a')) w6.heap.size l h x t a := (HC.out.keep bb).away nx
            have ROW : (((((w3.setCell ⟨wr.heap.size, 0, none⟩ (.int .i64 u)).setCell ⟨wr.heap.size, 1, none⟩ (.int .i64 v)).setCell ⟨wr.heap.size, 2, none⟩ (.int .i64 x')).setCell ⟨wr.heap.size, 3, none⟩ (.string t)).setCell ⟨wr.heap.size, 4, none⟩ (.int .i64 a')).cell? (x1.add k) = some (.int .i64 (z1 k)) := away5 nx1 k5
            have hne : w6.heap.size ≠ wr.heap.size := nx
            have BW : Bel wr (((((w3.setCell ⟨wr.heap.size, 0, none⟩ (.int .i64 u)).setCell ⟨wr.heap.size, 1, none⟩ (.int .i64 v)).setCell ⟨wr.heap.size, 2, none⟩ (.int .i64 x')).setCell ⟨wr.heap.size, 3, none⟩ (.string t)).setCell ⟨wr.heap.size, 4, none⟩ (.int .i64 a')) := bel5 bb (Nat.le_refl _) _ _ _ _ _
            have HBW : Hid (Bel w (((((w3.setCell ⟨wr.heap.size, 0, none⟩ (.int .i64 u)).setCell ⟨wr.heap.size, 1, none⟩ (.int .i64 v)).setCell ⟨wr.heap.size, 2, none⟩ (.int .i64 x')).setCell ⟨wr.heap.size, 3, none⟩ (.string t)).setCell ⟨wr.heap.size, 4, none⟩ (.int .i64 a'))) := HB.out.trans BW
            have NBW : Hid (wr.heap.size ≤ wr.heap.size) := Nat.le_refl _
            have E0 := BW.keep e0
            obtain ⟨A0, A1, A2, A3, A4, _, _, _, _, _⟩ := A
            obtain ⟨K0, K1, K2, K3, K4, F0, F1, F2, F3, F4⟩ := KD
            have HKD : Hid (DD ((((((w3.setCell ⟨wr.heap.size, 0, none⟩ (.int .i64 u)).setCell ⟨wr.heap.size, 1, none⟩ (.int .i64 v)).setCell ⟨wr.heap.size, 2, none⟩ (.int .i64 x')).setCell ⟨wr.heap.size, 3, none⟩ (.string t)).setCell ⟨wr.heap.size, 4, none⟩ (.int .i64 a'))) w6.heap.size l h x t a) := ⟨K0, K1, K2, K3, K4, F0, F1, F2, F3, F4⟩
            clear bb k0 k1 k2 k3 k4 k5 nx nx1 p0 p1 p2 p3 p4 r0 r1 r2 r3 r4 BW NBW c0 c1 c2 c3 c4 f0 f1 f2 f3 f4 e0 e1 HB HC ROW
            generalize (((((w3.setCell ⟨wr.heap.size, 0, none⟩ (.int .i64 u)).setCell ⟨wr.heap.size, 1, none⟩ (.int .i64 v)).setCell ⟨wr.heap.size, 2, none⟩ (.int .i64 x')).setCell ⟨wr.heap.size, 3, none⟩ (.string t)).setCell ⟨wr.heap.size, 4, none⟩ (.int .i64 a')) = W at *
            generalize wr.heap.size = B at *
            go_wp2_with fail
            refine (num_ok _ _).mono ?_
            rintro e w8 ⟨rfl, rfl⟩
            go_wp2
            go_roundw
            case rel =>
              obtain ⟨hu, hv, hx', ha'⟩ := HUV.out
              subst hu hv hx' ha'
              exact ⟨k + 1, by omega, by go_num, bel5 HBW.out hw6 _ _ _ _ _, HKD.out.set _ _ _ _ _⟩
            case measure => simp [intOf]; omega
        · have i1 : decide ((k : Int) < (m : Int)) = false := by simp; omega
          go_wp2
          go_ret
          exact ⟨rfl, HB.out⟩

/-- What the walk is told of a row of ints that came in. -/
theorem back_walk (a0 : Option Addr) (len0 cap0 : Nat) (z0 : List Int) (a1 : Option Addr) (len1 cap1 : Nat) (z1 : List Int) (w : World)
    (w0 : (a0 = none ∧ len0 = 0 ∧ cap0 = 0 ∧ z0 = []) ∨ ∃ x, a0 = some x ∧ len0 ≤ cap0 ∧ cap0 ≤ maxLen ∧ z0.length = cap0 ∧ (∀ i, i < z0.length → w.cell? (x.add i) = some (.int .i64 (z0.getD i 0))) ∧ ∀ n ∈ z0, (Lit.int .i64 n).wf = true)
    (w1 : (a1 = none ∧ len1 = 0 ∧ cap1 = 0 ∧ z1 = []) ∨ ∃ x, a1 = some x ∧ len1 ≤ cap1 ∧ cap1 ≤ maxLen ∧ z1.length = cap1 ∧ (∀ i, i < z1.length → w.cell? (x.add i) = some (.int .i64 (z1.getD i 0))) ∧ ∀ n ∈ z1, (Lit.int .i64 n).wf = true) :
    Calls Try.prog 4 #[.slice a0 len0 cap0, .slice a1 len1 cap1] w fun e w' => e = .returned (.bool true) ∧ Bel w w' := by
  refine back_rows a0 a1 len0 cap0 len1 cap1 (fun i => z0.getD i 0) (fun i => z1.getD i 0) (min (min len0 len1) 60) (by omega) (by omega) (by omega) (by omega) ?_ ?_ w ?_ ?_
  · rcases w0 with ⟨_, rfl, _⟩ | ⟨x, _, h, h', _⟩
    · exact Nat.zero_le _
    · omega
  · rcases w1 with ⟨_, rfl, _⟩ | ⟨x, _, h, h', _⟩
    · exact Nat.zero_le _
    · omega
  · intro i hi
    rcases w0 with ⟨_, rfl, _⟩ | ⟨x, hx, h, h', hl, hc, _⟩
    · omega
    · exact ⟨x, hx, hc i (by omega)⟩
  · intro i hi
    rcases w1 with ⟨_, rfl, _⟩ | ⟨x, hx, h, h', hl, hc, _⟩
    · omega
    · exact ⟨x, hx, hc i (by omega)⟩

end Go.Proofs.Ytckhehiaoodkoaa.Coder
