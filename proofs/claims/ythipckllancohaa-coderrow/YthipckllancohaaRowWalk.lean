/-
  The walk of CoderRow: it answers true for any two rows of ints, nil ones too. No condition but that the rows are there.
-/
import Derived.Test.YthipckllancohaaNarrowsWalk
namespace Go.Proofs.Ythipckllancohaa.Coder
open Go.RowKit Go.Proofs.Ythipckllancohaa.Num
set_option linter.unusedVariables false
attribute [local go_sem ↓] Go.wp_at_zero Go.wp_at_succ

theorem and1 (n : Int) : bits .and .i64 n 1 = n % 2 := and_mask 1 1 (by decide) (by decide) n

theorem and4094 (n : Int) : ∃ v : Int, bits .and .i64 n 4094 = v ∧ 0 ≤ v ∧ v ≤ 4094 := by
  refine ⟨_, rfl, ?_⟩
  have hc : (BitVec.ofInt 64 (4094 : Int)).toNat = 4094 := by decide
  have key : (BitVec.ofInt 64 n &&& BitVec.ofInt 64 (4094 : Int)).toNat ≤ 4094 := by
    rw [BitVec.toNat_and, hc]
    exact Nat.and_le_right
  show 0 ≤ IntKind.i64.wrap ((BitVec.ofInt 64 n &&& BitVec.ofInt 64 (4094 : Int)).toNat : Nat) ∧ IntKind.i64.wrap ((BitVec.ofInt 64 n &&& BitVec.ofInt 64 (4094 : Int)).toNat : Nat) ≤ 4094
  rw [IntKind.wrap_i64]
  omega

theorem codeBit_small {l h bit p : Int} {s : ByteArray} (hb : Between l h) (hs : s.size ≤ 65532) (hbit : bit = 0 ∨ bit = 1) (h1 : 1 ≤ p) (h2 : p ≤ 4095) :
    ∃ (u v : Int) (bs : ByteArray), codeBit l h bit p s = .tuple #[.agg #[.int .i64 u, .int .i64 v, .string (s ++ bs)], .int .i64 0] ∧ Between u v ∧ bs.size ≤ 4 := by
  have n := narrow_in hb bit p h1 h2
  obtain ⟨f1, f2⟩ := settle_facts n.1 n.2.1 n.2.2
  have hz : (ByteArray.mk (settle 5 (narrow l h bit p).1 (narrow l h bit p).2).1.toArray).size ≤ 4 := by
    show (settle 5 (narrow l h bit p).1 (narrow l h bit p).2).1.toArray.size ≤ 4
    simpa using f1
  refine ⟨_, _, _, ?_, f2, hz⟩
  rw [codeBit, if_pos ⟨decide_eq_true ⟨hb, by omega⟩, decide_eq_true hbit, decide_eq_true ⟨h1, h2⟩⟩, bitAns, if_pos (by omega)]

theorem keep3 {w : World} {B : Nat} {x y z v : Value} {a : Addr} (h : a.block ≠ B) (c : w.cell? a = some v) : (((w.setCell ⟨B, 0, none⟩ x).setCell ⟨B, 1, none⟩ y).setCell ⟨B, 2, none⟩ z).cell? a = some v := by
  rw [World.cell?_setCell_other (h := by intro k; exact h (by rw [← k])), World.cell?_setCell_other (h := by intro k; exact h (by rw [← k])), World.cell?_setCell_other (h := by intro k; exact h (by rw [← k]))]
  exact c

theorem prefix_eq (s b : ByteArray) : (s ++ b).extract 0 s.size = s := by
  apply ByteArray.ext
  rw [ByteArray.data_extract, ByteArray.data_append]
  show (s.data ++ b.data).extract 0 s.data.size = s.data
  rw [Array.extract_append_left, Array.extract_size]

set_option maxRecDepth 20000 in
set_option maxHeartbeats 8000000 in
theorem row_some (x0 x1 : Addr) (n0 c0' n1 c1' : Nat) (z0 z1 : Nat → Int) (m : Nat) (hm0 : m ≤ n0) (hm1 : m ≤ n1) (hm2 : m ≤ 60) (hm : m = n0 ∨ m = n1 ∨ m = 60) (hn0 : n0 ≤ c0') (hn1 : n1 ≤ c1') (hc0 : c0' ≤ maxLen) (hc1 : c1' ≤ maxLen) (w : World)
    (hz0 : ∀ i, i < n0 → w.cell? (x0.add i) = some (.int .i64 (z0 i))) (hz1 : ∀ i, i < n1 → w.cell? (x1.add i) = some (.int .i64 (z1 i))) :
    Calls Try.prog 7 #[.slice (some x0) n0 c0', .slice (some x1) n1 c1'] w fun e w' => e = .returned (.bool true) ∧ Bel w w' := by
  unfold maxLen at hc0 hc1
  have HZ0 : Hid (∀ i, i < n0 → w.cell? (x0.add i) = some (.int .i64 (z0 i))) := hz0
  have HZ1 : Hid (∀ i, i < n1 → w.cell? (x1.add i) = some (.int .i64 (z1 i))) := hz1
  clear hz0 hz1
  go_enter Try.func7, Try.ntmps7
  go_wp2_with fail
  refine (awake_true _).mono ?_
  rintro e w1 ⟨rfl, b1⟩
  have HB1 : Hid (Bel w w1) := b1
  clear b1
  go_wp2_with fail
  refine (new_ok _).mono ?_
  rintro e w2 ⟨rfl, b2⟩
  have HB2 : Hid (Bel w w2) := HB1.out.trans b2
  clear b2 HB1
  go_wp2_with fail
  go_loopw [6] (fun i wr => ∃ (j : Nat) (l h : Int) (s : ByteArray), j ≤ m ∧ i = .int .i64 (j : Int) ∧ Between l h ∧ s.size ≤ 4 * j ∧ Bel w wr ∧ wr.cell? ⟨w2.heap.size, 0, none⟩ = some (.int .i64 l) ∧ wr.cell? ⟨w2.heap.size, 1, none⟩ = some (.int .i64 h) ∧ wr.cell? ⟨w2.heap.size, 2, none⟩ = some (.string s) ∧
      wr.frozen? ⟨w2.heap.size, 0, none⟩ = false ∧ wr.frozen? ⟨w2.heap.size, 1, none⟩ = false ∧ wr.frozen? ⟨w2.heap.size, 2, none⟩ = false) (fun i _ => m - (intOf i).toNat)
  case atStart =>
    exact ⟨0, 0, 4294967295, ⟨#[]⟩, by omega, rfl, ⟨by decide, by decide, by decide⟩, by decide, HB2.out.alloc _, by simp, by simp, by simp, by simp, by simp, by simp⟩
  case round =>
    obtain ⟨j, l, h, s, hj, rfl, hbet, hs4, hb, c0, c1, c2, f0, f1, f2⟩ := hrel
    have hw2 : w.heap.size ≤ w2.heap.size := HB2.out.size
    have HB : Hid (Bel w wr) := hb
    have hlt0 : w2.heap.size < wr.heap.size := block_lt_of_cell c0
    clear hb HB2
    by_cases hlt : j < m
    · have i0 : (j : Int) < (n0 : Int) := by omega
      have i1 : (j : Int) < (n1 : Int) := by omega
      have i2 : (j : Int) < 60 := by omega
      have i3 : (0 : Int) ≤ (j : Int) := by omega
      have e0 : wr.cell? (x0.add j) = some (.int .i64 (z0 j)) := HB.out.keep (HZ0.out j (by omega))
      have e1 : wr.cell? (x1.add j) = some (.int .i64 (z1 j)) := HB.out.keep (HZ1.out j (by omega))
      have m1 := and1 (z0 j)
      obtain ⟨v1, m2, v2, v3⟩ := and4094 (z1 j)
      have mw : IntKind.i64.wrap (1 + v1) = 1 + v1 := wraps_i64 _ (by omega) (by omega)
      have hbit : z0 j % 2 = 0 ∨ z0 j % 2 = 1 := by omega
      obtain ⟨u, v, bs, hcb, hbet', hbs⟩ := codeBit_small (s := s) hbet (by omega) hbit (show 1 ≤ 1 + v1 by omega) (show 1 + v1 ≤ 4095 by omega)
      have q := bit_ok l h (z0 j % 2) (1 + v1) s (by unfold maxLen; omega)
      rw [hcb] at q
      have tz : (s ++ bs).size = s.size + bs.size := ByteArray.size_append
      have tx := prefix_eq s bs
      have q2 := may_ok u v (s ++ bs) (by unfold maxLen; omega)
      rw [show mayB u v (s ++ bs) = true from decide_eq_true ⟨hbet', by omega⟩] at q2
      have q3 := end_may u v (s ++ bs) hbet' (by omega)
      have ez : (s ++ bs ++ four u).size = s.size + bs.size + 4 := by rw [ByteArray.size_append, tz]; rfl
      have ex := prefix_eq (s ++ bs) (four u)
      rw [tz] at ex
      generalize s ++ bs = t at *
      generalize t ++ four u = r at *
      generalize bs.size = k at *
      have d1 : decide ((s.size : Int) + (k : Int) < (s.size : Int)) = false := by simp; omega
      have Q : Hid (∀ w, Calls Try.prog 9 #[.agg #[.int .i64 l, .int .i64 h, .string s], .int .i64 (z0 j % 2), .int .i64 (1 + v1)] w fun e w' => e = .returned (.tuple #[.agg #[.int .i64 u, .int .i64 v, .string t], .int .i64 0]) ∧ Bel w w') := q
      have Q2 : Hid (∀ w, Calls Try.prog 14 #[.agg #[.int .i64 u, .int .i64 v, .string t]] w fun e w' => e = .returned (.bool true) ∧ Bel w w') := q2
      have Q3 : Hid (∀ w, Calls Try.prog 11 #[.agg #[.int .i64 u, .int .i64 v, .string t]] w fun e w' => e = .returned (.tuple #[.string r, .int .i64 0]) ∧ Bel w w') := q3
      have HBet : Hid (Between u v) := hbet'
      clear q q2 q3 hcb hbet hbet' hbit
      go_wp2_with fail
      have nx : w2.heap.size ≠ wr.heap.size := Nat.ne_of_lt hlt0
      have nx0 : (x0.add j).block ≠ wr.heap.size := Nat.ne_of_lt (block_lt_of_cell e0)
      have nx1 : (x1.add j).block ≠ wr.heap.size := Nat.ne_of_lt (block_lt_of_cell e1)
      go_region_held3 (fun w' => w'.cell? ⟨w2.heap.size, 0, none⟩ = some (.int .i64 l) ∧ w'.cell? ⟨w2.heap.size, 1, none⟩ = some (.int .i64 h) ∧ w'.cell? ⟨w2.heap.size, 2, none⟩ = some (.string s) ∧ w'.cell? (x0.add j) = some (.int .i64 (z0 j)) ∧ w'.cell? (x1.add j) = some (.int .i64 (z1 j)))
        (first
          | (with_reducible exact ⟨k0, k1, k2, k3, k4⟩)
          | (with_reducible exact ⟨(Bel.refl wr).drew.keep c0, (Bel.refl wr).drew.keep c1, (Bel.refl wr).drew.keep c2, (Bel.refl wr).drew.keep e0, (Bel.refl wr).drew.keep e1⟩)
          | (with_reducible exact ⟨((Bel.refl w3).alloc _).keep k0, ((Bel.refl w3).alloc _).keep k1, ((Bel.refl w3).alloc _).keep k2, ((Bel.refl w3).alloc _).keep k3, ((Bel.refl w3).alloc _).keep k4⟩)
          | (with_reducible exact ⟨keep3 nx k0, keep3 nx k1, keep3 nx k2, keep3 nx0 k3, keep3 nx1 k4⟩)
          | (with_reducible exact ⟨((Bel.refl wr).drew.alloc _).keep c0, ((Bel.refl wr).drew.alloc _).keep c1, ((Bel.refl wr).drew.alloc _).keep c2, ((Bel.refl wr).drew.alloc _).keep e0, ((Bel.refl wr).drew.alloc _).keep e1⟩)
          | (with_reducible exact ⟨((Bel.refl wr).alloc _).drew.keep c0, ((Bel.refl wr).alloc _).drew.keep c1, ((Bel.refl wr).alloc _).drew.keep c2, ((Bel.refl wr).alloc _).drew.keep e0, ((Bel.refl wr).alloc _).drew.keep e1⟩)
          | go_keep)
        (first
          | (go_at_call 9
             with_reducible refine (Q.out _).mono ?_
             rintro e w3 ⟨rfl, b3⟩
             have p0 : w3.cell? ⟨wr.heap.size, 0, none⟩ = some (.int .i64 0) := b3.keep (by simp)
             have p1 : w3.cell? ⟨wr.heap.size, 1, none⟩ = some (.int .i64 0) := b3.keep (by simp)
             have p2 : w3.cell? ⟨wr.heap.size, 2, none⟩ = some (.string ⟨#[]⟩) := b3.keep (by simp)
             have r0 : w3.frozen? ⟨wr.heap.size, 0, none⟩ = false := by rw [b3.frozen (by simp)]; simp
             have r1 : w3.frozen? ⟨wr.heap.size, 1, none⟩ = false := by rw [b3.frozen (by simp)]; simp
             have r2 : w3.frozen? ⟨wr.heap.size, 2, none⟩ = false := by rw [b3.frozen (by simp)]; simp
             have bb : Bel wr w3 := ((Bel.refl wr).alloc _).drew.trans b3
             have k0 := bb.keep c0
             have k1 := bb.keep c1
             have k2 := bb.keep c2
             have k3 := bb.keep e0
             have k4 := bb.keep e1
             clear b3)
          | (go_at_call 9
             with_reducible refine (Q.out _).mono ?_
             rintro e w3 ⟨rfl, b3⟩
             have bb : Bel wr w3 := (Bel.refl wr).drew.trans b3
             have k0 := bb.keep c0
             have k1 := bb.keep c1
             have k2 := bb.keep c2
             have k3 := bb.keep e0
             have k4 := bb.keep e1
             clear b3))
      · have A0 : (w3.alloc (.cells #[.int .i64 u, .int .i64 v, .string t] 23)).cell? ⟨w3.heap.size, 0, none⟩ = some (.int .i64 u) := by simp
        have A1 : (w3.alloc (.cells #[.int .i64 u, .int .i64 v, .string t] 23)).cell? ⟨w3.heap.size, 1, none⟩ = some (.int .i64 v) := by simp
        have A2 : (w3.alloc (.cells #[.int .i64 u, .int .i64 v, .string t] 23)).cell? ⟨w3.heap.size, 2, none⟩ = some (.string t) := by simp
        have ba := (Bel.refl w3).alloc (.cells #[.int .i64 u, .int .i64 v, .string t] 23)
        have F0 := ba.free k0 (bb.free c0 f0)
        have F1 := ba.free k1 (bb.free c1 f1)
        have F2 := ba.free k2 (bb.free c2 f2)
        have K0 := ba.keep k0
        have K1 := ba.keep k1
        have K2 := ba.keep k2
        have hne : w2.heap.size ≠ w3.heap.size := Nat.ne_of_lt (block_lt_of_cell k0)
        have HBW : Hid (Bel w (w3.alloc (.cells #[.int .i64 u, .int .i64 v, .string t] 23))) := (HB.out.trans bb).trans ba
        clear ba bb k0 k1 k2 k3 k4 c0 c1 c2 f0 f1 f2 e0 e1 nx nx0 nx1 HB hlt0
        generalize w3.alloc (.cells #[.int .i64 u, .int .i64 v, .string t] 23) = W at *
        generalize w3.heap.size = B at *
        have y0 := cell_regrown A0
        have y1 := cell_regrown A1
        have y2 := cell_regrown A2
        have y3 := cell_regrown K2
        go_wp2_with fail
        refine wp_region_quiet_below (by kernel_rfl) (by kernel_rfl) ?_
        repeat (go_big_quiet_step (first
          | (go_at_call 13; with_reducible exact Calls.regrown_of ((num_ok _ _).mono fun _ _ k => ⟨k.1, k.2 ▸ Below.refl _ _⟩))
          | (go_at_call 14; with_reducible exact Calls.regrown_of (Q2.out _))))
        refine wpQuiet_nil ?_
        intro W2 hw'
        have bq : Bel W W2 := by obtain ⟨⟨dq, osq⟩, rfl⟩ := hw'; exact below_regrown W dq osq
        clear hw' y0 y1 y2 y3
        replace F0 := bq.free K0 F0
        replace F1 := bq.free K1 F1
        replace F2 := bq.free K2 F2
        replace K0 := bq.keep K0
        replace K1 := bq.keep K1
        replace K2 := bq.keep K2
        replace A0 := bq.keep A0
        replace A1 := bq.keep A1
        replace A2 := bq.keep A2
        have HB2 : Hid (Bel w W2) := HBW.out.trans bq
        clear bq HBW
        go_wp2_with fail
        refine (Q3.out _).mono ?_
        rintro e W3 ⟨rfl, bq⟩
        replace F0 := bq.free K0 F0
        replace F1 := bq.free K1 F1
        replace F2 := bq.free K2 F2
        replace K0 := bq.keep K0
        replace K1 := bq.keep K1
        replace K2 := bq.keep K2
        replace A0 := bq.keep A0
        replace A1 := bq.keep A1
        replace A2 := bq.keep A2
        have HB3 : Hid (Bel w W3) := HB2.out.trans bq
        clear bq HB2
        have y2 := cell_regrown A2
        go_wp2_with fail
        refine wp_region_quiet_below (by kernel_rfl) (by kernel_rfl) ?_
        repeat (go_big_quiet_step (first
          | (go_at_call 13; with_reducible exact Calls.regrown_of ((num_ok _ _).mono fun _ _ k => ⟨k.1, k.2 ▸ Below.refl _ _⟩))))
        refine wpQuiet_nil ?_
        intro W4 hw'
        have bq : Bel W3 W4 := by obtain ⟨⟨dq, osq⟩, rfl⟩ := hw'; exact below_regrown W3 dq osq
        clear hw' y2
        replace F0 := bq.free K0 F0
        replace F1 := bq.free K1 F1
        replace F2 := bq.free K2 F2
        replace K0 := bq.keep K0
        replace K1 := bq.keep K1
        replace K2 := bq.keep K2
        replace A0 := bq.keep A0
        replace A1 := bq.keep A1
        replace A2 := bq.keep A2
        have HB4 : Hid (Bel w W4) := HB3.out.trans bq
        have HTZ : Hid (t.size ≤ 4 * (j + 1)) := by show t.size ≤ _; omega
        clear bq HB3 tz tx ex ez d1 m1 m2 mw hs4
        go_wp2
        go_roundw
        case rel =>
          obtain ⟨r0, r1, r2⟩ := set3 (x := .int .i64 u) (y := .int .i64 v) (z := .string t) K0 K1 K2
          exact ⟨j + 1, u, v, t, by omega, by go_num, HBet.out, HTZ.out, ((HB4.out.setCell hw2 _).setCell hw2 _).setCell hw2 _, r0, r1, r2, by simp [F0], by simp [F1], by simp [F2]⟩
        case measure => simp [intOf]; omega
      · obtain ⟨A0, A1, A2⟩ := set3 (x := .int .i64 u) (y := .int .i64 v) (z := .string t) p0 p1 p2
        have F0 : (((w3.setCell ⟨wr.heap.size, 0, none⟩ (.int .i64 u)).setCell ⟨wr.heap.size, 1, none⟩ (.int .i64 v)).setCell ⟨wr.heap.size, 2, none⟩ (.string t)).frozen? ⟨w2.heap.size, 0, none⟩ = false := by simp [bb.free c0 f0]
        have F1 : (((w3.setCell ⟨wr.heap.size, 0, none⟩ (.int .i64 u)).setCell ⟨wr.heap.size, 1, none⟩ (.int .i64 v)).setCell ⟨wr.heap.size, 2, none⟩ (.string t)).frozen? ⟨w2.heap.size, 1, none⟩ = false := by simp [bb.free c1 f1]
        have F2 : (((w3.setCell ⟨wr.heap.size, 0, none⟩ (.int .i64 u)).setCell ⟨wr.heap.size, 1, none⟩ (.int .i64 v)).setCell ⟨wr.heap.size, 2, none⟩ (.string t)).frozen? ⟨w2.heap.size, 2, none⟩ = false := by simp [bb.free c2 f2]
        have K0 := keep3 (x := .int .i64 u) (y := .int .i64 v) (z := .string t) nx k0
        have K1 := keep3 (x := .int .i64 u) (y := .int .i64 v) (z := .string t) nx k1
        have K2 := keep3 (x := .int .i64 u) (y := .int .i64 v) (z := .string t) nx k2
        have hne : w2.heap.size ≠ wr.heap.size := nx
        have hle : w.heap.size ≤ wr.heap.size := HB.out.size
        have HBW : Hid (Bel w (((w3.setCell ⟨wr.heap.size, 0, none⟩ (.int .i64 u)).setCell ⟨wr.heap.size, 1, none⟩ (.int .i64 v)).setCell ⟨wr.heap.size, 2, none⟩ (.string t))) := (((HB.out.trans bb).setCell hle _).setCell hle _).setCell hle _
        clear hle bb k0 k1 k2 k3 k4 c0 c1 c2 f0 f1 f2 e0 e1 nx nx0 nx1 HB hlt0 p0 p1 p2 r0 r1 r2
        generalize ((w3.setCell ⟨wr.heap.size, 0, none⟩ (.int .i64 u)).setCell ⟨wr.heap.size, 1, none⟩ (.int .i64 v)).setCell ⟨wr.heap.size, 2, none⟩ (.string t) = W at *
        generalize wr.heap.size = B at *
        have y0 := cell_regrown A0
        have y1 := cell_regrown A1
        have y2 := cell_regrown A2
        have y3 := cell_regrown K2
        go_wp2_with fail
        refine wp_region_quiet_below (by kernel_rfl) (by kernel_rfl) ?_
        repeat (go_big_quiet_step (first
          | (go_at_call 13; with_reducible exact Calls.regrown_of ((num_ok _ _).mono fun _ _ k => ⟨k.1, k.2 ▸ Below.refl _ _⟩))
          | (go_at_call 14; with_reducible exact Calls.regrown_of (Q2.out _))))
        refine wpQuiet_nil ?_
        intro W2 hw'
        have bq : Bel W W2 := by obtain ⟨⟨dq, osq⟩, rfl⟩ := hw'; exact below_regrown W dq osq
        clear hw' y0 y1 y2 y3
        replace F0 := bq.free K0 F0
        replace F1 := bq.free K1 F1
        replace F2 := bq.free K2 F2
        replace K0 := bq.keep K0
        replace K1 := bq.keep K1
        replace K2 := bq.keep K2
        replace A0 := bq.keep A0
        replace A1 := bq.keep A1
        replace A2 := bq.keep A2
        have HB2 : Hid (Bel w W2) := HBW.out.trans bq
        clear bq HBW
        go_wp2_with fail
        refine (Q3.out _).mono ?_
        rintro e W3 ⟨rfl, bq⟩
        replace F0 := bq.free K0 F0
        replace F1 := bq.free K1 F1
        replace F2 := bq.free K2 F2
        replace K0 := bq.keep K0
        replace K1 := bq.keep K1
        replace K2 := bq.keep K2
        replace A0 := bq.keep A0
        replace A1 := bq.keep A1
        replace A2 := bq.keep A2
        have HB3 : Hid (Bel w W3) := HB2.out.trans bq
        clear bq HB2
        have y2 := cell_regrown A2
        go_wp2_with fail
        refine wp_region_quiet_below (by kernel_rfl) (by kernel_rfl) ?_
        repeat (go_big_quiet_step (first
          | (go_at_call 13; with_reducible exact Calls.regrown_of ((num_ok _ _).mono fun _ _ k => ⟨k.1, k.2 ▸ Below.refl _ _⟩))))
        refine wpQuiet_nil ?_
        intro W4 hw'
        have bq : Bel W3 W4 := by obtain ⟨⟨dq, osq⟩, rfl⟩ := hw'; exact below_regrown W3 dq osq
        clear hw' y2
        replace F0 := bq.free K0 F0
        replace F1 := bq.free K1 F1
        replace F2 := bq.free K2 F2
        replace K0 := bq.keep K0
        replace K1 := bq.keep K1
        replace K2 := bq.keep K2
        replace A0 := bq.keep A0
        replace A1 := bq.keep A1
        replace A2 := bq.keep A2
        have HB4 : Hid (Bel w W4) := HB3.out.trans bq
        have HTZ : Hid (t.size ≤ 4 * (j + 1)) := by show t.size ≤ _; omega
        clear bq HB3 tz tx ex ez d1 m1 m2 mw hs4
        go_wp2
        go_roundw
        case rel =>
          obtain ⟨r0, r1, r2⟩ := set3 (x := .int .i64 u) (y := .int .i64 v) (z := .string t) K0 K1 K2
          exact ⟨j + 1, u, v, t, by omega, by go_num, HBet.out, HTZ.out, ((HB4.out.setCell hw2 _).setCell hw2 _).setCell hw2 _, r0, r1, r2, by simp [F0], by simp [F1], by simp [F2]⟩
        case measure => simp [intOf]; omega
    · have ejm : j = m := by omega
      clear hlt
      have hlh : decide (l < h) = true := decide_eq_true (by obtain ⟨a, b, c⟩ := hbet; omega)
      have q := may_ok l h ⟨#[]⟩ (by decide)
      rw [show mayB l h ⟨#[]⟩ = true from decide_eq_true ⟨hbet, by decide⟩] at q
      have Q : Hid (∀ w, Calls Try.prog 14 #[.agg #[.int .i64 l, .int .i64 h, .string ⟨#[]⟩]] w fun e w' => e = .returned (.bool true) ∧ Bel w w') := q
      clear q hbet
      by_cases a0 : j < n0
      · have i0 : (j : Int) < (n0 : Int) := by omega
        by_cases a1 : j < n1
        · have i1 : (j : Int) < (n1 : Int) := by omega
          have i2 : decide ((j : Int) < 60) = false := by simp; omega
          go_wp2_with fail
          refine (Q.out _).mono ?_
          rintro e w3 ⟨rfl, b3⟩
          have HB3 : Hid (Bel w w3) := HB.out.trans b3
          clear b3
          go_wp2
          go_ret
          exact ⟨rfl, HB3.out⟩
        · have i1 : decide ((j : Int) < (n1 : Int)) = false := by simp; omega
          go_wp2_with fail
          refine (Q.out _).mono ?_
          rintro e w3 ⟨rfl, b3⟩
          have HB3 : Hid (Bel w w3) := HB.out.trans b3
          clear b3
          go_wp2
          go_ret
          exact ⟨rfl, HB3.out⟩
      · have i0 : decide ((j : Int) < (n0 : Int)) = false := by simp; omega
        go_wp2_with fail
        refine (Q.out _).mono ?_
        rintro e w3 ⟨rfl, b3⟩
        have HB3 : Hid (Bel w w3) := HB.out.trans b3
        clear b3
        go_wp2
        go_ret
        exact ⟨rfl, HB3.out⟩

set_option maxRecDepth 20000 in
set_option maxHeartbeats 2000000 in
/-- The loop ends at once where one of the rows is nil. -/
theorem row_none (a0 a1 : Option Addr) (n0 c0' n1 c1' : Nat) (hn : n0 = 0 ∨ n1 = 0) (h0 : n0 ≤ maxLen) (h1 : n1 ≤ maxLen) (w : World) :
    Calls Try.prog 7 #[.slice a0 n0 c0', .slice a1 n1 c1'] w fun e w' => e = .returned (.bool true) ∧ Bel w w' := by
  unfold maxLen at h0 h1
  go_enter Try.func7, Try.ntmps7
  go_wp2_with fail
  refine (awake_true _).mono ?_
  rintro e w1 ⟨rfl, b1⟩
  have HB1 : Hid (Bel w w1) := b1
  clear b1
  go_wp2_with fail
  refine (new_ok _).mono ?_
  rintro e w2 ⟨rfl, b2⟩
  have HB2 : Hid (Bel w w2) := HB1.out.trans b2
  clear b2 HB1
  go_wp2_with fail
  refine wp_loop_rounds 1 ?_
  rw [rounds_succ]
  have q := may_ok 0 4294967295 ⟨#[]⟩ (by decide)
  rw [show mayB 0 4294967295 ⟨#[]⟩ = true from by decide] at q
  have Q : Hid (∀ w, Calls Try.prog 14 #[.agg #[.int .i64 0, .int .i64 4294967295, .string ⟨#[]⟩]] w fun e w' => e = .returned (.bool true) ∧ Bel w w') := q
  clear q
  by_cases e0 : n0 = 0
  · subst e0
    go_wp2_with fail
    refine (Q.out _).mono ?_
    rintro e w3 ⟨rfl, b3⟩
    have HB3 : Hid (Bel w w3) := (HB2.out.alloc _).trans b3
    clear b3
    go_wp2
    go_ret
    exact ⟨rfl, HB3.out⟩
  · obtain rfl : n1 = 0 := by omega
    have i0 : (0 : Int) < (n0 : Int) := by omega
    go_wp2_with fail
    refine (Q.out _).mono ?_
    rintro e w3 ⟨rfl, b3⟩
    have HB3 : Hid (Bel w w3) := (HB2.out.alloc _).trans b3
    clear b3
    go_wp2
    go_ret
    exact ⟨rfl, HB3.out⟩

/-- What the walk is told of a row of ints that came in. -/
theorem row_walk (a0 : Option Addr) (len0 cap0 : Nat) (z0 : List Int) (a1 : Option Addr) (len1 cap1 : Nat) (z1 : List Int) (w : World)
    (w0 : (a0 = none ∧ len0 = 0 ∧ cap0 = 0 ∧ z0 = []) ∨ ∃ x, a0 = some x ∧ len0 ≤ cap0 ∧ cap0 ≤ maxLen ∧ z0.length = cap0 ∧ (∀ i, i < z0.length → w.cell? (x.add i) = some (.int .i64 (z0.getD i 0))) ∧ ∀ n ∈ z0, (Lit.int .i64 n).wf = true)
    (w1 : (a1 = none ∧ len1 = 0 ∧ cap1 = 0 ∧ z1 = []) ∨ ∃ x, a1 = some x ∧ len1 ≤ cap1 ∧ cap1 ≤ maxLen ∧ z1.length = cap1 ∧ (∀ i, i < z1.length → w.cell? (x.add i) = some (.int .i64 (z1.getD i 0))) ∧ ∀ n ∈ z1, (Lit.int .i64 n).wf = true) :
    Calls Try.prog 7 #[.slice a0 len0 cap0, .slice a1 len1 cap1] w fun e w' => e = .returned (.bool true) ∧ Bel w w' := by
  rcases w0 with ⟨rfl, rfl, rfl, _⟩ | ⟨x0, rfl, h0, h0', h0l, h0c, _⟩
  · refine row_none _ _ _ _ _ _ (.inl rfl) (by decide) ?_ w
    rcases w1 with ⟨_, rfl, _⟩ | ⟨x1, _, h1, h1', _⟩
    · decide
    · omega
  · rcases w1 with ⟨rfl, rfl, rfl, _⟩ | ⟨x1, rfl, h1, h1', h1l, h1c, _⟩
    · exact row_none _ _ _ _ _ _ (.inr rfl) (by omega) (by decide) w
    · exact row_some x0 x1 len0 cap0 len1 cap1 (fun i => z0.getD i 0) (fun i => z1.getD i 0) (min (min len0 len1) 60) (by omega) (by omega) (by omega) (by omega) h0 h1 h0' h1' w (fun i hi => h0c i (by omega)) (fun i hi => h1c i (by omega))

end Go.Proofs.Ythipckllancohaa.Coder
