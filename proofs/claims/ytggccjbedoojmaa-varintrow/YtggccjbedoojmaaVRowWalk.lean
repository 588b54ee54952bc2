/-
  The walk of VarintRow: it answers true for any row of ints, nil too. No condition but that the row is there.
-/
import Derived.Test.YtggccjbedoojmaaVAwake
import Derived.Test.YtggccjbedoojmaaVCat
namespace Go.Proofs.Ytggccjbedoojmaa.Varint
open Go.RowKit Go.Proofs.Ytggccjbedoojmaa.Num
set_option linter.unusedVariables false


set_option maxHeartbeats 1000000 in
theorem row_few (x : Addr) (len cap : Nat) (z : Nat → Int) (hm : len ≤ 40) (hlc : len ≤ cap) (hc : cap ≤ maxLen) (w : World) (hz : ∀ i, i < len → w.cell? (x.add i) = some (.int .i64 (z i))) :
    Calls Try.prog 5 #[.slice (some x) len cap] w fun e w' => e = .returned (.bool true) ∧ Onto w w' := by
  unfold maxLen at hc
  have m32 := and32
  have HZ : Hid (∀ i, i < len → w.cell? (x.add i) = some (.int .i64 (z i))) := hz
  clear hz
  go_enter Try.func5, Try.ntmps5
  go_wp2_with fail
  refine (awake_true _).mono ?_
  rintro e w1 ⟨rfl, g1⟩
  have G1 : Hid (Onto w w1) := g1
  clear g1
  go_wp2
  go_loopw [3, 4] (fun s i wr => ∃ k : Nat, k ≤ len ∧ i = .int .i64 k ∧ s = .string (cat z k) ∧ Onto w wr) (fun _ i _ => len - (intOf i).toNat)
  case atStart => exact ⟨0, Nat.zero_le _, rfl, rfl, G1.out⟩
  case round =>
    obtain ⟨k, hk, rfl, rfl, hg⟩ := hrel
    have HG : Hid (Onto w wr) := hg
    clear hg
    by_cases hlt : k < len
    · have hk1 : k < len := by omega
      have hk2 : k < 40 := by omega
      have hsum : (cat z k).size + (strOfNums (tell 4 (z k % 4294967296))).size ≤ 205 := by
        have c1 := cat_le z k
        have c2 := tell_five (z k % 4294967296) (by omega)
        rw [strOfNums_size]; omega
      have hcx : wr.cell? (x.add k) = some (.int .i64 (z k)) := HG.out.cell_some (HZ.out k hk1)
      go_wp2_with fail
      refine (put_ok (z k % 4294967296) (by omega) (by omega) _).mono ?_
      rintro e w2 ⟨rfl, g2⟩
      have G2 : Hid (Onto w w2) := HG.out.trans g2
      clear g2
      go_wp2
      go_roundw
      case rel => exact ⟨k + 1, by omega, by go_num, rfl, G2.out⟩
      case measure => simp [intOf]; omega
    · obtain rfl : len = k := by omega
      go_wp2
      have hall : (cat z len).size ≤ 200 := by have := cat_le z len; omega
      go_loopw [7, 8] (fun at' i wr => ∃ k : Nat, k ≤ len ∧ i = .int .i64 k ∧ at' = .int .i64 ((cat z k).size : Int) ∧ Onto w wr) (fun _ i _ => len - (intOf i).toNat)
      case atStart => exact ⟨0, Nat.zero_le _, rfl, rfl, HG.out⟩
      case round =>
        obtain ⟨k, hk, rfl, rfl, hg⟩ := hrel
        have HK : Hid (Onto w wr) := hg
        clear hg
        by_cases hlt : k < len
        · have hk1 : k < len := by omega
          have hk2 : k < 40 := by omega
          have hcx : wr.cell? (x.add k) = some (.int .i64 (z k)) := HK.out.cell_some (HZ.out k hk1)
          have hle := cat_mono z k len (by omega)
          go_wp2_with fail
          refine (get_any (cat z len) ((cat z k).size : Int) (by unfold maxLen; omega) (by omega) (by omega) _).mono ?_
          rintro e w3 ⟨rfl, g3⟩
          rw [getv_cat z k len hlt]
          simp only [ans]
          have G3 : Hid (Onto w w3) := HK.out.trans g3
          have hcy : w3.cell? (x.add k) = some (.int .i64 (z k)) := G3.out.cell_some (HZ.out k hk1)
          clear g3 hcx
          have hp := tell_pos 4 (z k % 4294967296)
          have hq := tell_five (z k % 4294967296) (by omega)
          have hcs := cat_size z k
          have hle2 := cat_mono z (k + 1) len (by omega)
          have hto : ((cat z k).size : Int) + ((tell 4 (z k % 4294967296)).length : Int) ≤ (cat z len).size := by omega
          have HC : Hid ((cat z (k + 1)).size = (cat z k).size + (tell 4 (z k % 4294967296)).length) := hcs
          clear hcs hle2
          go_wp2
          go_roundw
          case rel => exact ⟨k + 1, by omega, by go_num, by rw [HC.out]; go_num, G3.out⟩
          case measure => simp [intOf]; omega
        · obtain rfl : len = k := by omega
          go_wp2
          go_ret
          exact ⟨rfl, HK.out⟩

set_option maxHeartbeats 1000000 in
theorem row_many (x : Addr) (len cap : Nat) (z : Nat → Int) (m : Nat) (hm1 : m ≤ 40) (hm2 : 40 ≤ m) (hm : m < len) (hlc : len ≤ cap) (hc : cap ≤ maxLen) (w : World) (hz : ∀ i, i < len → w.cell? (x.add i) = some (.int .i64 (z i))) :
    Calls Try.prog 5 #[.slice (some x) len cap] w fun e w' => e = .returned (.bool true) ∧ Onto w w' := by
  unfold maxLen at hc
  have m32 := and32
  have HZ : Hid (∀ i, i < len → w.cell? (x.add i) = some (.int .i64 (z i))) := hz
  clear hz
  go_enter Try.func5, Try.ntmps5
  go_wp2_with fail
  refine (awake_true _).mono ?_
  rintro e w1 ⟨rfl, g1⟩
  have G1 : Hid (Onto w w1) := g1
  clear g1
  go_wp2
  go_loopw [3, 4] (fun s i wr => ∃ k : Nat, k ≤ m ∧ i = .int .i64 k ∧ s = .string (cat z k) ∧ Onto w wr) (fun _ i _ => m - (intOf i).toNat)
  case atStart => exact ⟨0, Nat.zero_le _, rfl, rfl, G1.out⟩
  case round =>
    obtain ⟨k, hk, rfl, rfl, hg⟩ := hrel
    have HG : Hid (Onto w wr) := hg
    clear hg
    by_cases hlt : k < m
    · have hk1 : k < len := by omega
      have hk2 : k < 40 := by omega
      have hsum : (cat z k).size + (strOfNums (tell 4 (z k % 4294967296))).size ≤ 205 := by
        have c1 := cat_le z k
        have c2 := tell_five (z k % 4294967296) (by omega)
        rw [strOfNums_size]; omega
      have hcx : wr.cell? (x.add k) = some (.int .i64 (z k)) := HG.out.cell_some (HZ.out k hk1)
      go_wp2_with fail
      refine (put_ok (z k % 4294967296) (by omega) (by omega) _).mono ?_
      rintro e w2 ⟨rfl, g2⟩
      have G2 : Hid (Onto w w2) := HG.out.trans g2
      clear g2
      go_wp2
      go_roundw
      case rel => exact ⟨k + 1, by omega, by go_num, rfl, G2.out⟩
      case measure => simp [intOf]; omega
    · obtain rfl : m = k := by omega
      go_wp2
      have hall : (cat z m).size ≤ 200 := by have := cat_le z m; omega
      go_loopw [7, 8] (fun at' i wr => ∃ k : Nat, k ≤ m ∧ i = .int .i64 k ∧ at' = .int .i64 ((cat z k).size : Int) ∧ Onto w wr) (fun _ i _ => m - (intOf i).toNat)
      case atStart => exact ⟨0, Nat.zero_le _, rfl, rfl, HG.out⟩
      case round =>
        obtain ⟨k, hk, rfl, rfl, hg⟩ := hrel
        have HK : Hid (Onto w wr) := hg
        clear hg
        by_cases hlt : k < m
        · have hk1 : k < len := by omega
          have hk2 : k < 40 := by omega
          have hcx : wr.cell? (x.add k) = some (.int .i64 (z k)) := HK.out.cell_some (HZ.out k hk1)
          have hle := cat_mono z k m (by omega)
          go_wp2_with fail
          refine (get_any (cat z m) ((cat z k).size : Int) (by unfold maxLen; omega) (by omega) (by omega) _).mono ?_
          rintro e w3 ⟨rfl, g3⟩
          rw [getv_cat z k m hlt]
          simp only [ans]
          have G3 : Hid (Onto w w3) := HK.out.trans g3
          have hcy : w3.cell? (x.add k) = some (.int .i64 (z k)) := G3.out.cell_some (HZ.out k hk1)
          clear g3 hcx
          have hp := tell_pos 4 (z k % 4294967296)
          have hq := tell_five (z k % 4294967296) (by omega)
          have hcs := cat_size z k
          have hle2 := cat_mono z (k + 1) m (by omega)
          have hto : ((cat z k).size : Int) + ((tell 4 (z k % 4294967296)).length : Int) ≤ (cat z m).size := by omega
          have HC : Hid ((cat z (k + 1)).size = (cat z k).size + (tell 4 (z k % 4294967296)).length) := hcs
          clear hcs hle2
          go_wp2
          go_roundw
          case rel => exact ⟨k + 1, by omega, by go_num, by rw [HC.out]; go_num, G3.out⟩
          case measure => simp [intOf]; omega
        · obtain rfl : m = k := by omega
          go_wp2
          go_ret
          exact ⟨rfl, HK.out⟩

set_option maxHeartbeats 1000000 in
theorem row_none (w : World) :
    Calls Try.prog 5 #[.slice none 0 0] w fun e w' => e = .returned (.bool true) ∧ Onto w w' := by
  go_enter Try.func5, Try.ntmps5
  go_wp2_with fail
  refine (awake_true _).mono ?_
  rintro e w1 ⟨rfl, g1⟩
  have G1 : Hid (Onto w w1) := g1
  clear g1
  go_wp2
  refine wp_loop_rounds 1 ?_
  rw [rounds_succ]
  go_wp2
  refine wp_loop_rounds 1 ?_
  rw [rounds_succ]
  go_wp2
  go_ret
  exact ⟨rfl, G1.out⟩

theorem row_walk (a : Option Addr) (len cap : Nat) (zs : List Int) (w : World)
    (h : (a = none ∧ len = 0 ∧ cap = 0 ∧ zs = []) ∨
      ∃ x, a = some x ∧ len ≤ cap ∧ cap ≤ maxLen ∧ zs.length = cap ∧ (∀ i, i < zs.length → w.cell? (x.add i) = some (.int .i64 (zs.getD i 0))) ∧ ∀ n ∈ zs, (Lit.int .i64 n).wf = true) :
    Calls Try.prog 5 #[.slice a len cap] w fun e w' => e = .returned (.bool true) ∧ Onto w w' := by
  rcases h with ⟨rfl, rfl, rfl, rfl⟩ | ⟨x, rfl, hlc, hc, hz, hcell, _⟩
  · exact row_none w
  · have hzz : ∀ i, i < len → w.cell? (x.add i) = some (.int .i64 ((fun i => zs.getD i 0) i)) := fun i hi => hcell i (by omega)
    by_cases hm : len ≤ 40
    · exact row_few x len cap _ hm hlc hc w hzz
    · exact row_many x len cap _ 40 (Nat.le_refl _) (Nat.le_refl _) (by omega) hlc hc w hzz

end Go.Proofs.Ytggccjbedoojmaa.Varint
