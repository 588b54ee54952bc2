/-
  The walk of CoderEnds: it answers true for every coder. Condition: the text is no longer than an int can tell.
-/
import Derived.Test.YthipckllancohaaKAwake
namespace Go.Proofs.Ythipckllancohaa.Coder
open Go.RowKit Go.Proofs.Ythipckllancohaa.Num
set_option linter.unusedVariables false

set_option maxHeartbeats 1000000 in
theorem ends_no (l h : Int) (s : ByteArray) (hs : s.size ≤ maxLen) (hm : mayB l h s = false) (w : World) :
    Calls Try.prog 8 #[.agg #[.int .i64 l, .int .i64 h, .string s]] w fun e w' => e = .returned (.bool true) ∧ Bel w w' := by
  have q3 := end_no l h s hs hm
  have q6 := coderMay_ok l h s hs
  rw [hm] at q6
  have Q3 : Hid (∀ w, Calls Try.prog 11 #[.agg #[.int .i64 l, .int .i64 h, .string s]] w fun e w' => e = .returned (.tuple #[.string ⟨#[]⟩, .int .i64 400]) ∧ Bel w w') := q3
  have Q6 : Hid (∀ w, Calls Try.prog 15 #[.agg #[.int .i64 l, .int .i64 h, .string s]] w fun e w' => e = .returned (.bool false) ∧ Bel w w') := q6
  clear q3 q6 hm
  go_enter Try.func8, Try.ntmps8
  go_wp2_with fail
  refine (awake_true _).mono ?_
  rintro e w1 ⟨rfl, b1⟩
  have c0 : w1.cell? ⟨w.heap.size, 0, none⟩ = some (.int .i64 l) := b1.keep (by simp)
  have c1 : w1.cell? ⟨w.heap.size, 1, none⟩ = some (.int .i64 h) := b1.keep (by simp)
  have c2 : w1.cell? ⟨w.heap.size, 2, none⟩ = some (.string s) := b1.keep (by simp)
  have HB1 : Hid (Bel w w1) := Bel.trans ((Bel.refl _).alloc _) b1
  clear b1
  go_wp2_with fail
  refine (Q3.out _).mono ?_
  rintro e w2 ⟨rfl, b2⟩
  replace c0 := b2.keep c0
  replace c1 := b2.keep c1
  replace c2 := b2.keep c2
  have HB2 : Hid (Bel w w2) := HB1.out.trans b2
  clear b2
  go_wp2_with (go_at_call 13; go_in)
  refine (Q6.out _).mono ?_
  rintro e w3 ⟨rfl, b3⟩
  have HB3 : Hid (Bel w w3) := HB2.out.trans b3
  clear b3
  go_wp2
  go_ret
  exact ⟨rfl, HB3.out⟩

theorem idx (s : ByteArray) (k : Nat) (h : k < s.data.toList.length) (w : World) :
    (Instr.index 9 (.string s) (.int .i64 (k : Int))).run Try.prog w = .ok (.int .u8 ((s.data.toList[k].toNat : Nat) : Int)) w := by
  have hz : s.data.toList.length = s.size := rfl
  rw [run_index_string (P := Try.prog) w 9 s .i64 (k : Int) Try.underlying9]
  have hb : 0 ≤ (k : Int) ∧ (k : Int) < s.size := by omega
  rw [dif_pos hb]
  rfl

theorem byte_at (s : ByteArray) (l : Int) (h0 : 0 ≤ l) (h1 : l ≤ 4294967295) (j : Nat) (hj : j < 4) (k b : Int) (hk : k = (s.size : Int) + (j : Int)) (hb : b = [l / 16777216, l / 65536 % 256, l / 256 % 256, l % 256].getD j 0) (w : World) :
    (Instr.index 9 (.string (s ++ four l)) (.int .i64 k)).run Try.prog w = .ok (.int .u8 b) w := by
  have hl : (s ++ four l).data.toList = s.data.toList ++ (four l).data.toList := by simp [ByteArray.data_append]
  have hz : s.data.toList.length = s.size := rfl
  have h4 : (four l).data.toList.length = 4 := by simp [four, strOfNums]
  have hlt : s.size + j < (s ++ four l).data.toList.length := by rw [hl, List.length_append, hz, h4]; omega
  have e := idx (s ++ four l) (s.size + j) hlt w
  rw [show k = ((s.size + j : Nat) : Int) by omega, e]
  congr 2
  have g : (s ++ four l).data.toList[s.size + j] = (four l).data.toList[j]'(by omega) := by
    rw [List.getElem_of_eq hl, List.getElem_append_right (by omega)]
    congr 1
    omega
  rw [g, hb]
  have u : ∀ n : Int, 0 ≤ n → n < 256 → (((UInt8.ofNat n.toNat).toNat : Nat) : Int) = n := fun n a b => by
    rw [UInt8.toNat_ofNat', Nat.mod_eq_of_lt (by omega)]; omega
  rcases (show j = 0 ∨ j = 1 ∨ j = 2 ∨ j = 3 from by omega) with rfl | rfl | rfl | rfl
  · exact u _ (by omega) (by omega)
  · exact u _ (by omega) (by omega)
  · exact u _ (by omega) (by omega)
  · exact u _ (by omega) (by omega)

set_option maxHeartbeats 2000000 in
theorem ends_yes (l h : Int) (s : ByteArray) (hb : Between l h) (hz : s.size ≤ 65536) (w : World) :
    Calls Try.prog 8 #[.agg #[.int .i64 l, .int .i64 h, .string s]] w fun e w' => e = .returned (.bool true) ∧ Bel w w' := by
  have q3 := end_may l h s hb hz
  obtain ⟨b0, b1, b2⟩ := hb
  have l0 : 0 ≤ l := b0
  have l1 : l ≤ 4294967295 := by omega
  have lh : l ≤ h := by omega
  clear b0 b1 b2
  have i0 := byte_at s l l0 l1 0 (by omega) (s.size : Int) (l / 16777216) (by omega) rfl
  have i1 := byte_at s l l0 l1 1 (by omega) ((s.size : Int) + 1) (l / 65536 % 256) (by omega) rfl
  have i2 := byte_at s l l0 l1 2 (by omega) ((s.size : Int) + 2) (l / 256 % 256) (by omega) rfl
  have i3 := byte_at s l l0 l1 3 (by omega) ((s.size : Int) + 3) (l % 256) (by omega) rfl
  have hsz : (s ++ four l).size = s.size + 4 := by rw [ByteArray.size_append]; congr 1
  have hex : (s ++ four l).extract 0 s.size = s := by
    apply ByteArray.ext
    rw [ByteArray.data_extract, ByteArray.data_append]
    show (s.data ++ (four l).data).extract 0 s.data.size = s.data
    rw [Array.extract_append_left, Array.extract_size]
  generalize s ++ four l = z at *
  have o1 := or_join 24 (by decide) (l / 16777216 * 16777216) (l / 65536 % 256 * 65536) (by omega) (by omega) (by omega) (by omega) (by omega)
  have o2 := or_join 16 (by decide) (l / 16777216 * 16777216 + l / 65536 % 256 * 65536) (l / 256 % 256 * 256) (by omega) (by omega) (by omega) (by omega) (by omega)
  have o3 := or_join 8 (by decide) (l / 16777216 * 16777216 + l / 65536 % 256 * 65536 + l / 256 % 256 * 256) (l % 256) (by omega) (by omega) (by omega) (by omega) (by omega)
  rw [show l / 16777216 * 16777216 + l / 65536 % 256 * 65536 + l / 256 % 256 * 256 + l % 256 = l by omega] at o3
  have Q3 : Hid (∀ w, Calls Try.prog 11 #[.agg #[.int .i64 l, .int .i64 h, .string s]] w fun e w' => e = .returned (.tuple #[.string z, .int .i64 0]) ∧ Bel w w') := q3
  clear q3
  go_enter Try.func8, Try.ntmps8
  go_wp2_with fail
  refine (awake_true _).mono ?_
  rintro e w1 ⟨rfl, b1⟩
  have c0 : w1.cell? ⟨w.heap.size, 0, none⟩ = some (.int .i64 l) := b1.keep (by simp)
  have c1 : w1.cell? ⟨w.heap.size, 1, none⟩ = some (.int .i64 h) := b1.keep (by simp)
  have c2 : w1.cell? ⟨w.heap.size, 2, none⟩ = some (.string s) := b1.keep (by simp)
  have HB1 : Hid (Bel w w1) := Bel.trans ((Bel.refl _).alloc _) b1
  clear b1
  go_wp2_with fail
  refine (Q3.out _).mono ?_
  rintro e w2 ⟨rfl, b2⟩
  replace c0 := b2.keep c0
  replace c1 := b2.keep c1
  replace c2 := b2.keep c2
  have HB2 : Hid (Bel w w2) := HB1.out.trans b2
  clear b2 HB1
  go_wp2_with (go_at_call 13; go_in)
  go_quiet (fail)
  go_wp2_with fail
  go_quiet (fail)
  go_wp2
  go_ret
  exact ⟨rfl, HB2.out.trans ⟨rfl, rfl, rfl, Nat.le_refl _, fun _ _ => rfl⟩⟩

theorem ends_walk (l h : Int) (s : ByteArray) (hs : s.size ≤ maxLen) (w : World) :
    Calls Try.prog 8 #[.agg #[.int .i64 l, .int .i64 h, .string s]] w fun e w' => e = .returned (.bool true) ∧ Bel w w' := by
  cases hm : mayB l h s with
  | false => exact ends_no l h s hs hm w
  | true =>
    have m := of_decide_eq_true hm
    exact ends_yes l h s m.1 m.2 w

end Go.Proofs.Ythipckllancohaa.Coder
