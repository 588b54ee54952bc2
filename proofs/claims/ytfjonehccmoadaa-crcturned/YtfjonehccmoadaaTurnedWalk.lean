/-
  The walk of CrcTurned: it answers true for any three texts. No condition but that they are within the reach.
-/
import Derived.Test.YtfjonehccmoadaaCBytes
import Derived.RegionTactic
import Derived.Deep.OwnRows
import Derived.Laws.Cover1
import Derived.Deep.QuietTactic
import Derived.BigQuiet
namespace Go.Proofs.Ytfjonehccmoadaa.Crc
open Go.RowKit
set_option linter.unusedVariables false

theorem infoB : (Try.prog.info? 5).map (fun i => (i.zero, i.size, i.bytes)) = some (some (.int .u8 0), 1, 1) := by kernel_rfl

theorem mkN (m : Nat) (h1 : m ≤ 140737488351232) (w : World) :
    (Instr.makeSlice 28 (.int .i64 (m : Int)) (.int .i64 (m : Int))).run Try.prog w = .ok (.slice (some ⟨w.heap.size, 0, none⟩) m m) (w.alloc (.cells (madeCells #[.int .u8 0] m) 5)) :=
  run_make_row' (P := Try.prog) 28 5 (.int .u8 0) 1 Try.underlying28 infoB rfl .i64 .i64 m (by omega) (by omega) w

/-- The row behind j rounds: the first j bytes are turned, the rest 0. -/
def part (s t u : List UInt8) (k j : Nat) : List UInt8 := (turn (turn (s.take j) (t.take j)) (u.take j)) ++ List.replicate (k - j) 0

theorem turn3_length (s t u : List UInt8) (j : Nat) (hs : j ≤ s.length) (ht : j ≤ t.length) (hu : j ≤ u.length) : (turn (turn (s.take j) (t.take j)) (u.take j)).length = j := by
  have e1 : (s.take j).length = j := by rw [List.length_take]; omega
  have e2 : (t.take j).length = j := by rw [List.length_take]; omega
  have e3 : (u.take j).length = j := by rw [List.length_take]; omega
  rw [turn_length _ _ (by rw [turn_length _ _ (by rw [e1, e2]), e1, e3]), turn_length _ _ (by rw [e1, e2]), e1]

theorem part_length (s t u : List UInt8) (k j : Nat) (hj : j ≤ k) (hs : k ≤ s.length) (ht : k ≤ t.length) (hu : k ≤ u.length) : (part s t u k j).length = k := by
  rw [part, List.length_append, turn3_length s t u j (by omega) (by omega) (by omega), List.length_replicate]; omega

theorem part_all (s t u : List UInt8) (k : Nat) : part s t u k k = turn (turn (s.take k) (t.take k)) (u.take k) := by
  rw [part, Nat.sub_self, List.replicate_zero, List.append_nil]

theorem part_next (s t u : List UInt8) (k j : Nat) (hj : j < k) (hs : k ≤ s.length) (ht : k ≤ t.length) (hu : k ≤ u.length) :
    part s t u k (j + 1) = (part s t u k j).set j ((s[j]'(by omega) ^^^ t[j]'(by omega)) ^^^ u[j]'(by omega)) := by
  have e := turn3_length s t u j (by omega) (by omega) (by omega)
  have r : List.replicate (k - j) (0 : UInt8) = 0 :: List.replicate (k - (j + 1)) 0 := by
    rw [← List.replicate_succ]; congr 1; omega
  rw [part, part, r]
  have c : ∀ (p q : List UInt8) (x y : UInt8), p.length = j → (p ++ x :: q).set j y = p ++ y :: q := by
    intro p q x y hp
    rw [List.set_append_right _ _ (by omega), hp, Nat.sub_self]; rfl
  rw [c _ _ _ _ e]
  have l1 : (s.take j).length = j := by rw [List.length_take]; omega
  have l2 : (t.take j).length = j := by rw [List.length_take]; omega
  have l3 : (u.take j).length = j := by rw [List.length_take]; omega
  rw [List.take_succ_eq_append_getElem (show j < s.length by omega), List.take_succ_eq_append_getElem (show j < t.length by omega), List.take_succ_eq_append_getElem (show j < u.length by omega)]
  rw [turn_append _ _ _ _ (by rw [l1, l2]), turn_append _ _ _ _ (by rw [turn_length _ _ (by rw [l1, l2]), l1, l3])]
  simp only [turn, List.append_assoc, List.cons_append, List.nil_append]

theorem holds_made (w : World) (k : Nat) : Holds (w.alloc (.cells (madeCells #[.int .u8 0] k) 5)) w.heap.size (List.replicate k 0) := by
  intro i hi
  have hi' : i < k := by simpa using hi
  refine ⟨?_, ?_⟩
  · rw [World.cell?_alloc_at _ _ _ _ rfl, ← Array.getElem?_toList, toList_madeCells_one]
    simp [hi']
  · rw [frozen?_alloc_cells]
    simp [World.frozen?]

theorem min3 (x y z k : Nat) (h1 : k ≤ x) (h2 : k ≤ y) (h3 : k ≤ z) (h : k = x ∨ k = y ∨ k = z) (ts : Array TypeId) (t : TypeId) (w : World) :
    (Builtin.min_ ts t #[.int .i64 (x : Int), .int .i64 (y : Int), .int .i64 (z : Int)]).run Try.prog w = .ok (.int .i64 (k : Int)) w := by
  rw [run_min_int3]
  have e : (if (z : Int) < (if (y : Int) < (x : Int) then (y : Int) else (x : Int)) then (z : Int) else (if (y : Int) < (x : Int) then (y : Int) else (x : Int))) = (k : Int) := by
    split <;> split <;> omega
  rw [e]

theorem turned3 (a b c : UInt8) : bits .xor .u8 (bits .xor .u8 ((a.toNat : Nat) : Int) ((b.toNat : Nat) : Int)) ((c.toNat : Nat) : Int) = ((((a ^^^ b) ^^^ c).toNat : Nat) : Int) := by
  have l : (a ^^^ b).toNat < 256 := UInt8.toNat_lt _
  rw [u8_xor_nat _ _ a.toNat_lt b.toNat_lt, ← UInt8.toNat_xor, u8_xor_nat _ _ l c.toNat_lt, ← UInt8.toNat_xor]

theorem xor64 (a b : Nat) (ha : a < 9223372036854775808) (hb : b < 9223372036854775808) : bits .xor .i64 (a : Int) (b : Int) = ((a ^^^ b : Nat) : Int) := by
  have hx : a ^^^ b < 2 ^ 63 := Nat.xor_lt_two_pow (by omega) (by omega)
  have f : ∀ c : Nat, c < 9223372036854775808 → (BitVec.ofInt 64 (c : Int)).toNat = c := fun c hc => by
    rw [BitVec.ofInt_natCast, BitVec.toNat_ofNat]; exact Nat.mod_eq_of_lt (by omega)
  show IntKind.i64.wrap ((BitVec.ofInt 64 (a : Int) ^^^ BitVec.ofInt 64 (b : Int)).toNat : Int) = _
  rw [BitVec.toNat_xor, f a ha, f b hb, IntKind.wrap_i64]
  omega

theorem sum_cut (s : ByteArray) (j : Nat) (hj : j ≤ s.size) (hs : s.size ≤ maxLen) (w : World) :
    Calls Try.prog 9 #[.string (s.extract 0 j)] w fun e w' => e = .returned (.int .i64 ((crc (s.data.toList.take j) : Nat) : Int)) ∧ w' = w := by
  have e : (s.extract 0 j).data.toList = s.data.toList.take j := by simp
  have h2 := sum_ok (s.extract 0 j) (by rw [ByteArray.size_extract]; omega) w
  rw [e] at h2
  exact h2

set_option maxHeartbeats 1000000 in
theorem turned_walk_of (s t u : ByteArray) (k : Nat) (hs : s.size ≤ 140737488351232) (ht : t.size ≤ 140737488351232) (hu : u.size ≤ 140737488351232)
    (ks : k ≤ s.size) (kt : k ≤ t.size) (ku : k ≤ u.size) (w : World) (hm : k = s.size ∨ k = t.size ∨ k = u.size) :
    Calls Try.prog 6 #[.string s, .string t, .string u] w fun e w' => e = .returned (.bool true) ∧ Below w.heap.size w w' := by
  have hmk := mkN k (by omega)
  have hmi := min3 s.size t.size u.size k ks kt ku hm
  clear hm
  go_enter Try.func6, Try.ntmps6
  go_wp2_with fail
  refine (awake_true _).mono ?_
  rintro e w0 ⟨rfl, rfl⟩
  go_wp2_with fail
  go_loopw [9] (fun i wr => ∃ j : Nat, j ≤ k ∧ i = .int .i64 j ∧ Holds wr w0.heap.size (part s.data.toList t.data.toList u.data.toList k j) ∧ Below w0.heap.size w0 wr) (fun i _ => k - (intOf i).toNat)
  case atStart => exact ⟨0, Nat.zero_le _, rfl, holds_made w0 k, (Below.refl _ _).alloc (Nat.le_refl _) _⟩
  case round =>
    obtain ⟨j, hj, rfl, hh, hb⟩ := hrel
    have HH : Hid (Holds wr w0.heap.size (part s.data.toList t.data.toList u.data.toList k j)) := hh
    have HB : Hid (Below w0.heap.size w0 wr) := hb
    clear hh hb hmk hmi
    by_cases hlt : j < k
    · have ls : j < s.data.toList.length := by show j < s.size; omega
      have lt : j < t.data.toList.length := by show j < t.size; omega
      have lu : j < u.data.toList.length := by show j < u.size; omega
      have is := idx s j ls
      have it := idx t j lt
      have iu := idx u j lu
      have lp : (part s.data.toList t.data.toList u.data.toList k j).length = k := part_length _ _ _ _ _ hj ks kt ku
      obtain ⟨hc1, hf⟩ := HH.out j (by rw [lp]; exact hlt)
      obtain ⟨z, hc⟩ : ∃ z : Int, wr.cell? ⟨w0.heap.size, j, none⟩ = some (.int .u8 z) := ⟨_, hc1⟩
      clear hc1
      have HN : Hid (part s.data.toList t.data.toList u.data.toList k (j + 1) = (part s.data.toList t.data.toList u.data.toList k j).set j ((s.data.toList[j] ^^^ t.data.toList[j]) ^^^ u.data.toList[j])) := part_next _ _ _ _ _ hlt ks kt ku
      have hxx := turned3 s.data.toList[j] t.data.toList[j] u.data.toList[j]
      have HS := HH.out.set j (by rw [lp]; exact hlt) ((s.data.toList[j] ^^^ t.data.toList[j]) ^^^ u.data.toList[j])
      rw [← HN.out] at HS
      have HT : Hid (Holds (wr.setCell ⟨w0.heap.size, j, none⟩ (.int .u8 (((s.data.toList[j] ^^^ t.data.toList[j]) ^^^ u.data.toList[j]).toNat : Nat))) w0.heap.size (part s.data.toList t.data.toList u.data.toList k (j + 1))) := HS
      clear HS HN lp
      have lx : (((s.data.toList[j] ^^^ t.data.toList[j]) ^^^ u.data.toList[j]).toNat : Nat) < 256 := UInt8.toNat_lt _
      generalize (((s.data.toList[j] ^^^ t.data.toList[j]) ^^^ u.data.toList[j]).toNat : Nat) = x at *
      generalize s.data.toList[j].toNat = x0 at *
      generalize t.data.toList[j].toNat = x1 at *
      generalize u.data.toList[j].toNat = x2 at *
      clear ls lt lu
      go_wp2
      go_region
      go_wp2
      go_roundw
      case rel => exact ⟨j + 1, by omega, by go_num, HT.out.drew, (HB.out.setCell (Nat.le_refl _) _).drew⟩
      case measure => simp [intOf]; omega
    · obtain rfl : j = k := by omega
      have hst := fun n => (HH.out.drewN n).str j j (part_length _ _ _ _ _ (Nat.le_refl _) ks kt ku).symm
      have q0 := sum_ok ⟨(part s.data.toList t.data.toList u.data.toList j j).toArray⟩ (by show (part s.data.toList t.data.toList u.data.toList j j).toArray.size ≤ maxLen; rw [List.size_toArray, part_length _ _ _ _ _ (Nat.le_refl _) ks kt ku]; unfold maxLen; omega)
      have q1 := sum_cut s j ks (by unfold maxLen; omega)
      have q2 := sum_cut t j kt (by unfold maxLen; omega)
      have q3 := sum_cut u j ku (by unfold maxLen; omega)
      have e0 : crc (ByteArray.mk (part s.data.toList t.data.toList u.data.toList j j).toArray).data.toList = (crc (s.data.toList.take j) ^^^ crc (t.data.toList.take j)) ^^^ crc (u.data.toList.take j) := by
        show crc (part s.data.toList t.data.toList u.data.toList j j) = _
        have a1 : (s.data.toList.take j).length = j := by rw [List.length_take]; show min j s.size = j; omega
        have a2 : (t.data.toList.take j).length = j := by rw [List.length_take]; show min j t.size = j; omega
        have a3 : (u.data.toList.take j).length = j := by rw [List.length_take]; show min j u.size = j; omega
        rw [part_all, crc_turn3 _ _ _ (by rw [a1, a2]) (by rw [a1, a3])]
      rw [e0] at q0
      clear e0
      generalize (ByteArray.mk (part s.data.toList t.data.toList u.data.toList j j).toArray) = b at *
      have c1 := crc_lt (s.data.toList.take j)
      have c2 := crc_lt (t.data.toList.take j)
      have c3 := crc_lt (u.data.toList.take j)
      generalize crc (s.data.toList.take j) = x1 at *
      generalize crc (t.data.toList.take j) = x2 at *
      generalize crc (u.data.toList.take j) = x3 at *
      have hx1 := xor64 x1 x2 (by omega) (by omega)
      have hl := xor_lt x1 x2 c1 c2
      have hx2 := xor64 (x1 ^^^ x2) x3 (by omega) (by omega)
      have Q0 : Hid (∀ w, Calls Try.prog 9 #[.string b] w fun e w' => e = .returned (.int .i64 ((x1 ^^^ x2 ^^^ x3 : Nat) : Int)) ∧ w' = w) := q0
      have Q1 : Hid (∀ w, Calls Try.prog 9 #[.string (s.extract 0 j)] w fun e w' => e = .returned (.int .i64 (x1 : Int)) ∧ w' = w) := q1
      have Q2 : Hid (∀ w, Calls Try.prog 9 #[.string (t.extract 0 j)] w fun e w' => e = .returned (.int .i64 (x2 : Int)) ∧ w' = w) := q2
      have Q3 : Hid (∀ w, Calls Try.prog 9 #[.string (u.extract 0 j)] w fun e w' => e = .returned (.int .i64 (x3 : Int)) ∧ w' = w) := q3
      clear q0 q1 q2 q3
      go_wp2_with fail
      go_quiet (first | (go_at_call 9; with_reducible exact Calls.quiet_of_same (Q0.out _)) | (go_at_call 9; with_reducible exact Calls.quiet_of_same (Q1.out _)) | (go_at_call 9; with_reducible exact Calls.quiet_of_same (Q2.out _)) | (go_at_call 9; with_reducible exact Calls.quiet_of_same (Q3.out _)) | (go_at_call 8; exact Calls.quiet_of_same (num_ok _ _)))
      go_wp2
      go_ret
      exact ⟨rfl, HB.out.trans ⟨rfl, rfl, rfl, Nat.le_refl _, fun _ _ => rfl⟩⟩

theorem turned_walk (s t u : ByteArray) (hs : s.size ≤ 140737488351232) (ht : t.size ≤ 140737488351232) (hu : u.size ≤ 140737488351232) (w : World) :
    Calls Try.prog 6 #[.string s, .string t, .string u] w fun e w' => e = .returned (.bool true) ∧ Below w.heap.size w w' :=
  turned_walk_of s t u (min (min s.size t.size) u.size) hs ht hu (by omega) (by omega) (by omega) w (by omega)

end Go.Proofs.Ytfjonehccmoadaa.Crc
