/-
  The contract of riff.isFile: does the text begin as a file does, and tell its length? Condition: the text's length is an int.
-/
import Derived.Test.YthbjjjpleongbaaRcSmall
namespace Go.Proofs.Ythbjjjpleongbaa.Chk
open Go.RowKit Go.Proofs.Ythbjjjpleongbaa.Mod Go.Proofs.Ythbjjjpleongbaa.Num
set_option linter.unusedVariables false
set_option linter.unusedSimpArgs false

def isW (L : List UInt8) : Bool := decide (8 ≤ L.length) && (decide (cid L 0 = [82, 73, 70, 70]) && (decide (csz L 0 = L.length - 8) && decide ((L.drop 8).take 4 = [87, 65, 86, 69])))

set_option maxHeartbeats 1000000 in
theorem file_ok (s : ByteArray) (L : List UInt8) (hs : s.data.toList = L) (hx : s.size ≤ maxLen) (w : World) :
    Calls Try.prog 26 #[.string s] w fun e w' => e = .returned (.bool (isW L)) ∧ Bel w w' := by
  have hn := size_len s L hs
  have H : Hid (∀ w, Calls Try.prog 27 #[.string s, .int .i64 0] w fun e w' => e = .returned (.tuple #[cval (if 0 + 8 ≤ L.length then at8 L 0 else ch0), .bool (decide (0 + 8 ≤ L.length))]) ∧ Bel w w') := fun w => head_ok s L hs hx 0 (by omega) w
  unfold isW
  by_cases h8 : 8 ≤ L.length
  · have e8 : (s.extract 8 s.size).data.toList = L.drop 8 := by
      rw [ext_mid, hs, hn, List.take_of_length_le (by rw [List.length_drop]; exact Nat.le_refl _)]
    have P : Hid (∀ w, Calls Try.prog 40 #[.string (s.extract 8 s.size), .string ⟨#[87, 65, 86, 69]⟩] w fun e w' => e = .returned (.bool (decide ((L.drop 8).take 4 = [87, 65, 86, 69]))) ∧ w' = w) := fun w =>
      prefix_ok _ _ e8 (by have := size_len _ _ e8; rw [List.length_drop] at this; unfold maxLen at hx ⊢; omega) w
    rw [if_pos (by omega), decide_eq_true (show 0 + 8 ≤ L.length by omega)] at H
    have H2 : Hid (∀ w, Calls Try.prog 27 #[.string s, .int .i64 0] w fun e w' => e = .returned (.tuple #[.agg #[.string (tx (cid L 0)), .int .i64 8, .int .i64 ((csz L 0 : Nat) : Int)], .bool true]) ∧ Bel w w') := H.out
    clear H
    rw [decide_eq_true h8, Bool.true_and]
    have hi : (cid L 0 == [82, 73, 70, 70]) = decide (cid L 0 = [82, 73, 70, 70]) := by rw [Bool.eq_iff_iff, beq_iff_eq, decide_eq_true_eq]
    have hz : ((csz L 0 : Int) == (s.size : Int) - 8) = decide (csz L 0 = L.length - 8) := by rw [Bool.eq_iff_iff, beq_iff_eq, decide_eq_true_eq]; omega
    unfold maxLen at hx
    have h8s : 8 ≤ s.size := by omega
    have k8 : csz L 0 ≤ 4294967295 := csz_le L 0
    have hd : decide (s.size < 8) = false := decide_eq_false (by omega)
    clear hs hn e8 h8
    generalize decide (cid L 0 = [82, 73, 70, 70]) = r1 at *
    generalize decide (csz L 0 = L.length - 8) = r2 at *
    generalize decide ((L.drop 8).take 4 = [87, 65, 86, 69]) = r3 at *
    generalize csz L 0 = k at *
    generalize cid L 0 = l at *
    cases r1
    · go_enter Try.func26, Try.ntmps26
      go_wp2_with fail
      refine (H2.out _).mono ?_
      rintro e w1 ⟨rfl, b1⟩
      have B1 : Hid (Bel w w1) := b1
      clear b1
      go_wp2
      go_ret
      exact ⟨rfl, B1.out.alloc _⟩
    · cases r2
      · go_enter Try.func26, Try.ntmps26
        go_wp2_with fail
        refine (H2.out _).mono ?_
        rintro e w1 ⟨rfl, b1⟩
        have B1 : Hid (Bel w w1) := b1
        clear b1
        go_wp2
        go_ret
        exact ⟨rfl, B1.out.alloc _⟩
      · go_enter Try.func26, Try.ntmps26
        go_wp2_with fail
        refine (H2.out _).mono ?_
        rintro e w1 ⟨rfl, b1⟩
        have B1 : Hid (Bel w w1) := b1
        clear b1
        go_wp2_with fail
        refine (P.out _).mono ?_
        rintro e w2 ⟨rfl, rfl⟩
        go_wp2
        go_ret
        exact ⟨rfl, B1.out.alloc _⟩
  · rw [if_neg (by omega), decide_eq_false (show ¬ 0 + 8 ≤ L.length by omega)] at H
    rw [decide_eq_false h8, Bool.false_and]
    have H2 : Hid (∀ w, Calls Try.prog 27 #[.string s, .int .i64 0] w fun e w' => e = .returned (.tuple #[.agg #[.string ⟨#[]⟩, .int .i64 0, .int .i64 0], .bool false]) ∧ Bel w w') := H.out
    clear H hs hn
    unfold maxLen at hx
    go_enter Try.func26, Try.ntmps26
    go_wp2_with fail
    refine (H2.out _).mono ?_
    rintro e w1 ⟨rfl, b1⟩
    have B1 : Hid (Bel w w1) := b1
    clear b1
    go_wp2
    go_ret
    exact ⟨rfl, B1.out.alloc _⟩

theorem isWav_eq (L : List UInt8) : isWav L = (decide (L.length ≤ 4096) && isW L) := by
  unfold isWav isW
  by_cases h12 : 12 ≤ L.length
  · have e : num ((L.drop 4).take 4) = ((csz L 0 : Nat) : Int) := by
      unfold csz
      have := num_nonneg ((L.drop (0 + 4)).take 4)
      rw [Nat.zero_add] at this ⊢
      omega
    have e2 : cid L 0 = L.take 4 := by unfold cid; rw [List.drop_zero]
    rw [decide_eq_true h12, decide_eq_true (show 8 ≤ L.length by omega), e, e2, Bool.true_and, Bool.true_and]
    congr 3
    rw [Bool.eq_iff_iff, decide_eq_true_eq, decide_eq_true_eq]
    omega
  · have e3 : decide ((L.drop 8).take 4 = [87, 65, 86, 69]) = false := decide_eq_false (fun e => by
      have := congrArg List.length e
      rw [List.length_take, List.length_drop] at this
      simp at this
      omega)
    rw [decide_eq_false h12, e3]
    simp

end Go.Proofs.Ythbjjjpleongbaa.Chk
