/-
  The contract of pcm.Get: each channel's samples, or the error. Conditions: the text's length is an int.
-/
import Derived.Test.YtpakcajdbibbbaaPcSmall
import Derived.Test.YtpakcajdbibbbaaGField
import Derived.Test.YtpakcajdbibbbaaSdLaid
namespace Go.Proofs.Ytpakcajdbibbbaa.Pcm
open Go.RowKit Go.Sort Go.Proofs.Ytpakcajdbibbbaa.Mod Go.Proofs.Ytpakcajdbibbbaa.Num Go.Proofs.Ytpakcajdbibbbaa.Sid
set_option linter.unusedVariables false
set_option linter.unusedSimpArgs false

/-- A format in a variable. -/
def Box (w : World) (g : Nat) (c b : Int) : Prop := w.cell? ⟨g, 0, none⟩ = some (.int .i64 c) ∧ w.cell? ⟨g, 1, none⟩ = some (.int .i64 b)
theorem Box.bel {w w' : World} {g : Nat} {c b : Int} (h : Box w g c b) (k : Bel w w') : Box w' g c b := ⟨k.keep h.1, k.keep h.2⟩
theorem box_new (w : World) (c b : Int) : Box (w.alloc (.cells #[.int .i64 c, .int .i64 b] 24)) w.heap.size c b := by
  have h : ∀ k, (w.alloc (.cells #[.int .i64 c, .int .i64 b] 24)).cell? ⟨w.heap.size, k, none⟩ = (#[Value.int .i64 c, Value.int .i64 b])[k]? := fun k => cell_of_row _ w.heap.size k _ 24 (0, 0) (heap_alloc_new w _)
  exact ⟨h 0, h 1⟩

theorem rem_nat (n f : Nat) : ((n : Int) % (f : Int) != 0) = !decide (n % f = 0) := by
  have e : (n : Int) % (f : Int) = ((n % f : Nat) : Int) := rfl
  rw [e]
  by_cases h : n % f = 0
  · rw [decide_eq_true h, h]; rfl
  · rw [decide_eq_false h]
    simp only [bne_iff_ne, ne_eq, Bool.not_false]
    omega

theorem ext_take (s : ByteArray) (q : Nat) : (s.extract 0 q).data.toList = s.data.toList.take q := by
  simp [ByteArray.extract, ByteArray.copySlice]
theorem ext_drop (s : ByteArray) (q : Nat) : (s.extract q s.size).data.toList = s.data.toList.drop q := by
  have h : s.size = s.data.toList.length := by rw [Array.length_toList]; rfl
  simp [ByteArray.extract, ByteArray.copySlice]
  exact List.take_of_length_le (by rw [List.length_drop, ← h]; omega)

set_option maxHeartbeats 1000000 in
theorem get_no (c b : Int) (s : ByteArray) (L : List UInt8) (hs : s.data.toList = L) (hx : s.size ≤ maxLen) (h : okGet c b L = false) (w : World) :
    Calls Try.prog 8 #[.string s, fmt c b] w fun e w' => e = .returned (.tuple #[.slice none 0 0, .int .i64 1900]) ∧ Bel w w' := by
  have hn : s.size = L.length := by rw [← hs, Array.length_toList]; rfl
  unfold maxLen at hx
  have M : Hid (∀ w, Calls Try.prog 14 #[fmt c b] w fun e w' => e = .returned (.bool (okF c b)) ∧ Bel w w') := fun w => may_ok c b w
  have FR : Hid (okF c b = true → ∀ w, Calls Try.prog 19 #[fmt c b] w fun e w' => e = .returned (.int .i64 ((fC c * fQ b : Nat) : Int)) ∧ Bel w w') := fun h w => frame_ok c b h w
  have BX : Hid (∀ w1, Bel (w.alloc (.cells #[.int .i64 c, .int .i64 b] 24)) w1 → Box w1 w.heap.size c b) := fun w1 k => (box_new w c b).bel k
  unfold okGet at h
  rw [← hn] at h
  have HF : Hid (okF c b = true → (decide (s.size ≤ 4096) && decide (s.size % (fC c * fQ b) = 0)) = false) := fun k => by rw [k, Bool.true_and] at h; exact h
  have FP : Hid (okF c b = true → 0 < fC c * fQ b ∧ fC c * fQ b ≤ 4) := fun k => by
    obtain ⟨h1, h2, _⟩ := okF_nat k
    rcases h1 with e | e <;> rcases h2 with q | q <;> rw [e, q] <;> decide
  clear h hs hn
  cases ho : okF c b
  · rw [ho] at M
    clear HF FP FR
    go_enter Try.func8, Try.ntmps8
    go_wp2_with fail
    refine (M.out _).mono ?_
    rintro e w1 ⟨rfl, b1⟩
    have B1 : Hid (Bel w w1) := ((Bel.refl _).alloc _).trans b1
    clear b1
    go_wp2
    go_ret2
    exact ⟨rfl, B1.out⟩
  · rw [ho] at M FR HF FP
    have HF2 := HF.out rfl
    obtain ⟨f0, f1⟩ := FP.out rfl
    have FR2 : Hid (∀ w, Calls Try.prog 19 #[fmt c b] w fun e w' => e = .returned (.int .i64 ((fC c * fQ b : Nat) : Int)) ∧ Bel w w') := FR.out rfl
    clear HF FP FR ho
    obtain ⟨f, hf⟩ : ∃ f, fC c * fQ b = f := ⟨_, rfl⟩
    rw [hf] at FR2 HF2 f0 f1
    clear hf
    by_cases hl : s.size ≤ 4096
    · rw [decide_eq_true hl, Bool.true_and] at HF2
      have hl2 : decide ((4096 : Int) < (s.size : Int)) = false := decide_eq_false (by omega)
      have hz : ((f : Int) == 0) = false := by simp; omega
      have hm : ((s.size : Int) % (f : Int) != 0) = true := by rw [rem_nat, HF2]; rfl
      go_enter Try.func8, Try.ntmps8
      go_wp2_with fail
      refine (M.out _).mono ?_
      rintro e w1 ⟨rfl, b1⟩
      have B1 : Hid (Bel w w1) := ((Bel.refl _).alloc _).trans b1
      obtain ⟨x1, x2⟩ := BX.out _ b1
      clear b1
      go_wp2_with fail
      refine (FR2.out _).mono ?_
      rintro e w2 ⟨rfl, b2⟩
      have B2 : Hid (Bel w w2) := B1.out.trans b2
      clear b2
      go_wp2
      go_ret2
      exact ⟨rfl, B2.out⟩
    · have hl2 : decide ((4096 : Int) < (s.size : Int)) = true := decide_eq_true (by omega)
      go_enter Try.func8, Try.ntmps8
      go_wp2_with fail
      refine (M.out _).mono ?_
      rintro e w1 ⟨rfl, b1⟩
      have B1 : Hid (Bel w w1) := ((Bel.refl _).alloc _).trans b1
      clear b1
      go_wp2
      go_ret2
      exact ⟨rfl, B1.out⟩

end Go.Proofs.Ytpakcajdbibbbaa.Pcm
