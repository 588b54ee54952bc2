/-
  What PcmForms' walk wants: which formats, bytes and channels may not be; rows that are written out in whatever order. No condition.
-/
import Derived.Test.YtpakcajdbibbbaaPcAwake
import Derived.Test.YtpakcajdbibbbaaGPlace
import Derived.Test.YtpakcajdbibbbaaGBytes
import Derived.BigQuiet
import Derived.Deep.CutRange
namespace Go.Proofs.Ytpakcajdbibbbaa.Pcm
open Go.RowKit Go.Sort Go.Proofs.Ytpakcajdbibbbaa.Mod Go.Proofs.Ytpakcajdbibbbaa.Ints Go.Proofs.Ytpakcajdbibbbaa.Num
set_option linter.unusedVariables false
set_option linter.unusedSimpArgs false

theorem and_10 (n : Int) : bits .and .i64 n 1023 = n % 1024 := and_mask 10 1023 (by decide) (by decide) n
theorem get_f {c b : Int} (h : okF c b = false) (L : List UInt8) : okGet c b L = false := by unfold okGet; rw [h, Bool.false_and]
theorem put_f {c b : Int} (h : okF c b = false) (Ls : List (List Int)) : okPut c b Ls = false := by unfold okPut; rw [h, Bool.false_and]
theorem get_n {c b : Int} {L : List UInt8} (h : L.length % (fC c * fQ b) ≠ 0 ∨ 4096 < L.length) : okGet c b L = false := by
  unfold okGet
  rcases h with h | h
  · rw [decide_eq_false h, Bool.and_false, Bool.and_false]
  · rw [decide_eq_false (by omega : ¬ L.length ≤ 4096), Bool.false_and, Bool.and_false]
theorem put_bad {c b : Int} {Ls : List (List Int)} (h : rowsFit (fQ b) Ls = false) : okPut c b Ls = false := by
  unfold okPut
  rw [h, Bool.and_false, Bool.and_false, Bool.and_false]
theorem put_long {c b : Int} {Ls : List (List Int)} (h : 4096 < (Ls.getD 0 []).length * (fC c * fQ b)) : okPut c b Ls = false := by
  unfold okPut
  rw [decide_eq_false (by omega : ¬ (Ls.getD 0 []).length * (fC c * fQ b) ≤ 4096), Bool.false_and, Bool.and_false, Bool.and_false]
theorem one_bad (q : Nat) (y : Int) (h : fits q y = false) (Ls : List (List Int)) (k : Nat) (hk : k < Ls.length) (e : Ls.getD k [] = [y]) : rowsFit q Ls = false :=
  rowsFit_no k hk (.inr (rowFits_no 0 (by rw [e]; simp) (by rw [e]; exact h)))
theorem not_fit (q : Nat) (y : Int) (h : y < -hlf q ∨ hlf q ≤ y) : fits q y = false := by
  unfold fits
  rcases h with h | h
  · rw [decide_eq_false (by omega), Bool.false_and]
  · rw [decide_eq_false (by omega : ¬ y < hlf q), Bool.and_false]
theorem cell_a4 {w : World} {a : Addr} {v : Value} (h : w.cell? a = some v) : ∀ o p q r, ((((w.alloc o).alloc p).alloc q).alloc r).cell? a = some v := fun o p q r => (((((Bel.refl w).alloc o).alloc p).alloc q).alloc r).keep h

/-- A text of zeros. -/
def zeros (n : Nat) : ByteArray := ⟨(List.replicate n 0).toArray⟩
theorem zeros_list (n : Nat) : (zeros n).data.toList = List.replicate n 0 := by simp [zeros]
theorem zeros_size (n : Nat) : (zeros n).size = n := by
  have : (zeros n).size = (zeros n).data.toList.length := by rw [Array.length_toList]; rfl
  rw [this, zeros_list, List.length_replicate]

theorem zeros_conv (w w' : World) (N : Nat) (e : ∀ a, w'.cell? a = (w.alloc (.cells (madeCells #[.int .u8 0] N) 5)).cell? a) :
    (convert 43 9 (.slice (some ⟨w.heap.size, 0, none⟩) N N)).run Try.prog w' = .ok (.string (zeros N)) w' := by
  have r := World.rowIs_made w (.int .u8 0) N 5
  have := run_convert_bytes_back (P := Try.prog) w' 43 9 5 ⟨w.heap.size, 0, none⟩ N (List.replicate N 0) Try.underlying43 Try.underlying5 Try.underlying9 (fun j hj => by
    rw [Addr.add_lit, Nat.zero_add, e, r.cell (by simpa using hj)]
    simp)
  rw [List.length_replicate] at this
  exact this

theorem si1 (w : World) (y u v : Int) : Lls (((w.alloc (.cells #[.int .i64 u, .int .i64 v] 3)).alloc (.cells #[.int .i64 y] 3)).alloc (.cells #[.slice (some ⟨w.heap.size + 1, 0, none⟩) 1 1] 44)) (some ⟨w.heap.size + 1 + 1, 0, none⟩) [[y]] :=
  lls_1 (bo := some ⟨w.heap.size + 1, 0, none⟩) (n := 1) (c := 1) (by go_simp) rfl (by decide) (fun q => by cases q) (slc_1 (by go_simp))

/-- A format that may not be, in a variable of its own. -/
def Bad (w1 wx : World) (B : Nat) : Prop := ∃ c b, okF c b = false ∧ Box wx B c b ∧ Bel w1 wx

end Go.Proofs.Ytpakcajdbibbbaa.Pcm
