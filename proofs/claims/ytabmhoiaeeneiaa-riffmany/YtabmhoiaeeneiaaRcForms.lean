/-
  Plain facts on texts that are no such file: a byte of the head turned, bytes behind, bytes that are missing, too many; bytes in memory. No condition.
-/
import Derived.Test.YtabmhoiaeeneiaaRiffsWalk
import Derived.Test.YtabmhoiaeeneiaaGPlace
import Derived.Test.YtabmhoiaeeneiaaGBytes
import Derived.Laws.BitsAllLaws
import Derived.BigQuiet
import Derived.Deep.OwnRows
import Derived.Deep.CutRange
namespace Go.Proofs.Ytabmhoiaeeneiaa.Chk
open Go.RowKit Go.Sort Go.Proofs.Ytabmhoiaeeneiaa.Mod Go.Proofs.Ytabmhoiaeeneiaa.Num
set_option linter.unusedVariables false
set_option linter.unusedSimpArgs false

theorem no_chunks {L : List UInt8} (h : isWav L = false) : chunks L = none := by unfold chunks; rw [h]; rfl
theorem wav_size {L : List UInt8} (h : isWav L = true) : num ((L.drop 4).take 4) = ((L.length - 8 : Nat) : Int) ∧ 12 ≤ L.length ∧ L.length ≤ 4096 := by
  unfold isWav at h
  simp only [Bool.and_eq_true, decide_eq_true_eq] at h
  exact ⟨h.2.2.2.1, h.1, h.2.1⟩
theorem wav_long {L : List UInt8} (h : 4096 < L.length) : isWav L = false := by
  cases e : isWav L
  · rfl
  · have := (wav_size e).2.2; omega
theorem abc_len : abcB.length = 60 := by decide
theorem wav_more (M : List UInt8) (h : 1 ≤ M.length) : isWav (abcB ++ M) = false := by
  cases e : isWav (abcB ++ M)
  · rfl
  · have h1 := (wav_size e).1
    have e2 : ((abcB ++ M).drop 4).take 4 = [52, 0, 0, 0] := by rfl
    have e3 : num [52, 0, 0, 0] = 52 := by decide
    rw [e2, e3, List.length_append, abc_len] at h1
    omega
theorem wav_less (q : Nat) (h : q < 60) : isWav (abcB.take q) = false := by
  cases e : isWav (abcB.take q)
  · rfl
  · obtain ⟨h1, h2, _⟩ := wav_size e
    have hl : (abcB.take q).length = q := by rw [List.length_take, abc_len]; omega
    rw [hl] at h1 h2
    have e2 : ((abcB.take q).drop 4).take 4 = [52, 0, 0, 0] := by
      rw [List.drop_take, List.take_take, Nat.min_eq_left (by omega)]
      rfl
    have e3 : num [52, 0, 0, 0] = 52 := by decide
    rw [e2, e3] at h1
    omega
theorem wav_set (k : Nat) (y : UInt8) (hk : k = 0 ∨ k = 3 ∨ k = 4 ∨ k = 5 ∨ k = 7 ∨ k = 8 ∨ k = 11) (hy : y ≠ abcB.getD k 0) : isWav (abcB.set k y) = false := by
  cases e : isWav (abcB.set k y)
  · rfl
  · unfold isWav at e
    simp only [Bool.and_eq_true, decide_eq_true_eq] at e
    obtain ⟨_, _, e1, e2, e3⟩ := e
    rcases hk with rfl | rfl | rfl | rfl | rfl | rfl | rfl
    · have : [y, 73, 70, 70] = [82, 73, 70, 70] := e1
      injection this with a _; exact absurd a hy
    · have : [82, 73, 70, y] = [82, 73, 70, 70] := e1
      simp at this; exact absurd this hy
    · have h : num [y, 0, 0, 0] = 52 := e2
      simp only [num] at h
      exact absurd (UInt8.toNat_inj.1 (show y.toNat = (52 : UInt8).toNat by show y.toNat = 52; omega)) hy
    · have h : num [52, y, 0, 0] = 52 := e2
      simp only [num] at h
      exact absurd (UInt8.toNat_inj.1 (show y.toNat = (0 : UInt8).toNat by show y.toNat = 0; have : (52 : UInt8).toNat = 52 := rfl; omega)) hy
    · have h : num [52, 0, 0, y] = 52 := e2
      simp only [num] at h
      exact absurd (UInt8.toNat_inj.1 (show y.toNat = (0 : UInt8).toNat by show y.toNat = 0; have : (52 : UInt8).toNat = 52 := rfl; omega)) hy
    · have : [y, 65, 86, 69] = [87, 65, 86, 69] := e3
      injection this with a _; exact absurd a hy
    · have : [87, 65, 86, y] = [87, 65, 86, 69] := e3
      simp at this; exact absurd this hy

/-- A byte turned by a number from 1 to 64 is another one. -/
theorem xor_other (c : UInt8) (e : Nat) (h0 : 1 ≤ e) (h1 : e < 256) : c ^^^ UInt8.ofNat e ≠ c := fun h => by
  have h2 : UInt8.ofNat e = 0 := by
    have := congrArg (fun z => c ^^^ z) h
    simp only [← UInt8.xor_assoc, UInt8.xor_self, UInt8.zero_xor] at this
    exact this
  have := congrArg UInt8.toNat h2
  rw [UInt8.toNat_ofNat', Nat.mod_eq_of_lt h1] at this
  have h3 : (0 : UInt8).toNat = 0 := rfl
  omega
theorem turned_byte (v : Nat) (g : UInt8) (hv : v = g.toNat) (q : Int) (e : Nat) (he : q = (e : Int)) (he2 : e < 256) : bits .xor .u8 (v : Int) q = (((g ^^^ UInt8.ofNat e).toNat : Nat) : Int) := by
  subst hv he
  rw [u8_xor_nat _ _ g.toNat_lt he2, UInt8.toNat_xor, UInt8.toNat_ofNat', Nat.mod_eq_of_lt he2]

/-- The block B holds the bytes l, from its first cell on, and none of their cells is frozen. -/
def HoldB (w : World) (B : Nat) (l : List UInt8) : Prop :=
  ∀ i, i < l.length → w.cell? ⟨B, i, none⟩ = some (.int .u8 (((l.getD i 0).toNat : Nat) : Int)) ∧ w.frozen? ⟨B, i, none⟩ = false
theorem HoldB.bel {w w' : World} {B : Nat} {l : List UInt8} (h : HoldB w B l) (b : Bel w w') : HoldB w' B l := fun i hi => ⟨b.keep (h i hi).1, b.free (h i hi).1 (h i hi).2⟩
theorem HoldB.drew {w : World} {B : Nat} {l : List UInt8} (h : HoldB w B l) : HoldB w.drew B l := h
theorem HoldB.set {w : World} {B : Nat} {l : List UInt8} (h : HoldB w B l) (i : Nat) (hi : i < l.length) (v : UInt8) (n : Int) (hn : n = ((v.toNat : Nat) : Int)) : HoldB (w.setCell ⟨B, i, none⟩ (.int .u8 n)) B (l.set i v) := by
  subst hn
  intro j hj
  have hj' : j < l.length := by simpa using hj
  refine ⟨?_, by rw [World.frozen?_setCell]; exact (h j hj').2⟩
  by_cases e : i = j
  · subst e
    rw [World.cell?_setCell_same (h := (h i hi).1)]
    simp [List.getD_eq_getElem?_getD, hi]
  · rw [World.cell?_setCell_other (h := by intro k; injection k with _ k2 _; exact e k2), (h j hj').1]
    simp [List.getD_eq_getElem?_getD, List.getElem?_set_ne e]
theorem HoldB.str {w : World} {B : Nat} {l : List UInt8} (h : HoldB w B l) (cap n : Nat) (hn : n = l.length) :
    (convert 38 9 (.slice (some ⟨B, 0, none⟩) n cap)).run Try.prog w = .ok (.string ⟨l.toArray⟩) w := by
  subst hn
  exact run_convert_bytes_back (P := Try.prog) w 38 9 5 ⟨B, 0, none⟩ cap l Try.underlying38 Try.underlying5 Try.underlying9 (fun j hj => by
    have hplain : (⟨B, 0, none⟩ : Addr).add j = ⟨B, j, none⟩ := by unfold Addr.add; split <;> simp_all
    rw [hplain, (h j hj).1, List.getD_eq_getElem?_getD, List.getElem?_eq_getElem hj]
    rfl)
/-- What '[]byte(s)' lays. -/
theorem holdB_bytes (s : ByteArray) (w : World) (cap : Nat) (t : TypeId) : HoldB (w.alloc (.cells (bytesRow s cap) t ((bytesRow s cap).size, (bytesRow s cap).size + 1))) w.heap.size s.data.toList := by
  intro i hi
  have hi' : i < s.data.size := by simpa using hi
  refine ⟨?_, ?_⟩
  · rw [World.cell?_alloc_mark, bytesRow_at s cap i hi']
    simp only [List.getD_eq_getElem?_getD, Array.getElem?_toList, Array.getElem?_eq_getElem hi', Option.getD_some]
  · rw [World.frozen?_alloc_mark]
    have : i < (bytesRow s cap).size := by
      have := bytesRow_at s cap i hi'
      exact (Array.getElem?_eq_some_iff.1 this).1
    simp; omega

/-- A text of zeros. -/
def zeros (n : Nat) : ByteArray := ⟨(List.replicate n 0).toArray⟩
theorem zeros_list (n : Nat) : (zeros n).data.toList = List.replicate n 0 := by simp [zeros]
theorem zeros_size (n : Nat) : (zeros n).size = n := by rw [size_len _ _ (zeros_list n), List.length_replicate]
theorem zeros_conv (w w' : World) (N : Nat) (e : ∀ a, w'.cell? a = (w.alloc (.cells (madeCells #[.int .u8 0] N) 5)).cell? a) :
    (convert 38 9 (.slice (some ⟨w.heap.size, 0, none⟩) N N)).run Try.prog w' = .ok (.string (zeros N)) w' := by
  have r := World.rowIs_made w (.int .u8 0) N 5
  have := run_convert_bytes_back (P := Try.prog) w' 38 9 5 ⟨w.heap.size, 0, none⟩ N (List.replicate N 0) Try.underlying38 Try.underlying5 Try.underlying9 (fun j hj => by
    rw [Addr.add_lit, Nat.zero_add, e, r.cell (by simpa using hj)]
    simp)
  rw [List.length_replicate] at this
  exact this
theorem cat_list (s t : ByteArray) : (s ++ t).data.toList = s.data.toList ++ t.data.toList := by simp

end Go.Proofs.Ytabmhoiaeeneiaa.Chk
