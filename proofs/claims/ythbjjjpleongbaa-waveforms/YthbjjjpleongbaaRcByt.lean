/-
  Bytes in memory, that may be written; a text of zeros; a byte turned. No condition.
-/
import Derived.Test.YthbjjjpleongbaaRcSmall
import Derived.Test.YthbjjjpleongbaaGBytes
import Derived.Laws.BitsAllLaws
import Derived.Deep.OwnRows
namespace Go.Proofs.Ythbjjjpleongbaa.Chk
open Go.RowKit Go.Sort Go.Proofs.Ythbjjjpleongbaa.Mod Go.Proofs.Ythbjjjpleongbaa.Num
set_option linter.unusedVariables false
set_option linter.unusedSimpArgs false

/-- A byte turned by a number from 1 to 64 is another one. -/
theorem xor_other (c : UInt8) (e : Nat) (h0 : 1 ≤ e) (h1 : e < 256) : c ^^^ UInt8.ofNat e ≠ c := fun h => by
  have h2 : UInt8.ofNat e = 0 := by
    have := congrArg (fun z => c ^^^ z) h
    simp only [← UInt8.xor_assoc, UInt8.xor_self, UInt8.zero_xor] at this
    exact this
  have := congrArg UInt8.toNat h2
  rw [UInt8.toNat_ofNat', Nat.mod_eq_of_lt h1] at this
  have h3 : (0 : UInt8).toNat = 0 := rfl
  omega
theorem turned_byte (v : Nat) (g : UInt8) (hv : v = g.toNat) (q : Int) (e : Nat) (he : q = (e : Int)) (he2 : e < 256) : bits .xor .u8 (v : Int) q = (((g ^^^ UInt8.ofNat e).toNat : Nat) : Int) := by
  subst hv he
  rw [u8_xor_nat _ _ g.toNat_lt he2, UInt8.toNat_xor, UInt8.toNat_ofNat', Nat.mod_eq_of_lt he2]

/-- The block B holds the bytes l, from its first cell on, and none of their cells is frozen. -/
def HoldB (w : World) (B : Nat) (l : List UInt8) : Prop :=
  ∀ i, i < l.length → w.cell? ⟨B, i, none⟩ = some (.int .u8 (((l.getD i 0).toNat : Nat) : Int)) ∧ w.frozen? ⟨B, i, none⟩ = false
theorem HoldB.bel {w w' : World} {B : Nat} {l : List UInt8} (h : HoldB w B l) (b : Bel w w') : HoldB w' B l := fun i hi => ⟨b.keep (h i hi).1, b.free (h i hi).1 (h i hi).2⟩
theorem HoldB.drew {w : World} {B : Nat} {l : List UInt8} (h : HoldB w B l) : HoldB w.drew B l := h
theorem HoldB.set {w : World} {B : Nat} {l : List UInt8} (h : HoldB w B l) (i : Nat) (hi : i < l.length) (v : UInt8) (n : Int) (hn : n = ((v.toNat : Nat) : Int)) : HoldB (w.setCell ⟨B, i, none⟩ (.int .u8 n)) B (l.set i v) := by
  subst hn
  intro j hj
  have hj' : j < l.length := by simpa using hj
  refine ⟨?_, by rw [World.frozen?_setCell]; exact (h j hj').2⟩
  by_cases e : i = j
  · subst e
    rw [World.cell?_setCell_same (h := (h i hi).1)]
    simp [List.getD_eq_getElem?_getD, hi]
  · rw [World.cell?_setCell_other (h := by intro k; injection k with _ k2 _; exact e k2), (h j hj').1]
    simp [List.getD_eq_getElem?_getD, List.getElem?_set_ne e]
theorem HoldB.str {w : World} {B : Nat} {l : List UInt8} (h : HoldB w B l) (cap n : Nat) (hn : n = l.length) :
    (convert 39 9 (.slice (some ⟨B, 0, none⟩) n cap)).run Try.prog w = .ok (.string ⟨l.toArray⟩) w := by
  subst hn
  exact run_convert_bytes_back (P := Try.prog) w 39 9 5 ⟨B, 0, none⟩ cap l Try.underlying39 Try.underlying5 Try.underlying9 (fun j hj => by
    have hplain : (⟨B, 0, none⟩ : Addr).add j = ⟨B, j, none⟩ := by unfold Addr.add; split <;> simp_all
    rw [hplain, (h j hj).1, List.getD_eq_getElem?_getD, List.getElem?_eq_getElem hj]
    rfl)
/-- What '[]byte(s)' lays. -/
theorem holdB_bytes (s : ByteArray) (w : World) (cap : Nat) (t : TypeId) : HoldB (w.alloc (.cells (bytesRow s cap) t ((bytesRow s cap).size, (bytesRow s cap).size + 1))) w.heap.size s.data.toList := by
  intro i hi
  have hi' : i < s.data.size := by simpa using hi
  refine ⟨?_, ?_⟩
  · rw [World.cell?_alloc_mark, bytesRow_at s cap i hi']
    simp only [List.getD_eq_getElem?_getD, Array.getElem?_toList, Array.getElem?_eq_getElem hi', Option.getD_some]
  · rw [World.frozen?_alloc_mark]
    have : i < (bytesRow s cap).size := by
      have := bytesRow_at s cap i hi'
      exact (Array.getElem?_eq_some_iff.1 this).1
    simp; omega

/-- A text of zeros. -/
def zeros (n : Nat) : ByteArray := ⟨(List.replicate n 0).toArray⟩
theorem zeros_list (n : Nat) : (zeros n).data.toList = List.replicate n 0 := by simp [zeros]
theorem zeros_size (n : Nat) : (zeros n).size = n := by rw [size_len _ _ (zeros_list n), List.length_replicate]
theorem zeros_conv (w w' : World) (N : Nat) (e : ∀ a, w'.cell? a = (w.alloc (.cells (madeCells #[.int .u8 0] N) 5)).cell? a) :
    (convert 39 9 (.slice (some ⟨w.heap.size, 0, none⟩) N N)).run Try.prog w' = .ok (.string (zeros N)) w' := by
  have r := World.rowIs_made w (.int .u8 0) N 5
  have := run_convert_bytes_back (P := Try.prog) w' 39 9 5 ⟨w.heap.size, 0, none⟩ N (List.replicate N 0) Try.underlying39 Try.underlying5 Try.underlying9 (fun j hj => by
    rw [Addr.add_lit, Nat.zero_add, e, r.cell (by simpa using hj)]
    simp)
  rw [List.length_replicate] at this
  exact this
theorem cat_list (s t : ByteArray) : (s ++ t).data.toList = s.data.toList ++ t.data.toList := by simp

end Go.Proofs.Ythbjjjpleongbaa.Chk
