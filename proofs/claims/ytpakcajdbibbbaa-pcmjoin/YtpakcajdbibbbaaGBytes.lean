/-
  Bytes: a byte of a text by its place; a row of bytes that a call appends to, and the text that it is. No condition.
-/
import Derived.Test.YtpakcajdbibbbaaGExc
import Derived.Test.YtpakcajdbibbbaaRows
import Derived.ProofKit
import Derived.OwnWalk
import Derived.Lib.UnsafeStr
import Derived.Lib.EndianBits
import Derived.Laws.IdiomStrings
import Derived.Laws.BytesArg
namespace Go.Proofs.Ytpakcajdbibbbaa.Byt
open Go.RowKit Go.Sort Go.Proofs.Ytpakcajdbibbbaa.Mod
set_option linter.unusedVariables false
set_option linter.unusedSimpArgs false

theorem idx (s : ByteArray) (L : List UInt8) (hs : s.data.toList = L) (k : Nat) (h : k < L.length) (w : World) :
    (Instr.index 9 (.string s) (.int .i64 (k : Int))).run Try.prog w = .ok (.int .u8 (((L.getD k 0).toNat : Nat) : Int)) w := by
  subst hs
  have hz : s.data.toList.length = s.size := rfl
  rw [run_index_string (P := Try.prog) w 9 s .i64 (k : Int) Try.underlying9]
  have hb : 0 ≤ (k : Int) ∧ (k : Int) < s.size := by omega
  rw [dif_pos hb, List.getD_eq_getElem?_getD, List.getElem?_eq_getElem h]
  rfl

theorem wraps_u16 (n : Int) (h0 : 0 ≤ n) (h1 : n < 2 ^ 16) : IntKind.u16.wrap n = n := by
  simp only [IntKind.wrap, IntKind.bits, IntKind.signed]
  simp
  omega
/-- Two bytes joined. -/
theorem or_u16 (x y : Int) (hx0 : 0 ≤ x) (hx : x < 256) (hy0 : 0 ≤ y) (hy : y < 256) : bits .or .u16 x (y * 256) = x + 256 * y := by
  rw [Go.bits_join_low .u16 16 (by decide) wraps_u16 8 x (y * 256) hx0 (by omega) (by omega) (by omega) (by omega) (by omega)]
  omega

/-- .. and read as an int16. -/
theorem i16_join (x y : Int) (hx0 : 0 ≤ x) (hx : x < 256) (hy0 : 0 ≤ y) (hy : y < 256) : wrap64 (IntKind.i16.wrap (bits .or .u16 x (y * 256))) = if 32768 ≤ x + 256 * y then x + 256 * y - 65536 else x + 256 * y := by
  rw [or_u16 x y hx0 hx hy0 hy]
  have e : IntKind.i16.wrap (x + 256 * y) = if 32768 ≤ x + 256 * y then x + 256 * y - 65536 else x + 256 * y := by
    simp only [IntKind.wrap, IntKind.bits, IntKind.signed]
    simp
    split <;> split <;> omega
  rw [e]
  split <;> (unfold wrap64; omega)

theorem info_byte : (Try.prog.info? 5).map (fun i => (i.zero, i.size, i.bytes)) = some (some (.int .u8 0), 1, 1) := by kernel_rfl

theorem one_byte (w : World) (x : Int) : ∀ j u, [Value.int .u8 x][j]? = some u → (w.alloc (.cells #[.int .u8 x] 5)).cell? ((⟨w.heap.size, 0, none⟩ : Addr).add j) = some u := fun j u hu => by
  have hj : j < [Value.int .u8 x].length := (List.getElem?_eq_some_iff.1 hu).1
  obtain rfl : j = 0 := by simp at hj; omega
  rw [Addr.add_lit, Nat.zero_add]
  have := cell_of_row (w.alloc (.cells #[.int .u8 x] 5)) w.heap.size 0 _ 5 (0, 0) (heap_alloc_new w _)
  rw [this]
  simpa using hu

/-- One more byte is appended. -/
theorem wpl_byte {ops : Array Oper} {rest : List Oper} {o : Oper} {a : Act} {Q : Exit → Act → World → Prop} (w : World) (hgd : o.guard = none) (s x : Operand)
    (ho : o.op = .call { callee := .builtin .append, args := #[s, x], argTypes := #[43, 43] }) (B n : Nat) (hB : B ≤ w.heap.size) (v : Value) (l : List UInt8) (y : Int) (z : UInt8) (hz : ((z.toNat : Nat) : Int) = y) (hs : a.eval s = v) (hx : a.eval x = .slice (some ⟨w.heap.size, 0, none⟩) 1 1)
    (hown : w.ownsRow B 5 1 v n (Lib.byteCells l)) (h8 : n ≤ 140737488351232)
    (k : ∀ v' w1, w1.ownsRow B 5 1 v' (n + 1) (Lib.byteCells (l ++ [z])) → Below B w w1 → wpList Try.prog ops Q rest (a.put o.dst v') w1) :
    wpList Try.prog ops Q (o :: rest) a (w.alloc (.cells #[.int .u8 y] 5)) := by
  obtain ⟨i0, hi, hz0, hz1, hz2⟩ := info_parts info_byte
  refine wpList_append_own _ hgd s x 43 ho B 5 i0 (.int .u8 0) 1 1 Try.underlying43 hi hz0 hz1 hz2 rfl (by decide) _ n _ hs (hown.alloc _) ⟨w.heap.size, 0, none⟩ 1 1 [.int .u8 y] hx rfl (one_byte _ _) (fun u hu => by rw [List.mem_singleton.1 hu]; rfl) (by unfold maxLen; omega) (by omega) (by simp; omega) ?_
  intro v' w1 ho1 hg _
  refine k v' w1 ?_ (Below.grown (Below.alloc (Below.refl _ _) hB _) hg (by simp; omega) (fun k hk => (hown.lt k hk).1))
  rw [Lib.byteCells_append]
  have e : Lib.byteCells [z] = [Value.int .u8 y] := by rw [← hz]; rfl
  rw [e]
  exact ho1

/-- The text of owned bytes. -/
theorem own_str {w : World} {B n : Nat} {v : Value} {l : List UInt8} (h : w.ownsRow B 5 1 v n (Lib.byteCells l)) :
    (convert 43 9 v).run Try.prog w = .ok (.string ⟨l.toArray⟩) w := by
  have hl : n = l.length := by have := h.1; rw [Lib.byteCells_length] at this; omega
  rcases h.2 with ⟨rfl, h0⟩ | ⟨g, cap, cur, rfl, hb, hg, hc, hm, hs, ht⟩
  · obtain rfl : l = [] := List.eq_nil_of_length_eq_zero (by omega)
    exact run_convert_bytes_nil w 43 5 Try.underlying43 Try.underlying5 0 0 9 Try.underlying9
  · subst hl
    refine run_convert_bytes_back (P := Try.prog) w 43 9 5 ⟨g, 0, none⟩ cap l Try.underlying43 Try.underlying5 Try.underlying9 (fun j hj => ?_)
    rw [Addr.add_lit, Nat.zero_add, h.cellAt j (by omega)]
    simp [Lib.byteCells, hj]

theorem owns_bel {w w' : World} {base n : Nat} {v : Value} {xs : List Value} (h : w.ownsRow base 5 1 v n xs) (b : Bel w w') : w'.ownsRow base 5 1 v n xs := by
  refine ⟨h.1, ?_⟩
  rcases h.2 with r | ⟨g, cap, cur, e1, e2, e3, e4⟩
  · exact .inl r
  · exact .inr ⟨g, cap, cur, e1, e2, by rw [b.block g (Array.getElem?_eq_some_iff.1 e3).1]; exact e3, e4⟩

end Go.Proofs.Ytpakcajdbibbbaa.Byt
