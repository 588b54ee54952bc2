/-
  Put, of whatever row; a row that is copied by append. Condition: the package's table is laid as its text lays it.
-/
import Derived.Test.YtocnlefpbcnlmaaDoorPk16
namespace Go.Proofs.YtocnlefpbcnlmaaDoor.Res
open Go.RowKit Go.Sort Go.Proofs.YtocnlefpbcnlmaaDoor.Mod Go.Proofs.YtocnlefpbcnlmaaDoor.Ints
set_option linter.unusedVariables false
set_option linter.unusedSimpArgs false

/-- May these be told? -/
def okB (rs : List Int) : Bool := decide (rs.length ≤ 256) && rs.all fun x => decide (-16777216 ≤ x ∧ x ≤ 16777216)
theorem okB_iff (rs : List Int) : okB rs = true ↔ rs.length ≤ 256 ∧ AllFit rs := by
  unfold okB
  rw [Bool.and_eq_true, decide_eq_true_eq, List.all_eq_true]
  exact ⟨fun h => ⟨h.1, all_of fun x hx => of_decide_eq_true (p := -16777216 ≤ x ∧ x ≤ 16777216) (h.2 x hx)⟩, fun h => ⟨h.1, fun x hx => decide_eq_true (p := -16777216 ≤ x ∧ x ≤ 16777216) (fits_of h.2 x hx)⟩⟩
def putS (rs : List Int) : ByteArray := if okB rs then told rs else ⟨#[]⟩
def putE (rs : List Int) : Int := if okB rs then 0 else 1300

theorem put_is (ao : Option Addr) (rs : List Int) (n cap : Nat) (hn : n = rs.length) (hx : n ≤ maxLen) (w : World) (T : Str.Tab w) (hA : Slc w ao rs) :
    Calls Tryd.prog 8 #[.slice ao n cap] w fun e w' => e = .returned (.tuple #[.string (putS rs), .int .i64 (putE rs)]) ∧ Bel w w' := by
  unfold putS putE
  cases h : okB rs
  · exact (put_no ao rs n cap hn hx (fun q => by rw [(okB_iff rs).2 (hn ▸ q)] at h; cases h) w hA).mono fun _ _ k => ⟨k.1, k.2 ▸ Bel.refl _⟩
  · obtain ⟨h1, h2⟩ := (okB_iff rs).1 h
    exact put_yes ao rs n cap hn (hn ▸ h1) h2 w T hA

theorem okB_snoc (rs : List Int) (x : Int) : okB (rs ++ [x]) = (decide (rs.length < 256) && (okB rs && decide (-16777216 ≤ x ∧ x ≤ 16777216))) := by
  unfold okB
  rw [List.length_append, List.all_append]
  simp only [List.length_cons, List.length_nil, List.all_cons, List.all_nil, Bool.and_true]
  by_cases h : rs.length < 256
  · rw [decide_eq_true h, decide_eq_true (by omega : rs.length ≤ 256), decide_eq_true (by omega : rs.length + (0 + 1) ≤ 256)]
    simp
  · rw [decide_eq_false h, decide_eq_false (by omega : ¬ rs.length + (0 + 1) ≤ 256)]
    simp

/-- What a call owns is new to what was there ahead of it. -/
theorem bel_then {a b c : World} (h : Bel a b) (k : Below a.heap.size b c) : Bel a c := Below.trans h k

/-- A row is copied. -/
theorem wpl_copy {ops : Array Oper} {rest : List Oper} {o : Oper} {a : Act} {Q : Exit → Act → World → Prop} (w : World) (hgd : o.guard = none) (s x : Operand)
    (ho : o.op = .call { callee := .builtin .append, args := #[s, x], argTypes := #[22, 22] }) (ao : Option Addr) (L : List Int) (n cap : Nat)
    (hs : a.eval s = .slice (some ⟨w.heap.size, 0, none⟩) 0 0) (hx : a.eval x = .slice ao n cap) (hn : n = L.length) (h8 : n * 8 ≤ 140737488351232) (hnil : ao = none → cap = 0) (hA : Slc w ao L)
    (k : ∀ v w1, w1.ownsRow w.heap.size 3 1 v n (vals L) → Bel w w1 → wpList Tryd.prog ops Q rest (a.put o.dst v) w1) :
    wpList Tryd.prog ops Q (o :: rest) a (w.alloc (.cells #[] 3)) := by
  obtain ⟨i0, hi, hz0, hz1, hz2⟩ := info_parts Ints.info_int
  have hown : (w.alloc (.cells #[] 3)).ownsRow w.heap.size 3 1 (.slice (some ⟨w.heap.size, 0, none⟩) 0 0) 0 (vals []) := World.ownsRow_made w #[] 0 (Nat.le_refl _) (by unfold maxLen; omega) (by simp)
  cases ao with
  | none =>
    obtain rfl := hnil rfl
    have h0 : n = 0 := by
      rcases Nat.eq_zero_or_pos n with h | h
      · exact h
      · obtain ⟨x, hx, _⟩ := hA 0 (by omega)
        cases hx
    subst h0
    obtain rfl : L = [] := List.eq_nil_of_length_eq_zero hn.symm
    exact wpList_append_own_none hgd s x 22 ho w.heap.size 3 i0 1 Tryd.underlying22 hi _ 0 _ hs hown hx (k _ _ hown ((Bel.refl _).alloc _))
  | some y =>
    refine wpList_append_own _ hgd s x 22 ho w.heap.size 3 i0 (.int .i64 0) 1 8 Tryd.underlying22 hi hz0 hz1 hz2 rfl (by decide) _ 0 _ hs hown y n cap (vals L) hx (by rw [vals_length, hn, Nat.mul_one]) ?_ (ints_oneCell _ _) (by unfold maxLen; omega) (by omega) (by simp) ?_
    · intro j u hu
      have hj : j < L.length := by have := (List.getElem?_eq_some_iff.1 hu).1; rwa [vals_length] at this
      rw [vals_get L j hj] at hu
      obtain ⟨z, hz, hc⟩ := hA j hj
      cases hz
      rw [((Bel.refl w).alloc _).keep hc, hu]
    · intro v' w1 ho1 hg _
      exact k v' w1 (by simpa [vals] using ho1) (Below.grown ((Bel.refl w).alloc _) hg (by simp) (fun k hk => by simp [Value.ownBlock] at hk; omega))

/-- One more is appended. -/
theorem wpl_more {ops : Array Oper} {rest : List Oper} {o : Oper} {a : Act} {Q : Exit → Act → World → Prop} (w : World) (hgd : o.guard = none) (s x : Operand)
    (ho : o.op = .call { callee := .builtin .append, args := #[s, x], argTypes := #[22, 22] }) (B n : Nat) (hB : B ≤ w.heap.size) (v : Value) (L : List Int) (y : Int) (hs : a.eval s = v) (hx : a.eval x = .slice (some ⟨w.heap.size, 0, none⟩) 1 1)
    (hown : w.ownsRow B 3 1 v n (vals L)) (h8 : n * 8 ≤ 140737488351232)
    (k : ∀ v' w1, w1.ownsRow B 3 1 v' (n + 1) (vals (L ++ [y])) → Below B w w1 → wpList Tryd.prog ops Q rest (a.put o.dst v') w1) :
    wpList Tryd.prog ops Q (o :: rest) a (w.alloc (.cells #[.int .i64 y] 3)) := by
  obtain ⟨i0, hi, hz0, hz1, hz2⟩ := info_parts Ints.info_int
  refine wpList_append_own _ hgd s x 22 ho B 3 i0 (.int .i64 0) 1 8 Tryd.underlying22 hi hz0 hz1 hz2 rfl (by decide) _ n _ hs (hown.alloc _) ⟨w.heap.size, 0, none⟩ 1 1 (vals [y]) hx rfl (one_cell _ _) (ints_oneCell _ _) (by unfold maxLen; omega) (by omega) (by simp; omega) ?_
  intro v' w1 ho1 hg _
  exact k v' w1 (by rw [vals_append]; exact ho1) (Below.grown (Below.alloc (Below.refl _ _) hB _) hg (by simp; omega) (fun k hk => (hown.lt k hk).1))

end Go.Proofs.YtocnlefpbcnlmaaDoor.Res
