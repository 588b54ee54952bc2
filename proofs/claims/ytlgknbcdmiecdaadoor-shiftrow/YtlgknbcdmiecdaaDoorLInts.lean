/-
  The contracts of the statements' own functions on rows of ints: SameInts, CopyInts, LendInts, KeptInts. Conditions: the rows are there; a copied one is within the reach.
-/
import Derived.Test.YtlgknbcdmiecdaaDoorGRow
import Derived.Test.YtlgknbcdmiecdaaDoorNum
import Derived.Test.YtlgknbcdmiecdaaDoorRows
import Derived.ProofKit
import Derived.Deep.QuietTactic
import Derived.BigQuiet
import Derived.RegionTactic
namespace Go.Proofs.YtlgknbcdmiecdaaDoor.Ints
open Go.RowKit Go.Proofs.YtlgknbcdmiecdaaDoor.Mod
set_option linter.unusedVariables false

theorem eq_of_getD {L M : List Int} (hl : L.length = M.length) (h : ∀ k, k < L.length → L.getD k 0 = M.getD k 0) : L = M := by
  refine List.ext_getElem hl fun k a b => ?_
  have := h k a
  rwa [List.getD_eq_getElem?_getD, List.getD_eq_getElem?_getD, List.getElem?_eq_getElem a, List.getElem?_eq_getElem b] at this

set_option maxHeartbeats 1000000 in
theorem same_ok (ao bo : Option Addr) (L M : List Int) (n m ca cb : Nat) (hn : n = L.length) (hm : m = M.length) (hx : n ≤ maxLen) (hy : m ≤ maxLen) (w : World) (hA : Slc w ao L) (hB : Slc w bo M) :
    Calls Tryd.prog 17 #[.slice ao n ca, .slice bo m cb] w fun e w' => e = .returned (.bool (decide (L = M))) ∧ ∃ q, w' = w.drewN q := by
  unfold maxLen at hx hy
  by_cases hnm : n = m
  · subst hnm
    have HA : Hid (Slc w ao L) := hA
    have HB : Hid (Slc w bo M) := hB
    have HN : Hid (n = L.length) := hn
    have HM : Hid (n = M.length) := hm
    clear hA hB hn hm
    obtain ⟨r, hr⟩ : ∃ r, decide (L = M) = r := ⟨_, rfl⟩
    rw [hr]
    have HR : Hid (decide (L = M) = r) := hr
    clear hr
    go_enter Tryd.func17, Tryd.ntmps17
    go_wp2
    go_loopw [5] (fun i wr => ∃ j q : Nat, j ≤ n ∧ i = .int .i64 j ∧ wr = w.drewN q ∧ Hid (∀ k, k < j → L.getD k 0 = M.getD k 0)) (fun i _ => n - (intOf i).toNat)
    case atStart => exact ⟨0, 0, Nat.zero_le _, rfl, rfl, fun k hk => by omega⟩
    case round =>
      obtain ⟨j, q, hj, rfl, rfl, hh⟩ := hrel
      by_cases hlt : j < n
      · obtain ⟨x, rfl, hc⟩ := HA.out j (HN.out ▸ hlt)
        obtain ⟨y, rfl, hd⟩ := HB.out j (HM.out ▸ hlt)
        by_cases he : L.getD j 0 = M.getD j 0
        · have hh2 : Hid (∀ k, k < j + 1 → L.getD k 0 = M.getD k 0) := fun k hk => by
            rcases Nat.lt_or_ge k j with h | h
            · exact hh.out k h
            · obtain rfl : k = j := by omega
              exact he
          rw [← he] at hd
          clear he hh
          generalize L.getD j 0 = p at *
          have hb : (p != p) = false := by simp
          go_wp2
          go_quiet (fail)
          go_wp2
          go_roundw
          case rel => exact ⟨j + 1, _, by omega, by go_num, by first | rfl | (simp; rfl), hh2⟩
          case measure => simp [intOf]; omega
        · obtain rfl : r = false := HR.out.symm.trans (decide_eq_false fun e => he (by rw [e]))
          generalize L.getD j 0 = p at *
          generalize M.getD j 0 = p' at *
          have hb : (p != p') = true := by simpa using he
          go_wp2
          go_quiet (fail)
          go_wp2
          go_ret
          exact ⟨rfl, _, World.drewN_drewN ..⟩
      · obtain rfl : j = n := by omega
        obtain rfl : r = true := HR.out.symm.trans (decide_eq_true (eq_of_getD (HN.out.symm.trans HM.out) (fun k hk => hh.out k (HN.out.symm ▸ hk))))
        go_wp2
        go_ret
        exact ⟨rfl, _, rfl⟩
  · have hne : decide (L = M) = false := decide_eq_false fun e => hnm (by rw [hn, hm, e])
    rw [hne]
    clear hA hB hn hm
    have hb : ((n : Int) != (m : Int)) = true := by simp; omega
    go_enter Tryd.func17, Tryd.ntmps17
    go_wp2
    go_ret
    exact ⟨rfl, 0, rfl⟩

theorem info_int : (Tryd.prog.info? 3).map (fun i => (i.zero, i.size, i.bytes)) = some (some (.int .i64 0), 1, 8) := by kernel_rfl

set_option maxHeartbeats 1000000 in
theorem copy_ok (ao : Option Addr) (L : List Int) (n cap : Nat) (hn : n = L.length) (h8 : n * 8 ≤ 140737488351232) (hnil : ao = none → cap = 0) (w : World) (hA : Slc w ao L) :
    Calls Tryd.prog 21 #[.slice ao n cap] w fun e w' => ∃ v, e = .returned v ∧ w'.ownsRow w.heap.size 3 1 v n (vals L) ∧ Bel w w' := by
  obtain ⟨i0, hi, hz0, hz1, hz2⟩ := info_parts info_int
  have hown : (w.alloc (.cells #[] 3)).ownsRow w.heap.size 3 1 (.slice (some ⟨w.heap.size, 0, none⟩) 0 0) 0 (vals []) := World.ownsRow_made w #[] 0 (Nat.le_refl _) (by unfold maxLen; omega) (by simp)
  have HO : Hid ((w.alloc (.cells #[] 3)).ownsRow w.heap.size 3 1 (.slice (some ⟨w.heap.size, 0, none⟩) 0 0) 0 (vals [])) := hown
  clear hown
  cases ao with
  | none =>
    obtain rfl := hnil rfl
    have h0 : n = 0 := by
      rcases Nat.eq_zero_or_pos n with h | h
      · exact h
      · obtain ⟨x, hx, _⟩ := hA 0 (by omega)
        cases hx
    subst h0
    obtain rfl : L = [] := List.eq_nil_of_length_eq_zero hn.symm
    clear hA hn hnil
    go_enter Tryd.func21, Tryd.ntmps21
    go_wp2_with (at_builtin; refine wpList_append_own_none rfl (.tmp 3) (.tmp 4) 22 rfl w.heap.size 3 i0 1 Tryd.underlying22 hi _ 0 _ rfl HO.out rfl ?_)
    go_ret
    exact ⟨_, rfl, HO.out, (Bel.refl _).alloc _⟩
  | some x =>
    have c1 : Hid ((vals L).length = n * 1) := (by rw [vals_length, hn, Nat.mul_one] : (vals L).length = n * 1)
    have c2 : Hid (∀ j u, (vals L)[j]? = some u → (w.alloc (.cells #[] 3)).cell? (x.add j) = some u) := fun j u hu => by
      have hj : j < L.length := by have := (List.getElem?_eq_some_iff.1 hu).1; rwa [vals_length] at this
      rw [vals_get L j hj] at hu
      obtain ⟨y, hy, hc⟩ := hA j hj
      cases hy
      rw [((Bel.refl w).alloc _).keep hc, hu]
    have c3 : Hid (0 + n ≤ maxLen) := (by unfold maxLen; omega : 0 + n ≤ maxLen)
    have c4 : Hid ((0 + n) * 8 ≤ 140737488355328) := (by omega : (0 + n) * 8 ≤ 140737488355328)
    have c5 : Hid (w.heap.size ≤ (w.alloc (.cells #[] 3)).heap.size) := (by simp : w.heap.size ≤ (w.alloc (.cells #[] 3)).heap.size)
    clear hA hnil hn
    go_enter Tryd.func21, Tryd.ntmps21
    go_wp2_with (at_builtin; refine wpList_append_own _ rfl (.tmp 3) (.tmp 4) 22 rfl w.heap.size 3 i0 (.int .i64 0) 1 8 Tryd.underlying22 hi hz0 hz1 hz2 rfl (by decide) _ 0 _ rfl HO.out x n cap (vals L) rfl c1.out c2.out (ints_oneCell _ _) c3.out c4.out c5.out ?_)
    · intro v' w1 ho hg _
      have b : Bel w w1 := Below.grown ((Bel.refl w).alloc _) hg (by simp) (fun k hk => by simp [Value.ownBlock] at hk; omega)
      have ho2 : w1.ownsRow w.heap.size 3 1 v' n (vals L) := by simpa [vals] using ho
      have H2 : Hid (w1.ownsRow w.heap.size 3 1 v' n (vals L)) := ho2
      clear ho ho2 hg HO
      go_wp2
      go_ret
      exact ⟨_, rfl, H2.out, b⟩

set_option maxHeartbeats 1000000 in
/-- Lent: the row in a new place, with two marks behind it. -/
theorem lend_ok (ao : Option Addr) (L : List Int) (n cap : Nat) (hn : n = L.length) (h8 : n * 8 ≤ 140737488351232) (hnil : ao = none → cap = 0) (w : World) (hA : Slc w ao L) :
    Calls Tryd.prog 9 #[.slice ao n cap] w fun e w' => ∃ g c, e = .returned (.slice (some ⟨g, 0, none⟩) n c) ∧ n + 2 ≤ c ∧ c ≤ maxLen ∧ w.heap.size ≤ g ∧ g < w'.heap.size ∧ Holds w' g (L ++ [-7777, -8888]) ∧ Bel w w' := by
  obtain ⟨i0, hi, hz0, hz1, hz2⟩ := info_parts info_int
  have C := copy_ok ao L n cap hn h8 hnil w hA
  have HN : Hid (n = L.length) := hn
  clear hA hnil hn
  go_enter Tryd.func9, Tryd.ntmps9
  go_wp2_with fail
  refine C.mono ?_
  rintro e w1 ⟨v, rfl, ho, b1⟩
  have HO : Hid (w1.ownsRow w.heap.size 3 1 v n (vals L)) := ho
  have HB : Hid (Bel w w1) := b1
  clear ho b1 C
  have c2 : Hid (∀ j u, (vals [-7777, -8888])[j]? = some u → (w1.alloc (.cells (vals [-7777, -8888]).toArray 3)).cell? ((⟨w1.heap.size, 0, none⟩ : Addr).add j) = some u) := fun j u hu => by
    have hj : j < [(-7777 : Int), -8888].length := by have := (List.getElem?_eq_some_iff.1 hu).1; rwa [vals_length] at this
    rw [vals_get _ j hj] at hu
    rw [Addr.add_lit, Nat.zero_add, ← hu]
    exact (holds_new w1 [-7777, -8888] 3).cell j hj
  have c3 : Hid (n + 2 ≤ maxLen) := (by unfold maxLen; omega : n + 2 ≤ maxLen)
  have c4 : Hid ((n + 2) * 8 ≤ 140737488355328) := (by omega : (n + 2) * 8 ≤ 140737488355328)
  have c5 : Hid (w.heap.size ≤ (w1.alloc (.cells (vals [-7777, -8888]).toArray 3)).heap.size) := (by have := HB.out.size; simp; omega : w.heap.size ≤ (w1.alloc (.cells (vals [-7777, -8888]).toArray 3)).heap.size)
  go_wp2_with (at_builtin; refine wpList_append_own _ rfl (.tmp 5) (.tmp 6) 22 rfl w.heap.size 3 i0 (.int .i64 0) 1 8 Tryd.underlying22 hi hz0 hz1 hz2 rfl (by decide) _ n _ rfl (HO.out.alloc _) ⟨w1.heap.size, 0, none⟩ 2 2 (vals [-7777, -8888]) rfl rfl c2.out (ints_oneCell _ _) c3.out c4.out c5.out ?_)
  · intro v' w2 ho hg _
    have b2 : Bel w w2 := Below.grown (HB.out.alloc _) hg (by have := HB.out.size; simp; omega) (fun k hk => (HO.out.lt k hk).1)
    rw [← vals_append] at ho
    obtain ⟨g, c, rfl, q1, q2, q3, q4, _, hh⟩ := owns_shape ho (by omega)
    have H2 : Hid (Bel w w2) := b2
    have H3 : Hid (Holds w2 g (L ++ [-7777, -8888])) := hh
    clear ho hg HO b2 hh HN
    have q5 : (n : Int) ≤ (c : Int) := by omega
    go_wp2
    go_ret
    exact ⟨g, c, rfl, q3, q4, q1, q2, H3.out, H2.out⟩

theorem holds_front {w : World} {g : Nat} {L M : List Int} (h : Holds w g (L ++ M)) : Holds w g L := by
  have := h.take L.length
  rwa [List.take_left] at this

set_option maxHeartbeats 1000000 in
/-- What was lent is as it was. -/
theorem kept_ok (ao : Option Addr) (L : List Int) (n cap g c : Nat) (hn : n = L.length) (h1 : n + 2 ≤ c) (h2 : c ≤ maxLen) (w : World) (hA : Slc w ao L) (hH : Holds w g (L ++ [-7777, -8888])) :
    Calls Tryd.prog 19 #[.slice (some ⟨g, 0, none⟩) n c, .slice ao n cap] w fun e w' => e = .returned (.bool true) ∧ ∃ q, w' = w.drewN q := by
  have S := same_ok (some ⟨g, 0, none⟩) ao L L n n c cap hn hn (by omega) (by omega) w (holds_front hH).slc hA
  rw [decide_eq_true rfl] at S
  have c1 : w.cell? ⟨g, n, none⟩ = some (.int .i64 (-7777)) := by
    rw [hH.cell n (by simp; omega), hn]
    simp [List.getD_eq_getElem?_getD]
  have c2 : w.cell? ⟨g, n + 1, none⟩ = some (.int .i64 (-8888)) := by
    rw [hH.cell (n + 1) (by simp; omega), hn]
    simp [List.getD_eq_getElem?_getD]
  unfold maxLen at h2
  clear hA hH hn
  go_enter Tryd.func19, Tryd.ntmps19
  go_wp2_with fail
  refine S.mono ?_
  rintro e w1 ⟨rfl, q, rfl⟩
  go_wp2
  go_ret
  exact ⟨rfl, _, rfl⟩

end Go.Proofs.YtlgknbcdmiecdaaDoor.Ints
