/-
  The contract of the statements' own CopyLists. Conditions: the rows are there, within the reach.
-/
import Derived.Test.YtpakcajdbibbbaaGAppL
namespace Go.Proofs.Ytpakcajdbibbbaa.Ints
open Go.RowKit Go.Proofs.Ytpakcajdbibbbaa.Mod
set_option linter.unusedVariables false

theorem oneCell_slice (ao : Option Addr) (n c : Nat) : (Value.slice ao n c).oneCell' = true := rfl
theorem snoc_take (L : List (List Int)) (j : Nat) (h : j < L.length) : L.take j ++ [L.getD j []] = L.take (j + 1) := by
  rw [List.getD_eq_getElem?_getD, List.getElem?_eq_getElem h]
  simp

set_option maxHeartbeats 1000000 in
theorem copyL_ok (ao : Option Addr) (L : List (List Int)) (n cap : Nat) (hn : n = L.length) (h24 : n * 24 ≤ 140737488351232) (w : World) (hA : Lls w ao L) :
    Calls Try.prog 7 #[.slice ao n cap] w fun e w' => ∃ v us, e = .returned v ∧ OwnsL w' w.heap.size v us L ∧ Bel w w' := by
  have HA : Hid (Lls w ao L) := hA
  have HN : Hid (n = L.length) := hn
  clear hA hn
  go_enter Try.func7, Try.ntmps7
  go_wp2
  go_loopw [3, 4] (fun o i wr => ∃ (v : Value) (j : Nat), v = o ∧ j ≤ n ∧ i = .int .i64 j ∧ Hid (∃ us, OwnsL wr w.heap.size v us (L.take j)) ∧ Hid (Bel w wr)) (fun _ i _ => n - (intOf i).toNat)
  case atStart => exact ⟨_, 0, rfl, Nat.zero_le _, rfl, ⟨[], ownsL_none _ _⟩, Bel.refl _⟩
  case round =>
    obtain ⟨o, j, rfl, hj, rfl, ho, hb⟩ := hrel
    by_cases hlt : j < n
    · obtain ⟨x, rfl, b1, c1, h1, s1, z1, t1⟩ := HA.out j (HN.out ▸ hlt)
      have hd : decide ((j : Int) < (n : Int)) = true := decide_eq_true (by omega)
      have f1 : ∀ o, (wr.alloc o).cell? (x.add j) = some (.slice b1 (L.getD j []).length c1) := fun o => (hb.out.alloc o).keep h1
      have T1 : Hid (Slc wr b1 (L.getD j [])) := t1.bel hb.out
      have S1 : Hid ((L.getD j []).length * 8 ≤ 140737488351232 ∧ (b1 = none → c1 = 0)) := ⟨s1, z1⟩
      clear h1 t1 s1 z1
      obtain ⟨l1, hl1⟩ : ∃ l1, (L.getD j []).length = l1 := ⟨_, rfl⟩
      rw [hl1] at f1 S1
      have L1 : Hid (l1 = (L.getD j []).length) := hl1.symm
      clear hl1
      go_wp2_with (at_builtin; refine wpl_copy wr rfl (.tmp 12) (.tmp 16) rfl b1 (L.getD j []) l1 c1 rfl rfl L1.out S1.out.1 S1.out.2 T1.out ?_)
      intro y w1 hy hby
      obtain ⟨yo, yc, rfl, -⟩ := owns_slc hy
      have HY : Hid (w1.ownsRow wr.heap.size 3 1 (.slice yo l1 yc) l1 (vals (L.getD j []))) := hy
      have BY : Hid (Bel wr w1) := hby
      clear hy hby f1
      obtain ⟨us, hus⟩ := ho.out
      have HU : Hid (OwnsL w1 w.heap.size o us (L.take j)) := hus.bel BY.out
      have HT : Hid (j = (L.take j).length) := (by simp; have := HN.out; omega : j = (L.take j).length)
      have H24 : Hid (j * 24 ≤ 140737488351232 ∧ w.heap.size ≤ w1.heap.size) := ⟨by omega, by have := BY.out.size; have := hb.out.size; omega⟩
      have HO : Hid (w1.ownsRow w.heap.size 44 1 o j us) := (by have := HU.out.1; rwa [← HT.out] at this)
      clear hus
      go_wp2_with (at_builtin; refine wpl_moreL w1 rfl (.tmp 18) (.tmp 20) rfl w.heap.size j H24.out.2 o us (.slice yo l1 yc) rfl rfl rfl HO.out H24.out.1 ?_)
      intro v' w2 hv he
      have HV : Hid (OwnsL w2 w.heap.size v' (us ++ [.slice yo l1 yc]) (L.take (j + 1))) := by
        have := HU.out.more (y := .slice yo l1 yc) (L := L.getD j []) (v' := v') (w' := w2) (by rw [← L1.out]; exact owns_up HY.out hb.out.size) (by rw [← L1.out]; exact S1.out.1) (by rw [← HT.out]; exact hv) he
        rwa [snoc_take L j (HN.out ▸ hlt)] at this
      have B2 : Hid (Bel w w2) := he.from (hb.out.trans BY.out) (fun i hi => (own_oldL HO.out hi).1)
      clear hv he
      go_wp2
      go_roundw
      case rel => exact ⟨_, j + 1, rfl, by omega, by go_num, ⟨_, HV.out⟩, B2⟩
      case measure => simp [intOf]; omega
    · obtain rfl : j = n := by omega
      have hd : decide ((j : Int) < (j : Int)) = false := decide_eq_false (by omega)
      obtain ⟨us, hus⟩ := ho.out
      have HU : Hid (OwnsL wr w.heap.size o us L) := (by rwa [HN.out, List.take_length] at hus)
      clear hus
      go_wp2
      go_ret
      exact ⟨_, us, rfl, HU.out, hb.out⟩

end Go.Proofs.Ytpakcajdbibbbaa.Ints
