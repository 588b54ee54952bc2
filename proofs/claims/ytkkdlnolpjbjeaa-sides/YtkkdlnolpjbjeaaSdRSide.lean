/-
  The contracts of the reference's sided, PutSide and GetSide. Conditions: the rows are there.
-/
import Derived.Test.YtkkdlnolpjbjeaaSdRMay
import Derived.Test.YtkkdlnolpjbjeaaSdBy
import Derived.Test.YtkkdlnolpjbjeaaGCopyL
namespace Go.Proofs.Ytkkdlnolpjbjeaa.Sid
open Go.RowKit Go.Sort Go.Proofs.Ytkkdlnolpjbjeaa.Mod Go.Proofs.Ytkkdlnolpjbjeaa.Lin Go.Proofs.Ytkkdlnolpjbjeaa.Ints
set_option linter.unusedVariables false
set_option linter.unusedSimpArgs false

theorem told_length (s : Int) (Ls : List (List Int)) : (told s Ls).length = Ls.length := by
  match Ls with
  | [] => rfl
  | [A] => rfl
  | [A, B] => rfl
  | A :: B :: C :: r => rfl
theorem told_first (s : Int) (Ls : List (List Int)) : (told s Ls).getD 0 [] = Ls.getD 0 [] := by
  match Ls with
  | [] => rfl
  | [A] => rfl
  | [A, B] => rfl
  | A :: B :: C :: r => rfl

/-- What the reference answers: the error, and rows that it owns. -/
def RTold (w w' : World) (s : Int) (Ls : List (List Int)) (e : Ending) : Prop :=
  ∃ bo k c, e = .returned (.tuple #[.slice bo k c, .int .i64 (errS s Ls)]) ∧ k = (ansS s Ls).length ∧ Lls w' bo (ansS s Ls) ∧ Bel w w'
theorem rtold_no {w : World} {s : Int} {Ls : List (List Int)} (h : okS s Ls = false) {w' : World} (b : Bel w w') : RTold w w' s Ls (.returned (.tuple #[.slice none 0 0, .int .i64 1700])) := by
  obtain ⟨h1, h2⟩ := ansS_no h
  unfold RTold
  rw [h1, h2]
  exact ⟨none, 0, 0, rfl, rfl, lls_nil _ _, b⟩
theorem rtold_yes {w w' : World} {s : Int} {Ls : List (List Int)} (h : okS s Ls = true) {bo : Option Addr} {n c : Nat} (hn : n = (told s Ls).length) (o : Lls w' bo (told s Ls)) (b : Bel w w') :
    RTold w w' s Ls (.returned (.tuple #[.slice bo n c, .int .i64 0])) := by
  obtain ⟨h1, h3⟩ := ansS_yes h
  unfold RTold
  rw [h1, h3]
  exact ⟨_, _, _, rfl, hn, o, b⟩

set_option maxHeartbeats 2000000 in
theorem sided_less (ao : Option Addr) (Ls : List (List Int)) (n cap : Nat) (hn : n = Ls.length) (hx : n ≤ maxLen) (w : World) (hA : Lls w ao Ls) :
    Calls Try.prog 19 #[.slice ao n cap, .int .i64 (-1)] w fun e w' => RTold w w' (-1) Ls e := by
  cases hp : chsMay Ls
  · have M : Hid (Calls Try.prog 23 #[.slice ao n cap] w fun e w' => e = .returned (.bool false) ∧ ∃ q, w' = w.drewN q) := hp ▸ rmay_ok ao Ls n cap hn hx w hA
    have NO : Hid (okS (-1) Ls = false) := (by unfold okS; rw [hp]; rfl : okS (-1) Ls = false)
    clear hp hA hn
    go_enter Try.func19, Try.ntmps19
    go_wp2_with fail
    refine M.out.mono ?_
    rintro e w1 ⟨rfl, q, hw⟩
    have B1 : Hid (Bel w w1) := hw ▸ (Bel.refl _).drewN q
    clear hw
    go_wp2
    go_ret2
    exact rtold_no NO.out B1.out
  have h12 : 1 ≤ n ∧ n ≤ 2 := by rcases chsMay_shape hp with ⟨A, rfl, _⟩ | ⟨A, B, rfl, _⟩ <;> simp at hn <;> omega
  have M : Hid (Calls Try.prog 23 #[.slice ao n cap] w fun e w' => e = .returned (.bool true) ∧ ∃ q, w' = w.drewN q) := hp ▸ rmay_ok ao Ls n cap hn hx w hA
  have HP : Hid (chsMay Ls = true) := hp
  have HA : Hid (Lls w ao Ls) := hA
  have HN : Hid (n = Ls.length) := hn
  obtain ⟨x, rfl, _⟩ := hA 0 (by omega)
  clear hp hA hn
  go_enter Try.func19, Try.ntmps19
  go_wp2_with fail
  refine M.out.mono ?_
  rintro e w1 ⟨rfl, q, hw⟩
  have B1 : Hid (Bel w w1) := hw ▸ (Bel.refl _).drewN q
  clear hw M
  go_wp2
  go_loopw [6, 7] (fun o i wr => ∃ (v : Value) (j : Nat), v = o ∧ j ≤ n ∧ i = .int .i64 (j : Int) ∧ Hid (∃ us, OwnsL wr w.heap.size v us ((told (-1) Ls).take j)) ∧ Hid (Bel w wr)) (fun _ i _ => n - (intOf i).toNat)
  case atStart => exact ⟨_, 0, rfl, Nat.zero_le _, rfl, ⟨[], ownsL_none _ _⟩, B1.out⟩
  case round =>
    obtain ⟨o, j, rfl, hj, rfl, ho, hb⟩ := hrel
    by_cases hlt : j < n
    · obtain ⟨x', hx', b1, c1, p1, s1, z1, t1⟩ := HA.out j (HN.out ▸ hlt)
      cases hx'
      have hd : decide ((j : Int) < (n : Int)) = true := decide_eq_true (by omega)
      have f1 : ∀ o, (wr.alloc o).cell? (x.add j) = some (.slice b1 (Ls.getD j []).length c1) := fun o => (hb.out.alloc o).keep p1
      have T1 : Hid (Slc wr b1 (Ls.getD j [])) := t1.bel hb.out
      have S1 : Hid ((Ls.getD j []).length * 8 ≤ 140737488351232 ∧ (b1 = none → c1 = 0)) := ⟨s1, z1⟩
      clear p1 t1 s1 z1
      obtain ⟨l1, hl1⟩ : ∃ l1, (Ls.getD j []).length = l1 := ⟨_, rfl⟩
      rw [hl1] at f1 S1
      have L1 : Hid (l1 = (Ls.getD j []).length) := hl1.symm
      clear hl1
      go_wp2_with (at_builtin; refine wpl_copy wr rfl (.tmp 19) (.tmp 23) rfl b1 (Ls.getD j []) l1 c1 rfl rfl L1.out S1.out.1 S1.out.2 T1.out ?_)
      intro y w2 hy hby
      obtain ⟨yo, yc, rfl, -⟩ := owns_slc hy
      have HY : Hid (w2.ownsRow wr.heap.size 3 1 (.slice yo l1 yc) l1 (vals (Ls.getD j []))) := hy
      have BY : Hid (Bel wr w2) := hby
      clear hy hby f1
      obtain ⟨us, hus⟩ := ho.out
      have HU : Hid (OwnsL w2 w.heap.size o us ((told (-1) Ls).take j)) := hus.bel BY.out
      have H24a : Hid (j * 24 ≤ 140737488351232 ∧ w.heap.size ≤ w2.heap.size) := ⟨by omega, by have := BY.out.size; have := hb.out.size; omega⟩
      have HD : Hid (∀ k, k < ((told (-1) Ls).take j).length → ∀ i, (us.getD k (.slice none 0 0)).ownBlock = some i → (Value.slice yo l1 yc).ownBlock ≠ some i) := fun k hk i h1 h2 => by
        have := (own_old (hus.2 k hk).1 h1).2
        have := (own_old HY.out h2).1
        omega
      clear hus
      have s8 := S1.out.1
      have hn0 : (0 : Int) < (n : Int) := by omega
      by_cases hj0 : j = 0
      · have hj1 : ((j : Int) == 1) = false := by simp; omega
        have HU2 := HU
        have H24 := H24a
        have BW2 : Hid (Bel w w2) := hb.out.trans BY.out
        have HY2 : Hid (w2.ownsRow w.heap.size 3 1 (.slice yo l1 yc) ((told (-1) Ls).getD j []).length (vals ((told (-1) Ls).getD j [])) ∧ ((told (-1) Ls).getD j []).length * 8 ≤ 140737488351232) := by
          have e : (told (-1) Ls).getD j [] = Ls.getD j [] := by rw [hj0]; exact told_first _ _
          rw [e, ← L1.out]
          exact ⟨owns_up HY.out hb.out.size, S1.out.1⟩
        clear hj0
        rcases Nat.eq_zero_or_pos l1 with h | h
        · have hl0 : decide ((0 : Int) < (l1 : Int)) = false := decide_eq_false (by omega)
          have hl1 : decide (0 < l1) = false := decide_eq_false (by omega)
          have hl2 : ¬ 0 < l1 := by omega
          clear h
          go_wp2
          refine wp_loop_rounds 1 ?_
          rw [rounds_succ]
          have HT : Hid (j = ((told (-1) Ls).take j).length) := (by rw [List.length_take, told_length]; have := HN.out; omega : j = ((told (-1) Ls).take j).length)
          have HO : Hid (w2.ownsRow w.heap.size 34 1 o j us) := (by have := HU2.out.1; rwa [← HT.out] at this)
          go_wp2_with (at_builtin; refine wpl_moreL w2 rfl (.tmp 51) (.tmp 53) rfl w.heap.size j H24.out.2 o us (.slice yo l1 yc) rfl rfl rfl HO.out H24.out.1 ?_)
          intro v' w9 hv he
          have HV : Hid (OwnsL w9 w.heap.size v' (us ++ [.slice yo l1 yc]) ((told (-1) Ls).take (j + 1))) := by
            have := HU2.out.more (y := .slice yo l1 yc) (L := (told (-1) Ls).getD j []) (v' := v') (w' := w9) HY2.out.1 HY2.out.2 (by rw [← HT.out]; exact hv) he
            rwa [snoc_take (told (-1) Ls) j (by rw [told_length]; exact HN.out ▸ hlt)] at this
          have B9 : Hid (Bel w w9) := he.from BW2.out (fun i hi => (own_oldL HO.out hi).1)
          clear hv he
          go_wp2
          go_roundw
          case rel => exact ⟨_, j + 1, rfl, by omega, by go_num, ⟨_, HV.out⟩, B9⟩
          case measure => simp [intOf]; omega
        · have hl0 : decide ((0 : Int) < (l1 : Int)) = true := decide_eq_true (by omega)
          go_wp2
          refine wp_loop_rounds 1 ?_
          rw [rounds_succ]
          have HT : Hid (j = ((told (-1) Ls).take j).length) := (by rw [List.length_take, told_length]; have := HN.out; omega : j = ((told (-1) Ls).take j).length)
          have HO : Hid (w2.ownsRow w.heap.size 34 1 o j us) := (by have := HU2.out.1; rwa [← HT.out] at this)
          go_wp2_with (at_builtin; refine wpl_moreL w2 rfl (.tmp 51) (.tmp 53) rfl w.heap.size j H24.out.2 o us (.slice yo l1 yc) rfl rfl rfl HO.out H24.out.1 ?_)
          intro v' w9 hv he
          have HV : Hid (OwnsL w9 w.heap.size v' (us ++ [.slice yo l1 yc]) ((told (-1) Ls).take (j + 1))) := by
            have := HU2.out.more (y := .slice yo l1 yc) (L := (told (-1) Ls).getD j []) (v' := v') (w' := w9) HY2.out.1 HY2.out.2 (by rw [← HT.out]; exact hv) he
            rwa [snoc_take (told (-1) Ls) j (by rw [told_length]; exact HN.out ▸ hlt)] at this
          have B9 : Hid (Bel w w9) := he.from BW2.out (fun i hi => (own_oldL HO.out hi).1)
          clear hv he
          go_wp2
          go_roundw
          case rel => exact ⟨_, j + 1, rfl, by omega, by go_num, ⟨_, HV.out⟩, B9⟩
          case measure => simp [intOf]; omega
      · have hj1 : ((j : Int) == 1) = true := by simp; omega
        have hj01 : j = 1 := by omega
        obtain ⟨A, B, hLs, rA, hl, rB⟩ : ∃ A B, Ls = [A, B] ∧ okRow A = true ∧ B.length = A.length ∧ okRow B = true := by
          rcases chsMay_shape HP.out with ⟨A, e, _⟩ | h
          · have := HN.out; rw [e] at this; simp at this; omega
          · exact h
        have e0 : Ls.getD 0 [] = A := by rw [hLs]; rfl
        have ej : Ls.getD j [] = B := by rw [hLs, hj01]; rfl
        have HT1 : Hid ((told (-1) Ls).getD j [] = byFirst (-1) A B) := (by rw [hLs, hj01]; rfl : (told (-1) Ls).getD j [] = byFirst (-1) A B)
        have SA := okRow_iff.1 rA
        have SB := okRow_iff.1 rB
        have LB : Hid (l1 = B.length) := L1.out.trans (congrArg List.length ej)
        have LA : Hid (l1 = A.length) := LB.out.trans hl
        have RG : Hid (∀ k, k < l1 → (-131072 ≤ A.getD k 0 ∧ A.getD k 0 ≤ 131072) ∧ (-131072 ≤ B.getD k 0 ∧ B.getD k 0 ≤ 131072)) := fun k hk => ⟨SA k (LA.out ▸ hk), SB k (LB.out ▸ hk)⟩
        obtain ⟨x', hx', b0, c0, p0, s0, z0, t0⟩ := HA.out 0 (by have := HN.out; omega)
        cases hx'
        rw [e0] at p0 t0
        have T0 : Hid (Slc w b0 A) := t0
        have P0 : Hid (w.cell? x = some (.slice b0 l1 c0)) := (by rw [Addr.add_zero'] at p0; rw [LA.out]; exact p0 : w.cell? x = some (.slice b0 l1 c0))
        have BW1 : Hid (Bel w w2) := hb.out.trans BY.out
        have HY1 : Hid (w2.ownsRow w.heap.size 3 1 (.slice yo l1 yc) l1 (vals B)) := ej ▸ owns_up HY.out hb.out.size
        clear SA SB rA rB hl p0 s0 z0 t0 hLs e0 ej hj0 hj01
        go_wp2
        go_loopw [9] (fun i wq => ∃ k : Nat, k ≤ l1 ∧ i = .int .i64 (k : Int) ∧ Hid (∃ M : List Int, M.length = l1 ∧ wq.ownsRow w.heap.size 3 1 (.slice yo l1 yc) l1 (vals M) ∧ ∀ i, i < l1 → M.getD i 0 = if i < k then B.getD i 0 + (-1) * A.getD i 0 else B.getD i 0) ∧ Hid (Exc (fun k => (Value.slice yo l1 yc).ownBlock = some k) w2 wq)) (fun i _ => l1 - (intOf i).toNat)
        case atStart => exact ⟨0, Nat.zero_le _, rfl, (⟨B, LB.out.symm, HY1.out, fun i hi => by rw [if_neg (by omega)]⟩ : ∃ M : List Int, M.length = l1 ∧ World.ownsRow _ w.heap.size 3 1 (.slice yo l1 yc) l1 (vals M) ∧ ∀ i, i < l1 → M.getD i 0 = if i < 0 then B.getD i 0 + (-1) * A.getD i 0 else B.getD i 0), Exc.refl _ _⟩
        case round =>
          obtain ⟨k, hk, rfl, hM, hE⟩ := hrel
          by_cases hkt : k < l1
          · have hkd : decide ((k : Int) < (l1 : Int)) = true := decide_eq_true (by omega)
            have hk0 : (0 : Int) ≤ (k : Int) := by omega
            have hk1 : (k : Int) < (l1 : Int) := by omega
            obtain ⟨N, n1, n2, n3⟩ := hM.out
            obtain ⟨g, cy, e, hg, hgs, -, -, -, HG⟩ := owns_shape n2 (by omega)
            injection e with e1 e2 e3
            clear e2
            subst e1
            subst e3
            obtain ⟨z, rfl, hz⟩ := T0.out k (LA.out ▸ hkt)
            have BQ : Bel w wr := hE.out.from BW1.out (fun i hi => (own_old HY1.out hi).1)
            have cO : wr.cell? x = some (.slice (some z) l1 c0) := BQ.keep P0.out
            have cA : wr.cell? (z.add k) = some (.int .i64 (A.getD k 0)) := BQ.keep hz
            have cB : wr.cell? ⟨g, k, none⟩ = some (.int .i64 (B.getD k 0)) := by
              have := HG.cell k (n1 ▸ hkt)
              rwa [n3 k hkt, if_neg (by omega)] at this
            have fB : wr.frozen? ⟨g, k, none⟩ = false := HG.free k (n1 ▸ hkt)
            obtain ⟨⟨a1, a2⟩, a3, a4⟩ := RG.out k hkt
            have HZ : Hid (B.getD k 0 + (-1) * A.getD k 0 = B.getD k 0 + -A.getD k 0) := (by omega : B.getD k 0 + (-1) * A.getD k 0 = B.getD k 0 + -A.getD k 0)
            have HN2 : Hid (∃ M : List Int, M.length = l1 ∧ (wr.setCell ⟨g, k, none⟩ (.int .i64 (B.getD k 0 + -A.getD k 0))).drew.ownsRow w.heap.size 3 1 (.slice (some ⟨g, 0, none⟩) l1 yc) l1 (vals M) ∧ ∀ i, i < l1 → M.getD i 0 = if i < k + 1 then B.getD i 0 + (-1) * A.getD i 0 else B.getD i 0) := ⟨N.set k (B.getD k 0 + -A.getD k 0), by simpa using n1, by have := (n2.stored k (.int .i64 (B.getD k 0 + -A.getD k 0))).1; unfold vals at this ⊢; rw [List.map_set]; exact this.drew, fun i hi => by
              by_cases e : i = k
              · subst e
                rw [Mod.getD_set_eq _ _ _ (n1 ▸ hi), if_pos (by omega), HZ.out]
              · rw [show (N.set k (B.getD k 0 + -A.getD k 0)).getD i 0 = N.getD i 0 by simp [List.getD_eq_getElem?_getD, List.getElem?_set_ne (Ne.symm e)], n3 i hi]
                by_cases h : i < k
                · rw [if_pos h, if_pos (by omega)]
                · rw [if_neg h, if_neg (by omega)]⟩
            have HE2 : Hid (Exc (fun k => (Value.slice (some ⟨g, 0, none⟩) l1 yc).ownBlock = some k) w2 (wr.setCell ⟨g, k, none⟩ (.int .i64 (B.getD k 0 + -A.getD k 0))).drew) := (hE.out.setCell (a := ⟨g, k, none⟩) (fun _ => by simp [Value.ownBlock]) _).drew
            clear n1 n2 n3 hM hE HG hz BQ hg hgs HY1 HD HU
            generalize A.getD k 0 = p at *
            generalize B.getD k 0 = q at *
            go_wp2
            go_region
            go_wp2
            go_roundw
            case rel => exact ⟨k + 1, by omega, by go_num, HN2, HE2⟩
            case measure => simp [intOf]; omega
          · obtain rfl : l1 = k := by omega
            have hkd : decide ((l1 : Int) < (l1 : Int)) = false := decide_eq_false (by omega)
            obtain ⟨N, n1, n2, n3⟩ := hM.out
            obtain rfl : N = byFirst (-1) A B := Mod.ext_getD _ _ (by rw [byFirst_length, n1]; exact LA.out) (fun i hi => by rw [n3 i (n1 ▸ hi), if_pos (n1 ▸ hi), byFirst_get _ _ _ _ (LA.out ▸ n1 ▸ hi)])
            have HU2 : Hid (OwnsL wr w.heap.size o us ((told (-1) Ls).take j)) := HU.out.exc_int HY1.out hE.out HD.out
            have H24 : Hid (j * 24 ≤ 140737488351232 ∧ w.heap.size ≤ wr.heap.size) := ⟨by omega, by have := hE.out.size; have := H24a.out.2; omega⟩
            have BW2 : Hid (Bel w wr) := hE.out.from BW1.out (fun i hi => (own_old HY1.out hi).1)
            have HY2 : Hid (wr.ownsRow w.heap.size 3 1 (.slice yo l1 yc) ((told (-1) Ls).getD j []).length (vals ((told (-1) Ls).getD j [])) ∧ ((told (-1) Ls).getD j []).length * 8 ≤ 140737488351232) := by
              rw [HT1.out, n1]
              exact ⟨n2, S1.out.1⟩
            clear n1 n2 n3 hM hE s8
            have HT : Hid (j = ((told (-1) Ls).take j).length) := (by rw [List.length_take, told_length]; have := HN.out; omega : j = ((told (-1) Ls).take j).length)
            have HO : Hid (wr.ownsRow w.heap.size 34 1 o j us) := (by have := HU2.out.1; rwa [← HT.out] at this)
            go_wp2_with (at_builtin; refine wpl_moreL wr rfl (.tmp 51) (.tmp 53) rfl w.heap.size j H24.out.2 o us (.slice yo l1 yc) rfl rfl rfl HO.out H24.out.1 ?_)
            intro v' w9 hv he
            have HV : Hid (OwnsL w9 w.heap.size v' (us ++ [.slice yo l1 yc]) ((told (-1) Ls).take (j + 1))) := by
              have := HU2.out.more (y := .slice yo l1 yc) (L := (told (-1) Ls).getD j []) (v' := v') (w' := w9) HY2.out.1 HY2.out.2 (by rw [← HT.out]; exact hv) he
              rwa [snoc_take (told (-1) Ls) j (by rw [told_length]; exact HN.out ▸ hlt)] at this
            have B9 : Hid (Bel w w9) := he.from BW2.out (fun i hi => (own_oldL HO.out hi).1)
            clear hv he
            go_wp2
            go_roundw
            case rel => exact ⟨_, j + 1, rfl, by omega, by go_num, ⟨_, HV.out⟩, B9⟩
            case measure => simp [intOf]; omega
    · obtain rfl : j = n := by omega
      have hd : decide ((j : Int) < (j : Int)) = false := decide_eq_false (by omega)
      obtain ⟨us, hus⟩ := ho.out
      rw [show (told (-1) Ls).take j = told (-1) Ls by rw [HN.out, ← told_length (-1) Ls, List.take_length]] at hus
      obtain ⟨bo, c, hv, _, hl⟩ := hus.lls
      rw [told_length, ← HN.out] at hv
      subst hv
      have HL : Hid (Lls wr bo (told (-1) Ls)) := hl
      have M2 := rmay_ok bo (told (-1) Ls) j c (by rw [told_length]; exact HN.out) (by unfold maxLen; omega) wr hl
      clear hl hus ho
      cases hq : chsMay (told (-1) Ls)
      · have NO : Hid (okS (-1) Ls = false) := (by unfold okS; rw [hq, Bool.and_false] : okS (-1) Ls = false)
        rw [hq] at M2
        have M3 : Hid (Calls Try.prog 23 #[.slice bo j c] wr fun e w' => e = .returned (.bool false) ∧ ∃ q, w' = wr.drewN q) := M2
        clear hq M2
        go_wp2_with fail
        refine M3.out.mono ?_
        rintro e w9 ⟨rfl, q, hw⟩
        have B9 : Hid (Bel w w9) := hw ▸ hb.out.drewN q
        clear hw
        go_wp2
        go_ret2
        exact rtold_no NO.out B9.out
      · have YES : Hid (okS (-1) Ls = true) := (by unfold okS; rw [hq, HP.out]; rfl : okS (-1) Ls = true)
        rw [hq] at M2
        have M3 : Hid (Calls Try.prog 23 #[.slice bo j c] wr fun e w' => e = .returned (.bool true) ∧ ∃ q, w' = wr.drewN q) := M2
        clear hq M2
        go_wp2_with fail
        refine M3.out.mono ?_
        rintro e w9 ⟨rfl, q, hw⟩
        have B9 : Hid (Bel w w9 ∧ Lls w9 bo (told (-1) Ls)) := hw ▸ ⟨hb.out.drewN q, HL.out.drewN q⟩
        clear hw
        go_wp2
        go_ret2
        exact rtold_yes YES.out (by rw [told_length]; exact HN.out) B9.out.2 B9.out.1

set_option maxHeartbeats 2000000 in
theorem sided_more (ao : Option Addr) (Ls : List (List Int)) (n cap : Nat) (hn : n = Ls.length) (hx : n ≤ maxLen) (w : World) (hA : Lls w ao Ls) :
    Calls Try.prog 19 #[.slice ao n cap, .int .i64 1] w fun e w' => RTold w w' 1 Ls e := by
  cases hp : chsMay Ls
  · have M : Hid (Calls Try.prog 23 #[.slice ao n cap] w fun e w' => e = .returned (.bool false) ∧ ∃ q, w' = w.drewN q) := hp ▸ rmay_ok ao Ls n cap hn hx w hA
    have NO : Hid (okS 1 Ls = false) := (by unfold okS; rw [hp]; rfl : okS 1 Ls = false)
    clear hp hA hn
    go_enter Try.func19, Try.ntmps19
    go_wp2_with fail
    refine M.out.mono ?_
    rintro e w1 ⟨rfl, q, hw⟩
    have B1 : Hid (Bel w w1) := hw ▸ (Bel.refl _).drewN q
    clear hw
    go_wp2
    go_ret2
    exact rtold_no NO.out B1.out
  have h12 : 1 ≤ n ∧ n ≤ 2 := by rcases chsMay_shape hp with ⟨A, rfl, _⟩ | ⟨A, B, rfl, _⟩ <;> simp at hn <;> omega
  have M : Hid (Calls Try.prog 23 #[.slice ao n cap] w fun e w' => e = .returned (.bool true) ∧ ∃ q, w' = w.drewN q) := hp ▸ rmay_ok ao Ls n cap hn hx w hA
  have HP : Hid (chsMay Ls = true) := hp
  have HA : Hid (Lls w ao Ls) := hA
  have HN : Hid (n = Ls.length) := hn
  obtain ⟨x, rfl, _⟩ := hA 0 (by omega)
  clear hp hA hn
  go_enter Try.func19, Try.ntmps19
  go_wp2_with fail
  refine M.out.mono ?_
  rintro e w1 ⟨rfl, q, hw⟩
  have B1 : Hid (Bel w w1) := hw ▸ (Bel.refl _).drewN q
  clear hw M
  go_wp2
  go_loopw [6, 7] (fun o i wr => ∃ (v : Value) (j : Nat), v = o ∧ j ≤ n ∧ i = .int .i64 (j : Int) ∧ Hid (∃ us, OwnsL wr w.heap.size v us ((told 1 Ls).take j)) ∧ Hid (Bel w wr)) (fun _ i _ => n - (intOf i).toNat)
  case atStart => exact ⟨_, 0, rfl, Nat.zero_le _, rfl, ⟨[], ownsL_none _ _⟩, B1.out⟩
  case round =>
    obtain ⟨o, j, rfl, hj, rfl, ho, hb⟩ := hrel
    by_cases hlt : j < n
    · obtain ⟨x', hx', b1, c1, p1, s1, z1, t1⟩ := HA.out j (HN.out ▸ hlt)
      cases hx'
      have hd : decide ((j : Int) < (n : Int)) = true := decide_eq_true (by omega)
      have f1 : ∀ o, (wr.alloc o).cell? (x.add j) = some (.slice b1 (Ls.getD j []).length c1) := fun o => (hb.out.alloc o).keep p1
      have T1 : Hid (Slc wr b1 (Ls.getD j [])) := t1.bel hb.out
      have S1 : Hid ((Ls.getD j []).length * 8 ≤ 140737488351232 ∧ (b1 = none → c1 = 0)) := ⟨s1, z1⟩
      clear p1 t1 s1 z1
      obtain ⟨l1, hl1⟩ : ∃ l1, (Ls.getD j []).length = l1 := ⟨_, rfl⟩
      rw [hl1] at f1 S1
      have L1 : Hid (l1 = (Ls.getD j []).length) := hl1.symm
      clear hl1
      go_wp2_with (at_builtin; refine wpl_copy wr rfl (.tmp 19) (.tmp 23) rfl b1 (Ls.getD j []) l1 c1 rfl rfl L1.out S1.out.1 S1.out.2 T1.out ?_)
      intro y w2 hy hby
      obtain ⟨yo, yc, rfl, -⟩ := owns_slc hy
      have HY : Hid (w2.ownsRow wr.heap.size 3 1 (.slice yo l1 yc) l1 (vals (Ls.getD j []))) := hy
      have BY : Hid (Bel wr w2) := hby
      clear hy hby f1
      obtain ⟨us, hus⟩ := ho.out
      have HU : Hid (OwnsL w2 w.heap.size o us ((told 1 Ls).take j)) := hus.bel BY.out
      have H24a : Hid (j * 24 ≤ 140737488351232 ∧ w.heap.size ≤ w2.heap.size) := ⟨by omega, by have := BY.out.size; have := hb.out.size; omega⟩
      have HD : Hid (∀ k, k < ((told 1 Ls).take j).length → ∀ i, (us.getD k (.slice none 0 0)).ownBlock = some i → (Value.slice yo l1 yc).ownBlock ≠ some i) := fun k hk i h1 h2 => by
        have := (own_old (hus.2 k hk).1 h1).2
        have := (own_old HY.out h2).1
        omega
      clear hus
      have s8 := S1.out.1
      have hn0 : (0 : Int) < (n : Int) := by omega
      by_cases hj0 : j = 0
      · have hj1 : ((j : Int) == 1) = false := by simp; omega
        have HU2 := HU
        have H24 := H24a
        have BW2 : Hid (Bel w w2) := hb.out.trans BY.out
        have HY2 : Hid (w2.ownsRow w.heap.size 3 1 (.slice yo l1 yc) ((told 1 Ls).getD j []).length (vals ((told 1 Ls).getD j [])) ∧ ((told 1 Ls).getD j []).length * 8 ≤ 140737488351232) := by
          have e : (told 1 Ls).getD j [] = Ls.getD j [] := by rw [hj0]; exact told_first _ _
          rw [e, ← L1.out]
          exact ⟨owns_up HY.out hb.out.size, S1.out.1⟩
        clear hj0
        rcases Nat.eq_zero_or_pos l1 with h | h
        · have hl0 : decide ((0 : Int) < (l1 : Int)) = false := decide_eq_false (by omega)
          have hl1 : decide (0 < l1) = false := decide_eq_false (by omega)
          have hl2 : ¬ 0 < l1 := by omega
          clear h
          go_wp2
          refine wp_loop_rounds 1 ?_
          rw [rounds_succ]
          have HT : Hid (j = ((told 1 Ls).take j).length) := (by rw [List.length_take, told_length]; have := HN.out; omega : j = ((told 1 Ls).take j).length)
          have HO : Hid (w2.ownsRow w.heap.size 34 1 o j us) := (by have := HU2.out.1; rwa [← HT.out] at this)
          go_wp2_with (at_builtin; refine wpl_moreL w2 rfl (.tmp 51) (.tmp 53) rfl w.heap.size j H24.out.2 o us (.slice yo l1 yc) rfl rfl rfl HO.out H24.out.1 ?_)
          intro v' w9 hv he
          have HV : Hid (OwnsL w9 w.heap.size v' (us ++ [.slice yo l1 yc]) ((told 1 Ls).take (j + 1))) := by
            have := HU2.out.more (y := .slice yo l1 yc) (L := (told 1 Ls).getD j []) (v' := v') (w' := w9) HY2.out.1 HY2.out.2 (by rw [← HT.out]; exact hv) he
            rwa [snoc_take (told 1 Ls) j (by rw [told_length]; exact HN.out ▸ hlt)] at this
          have B9 : Hid (Bel w w9) := he.from BW2.out (fun i hi => (own_oldL HO.out hi).1)
          clear hv he
          go_wp2
          go_roundw
          case rel => exact ⟨_, j + 1, rfl, by omega, by go_num, ⟨_, HV.out⟩, B9⟩
          case measure => simp [intOf]; omega
        · have hl0 : decide ((0 : Int) < (l1 : Int)) = true := decide_eq_true (by omega)
          go_wp2
          refine wp_loop_rounds 1 ?_
          rw [rounds_succ]
          have HT : Hid (j = ((told 1 Ls).take j).length) := (by rw [List.length_take, told_length]; have := HN.out; omega : j = ((told 1 Ls).take j).length)
          have HO : Hid (w2.ownsRow w.heap.size 34 1 o j us) := (by have := HU2.out.1; rwa [← HT.out] at this)
          go_wp2_with (at_builtin; refine wpl_moreL w2 rfl (.tmp 51) (.tmp 53) rfl w.heap.size j H24.out.2 o us (.slice yo l1 yc) rfl rfl rfl HO.out H24.out.1 ?_)
          intro v' w9 hv he
          have HV : Hid (OwnsL w9 w.heap.size v' (us ++ [.slice yo l1 yc]) ((told 1 Ls).take (j + 1))) := by
            have := HU2.out.more (y := .slice yo l1 yc) (L := (told 1 Ls).getD j []) (v' := v') (w' := w9) HY2.out.1 HY2.out.2 (by rw [← HT.out]; exact hv) he
            rwa [snoc_take (told 1 Ls) j (by rw [told_length]; exact HN.out ▸ hlt)] at this
          have B9 : Hid (Bel w w9) := he.from BW2.out (fun i hi => (own_oldL HO.out hi).1)
          clear hv he
          go_wp2
          go_roundw
          case rel => exact ⟨_, j + 1, rfl, by omega, by go_num, ⟨_, HV.out⟩, B9⟩
          case measure => simp [intOf]; omega
      · have hj1 : ((j : Int) == 1) = true := by simp; omega
        have hj01 : j = 1 := by omega
        obtain ⟨A, B, hLs, rA, hl, rB⟩ : ∃ A B, Ls = [A, B] ∧ okRow A = true ∧ B.length = A.length ∧ okRow B = true := by
          rcases chsMay_shape HP.out with ⟨A, e, _⟩ | h
          · have := HN.out; rw [e] at this; simp at this; omega
          · exact h
        have e0 : Ls.getD 0 [] = A := by rw [hLs]; rfl
        have ej : Ls.getD j [] = B := by rw [hLs, hj01]; rfl
        have HT1 : Hid ((told 1 Ls).getD j [] = byFirst 1 A B) := (by rw [hLs, hj01]; rfl : (told 1 Ls).getD j [] = byFirst 1 A B)
        have SA := okRow_iff.1 rA
        have SB := okRow_iff.1 rB
        have LB : Hid (l1 = B.length) := L1.out.trans (congrArg List.length ej)
        have LA : Hid (l1 = A.length) := LB.out.trans hl
        have RG : Hid (∀ k, k < l1 → (-131072 ≤ A.getD k 0 ∧ A.getD k 0 ≤ 131072) ∧ (-131072 ≤ B.getD k 0 ∧ B.getD k 0 ≤ 131072)) := fun k hk => ⟨SA k (LA.out ▸ hk), SB k (LB.out ▸ hk)⟩
        obtain ⟨x', hx', b0, c0, p0, s0, z0, t0⟩ := HA.out 0 (by have := HN.out; omega)
        cases hx'
        rw [e0] at p0 t0
        have T0 : Hid (Slc w b0 A) := t0
        have P0 : Hid (w.cell? x = some (.slice b0 l1 c0)) := (by rw [Addr.add_zero'] at p0; rw [LA.out]; exact p0 : w.cell? x = some (.slice b0 l1 c0))
        have BW1 : Hid (Bel w w2) := hb.out.trans BY.out
        have HY1 : Hid (w2.ownsRow w.heap.size 3 1 (.slice yo l1 yc) l1 (vals B)) := ej ▸ owns_up HY.out hb.out.size
        clear SA SB rA rB hl p0 s0 z0 t0 hLs e0 ej hj0 hj01
        go_wp2
        go_loopw [9] (fun i wq => ∃ k : Nat, k ≤ l1 ∧ i = .int .i64 (k : Int) ∧ Hid (∃ M : List Int, M.length = l1 ∧ wq.ownsRow w.heap.size 3 1 (.slice yo l1 yc) l1 (vals M) ∧ ∀ i, i < l1 → M.getD i 0 = if i < k then B.getD i 0 + 1 * A.getD i 0 else B.getD i 0) ∧ Hid (Exc (fun k => (Value.slice yo l1 yc).ownBlock = some k) w2 wq)) (fun i _ => l1 - (intOf i).toNat)
        case atStart => exact ⟨0, Nat.zero_le _, rfl, (⟨B, LB.out.symm, HY1.out, fun i hi => by rw [if_neg (by omega)]⟩ : ∃ M : List Int, M.length = l1 ∧ World.ownsRow _ w.heap.size 3 1 (.slice yo l1 yc) l1 (vals M) ∧ ∀ i, i < l1 → M.getD i 0 = if i < 0 then B.getD i 0 + 1 * A.getD i 0 else B.getD i 0), Exc.refl _ _⟩
        case round =>
          obtain ⟨k, hk, rfl, hM, hE⟩ := hrel
          by_cases hkt : k < l1
          · have hkd : decide ((k : Int) < (l1 : Int)) = true := decide_eq_true (by omega)
            have hk0 : (0 : Int) ≤ (k : Int) := by omega
            have hk1 : (k : Int) < (l1 : Int) := by omega
            obtain ⟨N, n1, n2, n3⟩ := hM.out
            obtain ⟨g, cy, e, hg, hgs, -, -, -, HG⟩ := owns_shape n2 (by omega)
            injection e with e1 e2 e3
            clear e2
            subst e1
            subst e3
            obtain ⟨z, rfl, hz⟩ := T0.out k (LA.out ▸ hkt)
            have BQ : Bel w wr := hE.out.from BW1.out (fun i hi => (own_old HY1.out hi).1)
            have cO : wr.cell? x = some (.slice (some z) l1 c0) := BQ.keep P0.out
            have cA : wr.cell? (z.add k) = some (.int .i64 (A.getD k 0)) := BQ.keep hz
            have cB : wr.cell? ⟨g, k, none⟩ = some (.int .i64 (B.getD k 0)) := by
              have := HG.cell k (n1 ▸ hkt)
              rwa [n3 k hkt, if_neg (by omega)] at this
            have fB : wr.frozen? ⟨g, k, none⟩ = false := HG.free k (n1 ▸ hkt)
            obtain ⟨⟨a1, a2⟩, a3, a4⟩ := RG.out k hkt
            have HZ : Hid (B.getD k 0 + 1 * A.getD k 0 = B.getD k 0 + A.getD k 0) := (by omega : B.getD k 0 + 1 * A.getD k 0 = B.getD k 0 + A.getD k 0)
            have HN2 : Hid (∃ M : List Int, M.length = l1 ∧ (wr.setCell ⟨g, k, none⟩ (.int .i64 (B.getD k 0 + A.getD k 0))).drew.ownsRow w.heap.size 3 1 (.slice (some ⟨g, 0, none⟩) l1 yc) l1 (vals M) ∧ ∀ i, i < l1 → M.getD i 0 = if i < k + 1 then B.getD i 0 + 1 * A.getD i 0 else B.getD i 0) := ⟨N.set k (B.getD k 0 + A.getD k 0), by simpa using n1, by have := (n2.stored k (.int .i64 (B.getD k 0 + A.getD k 0))).1; unfold vals at this ⊢; rw [List.map_set]; exact this.drew, fun i hi => by
              by_cases e : i = k
              · subst e
                rw [Mod.getD_set_eq _ _ _ (n1 ▸ hi), if_pos (by omega), HZ.out]
              · rw [show (N.set k (B.getD k 0 + A.getD k 0)).getD i 0 = N.getD i 0 by simp [List.getD_eq_getElem?_getD, List.getElem?_set_ne (Ne.symm e)], n3 i hi]
                by_cases h : i < k
                · rw [if_pos h, if_pos (by omega)]
                · rw [if_neg h, if_neg (by omega)]⟩
            have HE2 : Hid (Exc (fun k => (Value.slice (some ⟨g, 0, none⟩) l1 yc).ownBlock = some k) w2 (wr.setCell ⟨g, k, none⟩ (.int .i64 (B.getD k 0 + A.getD k 0))).drew) := (hE.out.setCell (a := ⟨g, k, none⟩) (fun _ => by simp [Value.ownBlock]) _).drew
            clear n1 n2 n3 hM hE HG hz BQ hg hgs HY1 HD HU
            generalize A.getD k 0 = p at *
            generalize B.getD k 0 = q at *
            go_wp2
            go_region
            go_wp2
            go_roundw
            case rel => exact ⟨k + 1, by omega, by go_num, HN2, HE2⟩
            case measure => simp [intOf]; omega
          · obtain rfl : l1 = k := by omega
            have hkd : decide ((l1 : Int) < (l1 : Int)) = false := decide_eq_false (by omega)
            obtain ⟨N, n1, n2, n3⟩ := hM.out
            obtain rfl : N = byFirst 1 A B := Mod.ext_getD _ _ (by rw [byFirst_length, n1]; exact LA.out) (fun i hi => by rw [n3 i (n1 ▸ hi), if_pos (n1 ▸ hi), byFirst_get _ _ _ _ (LA.out ▸ n1 ▸ hi)])
            have HU2 : Hid (OwnsL wr w.heap.size o us ((told 1 Ls).take j)) := HU.out.exc_int HY1.out hE.out HD.out
            have H24 : Hid (j * 24 ≤ 140737488351232 ∧ w.heap.size ≤ wr.heap.size) := ⟨by omega, by have := hE.out.size; have := H24a.out.2; omega⟩
            have BW2 : Hid (Bel w wr) := hE.out.from BW1.out (fun i hi => (own_old HY1.out hi).1)
            have HY2 : Hid (wr.ownsRow w.heap.size 3 1 (.slice yo l1 yc) ((told 1 Ls).getD j []).length (vals ((told 1 Ls).getD j [])) ∧ ((told 1 Ls).getD j []).length * 8 ≤ 140737488351232) := by
              rw [HT1.out, n1]
              exact ⟨n2, S1.out.1⟩
            clear n1 n2 n3 hM hE s8
            have HT : Hid (j = ((told 1 Ls).take j).length) := (by rw [List.length_take, told_length]; have := HN.out; omega : j = ((told 1 Ls).take j).length)
            have HO : Hid (wr.ownsRow w.heap.size 34 1 o j us) := (by have := HU2.out.1; rwa [← HT.out] at this)
            go_wp2_with (at_builtin; refine wpl_moreL wr rfl (.tmp 51) (.tmp 53) rfl w.heap.size j H24.out.2 o us (.slice yo l1 yc) rfl rfl rfl HO.out H24.out.1 ?_)
            intro v' w9 hv he
            have HV : Hid (OwnsL w9 w.heap.size v' (us ++ [.slice yo l1 yc]) ((told 1 Ls).take (j + 1))) := by
              have := HU2.out.more (y := .slice yo l1 yc) (L := (told 1 Ls).getD j []) (v' := v') (w' := w9) HY2.out.1 HY2.out.2 (by rw [← HT.out]; exact hv) he
              rwa [snoc_take (told 1 Ls) j (by rw [told_length]; exact HN.out ▸ hlt)] at this
            have B9 : Hid (Bel w w9) := he.from BW2.out (fun i hi => (own_oldL HO.out hi).1)
            clear hv he
            go_wp2
            go_roundw
            case rel => exact ⟨_, j + 1, rfl, by omega, by go_num, ⟨_, HV.out⟩, B9⟩
            case measure => simp [intOf]; omega
    · obtain rfl : j = n := by omega
      have hd : decide ((j : Int) < (j : Int)) = false := decide_eq_false (by omega)
      obtain ⟨us, hus⟩ := ho.out
      rw [show (told 1 Ls).take j = told 1 Ls by rw [HN.out, ← told_length 1 Ls, List.take_length]] at hus
      obtain ⟨bo, c, hv, _, hl⟩ := hus.lls
      rw [told_length, ← HN.out] at hv
      subst hv
      have HL : Hid (Lls wr bo (told 1 Ls)) := hl
      have M2 := rmay_ok bo (told 1 Ls) j c (by rw [told_length]; exact HN.out) (by unfold maxLen; omega) wr hl
      clear hl hus ho
      cases hq : chsMay (told 1 Ls)
      · have NO : Hid (okS 1 Ls = false) := (by unfold okS; rw [hq, Bool.and_false] : okS 1 Ls = false)
        rw [hq] at M2
        have M3 : Hid (Calls Try.prog 23 #[.slice bo j c] wr fun e w' => e = .returned (.bool false) ∧ ∃ q, w' = wr.drewN q) := M2
        clear hq M2
        go_wp2_with fail
        refine M3.out.mono ?_
        rintro e w9 ⟨rfl, q, hw⟩
        have B9 : Hid (Bel w w9) := hw ▸ hb.out.drewN q
        clear hw
        go_wp2
        go_ret2
        exact rtold_no NO.out B9.out
      · have YES : Hid (okS 1 Ls = true) := (by unfold okS; rw [hq, HP.out]; rfl : okS 1 Ls = true)
        rw [hq] at M2
        have M3 : Hid (Calls Try.prog 23 #[.slice bo j c] wr fun e w' => e = .returned (.bool true) ∧ ∃ q, w' = wr.drewN q) := M2
        clear hq M2
        go_wp2_with fail
        refine M3.out.mono ?_
        rintro e w9 ⟨rfl, q, hw⟩
        have B9 : Hid (Bel w w9 ∧ Lls w9 bo (told 1 Ls)) := hw ▸ ⟨hb.out.drewN q, HL.out.drewN q⟩
        clear hw
        go_wp2
        go_ret2
        exact rtold_yes YES.out (by rw [told_length]; exact HN.out) B9.out.2 B9.out.1

theorem rput_ok (ao : Option Addr) (Ls : List (List Int)) (n cap : Nat) (hn : n = Ls.length) (hx : n ≤ maxLen) (w : World) (hA : Lls w ao Ls) :
    Calls Try.prog 9 #[.slice ao n cap] w fun e w' => ∃ bo k c, e = .returned (.tuple #[.slice bo k c, .int .i64 (errS (-1) Ls)]) ∧ k = (ansS (-1) Ls).length ∧ Lls w' bo (ansS (-1) Ls) ∧ Bel w w' := by
  have Y : Hid (Calls Try.prog 19 #[.slice ao n cap, .int .i64 (-1)] w fun e w' => RTold w w' (-1) Ls e) := sided_less ao Ls n cap hn hx w hA
  unfold RTold at Y
  clear hn hA
  generalize errS (-1) Ls = er at *
  generalize ansS (-1) Ls = an at *
  go_enter Try.func9, Try.ntmps9
  go_wp2_with fail
  refine Y.out.mono ?_
  rintro e w' ⟨bo, k, c, rfl, hk, o, b⟩
  have HK : Hid (k = an.length ∧ Lls w' bo an ∧ Bel w w') := ⟨hk, o, b⟩
  clear hk o b
  go_wp2
  go_ret2
  exact ⟨_, _, _, rfl, HK.out.1, HK.out.2.1, HK.out.2.2⟩

theorem rget_ok (ao : Option Addr) (Ls : List (List Int)) (n cap : Nat) (hn : n = Ls.length) (hx : n ≤ maxLen) (w : World) (hA : Lls w ao Ls) :
    Calls Try.prog 11 #[.slice ao n cap] w fun e w' => ∃ bo k c, e = .returned (.tuple #[.slice bo k c, .int .i64 (errS 1 Ls)]) ∧ k = (ansS 1 Ls).length ∧ Lls w' bo (ansS 1 Ls) ∧ Bel w w' := by
  have Y : Hid (Calls Try.prog 19 #[.slice ao n cap, .int .i64 1] w fun e w' => RTold w w' 1 Ls e) := sided_more ao Ls n cap hn hx w hA
  unfold RTold at Y
  clear hn hA
  generalize errS 1 Ls = er at *
  generalize ansS 1 Ls = an at *
  go_enter Try.func11, Try.ntmps11
  go_wp2_with fail
  refine Y.out.mono ?_
  rintro e w' ⟨bo, k, c, rfl, hk, o, b⟩
  have HK : Hid (k = an.length ∧ Lls w' bo an ∧ Bel w w') := ⟨hk, o, b⟩
  clear hk o b
  go_wp2
  go_ret2
  exact ⟨_, _, _, rfl, HK.out.1, HK.out.2.1, HK.out.2.2⟩

end Go.Proofs.Ytkkdlnolpjbjeaa.Sid
