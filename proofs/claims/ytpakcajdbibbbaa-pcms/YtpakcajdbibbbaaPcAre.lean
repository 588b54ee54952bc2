/-
  The contract of pcm.areFrames. Conditions: the rows are there.
-/
import Derived.Test.YtpakcajdbibbbaaPcHas
import Derived.Test.YtpakcajdbibbbaaPcGet
import Derived.BigQuiet
namespace Go.Proofs.Ytpakcajdbibbbaa.Pcm
open Go.RowKit Go.Sort Go.Proofs.Ytpakcajdbibbbaa.Mod
set_option linter.unusedVariables false
set_option linter.unusedSimpArgs false

theorem has_ok (b : Int) (h : b = 8 ∨ b = 16) (ao : Option Addr) (L : List Int) (cap : Nat) (hx : L.length ≤ maxLen) (w : World) (hA : Slc w ao L) :
    Calls Try.prog 34 #[.slice ao L.length cap, .func (.func 35) #[.int .i64 b] #[]] w fun e w' => e = .returned (.bool (!rowFits (fQ b) L)) ∧ w' = w := by
  have := contains_none b (fun x => !fits (fQ b) x) (fun x w => none_ok b x h w) ao L L.length cap rfl hx w hA
  unfold rowFits
  rwa [Bool.not_not]

theorem div_le {l f : Nat} (hf : 0 < f) : decide (4096 / f < l) = !decide (l * f ≤ 4096) := by
  have h : l ≤ 4096 / f ↔ l * f ≤ 4096 := Nat.le_div_iff_mul_le hf
  by_cases k : l * f ≤ 4096
  · rw [decide_eq_true k, decide_eq_false (by have := h.2 k; omega)]; rfl
  · rw [decide_eq_false k, decide_eq_true (by have := mt h.1 k; omega)]; rfl

set_option maxRecDepth 20000 in
set_option maxHeartbeats 1000000 in
theorem are_ok (c b : Int) (ao : Option Addr) (Ls : List (List Int)) (n cap : Nat) (hn : n = Ls.length) (hx : n ≤ maxLen) (w : World) (hA : Lls w ao Ls) :
    Calls Try.prog 24 #[.slice ao n cap, fmt c b] w fun e w' => e = .returned (.bool (okPut c b Ls)) ∧ Bel w w' := by
  unfold maxLen at hx
  obtain ⟨wb, hwb⟩ : ∃ wb, w.alloc (.cells #[.int .i64 c, .int .i64 b] 24) = wb := ⟨_, rfl⟩
  have HW : Hid (w.alloc (.cells #[.int .i64 c, .int .i64 b] 24) = wb) := hwb
  obtain ⟨gb, hgb⟩ : ∃ gb, w.heap.size = gb := ⟨_, rfl⟩
  have HG : Hid (w.heap.size = gb) := hgb
  have B0 : Hid (Bel w wb) := (by rw [← hwb]; exact (Bel.refl _).alloc _ : Bel w wb)
  have BX := box_new w c b
  rw [hwb, hgb] at BX
  obtain ⟨x0, x1⟩ := BX
  have XX : Hid (Box wb gb c b) := ⟨x0, x1⟩
  have l0 := cell_regrown x0
  have l1 := cell_regrown x1
  have BR : Hid (∀ d os, Bel w (grow (redrawn wb d) os) ∧ Bel wb (grow (redrawn wb d) os)) := fun d os => ⟨B0.out.trans (below_regrown wb d os), below_regrown wb d os⟩
  clear hwb hgb
  have M : Hid (∀ w, Calls Try.prog 14 #[fmt c b] w fun e w' => e = .returned (.bool (okF c b)) ∧ Bel w w') := fun w => may_ok c b w
  have HA : Hid (Lls wb ao Ls) := hA.bel B0.out
  have HN : Hid (n = Ls.length) := hn
  clear hA hn
  cases ho : okF c b
  · have e : okPut c b Ls = false := by unfold okPut; rw [ho]; rfl
    rw [e]
    rw [ho] at M
    clear e ho
    go_enter Try.func24, Try.ntmps24
    go_wp2_with fail
    rw [HW.out, HG.out]
    refine wp_region_quiet_below (by kernel_rfl) (by kernel_rfl) ?_
    repeat (go_big_quiet_step (first
      | (go_at_call 14; with_reducible exact Calls.regrown_of (M.out _))))
    refine wpQuiet_nil ?_
    intro _ hw'
    obtain ⟨⟨dq, osq⟩, hw''⟩ := hw'
    subst hw''
    have B2 := BR.out dq osq
    go_wp2
    go_ret
    exact ⟨rfl, B2.1⟩
  obtain ⟨h1, h2, h3, h4⟩ := okF_nat ho
  have FR : Hid (∀ w, Calls Try.prog 19 #[fmt c b] w fun e w' => e = .returned (.int .i64 ((fC c * fQ b : Nat) : Int)) ∧ Bel w w') := fun w => frame_ok c b ho w
  have hf : 0 < fC c * fQ b := Nat.mul_pos (by omega) (by omega)
  have e : okPut c b Ls = (decide (Ls.length = fC c) && (decide ((Ls.getD 0 []).length * (fC c * fQ b) ≤ 4096) && rowsFit (fQ b) Ls)) := by unfold okPut; rw [ho, Bool.true_and]
  rw [e]
  rw [ho] at M
  have H8 : Hid (b = 8 ∨ b = 16) := (okF_yes ho).2
  clear e ho
  obtain ⟨f, hfe⟩ : ∃ f, fC c * fQ b = f := ⟨_, rfl⟩
  obtain ⟨C, hCe⟩ : ∃ C, fC c = C := ⟨_, rfl⟩
  obtain ⟨q, hqe⟩ : ∃ q, fQ b = q := ⟨_, rfl⟩
  have HQ : Hid (fQ b = q) := hqe
  rw [hfe] at FR hf
  rw [hfe, hCe, hqe]
  rw [hCe] at h1 h3
  subst h3
  clear hfe hCe hqe h4 h2
  by_cases hnc : n = C
  · subst hnc
    rw [show decide (Ls.length = n) = true from decide_eq_true HN.out.symm, Bool.true_and]
    have hd1 : ((n : Int) != (n : Int)) = false := by simp
    obtain ⟨x, rfl, b0, c0, p0, s0, z0, t0⟩ := HA.out 0 (by have := HN.out; omega)
    replace p0 : wb.cell? x = some (.slice b0 (Ls.getD 0 []).length c0) := by rw [Addr.add_zero'] at p0; exact p0
    have S0 : Hid ((Ls.getD 0 []).length * 8 ≤ 140737488351232) := s0
    clear s0 z0 t0
    obtain ⟨l0n, hl0⟩ : ∃ l0, (Ls.getD 0 []).length = l0 := ⟨_, rfl⟩
    rw [hl0] at p0 S0
    rw [hl0]
    have L0 : Hid ((Ls.getD 0 []).length = l0n) := hl0
    clear hl0
    have P0 : Hid (wb.cell? x = some (.slice b0 l0n c0)) := p0
    have l2 := cell_regrown p0
    have hz : ((f : Int) == 0) = false := by simp; omega
    have hdv : (4096 : Int) / (f : Int) = ((4096 / f : Nat) : Int) := rfl
    have hle := div_le (l := l0n) hf
    obtain ⟨dv, hdve⟩ : ∃ d, 4096 / f = d := ⟨_, rfl⟩
    rw [hdve] at hdv hle
    clear hdve
    by_cases hl : l0n * f ≤ 4096
    · rw [decide_eq_true hl, Bool.true_and]
      rw [decide_eq_true hl] at hle
      replace hle : decide (dv < l0n) = false := hle
      obtain ⟨r, hr⟩ : ∃ r, rowsFit q Ls = r := ⟨_, rfl⟩
      rw [hr]
      have HR : Hid (rowsFit q Ls = r) := hr
      clear hr
      go_enter Try.func24, Try.ntmps24
      go_wp2_with fail
      rw [HW.out, HG.out]
      refine wp_region_quiet_below (by kernel_rfl) (by kernel_rfl) ?_
      repeat (go_big_quiet_step (first
        | (go_at_call 14; with_reducible exact Calls.regrown_of (M.out _))
        | (go_at_call 19; with_reducible exact Calls.regrown_of (FR.out _))))
      refine wpQuiet_nil ?_
      intro _ hw'
      obtain ⟨⟨dq, osq⟩, hw''⟩ := hw'
      subst hw''
      have B2 : Hid (Bel w (grow (redrawn wb dq) osq) ∧ Bel wb (grow (redrawn wb dq) osq)) := BR.out dq osq
      obtain ⟨W, hW⟩ : ∃ W, grow (redrawn wb dq) osq = W := ⟨_, rfl⟩
      rw [hW] at B2
      rw [hW]
      clear hW l0 l1 l2 hle hdv hz
      have hmf : ∀ (fn : Fn) (first cap : Array Value) (w : World), (Instr.makeFunc fn first cap).run Try.prog w = .ok (.func fn first cap) w := fun _ _ _ _ => rfl
      go_wp2
      go_loopw [29] (fun i wr => ∃ j : Nat, j ≤ n ∧ i = .int .i64 j ∧ Hid (∀ k, k < j → (Ls.getD k []).length = (Ls.getD 0 []).length ∧ rowFits q (Ls.getD k []) = true) ∧ wr = W) (fun i _ => n - (intOf i).toNat)
      case atStart => exact ⟨0, Nat.zero_le _, rfl, fun k hk => by omega, rfl⟩
      case round =>
        obtain ⟨j, hj, rfl, hh, rfl⟩ := hrel
        by_cases hlt : j < n
        · obtain ⟨y, hy, b1, c1, p1, s1, z1, t1⟩ := HA.out j (HN.out ▸ hlt)
          cases hy
          have hj2 : decide ((j : Int) < (n : Int)) = true := decide_eq_true (by omega)
          have k0 := B2.out.2.keep x1
          have k1 := B2.out.2.keep p0
          have k2 := B2.out.2.keep p1
          have CC : Hid (Calls Try.prog 34 #[.slice b1 (Ls.getD j []).length c1, .func (.func 35) #[.int .i64 b] #[]] wr fun e w' => e = .returned (.bool (!rowFits (fQ b) (Ls.getD j []))) ∧ w' = wr) := has_ok b H8.out b1 (Ls.getD j []) c1 (by unfold maxLen; omega) wr (t1.bel B2.out.2)
          rw [HQ.out] at CC
          clear t1 z1 s1
          obtain ⟨l1n, hl1⟩ : ∃ l1, (Ls.getD j []).length = l1 := ⟨_, rfl⟩
          obtain ⟨o, ho⟩ : ∃ o, rowFits q (Ls.getD j []) = o := ⟨_, rfl⟩
          rw [hl1] at k2 CC
          rw [ho] at CC
          have L1 : Hid ((Ls.getD j []).length = l1n) := hl1
          have O1 : Hid (rowFits q (Ls.getD j []) = o) := ho
          clear hl1 ho p1
          by_cases hll : l1n = l0n
          · subst hll
            have hb : ((l1n : Int) != (l1n : Int)) = false := by simp
            cases o
            · obtain rfl : r = false := HR.out.symm.trans (rowsFit_no j (HN.out ▸ hlt) (.inr O1.out))
              go_wp2_with fail
              refine CC.out.mono ?_
              rintro e w1 ⟨rfl, rfl⟩
              go_wp2
              go_ret
              exact ⟨rfl, B2.out.1⟩
            · have hh2 : Hid (∀ k, k < j + 1 → (Ls.getD k []).length = (Ls.getD 0 []).length ∧ rowFits q (Ls.getD k []) = true) := fun k hk => by
                rcases Nat.lt_or_ge k j with h | h
                · exact hh.out k h
                · obtain rfl : k = j := by omega
                  exact ⟨L1.out.trans L0.out.symm, O1.out⟩
              clear hh
              go_wp2_with fail
              refine CC.out.mono ?_
              rintro e w1 ⟨rfl, rfl⟩
              go_wp2
              go_roundw
              case rel => exact ⟨j + 1, by omega, by go_num, hh2, by trivial⟩
              case measure => simp [intOf]; omega
          · obtain rfl : r = false := HR.out.symm.trans (rowsFit_no j (HN.out ▸ hlt) (.inl (by rw [L1.out, L0.out]; exact hll)))
            have hb : ((l1n : Int) != (l0n : Int)) = true := by simp; omega
            clear CC
            go_wp2
            go_ret
            exact ⟨rfl, B2.out.1⟩
        · obtain rfl : n = j := by omega
          have hj2 : decide ((n : Int) < (n : Int)) = false := decide_eq_false (by omega)
          obtain rfl : r = true := HR.out.symm.trans (rowsFit_yes (fun k hk => hh.out k (HN.out.symm ▸ hk)))
          go_wp2
          go_ret
          exact ⟨rfl, B2.out.1⟩
    · rw [decide_eq_false hl, Bool.false_and]
      rw [decide_eq_false hl] at hle
      replace hle : decide (dv < l0n) = true := hle
      go_enter Try.func24, Try.ntmps24
      go_wp2_with fail
      rw [HW.out, HG.out]
      refine wp_region_quiet_below (by kernel_rfl) (by kernel_rfl) ?_
      repeat (go_big_quiet_step (first
        | (go_at_call 14; with_reducible exact Calls.regrown_of (M.out _))
        | (go_at_call 19; with_reducible exact Calls.regrown_of (FR.out _))))
      refine wpQuiet_nil ?_
      intro _ hw'
      obtain ⟨⟨dq, osq⟩, hw''⟩ := hw'
      subst hw''
      have B2 := BR.out dq osq
      go_wp2
      go_ret
      exact ⟨rfl, B2.1⟩
  · rw [show decide (Ls.length = C) = false from decide_eq_false (fun e => hnc (HN.out.trans e)), Bool.false_and]
    have hd1 : ((n : Int) != (C : Int)) = true := by simp; omega
    clear FR HA
    go_enter Try.func24, Try.ntmps24
    go_wp2_with fail
    rw [HW.out, HG.out]
    refine wp_region_quiet_below (by kernel_rfl) (by kernel_rfl) ?_
    repeat (go_big_quiet_step (first
      | (go_at_call 14; with_reducible exact Calls.regrown_of (M.out _))))
    refine wpQuiet_nil ?_
    intro _ hw'
    obtain ⟨⟨dq, osq⟩, hw''⟩ := hw'
    subst hw''
    have B2 := BR.out dq osq
    go_wp2
    go_ret
    exact ⟨rfl, B2.1⟩

end Go.Proofs.Ytpakcajdbibbbaa.Pcm
