/-
  The contract of the reference's PutPcm: the bytes that rows are, or the error. Conditions: the rows are there.
-/
import Derived.Test.YtpakcajdbibbbaaPcRGet
import Derived.Test.YtpakcajdbibbbaaPcPut
import Derived.Test.YtpakcajdbibbbaaSdRMay
namespace Go.Proofs.Ytpakcajdbibbbaa.Pcm
open Go.RowKit Go.Sort Go.Proofs.Ytpakcajdbibbbaa.Mod Go.Proofs.Ytpakcajdbibbbaa.Num Go.Proofs.Ytpakcajdbibbbaa.Ints
set_option linter.unusedVariables false
set_option linter.unusedSimpArgs false

theorem fit_limit {q : Nat} (hq : q = 1 ∨ q = 2) {x : Int} (h : fits q x = true) : Lin.passed 131072 x = false := by
  rw [Lin.passed_no]
  rcases hq with rfl | rfl
  · have := fits_1 h; omega
  · have := fits_2 h; omega

/-- Rows that fit may be channels. -/
theorem fit_chs {q : Nat} (hq : q = 1 ∨ q = 2) {Ls : List (List Int)} (h1 : 1 ≤ Ls.length) (h2 : Ls.length ≤ 2) (h : rowsFit q Ls = true) : Sid.chsMay Ls = true := by
  rw [Sid.chsMay_some h1 h2]
  refine Sid.rowsMay_yes fun k hk => ?_
  obtain ⟨r1, r2⟩ := rowsFit_get h k hk
  refine ⟨r1, ?_⟩
  unfold Sid.okRow
  rw [anyOf_no fun i hi => fit_limit hq (rowFits_get r2 i hi)]
  rfl

theorem chs_len {Ls : List (List Int)} (h : Sid.chsMay Ls = true) (k : Nat) (hk : k < Ls.length) : (Ls.getD k []).length = (Ls.getD 0 []).length := by
  rcases Sid.chsMay_shape h with ⟨A, rfl, _⟩ | ⟨A, B, rfl, _, hl, _⟩
  · obtain rfl : k = 0 := by simp at hk; omega
    rfl
  · match k, hk with
    | 0, _ => rfl
    | 1, _ => exact hl
    | k + 2, hk => exact absurd hk (by simp)

theorem upto_fit (q : Nat) (lo hi x : Int) (h1 : lo = -hlf q) (h2 : hi = hlf q - 1) (w : World) : Calls Try.prog 30 #[.int .i64 x, .int .i64 lo, .int .i64 hi] w fun e w' => e = .returned (.bool (fits q x)) ∧ w' = w := by
  have := Has.upto_any x lo hi w
  have e : decide (x ≤ hi) = decide (x < hlf q) := by
    by_cases k : x < hlf q
    · rw [decide_eq_true k, decide_eq_true (by omega)]
    · rw [decide_eq_false k, decide_eq_false (by omega)]
  rw [e, h1] at this
  subst h1
  exact this

set_option maxHeartbeats 1000000 in
/-- The format may not be, or there are not as many rows. -/
theorem rput_no (c b : Int) (ao : Option Addr) (n cap : Nat) (hx : n ≤ maxLen) (h : okF c b = false ∨ okF c b = true ∧ (n : Int) ≠ c) (w : World) :
    Calls Try.prog 11 #[.slice ao n cap, fmt c b] w fun e w' => e = .returned (.tuple #[.string ⟨#[]⟩, .int .i64 1900]) ∧ Bel w w' := by
  unfold maxLen at hx
  obtain ⟨wb, hwb⟩ : ∃ wb, w.alloc (.cells #[.int .i64 c, .int .i64 b] 24) = wb := ⟨_, rfl⟩
  have HW : Hid (w.alloc (.cells #[.int .i64 c, .int .i64 b] 24) = wb) := hwb
  obtain ⟨gb, hgb⟩ : ∃ gb, w.heap.size = gb := ⟨_, rfl⟩
  have HG : Hid (w.heap.size = gb) := hgb
  have B0 : Hid (Bel w wb) := (by rw [← hwb]; exact (Bel.refl _).alloc _ : Bel w wb)
  have BX := box_new w c b
  rw [hwb, hgb] at BX
  have XX : Hid (Box wb gb c b) := BX
  obtain ⟨x0, x1⟩ := BX
  have l0 := cell_regrown x0
  have l1 := cell_regrown x1
  have BR : Hid (∀ d os, Bel w (grow (redrawn wb d) os) ∧ Bel wb (grow (redrawn wb d) os)) := fun d os => ⟨B0.out.trans (below_regrown wb d os), below_regrown wb d os⟩
  clear hwb hgb
  have M : Hid (∀ w, Calls Try.prog 15 #[fmt c b] w fun e w' => e = .returned (.bool (okF c b)) ∧ Bel w w') := fun w => rmay_ok c b w
  rcases h with h | ⟨h, hc⟩
  · rw [h] at M
    clear h
    go_enter Try.func11, Try.ntmps11
    go_wp2_with fail
    rw [HW.out, HG.out]
    refine wp_region_quiet_below (by kernel_rfl) (by kernel_rfl) ?_
    repeat (go_big_quiet_step (first
      | (go_at_call 15; with_reducible exact Calls.regrown_of (M.out _))
  ))
    refine wpQuiet_nil ?_
    intro _ hw'
    obtain ⟨⟨dq, osq⟩, hw''⟩ := hw'
    subst hw''
    have B2 := BR.out dq osq
    go_wp2
    go_ret2
    exact ⟨rfl, B2.1⟩

  · rw [h] at M
    have hd1 : ((n : Int) != c) = true := by simpa using hc
    clear h hc
    go_enter Try.func11, Try.ntmps11
    go_wp2_with fail
    rw [HW.out, HG.out]
    refine wp_region_quiet_below (by kernel_rfl) (by kernel_rfl) ?_
    repeat (go_big_quiet_step (first
      | (go_at_call 15; with_reducible exact Calls.regrown_of (M.out _))
  ))
    refine wpQuiet_nil ?_
    intro _ hw'
    obtain ⟨⟨dq, osq⟩, hw''⟩ := hw'
    subst hw''
    have B2 := BR.out dq osq
    go_wp2
    go_ret2
    exact ⟨rfl, B2.1⟩

set_option maxRecDepth 20000 in
set_option maxHeartbeats 1000000 in
theorem rput_one (C m : Nat) (hC : C = 1 ∨ C = 2) (x : Addr) (Ls : List (List Int)) (cap : Nat) (hn : Ls.length = C) (hm : (Ls.getD 0 []).length = m) (A : List UInt8) (E : Int)
    (h1 : m * (C * 1) ≤ 4096 → rowsFit 1 Ls = true → A = bytesOf 1 Ls m ∧ E = 0) (h2 : ¬ m * (C * 1) ≤ 4096 ∨ rowsFit 1 Ls = false → A = [] ∧ E = 1900) (w : World) (hA : Lls w (some x) Ls) :
    Calls Try.prog 11 #[.slice (some x) C cap, fmt (C : Int) 8] w fun e w' => e = .returned (.tuple #[.string ⟨A.toArray⟩, .int .i64 E]) ∧ Bel w w' := by
  obtain ⟨wb, hwb⟩ : ∃ wb, w.alloc (.cells #[.int .i64 (C : Int), .int .i64 8] 24) = wb := ⟨_, rfl⟩
  have HW : Hid (w.alloc (.cells #[.int .i64 (C : Int), .int .i64 8] 24) = wb) := hwb
  obtain ⟨gb, hgb⟩ : ∃ gb, w.heap.size = gb := ⟨_, rfl⟩
  have HG : Hid (w.heap.size = gb) := hgb
  have B0 : Hid (Bel w wb) := (by rw [← hwb]; exact (Bel.refl _).alloc _ : Bel w wb)
  have BX := box_new w (C : Int) 8
  rw [hwb, hgb] at BX
  have XX : Hid (Box wb gb (C : Int) 8) := BX
  obtain ⟨x0, x1⟩ := BX
  have l0 := cell_regrown x0
  have l1 := cell_regrown x1
  have BR : Hid (∀ d os, Bel w (grow (redrawn wb d) os) ∧ Bel wb (grow (redrawn wb d) os)) := fun d os => ⟨B0.out.trans (below_regrown wb d os), below_regrown wb d os⟩
  clear hwb hgb
  have M : Hid (∀ w, Calls Try.prog 15 #[fmt (C : Int) 8] w fun e w' => e = .returned (.bool (okF (C : Int) 8)) ∧ Bel w w') := fun w => rmay_ok (C : Int) 8 w
  have hok : okF (C : Int) 8 = true := by rcases hC with rfl | rfl <;> rfl
  rw [hok] at M
  have FR : Hid (∀ w, Calls Try.prog 23 #[fmt (C : Int) 8] w fun e w' => e = .returned (.int .i64 ((C * 1 : Nat) : Int)) ∧ Bel w w') := fun w => rframe_ok (C : Int) 8 hok w
  have CM : Hid (∀ d os, Calls Try.prog 29 #[.slice (some x) C cap] (grow (redrawn wb d) os) fun e w' => e = .returned (.bool (Sid.chsMay Ls)) ∧ Bel (grow (redrawn wb d) os) w') := fun d os => by
    refine (Sid.rmay_ok (some x) Ls C cap hn.symm (by unfold maxLen; omega) _ (hA.bel (BR.out d os).1)).mono ?_
    rintro e w1 ⟨rfl, k, rfl⟩
    exact ⟨rfl, (Bel.refl _).drewN k⟩
  have UP : Hid (∀ v w, Calls Try.prog 30 #[.int .i64 v, .int .i64 (-128), .int .i64 127] w fun e w' => e = .returned (.bool (fits 1 v)) ∧ w' = w) := fun v w => upto_fit 1 (-128) 127 v rfl rfl w
  have C0 : 1 ≤ C ∧ C ≤ 2 := by omega
  obtain ⟨f, hf⟩ : ∃ f, C * 1 = f := ⟨_, rfl⟩
  have HF : Hid (C * 1 = f) := hf
  have hd1 : ((C : Int) != (C : Int)) = false := by simp
  obtain ⟨y, hy, b0, c0, p0, s0, z0, t0⟩ := hA 0 (by omega)
  cases hy
  replace p0 : wb.cell? x = some (.slice b0 m c0) := by rw [Addr.add_zero', hm] at p0; exact B0.out.keep p0
  have P0 : Hid (wb.cell? x = some (.slice b0 m c0)) := p0
  have l2 := cell_regrown p0
  have H1 : Hid (m * f ≤ 4096 → rowsFit 1 Ls = true → A = bytesOf 1 Ls m ∧ E = 0) := (hf ▸ h1 : m * f ≤ 4096 → rowsFit 1 Ls = true → A = bytesOf 1 Ls m ∧ E = 0)
  have H2 : Hid (¬ m * f ≤ 4096 ∨ rowsFit 1 Ls = false → A = [] ∧ E = 1900) := (hf ▸ h2 : ¬ m * f ≤ 4096 ∨ rowsFit 1 Ls = false → A = [] ∧ E = 1900)
  rw [hf] at FR
  have HA : Hid (Lls wb (some x) Ls) := hA.bel B0.out
  have HN : Hid (Ls.length = C ∧ (Ls.getD 0 []).length = m) := ⟨hn, hm⟩
  have m8 : m ≤ 17592186044416 := by rw [← hm]; omega
  have hq : 1 ≤ f ∧ f ≤ 4 := by omega
  cases hch : Sid.chsMay Ls
  · rw [hch] at CM
    obtain ⟨rfl, rfl⟩ := h2 (.inr (by
      cases e : rowsFit 1 Ls
      · rfl
      · rw [fit_chs (by decide) (by omega) (by omega) e] at hch; cases hch))
    clear h1 h2 hA hn hm p0 s0 z0 t0 hf hch hok hC FR
    go_enter Try.func11, Try.ntmps11
    go_wp2_with fail
    rw [HW.out, HG.out]
    refine wp_region_quiet_below (by kernel_rfl) (by kernel_rfl) ?_
    repeat (go_big_quiet_step (first
      | (go_at_call 15; with_reducible exact Calls.regrown_of (M.out _))
      | (go_at_call 29; with_reducible exact Calls.regrown_of (CM.out _ _))))
    refine wpQuiet_nil ?_
    intro _ hw'
    obtain ⟨⟨dq, osq⟩, hw''⟩ := hw'
    subst hw''
    have B2 := BR.out dq osq
    go_wp2
    go_ret2
    exact ⟨rfl, B2.1⟩

  rw [hch] at CM
  have CL : Hid (∀ k, k < C → (Ls.getD k []).length = m) := fun k hk => (chs_len hch k (by omega)).trans hm
  clear h1 h2 hA hn hm p0 s0 z0 t0 hf hch hok hC
  obtain ⟨g, hg⟩ : ∃ g, m * f = g := ⟨_, rfl⟩
  have hgi : (m : Int) * (f : Int) = (g : Int) := by rw [← hg]; rfl
  have G4 : (g : Int) ≤ 70368744177664 := by
    have : m * f ≤ 17592186044416 * 4 := Nat.mul_le_mul m8 hq.2
    omega
  have GG : Hid (m * f = g) := hg
  clear hg
  by_cases hl : g ≤ 4096
  · have hdl : decide ((4096 : Int) < (g : Int)) = false := decide_eq_false (by omega)
    have HL : Hid (m * f ≤ 4096) := (by rw [GG.out]; exact hl : m * f ≤ 4096)
    go_enter Try.func11, Try.ntmps11
    go_wp2_with fail
    rw [HW.out, HG.out]
    refine wp_region_quiet_below (by kernel_rfl) (by kernel_rfl) ?_
    repeat (go_big_quiet_step (first
      | (go_at_call 15; with_reducible exact Calls.regrown_of (M.out _))
      | (go_at_call 29; with_reducible exact Calls.regrown_of (CM.out _ _))
      | (go_at_call 23; with_reducible exact Calls.regrown_of (FR.out _))))
    refine wpQuiet_nil ?_
    intro _ hw'
    obtain ⟨⟨dq, osq⟩, hw''⟩ := hw'
    subst hw''

    have B2 : Hid (Bel w (grow (redrawn wb dq) osq) ∧ Bel wb (grow (redrawn wb dq) osq)) := BR.out dq osq
    obtain ⟨W, hW⟩ : ∃ W, grow (redrawn wb dq) osq = W := ⟨_, rfl⟩
    rw [hW] at B2
    rw [hW]
    clear hW l0 l1 l2 hdl hgi
    go_wp2
    go_loopw [6, 7] (fun o i wr => ∃ (v : Value) (k : Nat), v = o ∧ k ≤ m ∧ i = .int .i64 (k : Int) ∧ Hid (wr.ownsRow wb.heap.size 5 1 v (bytesOf 1 Ls k).length (Lib.byteCells (bytesOf 1 Ls k))) ∧ Hid (∀ t, t < k → ∀ j, j < C → fits 1 ((Ls.getD j []).getD t 0) = true) ∧ Hid (Bel wb wr)) (fun _ i _ => m - (intOf i).toNat)
    case atStart => exact ⟨_, 0, rfl, Nat.zero_le _, rfl, ⟨rfl, .inl ⟨rfl, rfl⟩⟩, (fun t ht => by omega), B2.out.2⟩
    case round =>
      obtain ⟨o, k, rfl, hk, rfl, ho, hh, hb⟩ := hrel
      have p0 := hb.out.keep P0.out
      by_cases hkt : k < m
      · have hdk : decide ((k : Int) < (m : Int)) = true := decide_eq_true (by omega)
        have O1 : Hid (wr.ownsRow wb.heap.size 5 1 o (bytesOf 1 Ls k ++ ((Ls.take 0).flatMap fun L => tell 1 (L.getD k 0))).length (Lib.byteCells (bytesOf 1 Ls k ++ ((Ls.take 0).flatMap fun L => tell 1 (L.getD k 0))))) := (by simpa using ho.out : wr.ownsRow wb.heap.size 5 1 o (bytesOf 1 Ls k ++ ((Ls.take 0).flatMap fun L => tell 1 (L.getD k 0))).length (Lib.byteCells (bytesOf 1 Ls k ++ ((Ls.take 0).flatMap fun L => tell 1 (L.getD k 0)))))
        clear ho
        go_wp2
        clear p0
        go_loopw [6, 8] (fun o i wr => ∃ (v : Value) (j : Nat), v = o ∧ j ≤ C ∧ i = .int .i64 (j : Int) ∧ Hid (wr.ownsRow wb.heap.size 5 1 v (bytesOf 1 Ls k ++ ((Ls.take j).flatMap fun L => tell 1 (L.getD k 0))).length (Lib.byteCells (bytesOf 1 Ls k ++ ((Ls.take j).flatMap fun L => tell 1 (L.getD k 0))))) ∧ Hid (∀ i, i < j → fits 1 ((Ls.getD i []).getD k 0) = true) ∧ Hid (Bel wb wr)) (fun _ i _ => C - (intOf i).toNat)
        case atStart => exact ⟨o, 0, rfl, Nat.zero_le _, rfl, O1, (fun i hi => by omega : ∀ i, i < 0 → fits 1 ((Ls.getD i []).getD k 0) = true), hb⟩
        case round =>
          obtain ⟨o2, j, rfl, hj, rfl, ho2, hh2, hb2⟩ := hrel
          obtain ⟨y0, y1⟩ := XX.out.bel hb2.out
          by_cases hjt : j < C
          · have hdj : decide ((j : Int) < (C : Int)) = true := decide_eq_true (by omega)
            obtain ⟨y, hy, b1, c1, p1, s1, z1, t1⟩ := HA.out j (by rw [HN.out.1]; exact hjt)
            cases hy
            have hl1 := CL.out j hjt
            have g1 : wr.cell? (x.add j) = some (.slice b1 m c1) := by rw [← hl1]; exact hb2.out.keep p1
            obtain ⟨z, rfl, hz⟩ := t1 k (by omega)
            have g2 : wr.cell? (z.add k) = some (.int .i64 ((Ls.getD j []).getD k 0)) := hb2.out.keep hz
            have ht : (Ls.take j).flatMap (fun L => tell 1 (L.getD k 0)) ++ tell 1 ((Ls.getD j []).getD k 0) = (Ls.take (j + 1)).flatMap fun L => tell 1 (L.getD k 0) := getD_flat Ls (fun L => tell 1 (L.getD k 0)) j (by rw [HN.out.1]; exact hjt)
            have hlen : (bytesOf 1 Ls k ++ ((Ls.take j).flatMap fun L => tell 1 (L.getD k 0))).length + 1 ≤ 4096 := by
              rw [List.length_append, bytesOf_length, flat_take 1 Ls k j (by rw [HN.out.1]; omega), HN.out.1]
              have := at_lt (q := 1) hkt hjt
              rw [Nat.add_mul, Nat.mul_assoc] at this
              have h4 := HL.out
              rw [← HF.out] at h4
              omega
            obtain ⟨v, hv⟩ : ∃ v, (Ls.getD j []).getD k 0 = v := ⟨_, rfl⟩
            rw [hv] at g2 ht
            have VV : Hid ((Ls.getD j []).getD k 0 = v) := hv
            obtain ⟨l, hl⟩ : ∃ l, bytesOf 1 Ls k ++ ((Ls.take j).flatMap fun L => tell 1 (L.getD k 0)) = l := ⟨_, rfl⟩
            rw [hl] at ho2 hlen
            have HT : Hid (l ++ tell 1 v = bytesOf 1 Ls k ++ ((Ls.take (j + 1)).flatMap fun L => tell 1 (L.getD k 0))) := by
              show _ = _
              rw [← hl, List.append_assoc, ht]
            have UV := UP.out v
            clear hl1 p1 s1 z1 t1 hz ht hl hv
            cases hfx : fits 1 v
            · rw [hfx] at UV
              have UV2 : Hid (∀ w, Calls Try.prog 30 #[.int .i64 v, .int .i64 (-128), .int .i64 127] w fun e w' => e = .returned (.bool false) ∧ w' = w) := UV
              have BAD : Hid (rowsFit 1 Ls = false) := rowsFit_no j (by rw [HN.out.1]; exact hjt) (.inr (rowFits_no k (by rw [CL.out j hjt]; exact hkt) (by rw [VV.out]; exact hfx)))
              obtain ⟨rfl, rfl⟩ := H2.out (.inr BAD.out)
              have FIN : Hid (Bel w wr) := B0.out.trans hb2.out
              clear UV hfx
              go_wp2_with fail
              refine (UV2.out _).mono ?_
              rintro e w4 ⟨rfl, rfl⟩
              go_wp2
              go_ret2
              exact ⟨rfl, FIN.out⟩
            · rw [hfx] at UV
              have UV2 : Hid (∀ w, Calls Try.prog 30 #[.int .i64 v, .int .i64 (-128), .int .i64 127] w fun e w' => e = .returned (.bool true) ∧ w' = w) := UV
              have hh3 : Hid (∀ i, i < j + 1 → fits 1 ((Ls.getD i []).getD k 0) = true) := fun i hi => by
                rcases Nat.lt_or_ge i j with r | r
                · exact hh2.out i r
                · obtain rfl : i = j := by omega
                  rw [VV.out]; exact hfx
              obtain ⟨v0, v1⟩ := fits_1 hfx
              clear UV hfx
              go_wp2_with fail
              refine (UV2.out _).mono ?_
              rintro e w4 ⟨rfl, rfl⟩
              have H8 : Hid (l.length ≤ 140737488351232 ∧ wb.heap.size ≤ w4.heap.size) := ⟨by omega, hb2.out.size⟩
              go_wp2_with (at_builtin; refine Byt.wpl_byte w4 rfl (.tmp 62) (.tmp 66) rfl wb.heap.size l.length H8.out.2 o2 l _ (UInt8.ofNat ((v + 128) % 256).toNat) ?hz rfl rfl ho2.out H8.out.1 ?_)
              case hz => rw [byte_of]; omega
              intro v' w5 hv hb5
              have B5 : Hid (Bel wb w5) := Below.trans hb2.out hb5
              have O5 : Hid (w5.ownsRow wb.heap.size 5 1 v' (bytesOf 1 Ls k ++ ((Ls.take (j + 1)).flatMap fun L => tell 1 (L.getD k 0))).length (Lib.byteCells (bytesOf 1 Ls k ++ ((Ls.take (j + 1)).flatMap fun L => tell 1 (L.getD k 0))))) := by
                show World.ownsRow _ _ _ _ _ _ _
                rw [← HT.out, List.length_append, tell_length]
                exact hv
              clear hv hb5 ho2 hb2 y0 y1 g1 g2 HT
              go_wp2
              go_roundw
              case rel => exact ⟨_, j + 1, rfl, by omega, by go_num, O5, hh3, B5⟩
              case measure => simp [intOf]; omega
          · obtain rfl : C = j := by omega
            have hdj : decide ((C : Int) < (C : Int)) = false := decide_eq_false (by omega)
            have O4 : Hid (wr.ownsRow wb.heap.size 5 1 o2 (bytesOf 1 Ls (k + 1)).length (Lib.byteCells (bytesOf 1 Ls (k + 1)))) := (by
              have := ho2.out
              rwa [← HN.out.1, List.take_length, bytesOf_snoc] at this : wr.ownsRow wb.heap.size 5 1 o2 (bytesOf 1 Ls (k + 1)).length (Lib.byteCells (bytesOf 1 Ls (k + 1))))
            have hh4 : Hid (∀ t, t < k + 1 → ∀ j, j < C → fits 1 ((Ls.getD j []).getD t 0) = true) := fun t ht => by
              rcases Nat.lt_or_ge t k with r | r
              · exact hh.out t r
              · obtain rfl : t = k := by omega
                exact hh2.out
            clear ho2 hh2 hh
            go_wp2
            go_roundw
            case rel => exact ⟨_, k + 1, rfl, by omega, by go_num, O4, hh4, hb2⟩
            case measure => simp [intOf]; omega
      · obtain rfl : m = k := by omega
        have hdk : decide ((m : Int) < (m : Int)) = false := decide_eq_false (by omega)
        have GOOD : Hid (rowsFit 1 Ls = true) := rowsFit_yes fun j hj => by
          rw [HN.out.1] at hj
          exact ⟨(CL.out j hj).trans HN.out.2.symm, rowFits_yes fun t ht => hh.out t (by rw [CL.out j hj] at ht; exact ht) j hj⟩
        obtain ⟨rfl, rfl⟩ := H1.out HL.out GOOD.out
        have hcv := Byt.own_str ho.out
        have FIN : Hid (Bel w wr) := B0.out.trans hb.out
        clear ho hh
        go_wp2
        go_ret2
        exact ⟨rfl, FIN.out⟩
  · have hdl : decide ((4096 : Int) < (g : Int)) = true := decide_eq_true (by omega)
    obtain ⟨rfl, rfl⟩ := H2.out (.inl (by rw [GG.out]; exact hl))
    go_enter Try.func11, Try.ntmps11
    go_wp2_with fail
    rw [HW.out, HG.out]
    refine wp_region_quiet_below (by kernel_rfl) (by kernel_rfl) ?_
    repeat (go_big_quiet_step (first
      | (go_at_call 15; with_reducible exact Calls.regrown_of (M.out _))
      | (go_at_call 29; with_reducible exact Calls.regrown_of (CM.out _ _))
      | (go_at_call 23; with_reducible exact Calls.regrown_of (FR.out _))))
    refine wpQuiet_nil ?_
    intro _ hw'
    obtain ⟨⟨dq, osq⟩, hw''⟩ := hw'
    subst hw''
    have B2 := BR.out dq osq
    go_wp2
    go_ret2
    exact ⟨rfl, B2.1⟩

set_option maxRecDepth 20000 in
set_option maxHeartbeats 1000000 in
theorem rput_two (C m : Nat) (hC : C = 1 ∨ C = 2) (x : Addr) (Ls : List (List Int)) (cap : Nat) (hn : Ls.length = C) (hm : (Ls.getD 0 []).length = m) (A : List UInt8) (E : Int)
    (h1 : m * (C * 2) ≤ 4096 → rowsFit 2 Ls = true → A = bytesOf 2 Ls m ∧ E = 0) (h2 : ¬ m * (C * 2) ≤ 4096 ∨ rowsFit 2 Ls = false → A = [] ∧ E = 1900) (w : World) (hA : Lls w (some x) Ls) :
    Calls Try.prog 11 #[.slice (some x) C cap, fmt (C : Int) 16] w fun e w' => e = .returned (.tuple #[.string ⟨A.toArray⟩, .int .i64 E]) ∧ Bel w w' := by
  obtain ⟨wb, hwb⟩ : ∃ wb, w.alloc (.cells #[.int .i64 (C : Int), .int .i64 16] 24) = wb := ⟨_, rfl⟩
  have HW : Hid (w.alloc (.cells #[.int .i64 (C : Int), .int .i64 16] 24) = wb) := hwb
  obtain ⟨gb, hgb⟩ : ∃ gb, w.heap.size = gb := ⟨_, rfl⟩
  have HG : Hid (w.heap.size = gb) := hgb
  have B0 : Hid (Bel w wb) := (by rw [← hwb]; exact (Bel.refl _).alloc _ : Bel w wb)
  have BX := box_new w (C : Int) 16
  rw [hwb, hgb] at BX
  have XX : Hid (Box wb gb (C : Int) 16) := BX
  obtain ⟨x0, x1⟩ := BX
  have l0 := cell_regrown x0
  have l1 := cell_regrown x1
  have BR : Hid (∀ d os, Bel w (grow (redrawn wb d) os) ∧ Bel wb (grow (redrawn wb d) os)) := fun d os => ⟨B0.out.trans (below_regrown wb d os), below_regrown wb d os⟩
  clear hwb hgb
  have M : Hid (∀ w, Calls Try.prog 15 #[fmt (C : Int) 16] w fun e w' => e = .returned (.bool (okF (C : Int) 16)) ∧ Bel w w') := fun w => rmay_ok (C : Int) 16 w
  have hok : okF (C : Int) 16 = true := by rcases hC with rfl | rfl <;> rfl
  rw [hok] at M
  have FR : Hid (∀ w, Calls Try.prog 23 #[fmt (C : Int) 16] w fun e w' => e = .returned (.int .i64 ((C * 2 : Nat) : Int)) ∧ Bel w w') := fun w => rframe_ok (C : Int) 16 hok w
  have CM : Hid (∀ d os, Calls Try.prog 29 #[.slice (some x) C cap] (grow (redrawn wb d) os) fun e w' => e = .returned (.bool (Sid.chsMay Ls)) ∧ Bel (grow (redrawn wb d) os) w') := fun d os => by
    refine (Sid.rmay_ok (some x) Ls C cap hn.symm (by unfold maxLen; omega) _ (hA.bel (BR.out d os).1)).mono ?_
    rintro e w1 ⟨rfl, k, rfl⟩
    exact ⟨rfl, (Bel.refl _).drewN k⟩
  have UP : Hid (∀ v w, Calls Try.prog 30 #[.int .i64 v, .int .i64 (-32768), .int .i64 32767] w fun e w' => e = .returned (.bool (fits 2 v)) ∧ w' = w) := fun v w => upto_fit 2 (-32768) 32767 v rfl rfl w
  have C0 : 1 ≤ C ∧ C ≤ 2 := by omega
  obtain ⟨f, hf⟩ : ∃ f, C * 2 = f := ⟨_, rfl⟩
  have HF : Hid (C * 2 = f) := hf
  have hd1 : ((C : Int) != (C : Int)) = false := by simp
  obtain ⟨y, hy, b0, c0, p0, s0, z0, t0⟩ := hA 0 (by omega)
  cases hy
  replace p0 : wb.cell? x = some (.slice b0 m c0) := by rw [Addr.add_zero', hm] at p0; exact B0.out.keep p0
  have P0 : Hid (wb.cell? x = some (.slice b0 m c0)) := p0
  have l2 := cell_regrown p0
  have H1 : Hid (m * f ≤ 4096 → rowsFit 2 Ls = true → A = bytesOf 2 Ls m ∧ E = 0) := (hf ▸ h1 : m * f ≤ 4096 → rowsFit 2 Ls = true → A = bytesOf 2 Ls m ∧ E = 0)
  have H2 : Hid (¬ m * f ≤ 4096 ∨ rowsFit 2 Ls = false → A = [] ∧ E = 1900) := (hf ▸ h2 : ¬ m * f ≤ 4096 ∨ rowsFit 2 Ls = false → A = [] ∧ E = 1900)
  rw [hf] at FR
  have HA : Hid (Lls wb (some x) Ls) := hA.bel B0.out
  have HN : Hid (Ls.length = C ∧ (Ls.getD 0 []).length = m) := ⟨hn, hm⟩
  have m8 : m ≤ 17592186044416 := by rw [← hm]; omega
  have hq : 1 ≤ f ∧ f ≤ 4 := by omega
  cases hch : Sid.chsMay Ls
  · rw [hch] at CM
    obtain ⟨rfl, rfl⟩ := h2 (.inr (by
      cases e : rowsFit 2 Ls
      · rfl
      · rw [fit_chs (by decide) (by omega) (by omega) e] at hch; cases hch))
    clear h1 h2 hA hn hm p0 s0 z0 t0 hf hch hok hC FR
    go_enter Try.func11, Try.ntmps11
    go_wp2_with fail
    rw [HW.out, HG.out]
    refine wp_region_quiet_below (by kernel_rfl) (by kernel_rfl) ?_
    repeat (go_big_quiet_step (first
      | (go_at_call 15; with_reducible exact Calls.regrown_of (M.out _))
      | (go_at_call 29; with_reducible exact Calls.regrown_of (CM.out _ _))))
    refine wpQuiet_nil ?_
    intro _ hw'
    obtain ⟨⟨dq, osq⟩, hw''⟩ := hw'
    subst hw''
    have B2 := BR.out dq osq
    go_wp2
    go_ret2
    exact ⟨rfl, B2.1⟩

  rw [hch] at CM
  have CL : Hid (∀ k, k < C → (Ls.getD k []).length = m) := fun k hk => (chs_len hch k (by omega)).trans hm
  clear h1 h2 hA hn hm p0 s0 z0 t0 hf hch hok hC
  obtain ⟨g, hg⟩ : ∃ g, m * f = g := ⟨_, rfl⟩
  have hgi : (m : Int) * (f : Int) = (g : Int) := by rw [← hg]; rfl
  have G4 : (g : Int) ≤ 70368744177664 := by
    have : m * f ≤ 17592186044416 * 4 := Nat.mul_le_mul m8 hq.2
    omega
  have GG : Hid (m * f = g) := hg
  clear hg
  by_cases hl : g ≤ 4096
  · have hdl : decide ((4096 : Int) < (g : Int)) = false := decide_eq_false (by omega)
    have HL : Hid (m * f ≤ 4096) := (by rw [GG.out]; exact hl : m * f ≤ 4096)
    go_enter Try.func11, Try.ntmps11
    go_wp2_with fail
    rw [HW.out, HG.out]
    refine wp_region_quiet_below (by kernel_rfl) (by kernel_rfl) ?_
    repeat (go_big_quiet_step (first
      | (go_at_call 15; with_reducible exact Calls.regrown_of (M.out _))
      | (go_at_call 29; with_reducible exact Calls.regrown_of (CM.out _ _))
      | (go_at_call 23; with_reducible exact Calls.regrown_of (FR.out _))))
    refine wpQuiet_nil ?_
    intro _ hw'
    obtain ⟨⟨dq, osq⟩, hw''⟩ := hw'
    subst hw''

    have B2 : Hid (Bel w (grow (redrawn wb dq) osq) ∧ Bel wb (grow (redrawn wb dq) osq)) := BR.out dq osq
    obtain ⟨W, hW⟩ : ∃ W, grow (redrawn wb dq) osq = W := ⟨_, rfl⟩
    rw [hW] at B2
    rw [hW]
    clear hW l0 l1 l2 hdl hgi
    go_wp2
    go_loopw [6, 7] (fun o i wr => ∃ (v : Value) (k : Nat), v = o ∧ k ≤ m ∧ i = .int .i64 (k : Int) ∧ Hid (wr.ownsRow wb.heap.size 5 1 v (bytesOf 2 Ls k).length (Lib.byteCells (bytesOf 2 Ls k))) ∧ Hid (∀ t, t < k → ∀ j, j < C → fits 2 ((Ls.getD j []).getD t 0) = true) ∧ Hid (Bel wb wr)) (fun _ i _ => m - (intOf i).toNat)
    case atStart => exact ⟨_, 0, rfl, Nat.zero_le _, rfl, ⟨rfl, .inl ⟨rfl, rfl⟩⟩, (fun t ht => by omega), B2.out.2⟩
    case round =>
      obtain ⟨o, k, rfl, hk, rfl, ho, hh, hb⟩ := hrel
      have p0 := hb.out.keep P0.out
      by_cases hkt : k < m
      · have hdk : decide ((k : Int) < (m : Int)) = true := decide_eq_true (by omega)
        have O1 : Hid (wr.ownsRow wb.heap.size 5 1 o (bytesOf 2 Ls k ++ ((Ls.take 0).flatMap fun L => tell 2 (L.getD k 0))).length (Lib.byteCells (bytesOf 2 Ls k ++ ((Ls.take 0).flatMap fun L => tell 2 (L.getD k 0))))) := (by simpa using ho.out : wr.ownsRow wb.heap.size 5 1 o (bytesOf 2 Ls k ++ ((Ls.take 0).flatMap fun L => tell 2 (L.getD k 0))).length (Lib.byteCells (bytesOf 2 Ls k ++ ((Ls.take 0).flatMap fun L => tell 2 (L.getD k 0)))))
        clear ho
        go_wp2
        clear p0
        go_loopw [6, 8] (fun o i wr => ∃ (v : Value) (j : Nat), v = o ∧ j ≤ C ∧ i = .int .i64 (j : Int) ∧ Hid (wr.ownsRow wb.heap.size 5 1 v (bytesOf 2 Ls k ++ ((Ls.take j).flatMap fun L => tell 2 (L.getD k 0))).length (Lib.byteCells (bytesOf 2 Ls k ++ ((Ls.take j).flatMap fun L => tell 2 (L.getD k 0))))) ∧ Hid (∀ i, i < j → fits 2 ((Ls.getD i []).getD k 0) = true) ∧ Hid (Bel wb wr)) (fun _ i _ => C - (intOf i).toNat)
        case atStart => exact ⟨o, 0, rfl, Nat.zero_le _, rfl, O1, (fun i hi => by omega : ∀ i, i < 0 → fits 2 ((Ls.getD i []).getD k 0) = true), hb⟩
        case round =>
          obtain ⟨o2, j, rfl, hj, rfl, ho2, hh2, hb2⟩ := hrel
          obtain ⟨y0, y1⟩ := XX.out.bel hb2.out
          by_cases hjt : j < C
          · have hdj : decide ((j : Int) < (C : Int)) = true := decide_eq_true (by omega)
            obtain ⟨y, hy, b1, c1, p1, s1, z1, t1⟩ := HA.out j (by rw [HN.out.1]; exact hjt)
            cases hy
            have hl1 := CL.out j hjt
            have g1 : wr.cell? (x.add j) = some (.slice b1 m c1) := by rw [← hl1]; exact hb2.out.keep p1
            obtain ⟨z, rfl, hz⟩ := t1 k (by omega)
            have g2 : wr.cell? (z.add k) = some (.int .i64 ((Ls.getD j []).getD k 0)) := hb2.out.keep hz
            have ht : (Ls.take j).flatMap (fun L => tell 2 (L.getD k 0)) ++ tell 2 ((Ls.getD j []).getD k 0) = (Ls.take (j + 1)).flatMap fun L => tell 2 (L.getD k 0) := getD_flat Ls (fun L => tell 2 (L.getD k 0)) j (by rw [HN.out.1]; exact hjt)
            have hlen : (bytesOf 2 Ls k ++ ((Ls.take j).flatMap fun L => tell 2 (L.getD k 0))).length + 2 ≤ 4096 := by
              rw [List.length_append, bytesOf_length, flat_take 2 Ls k j (by rw [HN.out.1]; omega), HN.out.1]
              have := at_lt (q := 2) hkt hjt
              rw [Nat.add_mul, Nat.mul_assoc] at this
              have h4 := HL.out
              rw [← HF.out] at h4
              omega
            obtain ⟨v, hv⟩ : ∃ v, (Ls.getD j []).getD k 0 = v := ⟨_, rfl⟩
            rw [hv] at g2 ht
            have VV : Hid ((Ls.getD j []).getD k 0 = v) := hv
            obtain ⟨l, hl⟩ : ∃ l, bytesOf 2 Ls k ++ ((Ls.take j).flatMap fun L => tell 2 (L.getD k 0)) = l := ⟨_, rfl⟩
            rw [hl] at ho2 hlen
            have HT : Hid (l ++ tell 2 v = bytesOf 2 Ls k ++ ((Ls.take (j + 1)).flatMap fun L => tell 2 (L.getD k 0))) := by
              show _ = _
              rw [← hl, List.append_assoc, ht]
            have UV := UP.out v
            clear hl1 p1 s1 z1 t1 hz ht hl hv
            cases hfx : fits 2 v
            · rw [hfx] at UV
              have UV2 : Hid (∀ w, Calls Try.prog 30 #[.int .i64 v, .int .i64 (-32768), .int .i64 32767] w fun e w' => e = .returned (.bool false) ∧ w' = w) := UV
              have BAD : Hid (rowsFit 2 Ls = false) := rowsFit_no j (by rw [HN.out.1]; exact hjt) (.inr (rowFits_no k (by rw [CL.out j hjt]; exact hkt) (by rw [VV.out]; exact hfx)))
              obtain ⟨rfl, rfl⟩ := H2.out (.inr BAD.out)
              have FIN : Hid (Bel w wr) := B0.out.trans hb2.out
              clear UV hfx
              go_wp2_with fail
              refine (UV2.out _).mono ?_
              rintro e w4 ⟨rfl, rfl⟩
              go_wp2
              go_ret2
              exact ⟨rfl, FIN.out⟩
            · rw [hfx] at UV
              have UV2 : Hid (∀ w, Calls Try.prog 30 #[.int .i64 v, .int .i64 (-32768), .int .i64 32767] w fun e w' => e = .returned (.bool true) ∧ w' = w) := UV
              have hh3 : Hid (∀ i, i < j + 1 → fits 2 ((Ls.getD i []).getD k 0) = true) := fun i hi => by
                rcases Nat.lt_or_ge i j with r | r
                · exact hh2.out i r
                · obtain rfl : i = j := by omega
                  rw [VV.out]; exact hfx
              obtain ⟨v0, v1⟩ := fits_2 hfx
              clear UV hfx
              go_wp2_with fail
              refine (UV2.out _).mono ?_
              rintro e w4 ⟨rfl, rfl⟩
              have H8 : Hid (l.length + 1 ≤ 140737488351232 ∧ wb.heap.size ≤ w4.heap.size) := ⟨by omega, hb2.out.size⟩
              have hu : numb 2 v = v ∨ numb 2 v = v + 65536 := by
                unfold numb
                rw [if_neg (by decide)]
                by_cases k : v < 0
                · rw [if_pos k]; exact .inr rfl
                · rw [if_neg k]; exact .inl rfl
              have HU : Hid (numb 2 v = v ∨ numb 2 v = v + 65536) := hu
              clear hu
              go_wp2_with (at_builtin; refine Byt.wpl_byte w4 rfl (.tmp 71) (.tmp 74) rfl wb.heap.size l.length H8.out.2 o2 l _ (UInt8.ofNat (numb 2 v % 256).toNat) ?hz rfl rfl ho2.out (by have := H8.out.1; omega) ?_)
              case hz => rw [byte_of]; have := HU.out; omega
              intro v' w5 hv hb5
              have B5 : Hid (Bel wb w5) := Below.trans hb2.out hb5
              have S5 : Hid (wb.heap.size ≤ w5.heap.size) := B5.out.size
              have HV : Hid (w5.ownsRow wb.heap.size 5 1 v' (l.length + 1) (Lib.byteCells (l ++ [UInt8.ofNat (numb 2 v % 256).toNat]))) := hv
              clear hv hb5
              go_wp2_with (at_builtin; refine Byt.wpl_byte w5 rfl (.tmp 76) (.tmp 80) rfl wb.heap.size (l.length + 1) S5.out v' (l ++ [UInt8.ofNat (numb 2 v % 256).toNat]) _ (UInt8.ofNat (numb 2 v / 256 % 256).toNat) ?hz rfl rfl HV.out H8.out.1 ?_)
              case hz => rw [byte_of]; have := HU.out; omega
              intro v'' w6 hv hb6
              have B6 : Hid (Bel wb w6) := Below.trans B5.out hb6
              have O6 : Hid (w6.ownsRow wb.heap.size 5 1 v'' (bytesOf 2 Ls k ++ ((Ls.take (j + 1)).flatMap fun L => tell 2 (L.getD k 0))).length (Lib.byteCells (bytesOf 2 Ls k ++ ((Ls.take (j + 1)).flatMap fun L => tell 2 (L.getD k 0))))) := by
                show World.ownsRow _ _ _ _ _ _ _
                rw [← HT.out, List.length_append, tell_length]
                exact hv
              clear hv hb6 ho2 hb2 y0 y1 g1 g2 HT HV B5
              go_wp2
              go_roundw
              case rel => exact ⟨_, j + 1, rfl, by omega, by go_num, O6, hh3, B6⟩
              case measure => simp [intOf]; omega
          · obtain rfl : C = j := by omega
            have hdj : decide ((C : Int) < (C : Int)) = false := decide_eq_false (by omega)
            have O4 : Hid (wr.ownsRow wb.heap.size 5 1 o2 (bytesOf 2 Ls (k + 1)).length (Lib.byteCells (bytesOf 2 Ls (k + 1)))) := (by
              have := ho2.out
              rwa [← HN.out.1, List.take_length, bytesOf_snoc] at this : wr.ownsRow wb.heap.size 5 1 o2 (bytesOf 2 Ls (k + 1)).length (Lib.byteCells (bytesOf 2 Ls (k + 1))))
            have hh4 : Hid (∀ t, t < k + 1 → ∀ j, j < C → fits 2 ((Ls.getD j []).getD t 0) = true) := fun t ht => by
              rcases Nat.lt_or_ge t k with r | r
              · exact hh.out t r
              · obtain rfl : t = k := by omega
                exact hh2.out
            clear ho2 hh2 hh
            go_wp2
            go_roundw
            case rel => exact ⟨_, k + 1, rfl, by omega, by go_num, O4, hh4, hb2⟩
            case measure => simp [intOf]; omega
      · obtain rfl : m = k := by omega
        have hdk : decide ((m : Int) < (m : Int)) = false := decide_eq_false (by omega)
        have GOOD : Hid (rowsFit 2 Ls = true) := rowsFit_yes fun j hj => by
          rw [HN.out.1] at hj
          exact ⟨(CL.out j hj).trans HN.out.2.symm, rowFits_yes fun t ht => hh.out t (by rw [CL.out j hj] at ht; exact ht) j hj⟩
        obtain ⟨rfl, rfl⟩ := H1.out HL.out GOOD.out
        have hcv := Byt.own_str ho.out
        have FIN : Hid (Bel w wr) := B0.out.trans hb.out
        clear ho hh
        go_wp2
        go_ret2
        exact ⟨rfl, FIN.out⟩
  · have hdl : decide ((4096 : Int) < (g : Int)) = true := decide_eq_true (by omega)
    obtain ⟨rfl, rfl⟩ := H2.out (.inl (by rw [GG.out]; exact hl))
    go_enter Try.func11, Try.ntmps11
    go_wp2_with fail
    rw [HW.out, HG.out]
    refine wp_region_quiet_below (by kernel_rfl) (by kernel_rfl) ?_
    repeat (go_big_quiet_step (first
      | (go_at_call 15; with_reducible exact Calls.regrown_of (M.out _))
      | (go_at_call 29; with_reducible exact Calls.regrown_of (CM.out _ _))
      | (go_at_call 23; with_reducible exact Calls.regrown_of (FR.out _))))
    refine wpQuiet_nil ?_
    intro _ hw'
    obtain ⟨⟨dq, osq⟩, hw''⟩ := hw'
    subst hw''
    have B2 := BR.out dq osq
    go_wp2
    go_ret2
    exact ⟨rfl, B2.1⟩

theorem okPut_split (c b : Int) (Ls : List (List Int)) (ho : okF c b = true) (hn : Ls.length = fC c) :
    ((Ls.getD 0 []).length * (fC c * fQ b) ≤ 4096 → rowsFit (fQ b) Ls = true → ansPut c b Ls = bytesOf (fQ b) Ls (Ls.getD 0 []).length ∧ errPut c b Ls = 0) ∧ (¬ (Ls.getD 0 []).length * (fC c * fQ b) ≤ 4096 ∨ rowsFit (fQ b) Ls = false → ansPut c b Ls = [] ∧ errPut c b Ls = 1900) := by
  have e : okPut c b Ls = (decide ((Ls.getD 0 []).length * (fC c * fQ b) ≤ 4096) && rowsFit (fQ b) Ls) := by
    unfold okPut
    rw [ho, decide_eq_true hn, Bool.true_and, Bool.true_and]
  unfold ansPut errPut
  refine ⟨fun h1 h2 => ?_, fun h => ?_⟩
  · rw [e, decide_eq_true h1, h2]
    exact ⟨rfl, rfl⟩
  · have : okPut c b Ls = false := by
      rw [e]
      rcases h with h | h
      · rw [decide_eq_false h, Bool.false_and]
      · rw [h, Bool.and_false]
    rw [this]
    exact ⟨rfl, rfl⟩

/-- The reference's, of whatever rows and format. -/
theorem rput_ok (c b : Int) (ao : Option Addr) (Ls : List (List Int)) (n cap : Nat) (hn : n = Ls.length) (hx : n ≤ maxLen) (w : World) (hA : Lls w ao Ls) :
    Calls Try.prog 11 #[.slice ao n cap, fmt c b] w fun e w' => e = .returned (.tuple #[.string ⟨(ansPut c b Ls).toArray⟩, .int .i64 (errPut c b Ls)]) ∧ Bel w w' := by
  by_cases h : okF c b = false ∨ okF c b = true ∧ (n : Int) ≠ c
  · have e : okPut c b Ls = false := by
      unfold okPut
      rcases h with h | ⟨h, hc⟩
      · rw [h, Bool.false_and]
      · obtain ⟨_, _, h3, _⟩ := okF_nat h
        rw [show decide (Ls.length = fC c) = false from decide_eq_false (by omega), Bool.false_and, Bool.and_false]
    have e1 : ansPut c b Ls = [] := by unfold ansPut; rw [e]; rfl
    have e2 : errPut c b Ls = 1900 := by unfold errPut; rw [e]; rfl
    rw [e1, e2]
    exact rput_no c b ao n cap hx h w
  · have ho : okF c b = true := by
      cases q : okF c b
      · exact absurd (.inl q) h
      · rfl
    have hc : (n : Int) = c := Decidable.byContradiction fun q => h (.inr ⟨ho, q⟩)
    obtain ⟨h1, h2, h3, h4⟩ := okF_nat ho
    obtain ⟨s1, s2⟩ := okPut_split c b Ls ho (by omega)
    obtain ⟨x, rfl, _⟩ := hA 0 (by omega)
    generalize ansPut c b Ls = A at *
    generalize errPut c b Ls = E at *
    rw [show n = fC c by omega]
    rcases h2 with q | q
    · rw [q] at s1 s2 h4
      have P := rput_one (fC c) _ h1 x Ls cap (by omega) rfl A E s1 s2 w hA
      rw [← h3] at P
      have h5 : b = 8 := h4
      rw [h5]
      exact P
    · rw [q] at s1 s2 h4
      have P := rput_two (fC c) _ h1 x Ls cap (by omega) rfl A E s1 s2 w hA
      rw [← h3] at P
      have h5 : b = 16 := h4
      rw [h5]
      exact P

end Go.Proofs.Ytpakcajdbibbbaa.Pcm
