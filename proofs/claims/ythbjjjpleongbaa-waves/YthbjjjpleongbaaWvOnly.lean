/-
  The contract of wave's only: the chunk of a name, if there is just one. Condition: the chunks are there, at most 64.
-/
import Derived.Test.YthbjjjpleongbaaWvOnl
namespace Go.Proofs.Ythbjjjpleongbaa.Wav
open Go.RowKit Go.Sort Go.Proofs.Ythbjjjpleongbaa.Mod Go.Proofs.Ythbjjjpleongbaa.Num Go.Proofs.Ythbjjjpleongbaa.Chk
set_option linter.unusedVariables false
set_option linter.unusedSimpArgs false

theorem cal_ok (B : Nat) (n : List UInt8) (c : Ch) (w : World) (cB : w.cell? ⟨B, 0, none⟩ = some (.string (tx n))) :
    Calls Try.prog 29 #[cval c, .pointer (some ⟨B, 0, none⟩)] w fun e w' => e = .returned (.bool (decide (c.1 = n))) ∧ Bel w w' := by
  obtain ⟨l, p, k⟩ := c
  have e : (l == n) = decide (l = n) := by rw [Bool.eq_iff_iff, beq_iff_eq, decide_eq_true_eq]
  have e2 : ((tx l).toList == (tx n).toList) = decide (l = n) := by rw [toList_tx, toList_tx]; exact e
  have BB : Hid (w.cell? ⟨B, 0, none⟩ = some (.string (tx n))) := cB
  have hb := block_lt_of_cell cB
  have k0 : (w.alloc (.cells #[.string (tx l), .int .i64 (p : Int), .int .i64 (k : Int)] 52)).cell? ⟨B, 0, none⟩ = some (.string (tx n)) := ((Bel.refl w).alloc _).keep cB
  go_enter Try.func29, Try.ntmps29
  go_wp2
  go_ret
  exact ⟨rfl, (Bel.refl _).alloc _⟩

/-- A slice's chunks, wherever in its block they begin. -/
def Slo (w : World) (ao : Option Addr) (Cs : List Ch) : Prop :=
  ∀ k, k < Cs.length → ∃ g o, ao = some ⟨g, o, none⟩ ∧ w.cell? ⟨g, o + k * 3, none⟩ = some (.string (tx (Cs.getD k ch0).1)) ∧ w.cell? ⟨g, o + k * 3 + 1, none⟩ = some (.int .i64 ((Cs.getD k ch0).2.1 : Int)) ∧ w.cell? ⟨g, o + k * 3 + 2, none⟩ = some (.int .i64 ((Cs.getD k ch0).2.2 : Int))
theorem Slo.bel {w w' : World} {ao : Option Addr} {Cs : List Ch} (h : Slo w ao Cs) (b : Bel w w') : Slo w' ao Cs := fun k hk => by
  obtain ⟨g, o, hx, h0, h1, h2⟩ := h k hk
  exact ⟨g, o, hx, b.keep h0, b.keep h1, b.keep h2⟩
theorem Slk.slo {w : World} {ao : Option Addr} {Cs : List Ch} (h : Slk w ao Cs) : Slo w ao Cs := fun k hk => by
  obtain ⟨g, hx, h0, h1, h2⟩ := h k hk
  exact ⟨g, 0, hx, by rw [Nat.zero_add]; exact h0, by rw [Nat.zero_add]; exact h1, by rw [Nat.zero_add]; exact h2⟩
theorem Slk.from {w : World} {g : Nat} {Cs : List Ch} (h : Slk w (some ⟨g, 0, none⟩) Cs) (i : Nat) : Slo w (some ⟨g, i * 3, none⟩) (Cs.drop i) := fun k hk => by
  rw [List.length_drop] at hk
  obtain ⟨g', hx, h0, h1, h2⟩ := h (i + k) (by omega)
  injection hx with hx
  injection hx with hx
  subst hx
  have e : (Cs.drop i).getD k ch0 = Cs.getD (i + k) ch0 := by simp [List.getD_eq_getElem?_getD]
  rw [e]
  refine ⟨g, i * 3, rfl, ?_, ?_, ?_⟩
  · rw [show i * 3 + k * 3 = (i + k) * 3 by omega]; exact h0
  · rw [show i * 3 + k * 3 = (i + k) * 3 by omega]; exact h1
  · rw [show i * 3 + k * 3 = (i + k) * 3 by omega]; exact h2

set_option maxHeartbeats 2000000 in
theorem first_ok (B : Nat) (N : List UInt8) (ao : Option Addr) (Cs : List Ch) (n cap : Nat) (hn : n = Cs.length) (h64 : n ≤ 64) (w : World) (cB : w.cell? ⟨B, 0, none⟩ = some (.string (tx N))) (hA : Slo w ao Cs) :
    Calls Try.prog 30 #[.slice ao n cap, .func (.func 29) #[] #[.pointer (some ⟨B, 0, none⟩)]] w fun e w' => e = .returned (.int .i64 (enc (fst1 N Cs 0))) ∧ Bel w w' := by
  have SA : Hid (Slo w ao Cs) := hA
  have CB : Hid (w.cell? ⟨B, 0, none⟩ = some (.string (tx N))) := cB
  have HN : Hid (n = Cs.length) := hn
  clear hA hn cB
  go_enter Try.func30, Try.ntmps30
  go_wp2_with fail
  go_loopw [8] (fun i wr => ∃ j : Nat, j ≤ n ∧ i = .int .i64 (j : Int) ∧ Hid (∀ k, k < j → (Cs.getD k ([], 0, 0)).1 ≠ N) ∧ Hid (Bel w wr)) (fun i _ => n - (intOf i).toNat)
  case atStart => exact ⟨0, by omega, rfl, (fun i hi => by omega : ∀ k, k < 0 → (Cs.getD k ([], 0, 0)).1 ≠ N), (Bel.refl w : Bel w w)⟩
  case round =>
    obtain ⟨j, hj, rfl, HF, BW⟩ := hrel
    by_cases hlt : j < n
    · obtain ⟨g, o, rfl, q0, q1, q2⟩ := SA.out j (HN.out ▸ hlt)
      have hd : decide ((j : Int) < (n : Int)) = true := decide_eq_true (by omega)
      have r0 := BW.out.keep q0
      have r1 := BW.out.keep q1
      have r2 := BW.out.keep q2
      have rB := BW.out.keep CB.out
      have KC := cal_ok B N (Cs.getD j ch0) wr rB
      have HC : Hid (Cs.getD j ([], 0, 0) = Cs.getD j ch0) := rfl
      obtain ⟨c, hc⟩ : ∃ c, Cs.getD j ch0 = c := ⟨_, rfl⟩
      have HE : Hid (Cs.getD j ([], 0, 0) = c) := hc
      rw [hc] at r0 r1 r2 KC
      clear q0 q1 q2 hc HC rB
      obtain ⟨l, p, k⟩ := c
      simp only at r0 r1 r2 KC
      by_cases hl : l = N
      · rw [decide_eq_true hl] at KC
        have KK : Hid (Calls Try.prog 29 #[.agg #[.string (tx l), .int .i64 (p : Int), .int .i64 (k : Int)], .pointer (some ⟨B, 0, none⟩)] wr fun e w' => e = .returned (.bool true) ∧ Bel wr w') := KC
        have FH : Hid (fst1 N Cs 0 = some j) := fst1_here HF.out (HN.out ▸ hlt) (by rw [HE.out]; exact hl)
        clear KC hl HF
        go_wp2_with fail
        refine (KK.out).mono ?_
        rintro e w1 ⟨rfl, b1⟩
        have B1 : Hid (Bel w w1) := BW.out.trans b1
        clear b1
        go_wp2
        go_ret
        exact ⟨by rw [FH.out]; rfl, B1.out⟩
      · rw [decide_eq_false hl] at KC
        have KK : Hid (Calls Try.prog 29 #[.agg #[.string (tx l), .int .i64 (p : Int), .int .i64 (k : Int)], .pointer (some ⟨B, 0, none⟩)] wr fun e w' => e = .returned (.bool false) ∧ Bel wr w') := KC
        have HF2 : Hid (∀ k, k < j + 1 → (Cs.getD k ([], 0, 0)).1 ≠ N) := fun i hi => by
          rcases Nat.lt_or_ge i j with h | h
          · exact HF.out i h
          · obtain rfl : i = j := by omega
            rw [HE.out]; exact hl
        clear KC hl HF
        go_wp2_with fail
        refine (KK.out).mono ?_
        rintro e w1 ⟨rfl, b1⟩
        have B1 : Hid (Bel w w1) := BW.out.trans b1
        clear b1 BW
        go_wp2
        go_roundw
        case rel => exact ⟨j + 1, by omega, by go_num, HF2, B1⟩
        case measure => simp [intOf]; omega
    · have hd : decide ((j : Int) < (n : Int)) = false := decide_eq_false (by omega)
      have FH : Hid (fst1 N Cs 0 = none) := fst1_no fun i hi => HF.out i (by have := HN.out; omega)
      clear HF
      go_wp2
      go_ret
      exact ⟨by rw [FH.out]; rfl, BW.out⟩

set_option maxHeartbeats 1000000 in
theorem has_ok (B : Nat) (N : List UInt8) (ao : Option Addr) (Cs : List Ch) (n cap : Nat) (hn : n = Cs.length) (h64 : n ≤ 64) (w : World) (cB : w.cell? ⟨B, 0, none⟩ = some (.string (tx N))) (hA : Slo w ao Cs) :
    Calls Try.prog 31 #[.slice ao n cap, .func (.func 29) #[] #[.pointer (some ⟨B, 0, none⟩)]] w fun e w' => e = .returned (.bool (has N Cs)) ∧ Bel w w' := by
  have I := first_ok B N ao Cs n cap hn h64 w cB hA
  have HE : Hid (has N Cs = (fst1 N Cs 0).isSome) := rfl
  rw [HE.out]
  generalize fst1 N Cs 0 = R at *
  clear hA hn cB HE
  rcases R with _ | i
  · have I2 : Hid (Calls Try.prog 30 #[.slice ao n cap, .func (.func 29) #[] #[.pointer (some ⟨B, 0, none⟩)]] w fun e w' => e = .returned (.int .i64 (-1)) ∧ Bel w w') := I
    clear I
    go_enter Try.func31, Try.ntmps31
    go_wp2_with fail
    refine (I2.out).mono ?_
    rintro e w1 ⟨rfl, b1⟩
    go_wp2
    go_ret
    exact ⟨rfl, b1⟩
  · have I2 : Hid (Calls Try.prog 30 #[.slice ao n cap, .func (.func 29) #[] #[.pointer (some ⟨B, 0, none⟩)]] w fun e w' => e = .returned (.int .i64 (i : Int)) ∧ Bel w w') := I
    have h0 : decide (0 ≤ (i : Int)) = true := decide_eq_true (by omega)
    clear I
    go_enter Try.func31, Try.ntmps31
    go_wp2_with fail
    refine (I2.out).mono ?_
    rintro e w1 ⟨rfl, b1⟩
    go_wp2
    go_ret
    exact ⟨rfl, b1⟩

theorem box1_new (w : World) (s : ByteArray) : (w.alloc (.cells #[.string s] 9)).cell? ⟨w.heap.size, 0, none⟩ = some (.string s) := cell_of_row _ w.heap.size 0 _ 9 (0, 0) (heap_alloc_new w _)

set_option maxHeartbeats 1000000 in
/-- The one chunk of that name. -/
theorem only_ok (N : List UInt8) (ao : Option Addr) (Cs : List Ch) (n cap : Nat) (hn : n = Cs.length) (h64 : n ≤ 64) (hcap : n ≤ cap) (w : World) (hA : Slk w ao Cs) :
    Calls Try.prog 18 #[.slice ao n cap, .string (tx N)] w fun e w' => e = .returned (.tuple #[cval (getC Cs (onl N Cs 0)), .bool (onl N Cs 0).isSome]) ∧ Bel w w' := by
  have SA : Hid (Slk w ao Cs) := hA
  have HN : Hid (n = Cs.length) := hn
  have BX : Hid (∀ w1, Bel ((w.alloc (.cells #[.string (tx N)] 9)).alloc (.cells #[.string ⟨#[]⟩, .int .i64 0, .int .i64 0] 52)) w1 → BoxC w1 (w.heap.size + 1) ⟨#[]⟩ 0 0) := fun w1 k => by
    have := boxC_new (w.alloc (.cells #[.string (tx N)] 9)) ⟨#[]⟩ 0 0
    rw [show (w.alloc (.cells #[.string (tx N)] 9)).heap.size = w.heap.size + 1 by simp] at this
    exact this.bel k
  have CX : Hid (((w.alloc (.cells #[.string (tx N)] 9)).alloc (.cells #[.string ⟨#[]⟩, .int .i64 0, .int .i64 0] 52)).cell? ⟨w.heap.size, 0, none⟩ = some (.string (tx N))) := ((Bel.refl _).alloc _).keep (box1_new w (tx N))
  have OF : Hid (onl N Cs 0 = match fst1 N Cs 0 with | none => none | some i => if has N (Cs.drop (i + 1)) then none else some i) := onl_first N Cs
  have F : Hid (∀ w1, Bel ((w.alloc (.cells #[.string (tx N)] 9)).alloc (.cells #[.string ⟨#[]⟩, .int .i64 0, .int .i64 0] 52)) w1 → Calls Try.prog 30 #[.slice ao n cap, .func (.func 29) #[] #[.pointer (some ⟨w.heap.size, 0, none⟩)]] w1 fun e w' => e = .returned (.int .i64 (enc (fst1 N Cs 0))) ∧ Bel w1 w') := fun w1 b => first_ok w.heap.size N ao Cs n cap hn h64 w1 (b.keep CX.out) ((Slk.slo hA).bel (Bel.trans (((Bel.refl w).alloc _).alloc _) b))
  obtain ⟨R, hR⟩ : ∃ R, fst1 N Cs 0 = R := ⟨_, rfl⟩
  rw [hR] at F OF
  have HR : Hid (fst1 N Cs 0 = R) := hR
  clear hA hn hR
  rcases R with _ | i
  · have F2 : Hid (∀ w1, Bel ((w.alloc (.cells #[.string (tx N)] 9)).alloc (.cells #[.string ⟨#[]⟩, .int .i64 0, .int .i64 0] 52)) w1 → Calls Try.prog 30 #[.slice ao n cap, .func (.func 29) #[] #[.pointer (some ⟨w.heap.size, 0, none⟩)]] w1 fun e w' => e = .returned (.int .i64 (-1)) ∧ Bel w1 w') := F.out
    clear F
    go_enter Try.func18, Try.ntmps18
    go_wp2_with fail
    refine (F2.out _ (Bel.refl _)).mono ?_
    rintro e w1 ⟨rfl, b1⟩
    have X1 : Hid (BoxC w1 (w.heap.size + 1) ⟨#[]⟩ 0 0) := BX.out _ b1
    have B1 : Hid (Bel w w1) := (((Bel.refl _).alloc _).alloc _).trans b1
    obtain ⟨⟨c0, c1, c2⟩, f0, f1, f2⟩ := BX.out _ b1
    clear b1 BX CX
    go_wp2
    obtain ⟨⟨d0, d1, d2⟩, _⟩ := X1.out.set ⟨#[]⟩ 0 0
    refine bodyPost_ret (v := .tuple #[cval ch0, .bool false]) (results_ch Try.results18 rfl rfl d0 d1 d2) rfl ⟨by rw [OF.out]; rfl, ?_⟩
    exact ((B1.out.setCell (Nat.le_succ _) _).setCell (Nat.le_succ _) _).setCell (Nat.le_succ _) _
  · have hi := (fst1_lt HR.out).1
    obtain ⟨g, rfl, q0, q1, q2⟩ := SA.out i hi
    have QQ : Hid (w.cell? ⟨g, i * 3, none⟩ = some (.string (tx (Cs.getD i ch0).1)) ∧ w.cell? ⟨g, i * 3 + 1, none⟩ = some (.int .i64 ((Cs.getD i ch0).2.1 : Int)) ∧ w.cell? ⟨g, i * 3 + 2, none⟩ = some (.int .i64 ((Cs.getD i ch0).2.2 : Int))) := ⟨q0, q1, q2⟩
    rw [← HN.out] at hi
    have F2 : Hid (∀ w1, Bel ((w.alloc (.cells #[.string (tx N)] 9)).alloc (.cells #[.string ⟨#[]⟩, .int .i64 0, .int .i64 0] 52)) w1 → Calls Try.prog 30 #[.slice (some ⟨g, 0, none⟩) n cap, .func (.func 29) #[] #[.pointer (some ⟨w.heap.size, 0, none⟩)]] w1 fun e w' => e = .returned (.int .i64 (i : Int)) ∧ Bel w1 w') := F.out
    have HS : Hid (∀ w1 o c, (o = (i + 1) * 3 ∨ n ≤ i + 1) → Bel ((w.alloc (.cells #[.string (tx N)] 9)).alloc (.cells #[.string ⟨#[]⟩, .int .i64 0, .int .i64 0] 52)) w1 → Calls Try.prog 31 #[.slice (some ⟨g, o, none⟩) (n - (i + 1)) c, .func (.func 29) #[] #[.pointer (some ⟨w.heap.size, 0, none⟩)]] w1 fun e w' => e = .returned (.bool (has N (Cs.drop (i + 1)))) ∧ Bel w1 w') := fun w1 o c ho b => has_ok w.heap.size N _ (Cs.drop (i + 1)) (n - (i + 1)) c (by rw [List.length_drop, ← HN.out]) (by omega) w1 (b.keep CX.out) (by
      rcases ho with rfl | ho
      · exact (Slk.from SA.out (i + 1)).bel (Bel.trans (((Bel.refl w).alloc _).alloc _) b)
      · rw [List.drop_of_length_le (by rw [← HN.out]; exact ho)]
        exact fun k hk => absurd hk (by simp))
    have n0 : decide ((i : Int) < 0) = false := decide_eq_false (by omega)
    have n1 : decide ((n : Int) < (i : Int) + 1) = false := decide_eq_false (by omega)
    have n2 : decide (n < i + 1) = false := decide_eq_false (by omega)
    have n3 : ((n : Int) - ((i : Int) + 1)) = ((n - (i + 1) : Nat) : Int) := by omega
    simp only at OF
    clear F q0 q1 q2
    obtain ⟨hb, hhb⟩ : ∃ hb, has N (Cs.drop (i + 1)) = hb := ⟨_, rfl⟩
    rw [hhb] at HS OF
    clear hhb
    go_enter Try.func18, Try.ntmps18
    go_wp2_with fail
    refine (F2.out _ (Bel.refl _)).mono ?_
    rintro e w1 ⟨rfl, b1⟩
    have BI : Hid (Bel ((w.alloc (.cells #[.string (tx N)] 9)).alloc (.cells #[.string ⟨#[]⟩, .int .i64 0, .int .i64 0] 52)) w1) := b1
    clear b1
    go_wp2_with fail
    all_goals
      refine (HS.out _ _ _ (by first | exact .inl rfl | (right; omega)) BI.out).mono ?_
      rintro e w2 ⟨rfl, b2⟩
      have b3 := BI.out.trans b2
      have X1 : Hid (BoxC w2 (w.heap.size + 1) ⟨#[]⟩ 0 0) := BX.out _ b3
      have B1 : Hid (Bel w w2) := (((Bel.refl _).alloc _).alloc _).trans b3
      obtain ⟨⟨c0, c1, c2⟩, f0, f1, f2⟩ := BX.out _ b3
      have k0 := B1.out.keep QQ.out.1
      have k1 := B1.out.keep QQ.out.2.1
      have k2 := B1.out.keep QQ.out.2.2
      clear b2 b3 BX CX QQ
      cases hb
      · go_wp2
        obtain ⟨⟨d0, d1, d2⟩, _⟩ := X1.out.set (tx (Cs.getD i ch0).1) ((Cs.getD i ch0).2.1 : Int) ((Cs.getD i ch0).2.2 : Int)
        refine bodyPost_ret (v := .tuple #[cval (Cs.getD i ch0), .bool true]) (results_ch Try.results18 rfl rfl d0 d1 d2) rfl ⟨by rw [OF.out]; rfl, ?_⟩
        exact ((B1.out.setCell (Nat.le_succ _) _).setCell (Nat.le_succ _) _).setCell (Nat.le_succ _) _
      · go_wp2
        obtain ⟨⟨d0, d1, d2⟩, _⟩ := X1.out.set ⟨#[]⟩ 0 0
        refine bodyPost_ret (v := .tuple #[cval ch0, .bool false]) (results_ch Try.results18 rfl rfl d0 d1 d2) rfl ⟨by rw [OF.out]; rfl, ?_⟩
        exact ((B1.out.setCell (Nat.le_succ _) _).setCell (Nat.le_succ _) _).setCell (Nat.le_succ _) _

end Go.Proofs.Ythbjjjpleongbaa.Wav
