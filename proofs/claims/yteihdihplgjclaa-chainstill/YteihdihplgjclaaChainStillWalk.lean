/-
  ChainStill answers true for every two ints: of a sample that stays the guess is that one. No condition.
-/
import Derived.Test.YteihdihplgjclaaHAwake
namespace Go.Proofs.Yteihdihplgjclaa.Chn
open Go.RowKit Go.Sort Go.Proofs.Yteihdihplgjclaa.Mod Go.Proofs.Yteihdihplgjclaa.Lin Go.Proofs.Yteihdihplgjclaa.Num
set_option linter.unusedVariables false
set_option linter.unusedSimpArgs false

def zeros8 : List Int := List.replicate 8 0
theorem build22 (w : World) : (Instr.build 22 #[]).run Try.prog w = .ok (mdl zeros8) w := by kernel_rfl
theorem eq_zeros8 (w : World) : (binOp .eql 22 (mdl zeros8) (mdl zeros8)).run Try.prog w = .ok (.bool true) w := by kernel_rfl
theorem eq_in_zeros8 (w : World) : (Op.equalIn 10000 22 (mdl zeros8) (mdl zeros8)).run Try.prog w = .ok true w := by kernel_rfl

theorem wpl_build22g {ops : Array Oper} {rest : List Oper} {dst : Option Tmp} {a : Act} {w : World} {Q : Exit → Act → World → Prop} {ty : TypeId} {pos : String} {after : Array Edge} {g : Nat × Bool}
    (hw : Region.wanted { dst := dst, op := .build 22 #[], type := ty, pos := pos, after := after, guard := some g } (yielded ops a.tmps) = true) (k : wpList Try.prog ops Q rest (a.put dst (mdl zeros8)) w) :
    wpList Try.prog ops Q ({ dst := dst, op := .build 22 #[], type := ty, pos := pos, after := after, guard := some g } :: rest) a w :=
  BigFrame.wpList_want hw fun _ hK => by
    unfold Oper.wp execOp
    simp only [List.map_toArray, List.map_nil, Sem.run_bind, build22 w, Result.andThen_ok]
    exact hK _ _ k

theorem Still.hist {v : Int} {n : Nat} {M : List Int} (h : Still v n M) (hn : 9 ≤ n) : (M.drop 9).take 8 = zeros8 := by
  refine ext_getD _ _ (by simp [zeros8]; have := h.len; omega) fun k hk => ?_
  have hk2 : k < 8 := by simp at hk; omega
  have e := h.gone hn k hk2
  unfold partA at e
  rw [List.getD_eq_getElem?_getD, List.getElem?_take_of_lt (by omega), List.getElem?_drop] at e
  rw [List.getD_eq_getElem?_getD, List.getD_eq_getElem?_getD, List.getElem?_take_of_lt hk2, List.getElem?_drop, show 9 + k = 1 + (8 + k) by omega, e]
  unfold zeros8
  rw [List.getElem?_replicate, if_pos hk2]
  rfl

set_option maxRecDepth 20000 in
set_option maxHeartbeats 2000000 in
theorem still_ok (x m u v : Int) (hx : bits .and .i64 x 65535 = v) (hm : bits .and .i64 m 31 = u) (hu0 : 0 ≤ u) (hu1 : u ≤ 31) (hv0 : 0 ≤ v) (hv1 : v ≤ 65535) (w : World) :
    Calls Try.prog 6 #[.int .i64 x, .int .i64 m] w fun e w' => e = .returned (.bool true) ∧ Bel w w' := by
  have px : passed 131072 v = false := passed_no.2 (by omega)
  have LE : Hid (∀ (n : Nat) (L : List Int), Still v n L → (∃ A, Still v (n + 1) A ∧ A.length = 33 ∧ ∀ w, Calls Try.prog 10 #[mdl L, .int .i64 v] w fun e w' => e = .returned (.tuple #[mdl A, .int .i64 0]) ∧ Bel w w')) := fun n L h =>
    ⟨learnC L v, h.step, h.step.len, learn_yes L h.len v (h.may px) px⟩
  have GE : Hid (∀ n L, Still v n L → 0 < n → ∀ w, Calls Try.prog 8 #[mdl L] w fun e w' => e = .returned (.tuple #[.int .i64 v, .int .i64 0]) ∧ Bel w w') := fun n L h hn w => by
    have := guess_yes L h.len (h.may px) w
    rwa [h.guess hn] at this
  have HE : Hid (∀ n L, Still v n L → 9 ≤ n → (L.drop 9).take 8 = zeros8) := fun n L h hn => h.hist hn
  have FL : Hid (∀ (n : Nat) (L : List Int), Still v n L → L.length = 33) := fun n L h => h.len
  have F0 : Hid (Still v 0 zeros33) := still_zero v
  have NZ : Hid (zeros33.length = 33) := zeros33_len
  have z := zero26
  have q1 := eq_zeros8
  have q2 := eq_in_zeros8
  clear px
  go_enter Try.func6, Try.ntmps6
  go_wp2_with fail
  refine (awake_true _).mono ?_
  rintro e w1 ⟨rfl, b1⟩
  have h1 : Holds (w1.alloc (.cells (vals zeros33).toArray 26)) w1.heap.size zeros33 := holds_new w1 zeros33 _
  have c1 : Bel w (w1.alloc (.cells (vals zeros33).toArray 26)) := Bel.alloc b1 _
  have CB : Hid (w.heap.size ≤ w1.heap.size) := b1.size
  clear b1
  go_wp2_with fail
  generalize w1.alloc (.cells (vals zeros33).toArray 26) = W1 at *
  have H1 : Hid (Holds W1 w1.heap.size zeros33) := h1
  have C1 : Hid (Bel w W1) := c1
  clear h1 c1
  generalize w1.heap.size = C at *
  obtain ⟨K, hK⟩ : ∃ K : Nat, (K : Int) = 1 + u := ⟨(1 + u).toNat, by omega⟩
  have HK : Hid ((K : Int) = 1 + u) := hK
  have K1 : Hid (1 ≤ K) := show _ ≤ _ by omega
  clear hK
  go_loopw [7] (fun i wr => ∃ (j : Nat) (L : List Int), j ≤ K ∧ i = .int .i64 (j : Int) ∧ Hid (Still v j L) ∧ Holds wr C L ∧ Bel w wr) (fun i _ => K - (intOf i).toNat)
  case atStart => exact ⟨0, zeros33, Nat.zero_le _, rfl, F0, H1.out, C1.out⟩
  case round =>
    obtain ⟨j, L, hj, rfl, F, h, b⟩ := hrel
    have H3 : Hid (Holds wr C L) := h
    have B3 : Hid (Bel w wr) := b
    have NL : Hid (L.length = 33) := FL.out j L F.out
    have TL : Hid ((L.drop 0).take 33 = L) := take_all NL.out
    have OL : Hid (0 + 33 ≤ L.length) := show _ ≤ _ by rw [NL.out]; decide
    clear h b H1 C1
    by_cases hlt : j < K
    · have hd : decide ((j : Int) < 1 + u) = true := decide_eq_true (by have := HK.out; omega)
      have hj2 : (j : Int) < 1 + u := by have := HK.out; omega
      obtain ⟨A, fA, nA, lA⟩ := LE.out j L F.out
      have FA : Hid (Still v (j + 1) A) := fA
      have NA : Hid (A.length = 33) := nA
      have TA : Hid ((A.drop 0).take 33 = A) := take_all nA
      have OA : Hid (0 + 33 ≤ A.length) := show _ ≤ _ by omega
      have PA : Hid (put L 0 A = A) := put_all _ _ (NL.out.trans nA.symm)
      have LA : Hid (∀ w, Calls Try.prog 10 #[mdl L, .int .i64 v] w fun e w' => e = .returned (.tuple #[mdl A, .int .i64 0]) ∧ Bel w w') := lA
      have HJ : Hid (j + 1 ≤ K) := hlt
      clear fA nA lA hlt hj
      go_wp2_with (first | (with_reducible refine wpl_load_wide (o := 0) wide26 TL.out H3.out OL.out rfl ?_))
      refine (LA.out _).mono ?_
      rintro e w2 ⟨rfl, b⟩
      have h4 := (H3.out.bel b).bel ((Bel.refl _).alloc (.cells (vals A).toArray 26))
      have a4 : Holds (w2.alloc (.cells (vals A).toArray 26)) w2.heap.size A := holds_new w2 A _
      have b4 : Bel w (w2.alloc (.cells (vals A).toArray 26)) := (B3.out.trans b).alloc _
      clear b H3 B3 LA
      go_wp2_with (first | (with_reducible refine wpl_store_widen wide26 NZ.out NA.out rfl rfl ?_))
      refine (num_ok _ _).mono ?_
      rintro e W ⟨rfl, rfl⟩
      generalize w2.alloc (.cells (vals A).toArray 26) = W at *
      have H4 : Hid (Holds W C L) := h4
      have A4 : Hid (Holds W w2.heap.size A) := a4
      have B4 : Hid (Bel w W) := b4
      clear h4 a4 b4
      go_wp2_with (first
        | (with_reducible refine wpl_load_wide (o := 0) wide26 TA.out A4.out OA.out rfl ?_)
        | ((with_reducible refine wpl_store_widew (o := 0) wide26 B4.out H4.out CB.out OL.out NA.out PA.out rfl rfl ?_); intro V VH VB VO))
      go_roundw
      case rel => exact ⟨j + 1, A, HJ.out, by go_num, FA, VH.out, VB.out⟩
      case measure => simp [intOf]; have := HJ.out; omega
    · have ej : j = K := by omega
      have hd : decide ((j : Int) < 1 + u) = false := decide_eq_false (by have := HK.out; omega)
      have hj2 : ¬ (j : Int) < 1 + u := by have := HK.out; omega
      have FK : Hid (Still v (K + 0) L) := show Still _ _ _ by rw [Nat.add_zero, ← ej]; exact F.out
      obtain ⟨Z, hZ⟩ : ∃ Z : Nat, Z = 40 := ⟨_, rfl⟩
      have HZ : Hid (Z = 40) := hZ
      clear F ej hlt hj hZ
      go_wp2_with fail
      go_loopw [10] (fun i wr => ∃ (j : Nat) (L : List Int), j ≤ Z ∧ i = .int .i64 (j : Int) ∧ Hid (Still v (K + j) L) ∧ Holds wr C L ∧ Bel w wr) (fun i _ => Z - (intOf i).toNat)
      case atStart => exact ⟨0, L, Nat.zero_le _, rfl, FK, H3.out, B3.out⟩
      case round =>
        obtain ⟨i, N, hi, rfl, F, h, b⟩ := hrel
        clear H3 B3 NL TL OL FK hd hj2
        have H3 : Hid (Holds wr C N) := h
        have B3 : Hid (Bel w wr) := b
        have NL : Hid (N.length = 33) := FL.out _ N F.out
        have TL : Hid ((N.drop 0).take 33 = N) := take_all NL.out
        have OL : Hid (0 + 33 ≤ N.length) := show _ ≤ _ by rw [NL.out]; decide
        clear h b
        by_cases hlt : i < Z
        · have hd : decide ((i : Int) < 40) = true := decide_eq_true (by have := HZ.out; omega)
          have hi2 : (i : Int) < 40 := by have := HZ.out; omega
          obtain ⟨A, fA, nA, lA⟩ := LE.out _ N F.out
          have FA : Hid (Still v (K + (i + 1)) A) := fA
          have NA : Hid (A.length = 33) := nA
          have TA : Hid ((A.drop 0).take 33 = A) := take_all nA
          have OA : Hid (0 + 33 ≤ A.length) := show _ ≤ _ by omega
          have PA : Hid (put N 0 A = A) := put_all _ _ (NL.out.trans nA.symm)
          have LA : Hid (∀ w, Calls Try.prog 10 #[mdl N, .int .i64 v] w fun e w' => e = .returned (.tuple #[mdl A, .int .i64 0]) ∧ Bel w w') := lA
          have HJ : Hid (i + 1 ≤ Z) := hlt
          clear fA nA lA hlt hi
          go_wp2_with (first | (with_reducible refine wpl_load_wide (o := 0) wide26 TL.out H3.out OL.out rfl ?_))
          refine (LA.out _).mono ?_
          rintro e w2 ⟨rfl, b⟩
          have h4 := (H3.out.bel b).bel ((Bel.refl _).alloc (.cells (vals A).toArray 26))
          have a4 : Holds (w2.alloc (.cells (vals A).toArray 26)) w2.heap.size A := holds_new w2 A _
          have b4 : Bel w (w2.alloc (.cells (vals A).toArray 26)) := (B3.out.trans b).alloc _
          clear b H3 B3 LA
          go_wp2_with (first | (with_reducible refine wpl_store_widen wide26 NZ.out NA.out rfl rfl ?_))
          refine (num_ok _ _).mono ?_
          rintro e W ⟨rfl, rfl⟩
          generalize w2.alloc (.cells (vals A).toArray 26) = W at *
          have H4 : Hid (Holds W C N) := h4
          have A4 : Hid (Holds W w2.heap.size A) := a4
          have B4 : Hid (Bel w W) := b4
          clear h4 a4 b4
          go_wp2_with (first
            | (with_reducible refine wpl_load_wide (o := 0) wide26 TA.out A4.out OA.out rfl ?_)
            | ((with_reducible refine wpl_store_widew (o := 0) wide26 B4.out H4.out CB.out OL.out NA.out PA.out rfl rfl ?_); intro V VH VB VO))
          go_roundw
          case rel => exact ⟨i + 1, A, HJ.out, by go_num, FA, VH.out, VB.out⟩
          case measure => simp [intOf]; have := HJ.out; omega
        · have e4 : i = 40 := by have := HZ.out; omega
          have hd : decide ((i : Int) < 40) = false := decide_eq_false (by omega)
          have hi2 : ¬ (i : Int) < 40 := by omega
          have GG : Hid (∀ w, Calls Try.prog 8 #[mdl N] w fun e w' => e = .returned (.tuple #[.int .i64 v, .int .i64 0]) ∧ Bel w w') := GE.out _ N F.out (by omega)
          have HN : Hid ((N.drop 9).take 8 = zeros8) := HE.out _ N F.out (by omega)
          have O9 : Hid (9 + 8 ≤ N.length) := show _ ≤ _ by rw [NL.out]; decide
          clear F e4 GE HE LE hlt hi
          go_wp2_with (first | (with_reducible refine wpl_load_wide (o := 0) wide26 TL.out H3.out OL.out rfl ?_))
          refine (GG.out _).mono ?_
          rintro e w2 ⟨rfl, b⟩
          have B4 : Hid (Bel w w2) := B3.out.trans b
          have H4 : Hid (Holds w2 C N) := H3.out.bel b
          clear b
          go_wp2_with fail
          refine (num_ok _ _).mono ?_
          rintro e W ⟨rfl, rfl⟩
          go_wp2_with (first
            | (with_reducible refine wpl_load_wideg (o := 9) rfl wide22 HN.out H4.out O9.out rfl ?_)
            | (with_reducible refine wpl_build22g rfl ?_))
          go_ret
          exact ⟨rfl, B4.out⟩

theorem still_walk (x m : Int) (w : World) :
    Calls Try.prog 6 #[.int .i64 x, .int .i64 m] w fun e w' => e = .returned (.bool true) ∧ Bel w w' :=
  still_ok x m (m % 32) (x % 65536) (and16 x) (and_mask 5 31 (by decide) (by decide) m) (by omega) (by omega) (by omega) (by omega) w

end Go.Proofs.Yteihdihplgjclaa.Chn
