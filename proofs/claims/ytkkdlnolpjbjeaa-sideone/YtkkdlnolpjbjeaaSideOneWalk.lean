/-
  SideOne, walked: it answers true of every row of ints. Conditions: the row is there, within the reach.
-/
import Derived.Test.YtkkdlnolpjbjeaaSdAwake
import Derived.Test.YtkkdlnolpjbjeaaGApp
namespace Go.Proofs.Ytkkdlnolpjbjeaa.Sid
open Go.RowKit Go.Sort Go.Proofs.Ytkkdlnolpjbjeaa.Mod Go.Proofs.Ytkkdlnolpjbjeaa.Lin Go.Proofs.Ytkkdlnolpjbjeaa.Ints Go.Proofs.Ytkkdlnolpjbjeaa.Num
set_option linter.unusedVariables false
set_option linter.unusedSimpArgs false

theorem and_16 (n : Int) : bits .and .i64 n 65535 = n % 65536 := and_mask 16 65535 (by decide) (by decide) n

/-- The row that a statement makes of another one. -/
def less16 (d : Int) (xs : List Int) : List Int := (List.range xs.length).map fun k => xs.getD k 0 % 65536 - d
theorem less16_length (d : Int) (xs : List Int) : (less16 d xs).length = xs.length := by simp [less16]
theorem less16_get (d : Int) (xs : List Int) (k : Nat) (h : k < xs.length) : (less16 d xs).getD k 0 = xs.getD k 0 % 65536 - d := by
  unfold less16
  rw [List.getD_eq_getElem?_getD, List.getElem?_map, List.getElem?_range h]
  rfl
theorem range_more (f : Nat → Int) (j : Nat) : (List.range j).map f ++ [f j] = (List.range (j + 1)).map f := by
  rw [List.range_succ, List.map_append]; rfl

theorem ans_1 (A : List Int) (h : okRow A = true) : errS (-1) [A] = 0 ∧ ansS (-1) [A] = [A] := by
  have o : okS (-1) [A] = true := by
    unfold okS
    rw [show told (-1) [A] = [A] from rfl, chsMay_1, h]; rfl
  obtain ⟨h1, h2⟩ := ansS_yes o
  exact ⟨h2, h1⟩
theorem ans_2 (A B : List Int) (hA : okRow A = true) (hl : B.length = A.length) (hB : okRow B = true) (hd : okRow (byFirst (-1) A B) = true) : errS (-1) [A, B] = 0 ∧ ansS (-1) [A, B] = [A, byFirst (-1) A B] := by
  have o : okS (-1) [A, B] = true := by
    unfold okS
    rw [show told (-1) [A, B] = [A, byFirst (-1) A B] from rfl, chsMay_2, chsMay_2, hA, hB, hd, decide_eq_true hl, decide_eq_true (byFirst_length _ _ _)]; rfl
  obtain ⟨h1, h2⟩ := ansS_yes o
  exact ⟨h2, h1⟩
theorem byFirst_same (A : List Int) : byFirst (-1) A A = List.replicate A.length 0 := by
  refine Mod.ext_getD _ _ (by rw [byFirst_length, List.length_replicate]) fun k hk => ?_
  rw [byFirst_length] at hk
  rw [byFirst_get _ _ _ _ hk]
  simp [List.getD_eq_getElem?_getD, hk]
  omega

set_option maxRecDepth 20000 in
set_option maxHeartbeats 1000000 in
theorem one_walk (ao : Option Addr) (xs : List Int) (n cap : Nat) (hn : n = xs.length) (hc : n ≤ cap) (h8 : cap * 8 ≤ 140737488351232) (w : World) (hA : Slc w ao xs) :
    Calls Try.prog 5 #[.slice ao n cap] w fun e w' => e = .returned (.bool true) ∧ Bel w w' := by
  have s8 : n * 8 ≤ 140737488351232 := by omega
  have HA : Hid (Slc w ao xs) := hA
  have HN : Hid (n = xs.length) := hn
  have HY : Hid ((less16 30000 xs).length = n ∧ okRow (less16 30000 xs) = true) := ⟨by rw [less16_length, hn], okRow_iff.2 fun k hk => by rw [less16_length] at hk; rw [less16_get _ _ _ hk]; omega⟩
  obtain ⟨F, hF⟩ : ∃ F : Nat → Int, F = fun k => xs.getD k 0 % 65536 - 30000 := ⟨_, rfl⟩
  have FE : Hid (∀ k, F k = xs.getD k 0 % 65536 - 30000) := (fun k => by rw [hF] : ∀ k, F k = xs.getD k 0 % 65536 - 30000)
  have FM : Hid ((List.range n).map F = less16 30000 xs) := (by unfold less16; rw [hn, hF] : (List.range n).map F = less16 30000 xs)
  have mk := mk_row n s8
  have AW : Hid (∀ w, Calls Try.prog 15 #[] w fun e w' => e = .returned (.bool true) ∧ Bel w w') := awake_true
  clear hA hn hc h8 hF
  go_enter Try.func5, Try.ntmps5
  go_wp2_with fail
  refine (AW.out _).mono ?_
  rintro e w1 ⟨rfl, b1⟩
  have B1 : Hid (Bel w w1) := b1
  clear b1
  go_wp2
  go_loopw [3, 4] (fun o i wr => ∃ (v : Value) (j : Nat), v = o ∧ j ≤ n ∧ i = .int .i64 (j : Int) ∧ Hid (wr.ownsRow w.heap.size 3 1 v j (vals ((List.range j).map F))) ∧ Hid (Bel w wr)) (fun _ i _ => n - (intOf i).toNat)
  case atStart => exact ⟨_, 0, rfl, Nat.zero_le _, rfl, ⟨rfl, .inl ⟨rfl, rfl⟩⟩, B1.out⟩
  case round =>
    obtain ⟨o, j, rfl, hj, rfl, ho, hb⟩ := hrel
    by_cases hlt : j < n
    · obtain ⟨x, rfl, hx⟩ := HA.out j (HN.out ▸ hlt)
      have hd : decide ((j : Int) < (n : Int)) = true := decide_eq_true (by omega)
      have f1 : wr.cell? (x.add j) = some (.int .i64 (xs.getD j 0)) := hb.out.keep hx
      clear hx
      obtain ⟨p, hp⟩ : ∃ p, xs.getD j 0 = p := ⟨_, rfl⟩
      rw [hp] at f1
      obtain ⟨y, hy⟩ : ∃ y, p % 65536 = y := ⟨_, rfl⟩
      have ha : bits .and .i64 p 65535 = y := (and_16 p).trans hy
      have y0 : 0 ≤ y := by omega
      have y1 : y ≤ 65535 := by omega
      have HZ : Hid (F j = y - 30000) := (by rw [FE.out, hp, hy] : F j = y - 30000)
      clear hp hy
      have H8 : Hid (j * 8 ≤ 140737488351232 ∧ w.heap.size ≤ wr.heap.size) := ⟨by omega, hb.out.size⟩
      go_wp2_with (at_builtin; refine wpl_more_exc wr rfl (.tmp 17) (.tmp 24) rfl w.heap.size j H8.out.2 o _ _ rfl rfl ho.out H8.out.1 ?_)
      intro v' w2 hv he
      have HV : Hid (w2.ownsRow w.heap.size 3 1 v' (j + 1) (vals ((List.range (j + 1)).map F))) := by
        rw [← HZ.out, range_more F j] at hv
        exact hv
      have B2 : Hid (Bel w w2) := he.from hb.out (fun i hi => (own_old ho.out hi).1)
      clear hv he f1 ha y0 y1
      go_wp2
      go_roundw
      case rel => exact ⟨_, j + 1, rfl, by omega, by go_num, HV, B2⟩
      case measure => simp [intOf]; omega
    · have hjn : n = j := by omega
      have ho2 := ho.out
      rw [← hjn, FM.out] at ho2
      subst hjn
      have hd : decide ((n : Int) < (n : Int)) = false := decide_eq_false (by omega)
      obtain ⟨yo, yc, rfl, -, -, -, hs⟩ := owns_slc ho2
      have YC : Hid (yo = none → yc = 0) := by
        rintro rfl
        rcases ho2.2 with ⟨q1, _⟩ | ⟨_, _, _, q1, _⟩
        · injection q1
        · cases q1
      have Y0 : Hid (Slc wr yo (less16 30000 xs)) := hs
      clear FM
      generalize less16 30000 xs = ys at *
      clear hs ho ho2
      go_wp2_with fail
      refine (put_at _ [ys] [ys] 1 1 1 0 rfl (by unfold maxLen; omega) (ans_1 ys HY.out.2).1 (ans_1 ys HY.out.2).2 rfl _ (hdr_1 wr HY.out.1.symm s8 YC.out Y0.out)).mono ?_
      rintro e w2 ⟨pa, ca, rfl, l2, b2⟩
      have B2 : Hid (Bel wr w2) := Bel.trans ((Bel.refl _).alloc _) b2
      have L2 : Hid (Lls w2 pa [ys]) := l2
      clear l2 b2
      have Y2 : Hid (Slc w2 yo ys) := Y0.out.bel B2.out
      have SM := byFirst_same ys
      rw [HY.out.1] at SM
      have OZ : okRow (List.replicate n 0) = true := okRow_iff.2 fun k hk => by
        simp at hk
        simp [List.getD_eq_getElem?_getD, hk]
      have A2 := ans_2 ys ys HY.out.2 rfl HY.out.2 (by rw [SM]; exact OZ)
      rw [SM] at A2
      have AA : Hid (errS (-1) [ys, ys] = 0 ∧ ansS (-1) [ys, ys] = [ys, List.replicate n 0]) := A2
      clear SM OZ A2
      go_wp2_with fail
      refine (put_at _ [ys, ys] [ys, List.replicate n 0] 2 2 2 0 rfl (by unfold maxLen; omega) AA.out.1 AA.out.2 rfl _ (hdr_2 w2 HY.out.1.symm s8 YC.out Y2.out HY.out.1.symm s8 YC.out Y2.out)).mono ?_
      rintro e w3 ⟨pb, cb, rfl, l3, b3⟩
      have B3 : Hid (Bel w2 w3) := Bel.trans ((Bel.refl _).alloc _) b3
      have L3 : Hid (Lls w3 pb [ys, List.replicate n 0]) := l3
      have L2b : Hid (Lls w3 pa [ys]) := L2.out.bel B3.out
      have Y3 : Hid (Slc w3 yo ys) := Y2.out.bel B3.out
      clear l3 b3 L2
      go_wp2_with (go_at_call 13; refine (num_ok _ _).mono ?_; rintro e w99 ⟨rfl, hw⟩; replace hw := hw.symm; subst hw)
      refine (sameL_ok pa _ [ys] [ys] 1 1 ca 1 rfl rfl (by unfold maxLen; omega) (by unfold maxLen; omega) _ (L2b.out.bel ((Bel.refl _).alloc _)) (hdr_1 w3 HY.out.1.symm s8 YC.out Y3.out)).mono ?_
      rw [decide_eq_true rfl]
      rintro e w4 ⟨rfl, q4, hw⟩
      have B4 : Hid (Bel w3 w4) := hw ▸ ((Bel.refl w3).alloc _).drewN q4
      clear hw
      have L4 : Hid (Lls w4 pb [ys, List.replicate n 0]) := L3.out.bel B4.out
      have Y4 : Hid (Slc w4 yo ys) := Y3.out.bel B4.out
      go_wp2_with (go_at_call 13; refine (num_ok _ _).mono ?_; rintro e w99 ⟨rfl, hw⟩; replace hw := hw.symm; subst hw)
      have HZ : Lls ((w4.alloc (.cells (vals (List.replicate n 0)).toArray 3)).alloc (.cells #[.slice yo n yc, .slice (some ⟨w4.heap.size, 0, none⟩) n n] 34)) (some ⟨w4.heap.size + 1, 0, none⟩) [ys, List.replicate n 0] := by
        have := hdr_2 (w4.alloc (.cells (vals (List.replicate n 0)).toArray 3)) (bo := yo) (n := n) (c := yc) (A := ys) (eo := some ⟨w4.heap.size, 0, none⟩) (m := n) (d := n) (B := List.replicate n 0) HY.out.1.symm s8 YC.out (Y4.out.bel ((Bel.refl _).alloc _)) (by simp) s8 (fun q => by cases q) (holds_new w4 (List.replicate n 0) 3).slc
        rwa [show (w4.alloc (.cells (vals (List.replicate n 0)).toArray 3)).heap.size = w4.heap.size + 1 by simp] at this
      refine (sameL_ok pb _ [ys, List.replicate n 0] [ys, List.replicate n 0] 2 2 cb 2 rfl rfl (by unfold maxLen; omega) (by unfold maxLen; omega) _ (L4.out.bel (((Bel.refl _).alloc _).alloc _)) HZ).mono ?_
      rw [decide_eq_true rfl]
      rintro e w5 ⟨rfl, q5, hw⟩
      have B5 : Hid (Bel w4 w5) := hw ▸ (((Bel.refl w4).alloc _).alloc _).drewN q5
      clear hw HZ
      go_wp2
      go_ret
      exact ⟨rfl, hb.out.trans (B2.out.trans (B3.out.trans (B4.out.trans B5.out)))⟩

end Go.Proofs.Ytkkdlnolpjbjeaa.Sid
