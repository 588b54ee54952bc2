/-
  SideSwap, walked: it answers true of every two rows of ints. Conditions: the rows are there, within the reach.
-/
import Derived.Test.YtkkdlnolpjbjeaaSideOneWalk
import Derived.Test.YtkkdlnolpjbjeaaGTwo
namespace Go.Proofs.Ytkkdlnolpjbjeaa.Sid
open Go.RowKit Go.Sort Go.Proofs.Ytkkdlnolpjbjeaa.Mod Go.Proofs.Ytkkdlnolpjbjeaa.Lin Go.Proofs.Ytkkdlnolpjbjeaa.Ints Go.Proofs.Ytkkdlnolpjbjeaa.Num
set_option linter.unusedVariables false
set_option linter.unusedSimpArgs false

/-- Put, two rows told: where the headers stand. -/
theorem put_two (ao : Option Addr) (A B C D : List Int) (cap : Nat) (he : errS (-1) [A, B] = 0) (ha : ansS (-1) [A, B] = [C, D]) (w : World) (hA : Lls w ao [A, B]) :
    Calls Try.prog 8 #[.slice ao 2 cap] w fun e w' => ∃ g c, e = .returned (.tuple #[.slice (some ⟨g, 0, none⟩) 2 c, .int .i64 0]) ∧ Bel w w' ∧ ∃ b0 c0 b1 c1, w'.cell? ⟨g, 0, none⟩ = some (.slice b0 C.length c0) ∧ Slc w' b0 C ∧ w'.cell? ⟨g, 1, none⟩ = some (.slice b1 D.length c1) ∧ Slc w' b1 D := by
  refine (put_ok ao [A, B] 2 cap rfl (by unfold maxLen; omega) w hA).mono ?_
  rw [he, ha]
  rintro e w' ⟨bo, k, c, rfl, rfl, _, ⟨g, h, d, H⟩, b⟩
  obtain ⟨rfl, _, _, _, _, h6, _, h8⟩ := H 0 (by simp)
  obtain ⟨_, _, _, _, _, k6, _, k8⟩ := H 1 (by simp)
  exact ⟨g, c, rfl, b, _, _, _, _, h6, h8.slc, k6, k8.slc⟩

set_option maxRecDepth 20000 in
set_option maxHeartbeats 2000000 in
theorem swap_walk (ao : Option Addr) (xs : List Int) (n cap : Nat) (hn : n = xs.length) (hc : n ≤ cap) (h8 : cap * 8 ≤ 140737488351232) (bo : Option Addr) (ys : List Int) (m dap : Nat) (hm : m = ys.length) (hd : m ≤ dap) (k8 : dap * 8 ≤ 140737488351232) (w : World) (hA : Slc w ao xs) (hB : Slc w bo ys) :
    Calls Try.prog 6 #[.slice ao n cap, .slice bo m dap] w fun e w' => e = .returned (.bool true) ∧ Bel w w' := by
  obtain ⟨k, hk⟩ : ∃ k : Nat, min n m = k := ⟨_, rfl⟩
  have hmin := min2_nat n m k hk
  have kn : k ≤ n := by omega
  have km : k ≤ m := by omega
  have s8 : k * 8 ≤ 140737488351232 := by omega
  have HA : Hid (Slc w ao xs) := hA
  have HB : Hid (Slc w bo ys) := hB
  have HN : Hid (n = xs.length ∧ m = ys.length) := ⟨hn, hm⟩
  obtain ⟨F, hF⟩ : ∃ F : Nat → Int, F = fun i => xs.getD i 0 % 65536 - 32768 := ⟨_, rfl⟩
  obtain ⟨G, hG⟩ : ∃ G : Nat → Int, G = fun i => ys.getD i 0 % 65536 - 32768 := ⟨_, rfl⟩
  have FE : Hid (∀ i, F i = xs.getD i 0 % 65536 - 32768) := (fun i => by rw [hF] : ∀ i, F i = xs.getD i 0 % 65536 - 32768)
  have GE : Hid (∀ i, G i = ys.getD i 0 % 65536 - 32768) := (fun i => by rw [hG] : ∀ i, G i = ys.getD i 0 % 65536 - 32768)
  have AW : Hid (∀ w, Calls Try.prog 15 #[] w fun e w' => e = .returned (.bool true) ∧ Bel w w') := awake_true
  clear hA hB hn hm hc h8 hd k8 hF hG hk
  go_enter Try.func6, Try.ntmps6
  go_wp2_with fail
  refine (AW.out _).mono ?_
  rintro e w1 ⟨rfl, b1⟩
  have B1 : Hid (Bel w w1) := b1
  clear b1
  go_wp2
  go_loopw [6, 7, 8] (fun o u i wr => ∃ (v v2 : Value) (j : Nat), v = o ∧ v2 = u ∧ j ≤ k ∧ i = .int .i64 (j : Int) ∧ Hid (wr.ownsRow w.heap.size 3 1 v j (vals ((List.range j).map F)) ∧ wr.ownsRow w.heap.size 3 1 v2 j (vals ((List.range j).map G)) ∧ ∀ i, v.ownBlock = some i → v2.ownBlock ≠ some i) ∧ Hid (Bel w wr)) (fun _ _ i _ => k - (intOf i).toNat)
  case atStart => exact ⟨_, _, 0, rfl, rfl, Nat.zero_le _, rfl, ⟨⟨rfl, .inl ⟨rfl, rfl⟩⟩, ⟨rfl, .inl ⟨rfl, rfl⟩⟩, fun i h => by simp [Value.ownBlock] at h⟩, B1.out⟩
  case round =>
    obtain ⟨o, u, j, rfl, rfl, hj, rfl, ho, hb⟩ := hrel
    by_cases hlt : j < k
    · obtain ⟨x, rfl, hx⟩ := HA.out j (by have := HN.out.1; omega)
      obtain ⟨y, rfl, hy⟩ := HB.out j (by have := HN.out.2; omega)
      have hd : decide ((j : Int) < (k : Int)) = true := decide_eq_true (by omega)
      have jn : (j : Int) < (n : Int) := by omega
      have jm : (j : Int) < (m : Int) := by omega
      have j0 : (0 : Int) ≤ (j : Int) := by omega
      have f1 : wr.cell? (x.add j) = some (.int .i64 (xs.getD j 0)) := hb.out.keep hx
      have HY : Hid (w.cell? (y.add j) = some (.int .i64 (ys.getD j 0))) := hy
      clear hx hy
      obtain ⟨p, hp⟩ : ∃ p, xs.getD j 0 = p := ⟨_, rfl⟩
      obtain ⟨q, hq⟩ : ∃ q, ys.getD j 0 = q := ⟨_, rfl⟩
      rw [hp] at f1
      rw [hq] at HY
      obtain ⟨p1, hp1⟩ : ∃ y, p % 65536 = y := ⟨_, rfl⟩
      obtain ⟨q1, hq1⟩ : ∃ y, q % 65536 = y := ⟨_, rfl⟩
      have pa : bits .and .i64 p 65535 = p1 := (and_16 p).trans hp1
      have qa : bits .and .i64 q 65535 = q1 := (and_16 q).trans hq1
      have p2 : 0 ≤ p1 := by omega
      have p3 : p1 ≤ 65535 := by omega
      have q2 : 0 ≤ q1 := by omega
      have q3 : q1 ≤ 65535 := by omega
      have HZ : Hid (F j = p1 - 32768 ∧ G j = q1 - 32768) := ⟨by rw [FE.out, hp, hp1], by rw [GE.out, hq, hq1]⟩
      clear hp hq hp1 hq1
      have H8 : Hid (j * 8 ≤ 140737488351232 ∧ w.heap.size ≤ wr.heap.size) := ⟨by omega, hb.out.size⟩
      go_wp2_with (at_builtin; refine wpl_more_at wr rfl (.tmp 26) (.tmp 33) rfl w.heap.size j H8.out.2 o _ _ rfl rfl ho.out.1 H8.out.1 ?_)
      intro v' w2 hv he hl
      have HV : Hid (w2.ownsRow w.heap.size 3 1 v' (j + 1) (vals ((List.range (j + 1)).map F))) := by
        rw [← HZ.out.1, range_more F j] at hv
        exact hv
      have HU : Hid (w2.ownsRow w.heap.size 3 1 u j (vals ((List.range j).map G))) := own_beside ho.out.2.1 he (apart_sym ho.out.2.2)
      have HD : Hid (∀ i, u.ownBlock = some i → v'.ownBlock ≠ some i) := apart_more ho.out.2.1 (apart_sym ho.out.2.2) hl
      have B2 : Hid (Bel w w2) := he.from hb.out (fun i hi => (own_old ho.out.1 hi).1)
      have f2 : w2.cell? (y.add j) = some (.int .i64 q) := B2.out.keep HY.out
      have H82 : Hid (w.heap.size ≤ w2.heap.size) := B2.out.size
      clear hv he hl f1 ho hb
      go_wp2_with (at_builtin; refine wpl_more_at w2 rfl (.tmp 35) (.tmp 42) rfl w.heap.size j H82.out u _ _ rfl rfl HU.out H8.out.1 ?_)
      intro v2' w3 hv he hl
      have HU2 : Hid (w3.ownsRow w.heap.size 3 1 v2' (j + 1) (vals ((List.range (j + 1)).map G))) := by
        rw [← HZ.out.2, range_more G j] at hv
        exact hv
      have HV2 : Hid (w3.ownsRow w.heap.size 3 1 v' (j + 1) (vals ((List.range (j + 1)).map F))) := own_beside HV.out he (apart_sym HD.out)
      have HD2 : Hid (∀ i, v'.ownBlock = some i → v2'.ownBlock ≠ some i) := apart_more HV.out (apart_sym HD.out) hl
      have B3 : Hid (Bel w w3) := he.from B2.out (fun i hi => (own_old HU.out hi).1)
      clear hv he hl f2 pa qa p2 p3 q2 q3
      go_wp2
      go_roundw
      case rel => exact ⟨_, _, j + 1, rfl, rfl, by omega, by go_num, ⟨HV2.out, HU2.out, HD2.out⟩, B3⟩
      case measure => simp [intOf]; omega
    · have hkj : k = j := by omega
      have ho2 := ho.out
      clear ho
      rw [← hkj] at ho2
      subst hkj
      have hd : decide ((k : Int) < (k : Int)) = false := decide_eq_false (by omega)
      obtain ⟨o1, o2, -⟩ := ho2
      obtain ⟨po, pc, rfl, -, -, -, hs⟩ := owns_slc o1
      obtain ⟨qo, qc, rfl, -, -, -, ht⟩ := owns_slc o2
      have PC : Hid (po = none → pc = 0) := by
        rintro rfl
        rcases o1.2 with ⟨q1, _⟩ | ⟨_, _, _, q1, _⟩
        · injection q1
        · cases q1
      have QC : Hid (qo = none → qc = 0) := by
        rintro rfl
        rcases o2.2 with ⟨q1, _⟩ | ⟨_, _, _, q1, _⟩
        · injection q1
        · cases q1
      have hgF : ∀ i, i < k → ((List.range k).map F).getD i 0 = F i := fun i hi => by rw [List.getD_eq_getElem?_getD, List.getElem?_map, List.getElem?_range hi]; rfl
      have hgG : ∀ i, i < k → ((List.range k).map G).getD i 0 = G i := fun i hi => by rw [List.getD_eq_getElem?_getD, List.getElem?_map, List.getElem?_range hi]; rfl
      have rgA : ∀ i, i < k → -32768 ≤ ((List.range k).map F).getD i 0 ∧ ((List.range k).map F).getD i 0 ≤ 32767 := fun i hi => by rw [hgF i hi, FE.out]; omega
      have rgB : ∀ i, i < k → -32768 ≤ ((List.range k).map G).getD i 0 ∧ ((List.range k).map G).getD i 0 ≤ 32767 := fun i hi => by rw [hgG i hi, GE.out]; omega
      have lA : ((List.range k).map F).length = k := by simp
      have lB : ((List.range k).map G).length = k := by simp
      clear o1 o2 hgF hgG FE GE
      generalize (List.range k).map F = A at *
      generalize (List.range k).map G = B at *
      have LA : Hid (A.length = k ∧ B.length = k) := ⟨lA, lB⟩
      have RG : Hid (∀ i, i < k → (-32768 ≤ A.getD i 0 ∧ A.getD i 0 ≤ 32767) ∧ (-32768 ≤ B.getD i 0 ∧ B.getD i 0 ≤ 32767)) := fun i hi => ⟨rgA i hi, rgB i hi⟩
      have okA : okRow A = true := okRow_iff.2 fun i hi => by have := rgA i (lA ▸ hi); omega
      have okB : okRow B = true := okRow_iff.2 fun i hi => by have := rgB i (lB ▸ hi); omega
      have ok1 : okRow (byFirst (-1) A B) = true := okRow_iff.2 fun i hi => by
        rw [byFirst_length] at hi
        rw [byFirst_get _ _ _ _ hi]
        have := rgA i (lA ▸ hi)
        have := rgB i (lA ▸ hi)
        omega
      have ok2 : okRow (byFirst (-1) B A) = true := okRow_iff.2 fun i hi => by
        rw [byFirst_length] at hi
        rw [byFirst_get _ _ _ _ hi]
        have := rgA i (lB ▸ hi)
        have := rgB i (lB ▸ hi)
        omega
      have A1 : Hid (errS (-1) [A, B] = 0 ∧ ansS (-1) [A, B] = [A, byFirst (-1) A B]) := ans_2 A B okA (lB.trans lA.symm) okB ok1
      have A2 : Hid (errS (-1) [B, A] = 0 ∧ ansS (-1) [B, A] = [B, byFirst (-1) B A]) := ans_2 B A okB (lA.trans lB.symm) okA ok2
      have LD : Hid ((byFirst (-1) A B).length = k ∧ (byFirst (-1) B A).length = k) := ⟨by rw [byFirst_length, lA], by rw [byFirst_length, lB]⟩
      have GD : Hid (∀ i, i < k → (byFirst (-1) A B).getD i 0 = B.getD i 0 - A.getD i 0 ∧ (byFirst (-1) B A).getD i 0 = A.getD i 0 - B.getD i 0) := fun i hi => ⟨by rw [byFirst_get _ _ _ _ (lA.symm ▸ hi)]; omega, by rw [byFirst_get _ _ _ _ (lB.symm ▸ hi)]; omega⟩
      have SA : Hid (Slc wr po A ∧ Slc wr qo B) := ⟨hs, ht⟩
      have BW : Hid (Bel w wr) := hb.out
      clear lA lB rgA rgB okA okB ok1 ok2 hs ht hb
      generalize byFirst (-1) A B = D at *
      generalize byFirst (-1) B A = E at *
      go_wp2_with fail
      refine (put_two _ A B A D 2 A1.out.1 A1.out.2 _ (hdr_2 wr LA.out.1.symm s8 PC.out SA.out.1 LA.out.2.symm s8 QC.out SA.out.2)).mono ?_
      rintro e w2 ⟨ga, ca, rfl, b2, r0, c0, r1, c1, g0, t0, g1, t1⟩
      have B2 : Hid (Bel wr w2) := Bel.trans ((Bel.refl _).alloc _) b2
      have L2 : Hid (w2.cell? ⟨ga, 0, none⟩ = some (.slice r0 A.length c0) ∧ Slc w2 r0 A ∧ w2.cell? ⟨ga, 1, none⟩ = some (.slice r1 D.length c1) ∧ Slc w2 r1 D) := ⟨g0, t0, g1, t1⟩
      have SA2 : Hid (Slc w2 po A ∧ Slc w2 qo B) := ⟨SA.out.1.bel B2.out, SA.out.2.bel B2.out⟩
      clear b2 g0 t0 g1 t1
      go_wp2_with fail
      refine (put_two _ B A B E 2 A2.out.1 A2.out.2 _ (hdr_2 w2 LA.out.2.symm s8 QC.out SA2.out.2 LA.out.1.symm s8 PC.out SA2.out.1)).mono ?_
      rintro e w3 ⟨gb, cb, rfl, b3, z0, d0, z1, d1, e0, u0, e1, u1⟩
      have B3 : Hid (Bel w2 w3) := Bel.trans ((Bel.refl _).alloc _) b3
      have g0 := B3.out.keep L2.out.1
      have t0 := L2.out.2.1.bel B3.out
      have g1 := B3.out.keep L2.out.2.2.1
      have t1 := L2.out.2.2.2.bel B3.out
      rw [LA.out.1] at g0
      rw [LD.out.1] at g1
      rw [LA.out.2] at e0
      rw [LD.out.2] at e1
      have HC : Hid (w3.cell? ⟨ga, 0, none⟩ = some (.slice r0 k c0) ∧ w3.cell? ⟨ga, 1, none⟩ = some (.slice r1 k c1) ∧ w3.cell? ⟨gb, 0, none⟩ = some (.slice z0 k d0) ∧ w3.cell? ⟨gb, 1, none⟩ = some (.slice z1 k d1)) := ⟨g0, g1, e0, e1⟩
      have HS : Hid (Slc w3 r0 A ∧ Slc w3 r1 D ∧ Slc w3 z0 B ∧ Slc w3 z1 E ∧ Slc w3 po A ∧ Slc w3 qo B) := ⟨t0, t1, u0, u1, SA2.out.1.bel B3.out, SA2.out.2.bel B3.out⟩
      clear b3 g0 e0 t0 t1 u0 u1 SA SA2 L2 A1 A2 PC QC
      have hkk : ((k : Int) != (k : Int)) = false := by simp
      go_wp2_with (go_at_call 13; refine (num_ok _ _).mono ?_; rintro e w99 ⟨rfl, hw⟩; replace hw := hw.symm; subst hw)
      clear g1 e1
      go_loopw [13] (fun i wq => ∃ j : Nat, j ≤ k ∧ i = .int .i64 (j : Int) ∧ Hid (∃ q, wq = w3.drewN q)) (fun i _ => k - (intOf i).toNat)
      case atStart => exact ⟨0, Nat.zero_le _, rfl, ⟨0, rfl⟩⟩
      case round =>
        obtain ⟨j, hj, rfl, hw⟩ := hrel
        by_cases hlt : j < k
        · have hd : decide ((j : Int) < (k : Int)) = true := decide_eq_true (by omega)
          have j0 : (0 : Int) ≤ (j : Int) := by omega
          have jk : (j : Int) < (k : Int) := by omega
          obtain ⟨a1, rfl, i1⟩ := HS.out.2.1 j (LD.out.1.symm ▸ hlt)
          obtain ⟨a2, rfl, i2⟩ := HS.out.2.2.2.1 j (LD.out.2.symm ▸ hlt)
          obtain ⟨a3, rfl, i3⟩ := HS.out.2.2.2.2.1 j (LA.out.1.symm ▸ hlt)
          obtain ⟨a4, rfl, i4⟩ := HS.out.2.2.2.2.2 j (LA.out.2.symm ▸ hlt)
          have f1 : wr.cell? (a1.add j) = some (.int .i64 (D.getD j 0)) := by obtain ⟨q, rfl⟩ := hw.out; exact i1
          have f2 : wr.cell? (a2.add j) = some (.int .i64 (E.getD j 0)) := by obtain ⟨q, rfl⟩ := hw.out; exact i2
          have f3 : wr.cell? (a3.add j) = some (.int .i64 (A.getD j 0)) := by obtain ⟨q, rfl⟩ := hw.out; exact i3
          have f4 : wr.cell? (a4.add j) = some (.int .i64 (B.getD j 0)) := by obtain ⟨q, rfl⟩ := hw.out; exact i4
          have f5 : wr.cell? ⟨ga, 1, none⟩ = some (.slice (some a1) k c1) := by obtain ⟨q, rfl⟩ := hw.out; exact HC.out.2.1
          have f6 : wr.cell? ⟨gb, 1, none⟩ = some (.slice (some a2) k d1) := by obtain ⟨q, rfl⟩ := hw.out; exact HC.out.2.2.2
          obtain ⟨gd, ge⟩ := GD.out j hlt
          obtain ⟨⟨ra1, ra2⟩, rb1, rb2⟩ := RG.out j hlt
          clear i1 i2 i3 i4
          generalize D.getD j 0 = d at *
          generalize E.getD j 0 = e at *
          generalize A.getD j 0 = p at *
          generalize B.getD j 0 = q at *
          have hz : q - p = d := gd.symm
          have hy : -e = d := by omega
          have e0 : -65535 ≤ e := by omega
          have e1 : e ≤ 65535 := by omega
          have hb : (d != d) = false := by simp
          clear gd ge
          go_wp2
          go_quiet (fail)
          go_wp2
          go_roundw
          case rel => exact ⟨j + 1, by omega, by go_num, (by obtain ⟨q, e⟩ := hw.out; exact ⟨_, by rw [e, World.drewN_drewN]⟩ : ∃ q, _ = w3.drewN q)⟩
          case measure => simp [intOf]; omega
        · obtain rfl : k = j := by omega
          have hd : decide ((k : Int) < (k : Int)) = false := decide_eq_false (by omega)
          have f1 : wr.cell? ⟨ga, 0, none⟩ = some (.slice r0 k c0) := by obtain ⟨q, rfl⟩ := hw.out; exact HC.out.1
          have f2 : Hid (wr.cell? ⟨gb, 0, none⟩ = some (.slice z0 k d0)) := (by obtain ⟨q, rfl⟩ := hw.out; exact HC.out.2.2.1 : wr.cell? ⟨gb, 0, none⟩ = some (.slice z0 k d0))
          have HT : Hid (Slc wr r0 A ∧ Slc wr z0 B ∧ Slc wr po A ∧ Slc wr qo B) := by
            obtain ⟨q, rfl⟩ := hw.out
            exact ⟨HS.out.1, HS.out.2.2.1, HS.out.2.2.2.2.1, HS.out.2.2.2.2.2⟩
          have B4 : Hid (Bel w3 wr) := by
            obtain ⟨q, rfl⟩ := hw.out
            exact (Bel.refl _).drewN q
          go_wp2_with fail
          refine (same_ok r0 po A A k k _ _ LA.out.1.symm LA.out.1.symm (by unfold maxLen; omega) (by unfold maxLen; omega) wr HT.out.1 HT.out.2.2.1).mono ?_
          rw [decide_eq_true rfl]
          rintro e w5 ⟨rfl, q5, hw5⟩
          have B5 : Hid (Bel wr w5) := hw5 ▸ (Bel.refl _).drewN q5
          have f3 : w5.cell? ⟨gb, 0, none⟩ = some (.slice z0 k d0) := B5.out.keep f2.out
          clear hw5 f1
          go_wp2_with fail
          refine (same_ok z0 qo B B k k _ _ LA.out.2.symm LA.out.2.symm (by unfold maxLen; omega) (by unfold maxLen; omega) w5 (HT.out.2.1.bel B5.out) (HT.out.2.2.2.bel B5.out)).mono ?_
          rw [decide_eq_true rfl]
          rintro e w6 ⟨rfl, q6, hw6⟩
          have B6 : Hid (Bel w w6) := BW.out.trans (B2.out.trans (B3.out.trans (B4.out.trans (B5.out.trans (hw6 ▸ (Bel.refl _).drewN q6)))))
          clear hw6 f3
          go_wp2
          go_ret
          exact ⟨rfl, B6.out⟩

end Go.Proofs.Ytkkdlnolpjbjeaa.Sid
