/-
  The contract of pcm.Put: the bytes that rows are, or the error. Conditions: the rows are there.
-/
import Derived.Test.YtpakcajdbibbbaaPcAre
import Derived.Test.YtpakcajdbibbbaaGBld
import Derived.Test.YtpakcajdbibbbaaGField
namespace Go.Proofs.Ytpakcajdbibbbaa.Pcm
open Go.RowKit Go.Sort Go.Proofs.Ytpakcajdbibbbaa.Mod Go.Proofs.Ytpakcajdbibbbaa.Num
set_option linter.unusedVariables false
set_option linter.unusedSimpArgs false

theorem at_bel {T e : TypeId} {B b : Nat} {p : Value} {bs : List Value} {w w' : World} (h : Lib.BuilderAt T e B b p bs w) (k : Bel w w') : Lib.BuilderAt T e B b p bs w' := by
  obtain ⟨hB, v, hb, ho, hn⟩ := h
  refine ⟨hB, v, by rw [k.block b (Array.getElem?_eq_some_iff.1 hb).1]; exact hb, ⟨ho.1, ?_⟩, hn⟩
  rcases ho.2 with r | ⟨g, cap, cur, e1, e2, e3, e4⟩
  · exact .inl r
  · exact .inr ⟨g, cap, cur, e1, e2, by rw [k.block g (Array.getElem?_eq_some_iff.1 e3).1]; exact e3, e4⟩
theorem is_bel {B b : Nat} {l : List UInt8} {w w' : World} (h : Bld.Is B b l w) (k : Bel w w') : Bld.Is B b l w' := h.elim (fun r => .inl (at_bel r k)) (fun r => .inr (at_bel r k))

theorem str_tell (q : Nat) (x : Int) : (strOfNums (low q (numb q x))).data.toList = tell q x := by rw [strOfNums_data]; rfl

theorem flat_take (q : Nat) (Ls : List (List Int)) (k j : Nat) (h : j ≤ Ls.length) : ((Ls.take j).flatMap fun L => tell q (L.getD k 0)).length = j * q := by
  rw [flat_length _ _ q (fun L => tell_length _ _), List.length_take, Nat.min_eq_left h]

set_option maxHeartbeats 1000000 in
theorem put_no (c b : Int) (ao : Option Addr) (Ls : List (List Int)) (n cap : Nat) (hn : n = Ls.length) (hx : n ≤ maxLen) (h : okPut c b Ls = false) (w : World) (hA : Lls w ao Ls) :
    Calls Try.prog 10 #[.slice ao n cap, fmt c b] w fun e w' => e = .returned (.tuple #[.string ⟨#[]⟩, .int .i64 1900]) ∧ Bel w w' := by
  have A : Hid (∀ w1, Bel w w1 → Calls Try.prog 24 #[.slice ao n cap, fmt c b] w1 fun e w' => e = .returned (.bool false) ∧ Bel w1 w') := fun w1 k => h ▸ are_ok c b ao Ls n cap hn hx w1 (hA.bel k)
  have B0 : Hid (Bel w (w.alloc (.cells #[.int .i64 c, .int .i64 b] 24))) := (Bel.refl _).alloc _
  clear hA hn h
  go_enter Try.func10, Try.ntmps10
  go_wp2_with fail
  refine (A.out _ B0.out).mono ?_
  rintro e w1 ⟨rfl, b1⟩
  have B1 : Hid (Bel w w1) := B0.out.trans b1
  clear b1
  go_wp2
  go_ret2
  exact ⟨rfl, B1.out⟩

set_option maxRecDepth 20000 in
set_option maxHeartbeats 1000000 in
theorem put_yes (C q m : Nat) (b : Int) (hC : C = 1 ∨ C = 2) (hq : q = 1 ∧ b = 8 ∨ q = 2 ∧ b = 16) (x : Addr) (Ls : List (List Int)) (cap : Nat) (hn : Ls.length = C) (hm : (Ls.getD 0 []).length = m) (h4 : m * (C * q) ≤ 4096) (hfit : rowsFit q Ls = true) (hok : okPut (C : Int) b Ls = true) (w : World) (hA : Lls w (some x) Ls) :
    Calls Try.prog 10 #[.slice (some x) C cap, fmt (C : Int) b] w fun e w' => e = .returned (.tuple #[.string ⟨(bytesOf q Ls m).toArray⟩, .int .i64 0]) ∧ Bel w w' := by
  have hfq : fQ b = q := by rcases hq with ⟨rfl, rfl⟩ | ⟨rfl, rfl⟩ <;> rfl
  have A : Hid (∀ w1, Bel w w1 → Calls Try.prog 24 #[.slice (some x) C cap, fmt (C : Int) b] w1 fun e w' => e = .returned (.bool true) ∧ Bel w1 w') := fun w1 k => hok ▸ are_ok (C : Int) b (some x) Ls C cap hn.symm (by unfold maxLen; omega) w1 (hA.bel k)
  have BY : Hid (∀ w, Calls Try.prog 21 #[.int .i64 b] w fun e w' => e = .returned (.int .i64 (q : Int)) ∧ w' = w) := fun w => by
    have := bytes_ok b (by omega) w
    rwa [hfq] at this
  have NU : Hid (∀ x : Int, fits q x = true → ∀ w, Calls Try.prog 26 #[.int .i64 b, .int .i64 x] w fun e w' => e = .returned (.int .i64 (numb q x)) ∧ w' = w) := fun x h w => by
    have := number_ok b x (by omega) (by rw [hfq]; exact h) w
    rwa [hfq] at this
  have FP : Hid (∀ x : Int, fits q x = true → ∀ w, Calls Try.prog 25 #[.int .i64 (numb q x), .int .i64 (q : Int)] w fun e w' => e = .returned (.tuple #[.string (strOfNums (low q (numb q x))), .int .i64 0]) ∧ Bel w w') := fun x h w => by
    have hl := numb_lt (by omega) h
    exact Field.put_ok (numb q x) (q : Int) (by omega) (by omega) hl.1 (by rw [Int.toNat_natCast]; exact hl.2) w
  obtain ⟨wb, hwb⟩ : ∃ wb, w.alloc (.cells #[.int .i64 (C : Int), .int .i64 b] 24) = wb := ⟨_, rfl⟩
  have HW : Hid (w.alloc (.cells #[.int .i64 (C : Int), .int .i64 b] 24) = wb) := hwb
  obtain ⟨gb, hgb⟩ : ∃ gb, w.heap.size = gb := ⟨_, rfl⟩
  have HG : Hid (w.heap.size = gb) := hgb
  have B0 : Hid (Bel w wb) := (by rw [← hwb]; exact (Bel.refl _).alloc _ : Bel w wb)
  have BX := box_new w (C : Int) b
  rw [hwb, hgb] at BX
  have XX : Hid (Box wb gb (C : Int) b) := BX
  have C0 : 1 ≤ C ∧ C ≤ 2 := by omega
  obtain ⟨y, hy, b0, c0, p0, s0, z0, t0⟩ := hA 0 (by omega)
  cases hy
  replace p0 : w.cell? x = some (.slice b0 m c0) := by rw [Addr.add_zero', hm] at p0; exact p0
  have P0 : Hid (w.cell? x = some (.slice b0 m c0)) := p0
  have HA : Hid (Lls w (some x) Ls) := hA
  have HN : Hid (Ls.length = C ∧ (Ls.getD 0 []).length = m ∧ m * (C * q) ≤ 4096 ∧ rowsFit q Ls = true) := ⟨hn, hm, h4, hfit⟩
  have QQ : Hid ((q = 1 ∨ q = 2) ∧ m * 8 ≤ 140737488351232) := ⟨by omega, by rw [← hm]; exact s0⟩
  have m8 : m ≤ 17592186044416 := by have := QQ.out.2; omega
  clear hwb hgb BX p0 s0 z0 t0 hA hn hm h4 hfit hok hfq hC hq
  go_enter Try.func10, Try.ntmps10
  go_wp2_with fail
  rw [HW.out, HG.out]
  refine (A.out _ B0.out).mono ?_
  rintro e w1 ⟨rfl, b1⟩
  have B1 : Hid (Bel w w1) := B0.out.trans b1
  obtain ⟨x0, x1⟩ := XX.out.bel b1
  clear b1 x0
  have p1 : ∀ o, (w1.alloc o).cell? x = some (.slice b0 m c0) := fun o => (B1.out.alloc o).keep P0.out
  go_wp2
  obtain ⟨W0, hW0⟩ : ∃ W, W = w1.alloc (.cells #[.pointer none, .slice none 0 0] 60) := ⟨_, rfl⟩
  obtain ⟨g, hg⟩ : ∃ g, g = w1.heap.size := ⟨_, rfl⟩
  have I0 : Hid (Bld.Is g g (bytesOf q Ls 0) W0) := (by rw [hW0, hg]; exact Lib.fresh_isBuilder 60 5 w1 : Bld.Is g g (bytesOf q Ls 0) W0)
  have BB : Hid (Bel w W0 ∧ w.heap.size ≤ g ∧ g ≤ W0.heap.size) := (by rw [hW0, hg]; exact ⟨B1.out.alloc _, B1.out.size, by simp⟩ : Bel w W0 ∧ w.heap.size ≤ g ∧ g ≤ W0.heap.size)
  rw [← hW0, ← hg]
  clear hW0 hg p1 x1 B1
  go_loopw [23] (fun i wr => ∃ k : Nat, k ≤ m ∧ i = .int .i64 (k : Int) ∧ Hid (Bld.Is g g (bytesOf q Ls k) wr) ∧ Hid (Bel w wr ∧ g ≤ wr.heap.size)) (fun i _ => m - (intOf i).toNat)
  case atStart => exact ⟨0, Nat.zero_le _, rfl, I0, ⟨BB.out.1, BB.out.2.2⟩⟩
  case round =>
    obtain ⟨k, hk, rfl, hi, hb⟩ := hrel
    by_cases hkt : k < m
    · have hdk : decide ((k : Int) < (m : Int)) = true := decide_eq_true (by omega)
      have I1 : Hid (Bld.Is g g (bytesOf q Ls k ++ ((Ls.take 0).flatMap fun L => tell q (L.getD k 0))) wr) := (by simpa using hi.out : Bld.Is g g (bytesOf q Ls k ++ ((Ls.take 0).flatMap fun L => tell q (L.getD k 0))) wr)
      clear hi
      go_wp2
      go_loopw [28] (fun i wr => ∃ j : Nat, j ≤ C ∧ i = .int .i64 (j : Int) ∧ Hid (Bld.Is g g (bytesOf q Ls k ++ ((Ls.take j).flatMap fun L => tell q (L.getD k 0))) wr) ∧ Hid (Bel w wr ∧ g ≤ wr.heap.size)) (fun i _ => C - (intOf i).toNat)
      case atStart => exact ⟨0, Nat.zero_le _, rfl, I1, hb⟩
      case round =>
        obtain ⟨j, hj, rfl, hi, hb⟩ := hrel
        by_cases hjt : j < C
        · have hdj : decide ((j : Int) < (C : Int)) = true := decide_eq_true (by omega)
          have HN2 := HN.out
          obtain ⟨y, hy, b1, c1, p1, s1, z1, t1⟩ := HA.out j (by omega)
          cases hy
          obtain ⟨r1, r2⟩ := rowsFit_get HN2.2.2.2 j (by omega)
          have hl1 : (Ls.getD j []).length = m := r1.trans HN2.2.1
          have g1 : wr.cell? (x.add j) = some (.slice b1 m c1) := by rw [← hl1]; exact hb.out.1.keep p1
          obtain ⟨z, rfl, hz⟩ := t1 k (by omega)
          have g2 : wr.cell? (z.add k) = some (.int .i64 ((Ls.getD j []).getD k 0)) := hb.out.1.keep hz
          have hfx := rowFits_get r2 k (by omega)
          have ht : (Ls.take j).flatMap (fun L => tell q (L.getD k 0)) ++ tell q ((Ls.getD j []).getD k 0) = (Ls.take (j + 1)).flatMap fun L => tell q (L.getD k 0) := getD_flat Ls (fun L => tell q (L.getD k 0)) j (by omega)
          have hlen : (bytesOf q Ls k ++ ((Ls.take j).flatMap fun L => tell q (L.getD k 0))).length + q ≤ 4096 := by
            rw [List.length_append, bytesOf_length, flat_take q Ls k j (by omega), HN2.1]
            have := at_lt (q := q) hkt hjt
            rw [Nat.add_mul, Nat.mul_assoc] at this
            have := HN2.2.2.1
            omega
          clear r1 r2 hl1 p1 s1 z1 t1 hz HN2
          obtain ⟨v, hv⟩ : ∃ v, (Ls.getD j []).getD k 0 = v := ⟨_, rfl⟩
          rw [hv] at g2 hfx ht
          obtain ⟨l, hl⟩ : ∃ l, bytesOf q Ls k ++ ((Ls.take j).flatMap fun L => tell q (L.getD k 0)) = l := ⟨_, rfl⟩
          rw [hl] at hi hlen
          have HT : Hid (l ++ tell q v = bytesOf q Ls k ++ ((Ls.take (j + 1)).flatMap fun L => tell q (L.getD k 0))) := by
            show _ = _
            rw [← hl, List.append_assoc, ht]
          have NU2 := NU.out v hfx
          have FP2 := FP.out v hfx
          obtain ⟨u, hu⟩ : ∃ u, numb q v = u := ⟨_, rfl⟩
          have hst := str_tell q v
          rw [hu] at NU2 FP2 hst
          obtain ⟨st, hste⟩ : ∃ st, strOfNums (low q u) = st := ⟨_, rfl⟩
          rw [hste] at FP2 hst
          have NU3 : Hid (∀ w, Calls Try.prog 26 #[.int .i64 b, .int .i64 v] w fun e w' => e = .returned (.int .i64 u) ∧ w' = w) := NU2
          have FP3 : Hid (∀ w, Calls Try.prog 25 #[.int .i64 u, .int .i64 (q : Int)] w fun e w' => e = .returned (.tuple #[.string st, .int .i64 0]) ∧ Bel w w') := FP2
          have HST : Hid (st.data.toList = tell q v ∧ l.length + (tell q v).length ≤ 140737488355328) := ⟨hst, by rw [tell_length]; omega⟩
          have IS : Hid (Bld.Is g g l wr) := hi.out
          clear hi hfx ht hv hl NU2 FP2 hu hst hste hlen
          go_wp2_with fail
          refine (NU3.out _).mono ?_
          rintro e w3 ⟨rfl, rfl⟩
          go_wp2_with fail
          refine (BY.out _).mono ?_
          rintro e w4 ⟨rfl, rfl⟩
          go_wp2_with fail
          refine (FP3.out _).mono ?_
          rintro e w5 ⟨rfl, b5⟩
          have B5 : Hid (Bel w w5 ∧ g ≤ w5.heap.size) := ⟨hb.out.1.trans b5, Nat.le_trans hb.out.2 b5.size⟩
          have I5 : Hid (Bld.Is g g l w5) := is_bel IS.out b5
          clear b5 IS g1 g2
          go_wp2_with fail
          refine (Bld.write_ok g g l (tell q v) st HST.out.1 w5 I5.out HST.out.2 B5.out.2).mono ?_
          rintro e w6 ⟨rfl, i6, b6⟩
          have B6 : Hid (Bel w w6 ∧ g ≤ w6.heap.size) := ⟨Below.trans B5.out.1 (b6.mono BB.out.2.1), Nat.le_trans B5.out.2 b6.size⟩
          have I6 : Hid (Bld.Is g g (bytesOf q Ls k ++ ((Ls.take (j + 1)).flatMap fun L => tell q (L.getD k 0))) w6) := (by rw [← HT.out]; exact .inr i6 : Bld.Is g g (bytesOf q Ls k ++ ((Ls.take (j + 1)).flatMap fun L => tell q (L.getD k 0))) w6)
          clear i6 b6 I5 B5 hb HT
          go_wp2
          go_roundw
          case rel => exact ⟨j + 1, by omega, by go_num, I6, B6⟩
          case measure => simp [intOf]; omega
        · obtain rfl : C = j := by omega
          have hdj : decide ((C : Int) < (C : Int)) = false := decide_eq_false (by omega)
          have I4 : Hid (Bld.Is g g (bytesOf q Ls (k + 1)) wr) := (by
            have := hi.out
            rwa [← HN.out.1, List.take_length, bytesOf_snoc] at this : Bld.Is g g (bytesOf q Ls (k + 1)) wr)
          clear hi
          go_wp2
          go_roundw
          case rel => exact ⟨k + 1, by omega, by go_num, I4, hb⟩
          case measure => simp [intOf]; omega
    · obtain rfl : m = k := by omega
      have hdk : decide ((m : Int) < (m : Int)) = false := decide_eq_false (by omega)
      go_wp2_with fail
      refine (Bld.string_ok g g _ wr hi.out hb.out.2).mono ?_
      rintro e w6 ⟨rfl, b6⟩
      have B6 : Hid (Bel w w6) := Below.trans hb.out.1 (b6.mono BB.out.2.1)
      clear b6
      go_wp2
      go_ret2
      exact ⟨rfl, B6.out⟩

/-- Put, of whatever rows and format. -/
theorem put_ok (c b : Int) (ao : Option Addr) (Ls : List (List Int)) (n cap : Nat) (hn : n = Ls.length) (hx : n ≤ maxLen) (w : World) (hA : Lls w ao Ls) :
    Calls Try.prog 10 #[.slice ao n cap, fmt c b] w fun e w' => e = .returned (.tuple #[.string ⟨(ansPut c b Ls).toArray⟩, .int .i64 (errPut c b Ls)]) ∧ Bel w w' := by
  cases h : okPut c b Ls
  · unfold ansPut errPut
    rw [h]
    exact put_no c b ao Ls n cap hn hx h w hA
  · have hk := h
    unfold ansPut errPut
    rw [h]
    unfold okPut at h
    rw [Bool.and_eq_true, Bool.and_eq_true, Bool.and_eq_true, decide_eq_true_eq, decide_eq_true_eq] at h
    obtain ⟨h1, h2, h3, h4⟩ := okF_nat h.1
    obtain ⟨x, rfl, _⟩ := hA 0 (by omega)
    have P := put_yes (fC c) (fQ b) (Ls.getD 0 []).length b h1 (by omega) x Ls cap h.2.1 rfl h.2.2.1 h.2.2.2 (by rw [← h3]; exact hk) w hA
    rw [← h3, show fC c = n by omega] at P
    exact P

end Go.Proofs.Ytpakcajdbibbbaa.Pcm
