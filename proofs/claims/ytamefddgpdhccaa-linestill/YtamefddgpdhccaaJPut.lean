/-
  The contracts of line.Put and line.Get. Conditions: the rows are there.
-/
import Derived.Test.YtamefddgpdhccaaJFollow
import Derived.Test.YtamefddgpdhccaaJMay
import Derived.Test.YtamefddgpdhccaaGMake
namespace Go.Proofs.Ytamefddgpdhccaa.Ser
open Go.RowKit Go.Sort Go.Proofs.Ytamefddgpdhccaa.Mod Go.Proofs.Ytamefddgpdhccaa.Lin Go.Proofs.Ytamefddgpdhccaa.Chn
set_option linter.unusedVariables false
set_option linter.unusedSimpArgs false

/-- A row's numbers, one by one. -/
def ith (L : List Int) (j : Nat) : Int := L.getD j 0
def resL (xs : List Int) : List Int := (List.range xs.length).map (res (ith xs))
def smpL (rs : List Int) : List Int := (List.range rs.length).map (smp (ith rs))
def okP (xs : List Int) : Bool := decide (xs.length ≤ 256) && !anyOf (passed 131072) (ith xs) xs.length
def okG (rs : List Int) : Bool := decide (rs.length ≤ 256) && (!anyOf (passed 16777216) (ith rs) rs.length && !anyOf (passed 131072) (smp (ith rs)) rs.length)

theorem cells3 (w : World) (v0 v2 : Value) (L : List Int) (t0 t1 t2 : TypeId) : ∀ W, W = ((w.alloc (.cells #[v0] t0)).alloc (.cells (vals L).toArray t1)).alloc (.cells #[v2] t2) →
    W.cell? ⟨w.heap.size, 0, none⟩ = some v0 ∧ W.cell? ⟨w.heap.size + 2, 0, none⟩ = some v2 ∧ Holds W (w.heap.size + 1) L ∧ Bel w W ∧ W.heap.size = w.heap.size + 3 := by
  rintro W rfl
  refine ⟨?_, ?_, ?_, (((Bel.refl w).alloc _).alloc _).alloc _, by simp⟩
  · go_simp
  · go_simp
  · exact (holds_at (by simp) L t1).bel ((Bel.refl _).alloc _)

set_option maxRecDepth 20000 in
set_option maxHeartbeats 1000000 in
theorem put_walk (ao : Option Addr) (xs : List Int) (n cap : Nat) (hn : n = xs.length) (hx : n ≤ 256) (w : World) (hA : Slc w ao xs) :
    Calls Try.prog 9 #[.slice ao n cap] w fun e w' =>
      (anyOf (passed 131072) (ith xs) n = true → e = .returned (.tuple #[.slice none 0 0, .int .i64 1600])) ∧
      (anyOf (passed 131072) (ith xs) n = false → ∃ g, e = .returned (.tuple #[.slice (some ⟨g, 0, none⟩) n n, .int .i64 0]) ∧ w.heap.size ≤ g ∧ g < w'.heap.size ∧ Holds w' g (resL xs)) ∧ Bel w w' := by
  have mk := mk_ints n (by omega)
  have hmf : ∀ (fn : Fn) (first cap : Array Value) (w : World), (Instr.makeFunc fn first cap).run Try.prog w = .ok (.func fn first cap) w := fun _ _ _ _ => rfl
  have hd : decide ((256 : Int) < (n : Int)) = false := decide_eq_false (by omega)
  have EQ : Hid (resL xs = (List.range n).map (res (ith xs))) := by rw [hn]; rfl
  obtain ⟨W, hW⟩ : ∃ W, W = ((w.alloc (.cells #[.slice ao n cap] 22)).alloc (.cells (vals (List.replicate n 0)).toArray 3)).alloc (.cells #[.slice (some ⟨w.heap.size + 1, 0, none⟩) n n] 22) := ⟨_, rfl⟩
  obtain ⟨q1, q2, q3, q4, q5⟩ := cells3 w _ _ _ _ _ _ W hW
  have FQ : Hid (Calls Try.prog 19 #[.int .i64 (n : Int), .func (.func 20) #[] #[.pointer (some ⟨w.heap.size, 0, none⟩), .pointer (some ⟨w.heap.size + 2, 0, none⟩)]] W fun e w' =>
      (anyOf (passed 131072) (ith xs) n = true → e = .returned (.bool false)) ∧ (anyOf (passed 131072) (ith xs) n = false → e = .returned (.bool true) ∧ Holds w' (w.heap.size + 1) ((List.range n).map (res (ith xs)))) ∧ Exc (fun k => k = w.heap.size + 1) W w') :=
    follow_put w.heap.size (w.heap.size + 2) (w.heap.size + 1) n cap ao (ith xs) xs (List.replicate n 0) hn (fun _ _ => rfl) hx W q1 q2 (hA.bel q4)
      (fun x hx2 h0 => by
        obtain ⟨y, hy, hc⟩ := hA 0 (by omega)
        rw [hx2] at hy
        cases hy
        have := block_lt_of_cell hc
        rw [add_block] at this
        omega) (by omega) (by omega) q3 (by simp) (by omega)
  have CR : Hid (W.cell? ⟨w.heap.size + 2, 0, none⟩ = some (.slice (some ⟨w.heap.size + 1, 0, none⟩) n n)) := q2
  have BW : Hid (Bel w W) := q4
  have SW : Hid (W.heap.size = w.heap.size + 3) := q5
  rw [hW] at FQ
  have HW : Hid (W = ((w.alloc (.cells #[.slice ao n cap] 22)).alloc (.cells (vals (List.replicate n 0)).toArray 3)).alloc (.cells #[.slice (some ⟨w.heap.size + 1, 0, none⟩) n n] 22)) := hW
  clear q1 q2 q3 q4 q5 hA hn hW
  go_enter Try.func9, Try.ntmps9
  go_wp2_with fail
  refine FQ.out.mono ?_
  rintro e w1 ⟨h1, h2, hE⟩
  rw [← HW.out] at hE
  have d := hE.keep CR.out (show ¬ w.heap.size + 2 = w.heap.size + 1 by omega)
  have B1 : Hid (Bel w w1) := hE.from BW.out (fun i hi => by omega)
  have S1 : Hid (w.heap.size + 1 < w1.heap.size) := (by have := hE.size; have := SW.out; omega : w.heap.size + 1 < w1.heap.size)
  clear hE FQ
  cases ha : anyOf (passed 131072) (ith xs) n
  · obtain ⟨rfl, hG⟩ := h2 ha
    have HG : Hid (Holds w1 (w.heap.size + 1) (resL xs)) := EQ.out ▸ hG
    have NA : Hid (anyOf (passed 131072) (ith xs) n = false) := ha
    clear h1 h2 ha hG
    go_wp2
    go_ret2
    exact ⟨fun h => absurd (NA.out.symm.trans h) (by decide), fun _ => ⟨_, rfl, Nat.le_succ _, S1.out, HG.out⟩, B1.out⟩
  · obtain rfl := h1 ha
    have NA : Hid (anyOf (passed 131072) (ith xs) n = true) := ha
    clear h1 h2 ha
    go_wp2
    go_ret2
    exact ⟨fun _ => rfl, fun h => absurd (NA.out.symm.trans h) (by decide), B1.out⟩

set_option maxHeartbeats 400000 in
theorem put_long (ao : Option Addr) (xs : List Int) (n cap : Nat) (hx : 256 < n) (hm : n ≤ maxLen) (w : World) :
    Calls Try.prog 9 #[.slice ao n cap] w fun e w' => e = .returned (.tuple #[.slice none 0 0, .int .i64 1600]) ∧ Bel w w' := by
  unfold maxLen at hm
  have hd : decide ((256 : Int) < (n : Int)) = true := decide_eq_true (by omega)
  go_enter Try.func9, Try.ntmps9
  go_wp2
  go_ret2
  exact ⟨rfl, (Bel.refl _).alloc _⟩

theorem put_yes (ao : Option Addr) (xs : List Int) (n cap : Nat) (hn : n = xs.length) (hp : okP xs = true) (w : World) (hA : Slc w ao xs) :
    Calls Try.prog 9 #[.slice ao n cap] w fun e w' => ∃ g, e = .returned (.tuple #[.slice (some ⟨g, 0, none⟩) n n, .int .i64 0]) ∧ w.heap.size ≤ g ∧ g < w'.heap.size ∧ Holds w' g (resL xs) ∧ Bel w w' := by
  unfold okP at hp
  rw [Bool.and_eq_true, decide_eq_true_eq, Bool.not_eq_true'] at hp
  refine (put_walk ao xs n cap hn (by omega) w hA).mono ?_
  rintro e w' ⟨_, h, b⟩
  obtain ⟨g, h1, h2, h3, h4⟩ := h (hn ▸ hp.2)
  exact ⟨g, h1, h2, h3, h4, b⟩

theorem put_no (ao : Option Addr) (xs : List Int) (n cap : Nat) (hn : n = xs.length) (hm : n ≤ maxLen) (hp : okP xs = false) (w : World) (hA : Slc w ao xs) :
    Calls Try.prog 9 #[.slice ao n cap] w fun e w' => e = .returned (.tuple #[.slice none 0 0, .int .i64 1600]) ∧ Bel w w' := by
  by_cases h : n ≤ 256
  · unfold okP at hp
    rw [decide_eq_true (by omega), Bool.true_and, Bool.not_eq_false'] at hp
    exact (put_walk ao xs n cap hn h w hA).mono fun e w' k => ⟨k.1 (hn ▸ hp), k.2.2⟩
  · exact put_long ao xs n cap (by omega) hm w

set_option maxRecDepth 20000 in
set_option maxHeartbeats 1000000 in
theorem get_walk (ao : Option Addr) (rs : List Int) (n cap : Nat) (hn : n = rs.length) (hx : n ≤ 256) (hp : anyOf (passed 16777216) (ith rs) n = false) (w : World) (hA : Slc w ao rs) :
    Calls Try.prog 11 #[.slice ao n cap] w fun e w' =>
      (anyOf (passed 131072) (smp (ith rs)) n = true → e = .returned (.tuple #[.slice none 0 0, .int .i64 1600])) ∧
      (anyOf (passed 131072) (smp (ith rs)) n = false → ∃ g, e = .returned (.tuple #[.slice (some ⟨g, 0, none⟩) n n, .int .i64 0]) ∧ w.heap.size ≤ g ∧ g < w'.heap.size ∧ Holds w' g (smpL rs)) ∧ Bel w w' := by
  have mk := mk_ints n (by omega)
  have hmf : ∀ (fn : Fn) (first cap : Array Value) (w : World), (Instr.makeFunc fn first cap).run Try.prog w = .ok (.func fn first cap) w := fun _ _ _ _ => rfl
  have hd : decide ((256 : Int) < (n : Int)) = false := decide_eq_false (by omega)
  have EQ : Hid (smpL rs = (List.range n).map (smp (ith rs))) := by rw [hn]; rfl
  have CQ : Hid (∀ wx, Bel w wx → Calls Try.prog 23 #[.slice ao n cap, .func (.func 24) #[.int .i64 16777216] #[]] wx fun e w' => e = .returned (.bool false) ∧ w' = wx) := fun wx b => by
    have := contains_slc 16777216 (by decide) (by decide) ao rs n cap hn hx wx (hA.bel b)
    rw [show anyOf (passed 16777216) (fun j => rs.getD j 0) n = false from hp] at this
    exact this
  obtain ⟨W, hW⟩ : ∃ W, W = ((w.alloc (.cells #[.slice ao n cap] 22)).alloc (.cells (vals (List.replicate n 0)).toArray 3)).alloc (.cells #[.slice (some ⟨w.heap.size + 1, 0, none⟩) n n] 22) := ⟨_, rfl⟩
  obtain ⟨q1, q2, q3, q4, q5⟩ := cells3 w _ _ _ _ _ _ W hW
  have FQ : Hid (Calls Try.prog 19 #[.int .i64 (n : Int), .func (.func 25) #[] #[.pointer (some ⟨w.heap.size, 0, none⟩), .pointer (some ⟨w.heap.size + 2, 0, none⟩)]] W fun e w' =>
      (anyOf (passed 131072) (smp (ith rs)) n = true → e = .returned (.bool false)) ∧ (anyOf (passed 131072) (smp (ith rs)) n = false → e = .returned (.bool true) ∧ Holds w' (w.heap.size + 1) ((List.range n).map (smp (ith rs)))) ∧ Exc (fun k => k = w.heap.size + 1) W w') :=
    follow_get w.heap.size (w.heap.size + 2) (w.heap.size + 1) n cap ao (smp (ith rs)) rs (List.replicate n 0) hn (fun i _ => (res_smp (ith rs) i).symm) hx (fun i hi => by rw [res_smp]; exact anyOf_false hp i hi) W q1 q2 (hA.bel q4)
      (fun x hx2 h0 => by
        obtain ⟨y, hy, hc⟩ := hA 0 (by omega)
        rw [hx2] at hy
        cases hy
        have := block_lt_of_cell hc
        rw [add_block] at this
        omega) (by omega) (by omega) q3 (by simp) (by omega)
  have CR : Hid (W.cell? ⟨w.heap.size + 2, 0, none⟩ = some (.slice (some ⟨w.heap.size + 1, 0, none⟩) n n)) := q2
  have BW : Hid (Bel w W) := q4
  have SW : Hid (W.heap.size = w.heap.size + 3) := q5
  rw [hW] at FQ
  have HW : Hid (W = ((w.alloc (.cells #[.slice ao n cap] 22)).alloc (.cells (vals (List.replicate n 0)).toArray 3)).alloc (.cells #[.slice (some ⟨w.heap.size + 1, 0, none⟩) n n] 22)) := hW
  clear q1 q2 q3 q4 q5 hA hn hW hp
  go_enter Try.func11, Try.ntmps11
  go_wp2_with fail
  refine (CQ.out _ ((Bel.refl w).alloc _)).mono ?_
  rintro e w1 ⟨rfl, rfl⟩
  go_wp2_with fail
  refine FQ.out.mono ?_
  rintro e w1 ⟨h1, h2, hE⟩
  rw [← HW.out] at hE
  have d := hE.keep CR.out (show ¬ w.heap.size + 2 = w.heap.size + 1 by omega)
  have B1 : Hid (Bel w w1) := hE.from BW.out (fun i hi => by omega)
  have S1 : Hid (w.heap.size + 1 < w1.heap.size) := (by have := hE.size; have := SW.out; omega : w.heap.size + 1 < w1.heap.size)
  clear hE FQ
  cases ha : anyOf (passed 131072) (smp (ith rs)) n
  · obtain ⟨rfl, hG⟩ := h2 ha
    have HG : Hid (Holds w1 (w.heap.size + 1) (smpL rs)) := EQ.out ▸ hG
    have NA : Hid (anyOf (passed 131072) (smp (ith rs)) n = false) := ha
    clear h1 h2 ha hG
    go_wp2
    go_ret2
    exact ⟨fun h => absurd (NA.out.symm.trans h) (by decide), fun _ => ⟨_, rfl, Nat.le_succ _, S1.out, HG.out⟩, B1.out⟩
  · obtain rfl := h1 ha
    have NA : Hid (anyOf (passed 131072) (smp (ith rs)) n = true) := ha
    clear h1 h2 ha
    go_wp2
    go_ret2
    exact ⟨fun _ => rfl, fun h => absurd (NA.out.symm.trans h) (by decide), B1.out⟩

set_option maxHeartbeats 400000 in
theorem get_long (ao : Option Addr) (n cap : Nat) (hx : 256 < n) (hm : n ≤ maxLen) (w : World) :
    Calls Try.prog 11 #[.slice ao n cap] w fun e w' => e = .returned (.tuple #[.slice none 0 0, .int .i64 1600]) ∧ Bel w w' := by
  unfold maxLen at hm
  have hd : decide ((256 : Int) < (n : Int)) = true := decide_eq_true (by omega)
  go_enter Try.func11, Try.ntmps11
  go_wp2
  go_ret2
  exact ⟨rfl, (Bel.refl _).alloc _⟩

set_option maxHeartbeats 400000 in
theorem get_far (ao : Option Addr) (rs : List Int) (n cap : Nat) (hn : n = rs.length) (hx : n ≤ 256) (hp : anyOf (passed 16777216) (ith rs) n = true) (w : World) (hA : Slc w ao rs) :
    Calls Try.prog 11 #[.slice ao n cap] w fun e w' => e = .returned (.tuple #[.slice none 0 0, .int .i64 1600]) ∧ Bel w w' := by
  have hmf : ∀ (fn : Fn) (first cap : Array Value) (w : World), (Instr.makeFunc fn first cap).run Try.prog w = .ok (.func fn first cap) w := fun _ _ _ _ => rfl
  have hd : decide ((256 : Int) < (n : Int)) = false := decide_eq_false (by omega)
  have CQ : Hid (∀ wx, Bel w wx → Calls Try.prog 23 #[.slice ao n cap, .func (.func 24) #[.int .i64 16777216] #[]] wx fun e w' => e = .returned (.bool true) ∧ w' = wx) := fun wx b => by
    have := contains_slc 16777216 (by decide) (by decide) ao rs n cap hn hx wx (hA.bel b)
    rw [show anyOf (passed 16777216) (fun j => rs.getD j 0) n = true from hp] at this
    exact this
  clear hA hn hp
  go_enter Try.func11, Try.ntmps11
  go_wp2_with fail
  refine (CQ.out _ ((Bel.refl w).alloc _)).mono ?_
  rintro e w1 ⟨rfl, rfl⟩
  go_wp2
  go_ret2
  exact ⟨rfl, (Bel.refl _).alloc _⟩

theorem get_yes (ao : Option Addr) (rs : List Int) (n cap : Nat) (hn : n = rs.length) (hp : okG rs = true) (w : World) (hA : Slc w ao rs) :
    Calls Try.prog 11 #[.slice ao n cap] w fun e w' => ∃ g, e = .returned (.tuple #[.slice (some ⟨g, 0, none⟩) n n, .int .i64 0]) ∧ w.heap.size ≤ g ∧ g < w'.heap.size ∧ Holds w' g (smpL rs) ∧ Bel w w' := by
  unfold okG at hp
  rw [Bool.and_eq_true, decide_eq_true_eq, Bool.and_eq_true, Bool.not_eq_true', Bool.not_eq_true'] at hp
  refine (get_walk ao rs n cap hn (by omega) (hn ▸ hp.2.1) w hA).mono ?_
  rintro e w' ⟨_, h, b⟩
  obtain ⟨g, h1, h2, h3, h4⟩ := h (hn ▸ hp.2.2)
  exact ⟨g, h1, h2, h3, h4, b⟩

theorem get_no (ao : Option Addr) (rs : List Int) (n cap : Nat) (hn : n = rs.length) (hm : n ≤ maxLen) (hp : okG rs = false) (w : World) (hA : Slc w ao rs) :
    Calls Try.prog 11 #[.slice ao n cap] w fun e w' => e = .returned (.tuple #[.slice none 0 0, .int .i64 1600]) ∧ Bel w w' := by
  by_cases h : n ≤ 256
  · cases h2 : anyOf (passed 16777216) (ith rs) n
    · unfold okG at hp
      rw [decide_eq_true (by omega), Bool.true_and, ← hn, h2, Bool.not_false, Bool.true_and, Bool.not_eq_false'] at hp
      exact (get_walk ao rs n cap hn h h2 w hA).mono fun e w' k => ⟨k.1 hp, k.2.2⟩
    · exact get_far ao rs n cap hn h h2 w hA
  · exact get_long ao n cap (by omega) hm w

end Go.Proofs.Ytamefddgpdhccaa.Ser
