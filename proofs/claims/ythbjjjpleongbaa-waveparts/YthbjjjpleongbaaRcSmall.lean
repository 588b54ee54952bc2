/-
  The contracts of riff's small functions: end, headAt, isFile; of strings.HasPrefix. Conditions: lengths are ints.
-/
import Derived.Test.YthbjjjpleongbaaRcClone
import Derived.Test.YthbjjjpleongbaaGField
import Derived.BigQuiet
namespace Go.Proofs.Ythbjjjpleongbaa.Chk
open Go.RowKit Go.Proofs.Ythbjjjpleongbaa.Mod Go.Proofs.Ythbjjjpleongbaa.Num
set_option linter.unusedVariables false
set_option linter.unusedSimpArgs false

/-- Where the next chunk begins. -/
def fin (c : Ch) : Nat := c.2.1 + c.2.2 + c.2.2 % 2
set_option maxHeartbeats 400000 in
theorem end_at (l : List UInt8) (p k : Nat) (h1 : p ≤ 140737488355328) (h2 : k ≤ 140737488355328) (w : World) :
    Calls Try.prog 28 #[.agg #[.string (tx l), .int .i64 (p : Int), .int .i64 (k : Int)]] w fun e w' => e = .returned (.int .i64 ((p + k + k % 2 : Nat) : Int)) ∧ Bel w w' := by
  go_enter Try.func28, Try.ntmps28
  go_wp2
  go_ret
  exact ⟨rfl, (Bel.refl _).alloc _⟩

theorem end_ok (c : Ch) (h1 : c.2.1 ≤ 140737488355328) (h2 : c.2.2 ≤ 140737488355328) (w : World) :
    Calls Try.prog 28 #[cval c] w fun e w' => e = .returned (.int .i64 ((fin c : Nat) : Int)) ∧ Bel w w' := end_at c.1 c.2.1 c.2.2 h1 h2 w

theorem ext_mid (s : ByteArray) (p q : Nat) : (s.extract p q).data.toList = (s.data.toList.drop p).take (q - p) := by
  simp [ByteArray.extract, ByteArray.copySlice]
  try rw [List.take_drop]
theorem ba_eq {s t : ByteArray} (h : s.data.toList = t.data.toList) : s = t := by
  cases s; cases t
  congr 1
  exact Array.toList_inj.1 h
theorem size_len (s : ByteArray) (L : List UInt8) (h : s.data.toList = L) : s.size = L.length := by rw [← h, Array.length_toList]; rfl

theorem results_ch {fn : Func} {t u : Tmp} (hf : fn.results = #[.cell t 52, .tmp u]) {tmps : Array Value} {b : Nat} {w : World} {x y z v : Value} (ht : tmps[t]?.getD undef = .pointer (some ⟨b, 0, none⟩)) (hv : tmps[u]?.getD undef = v)
    (c0 : w.cell? ⟨b, 0, none⟩ = some x) (c1 : w.cell? ⟨b, 1, none⟩ = some y) (c2 : w.cell? ⟨b, 2, none⟩ = some z) : (results fn tmps).run Try.prog w = .ok (.tuple #[.agg #[x, y, z], v]) w := by
  simp [results, hf, ht, hv, go_sem, c0, c1, c2]

/-- A chunk in a variable, that may be written. -/
def BoxC (w : World) (g : Nat) (s : ByteArray) (p k : Int) : Prop :=
  (w.cell? ⟨g, 0, none⟩ = some (.string s) ∧ w.cell? ⟨g, 1, none⟩ = some (.int .i64 p) ∧ w.cell? ⟨g, 2, none⟩ = some (.int .i64 k)) ∧ w.frozen? ⟨g, 0, none⟩ = false ∧ w.frozen? ⟨g, 1, none⟩ = false ∧ w.frozen? ⟨g, 2, none⟩ = false
theorem BoxC.bel {w w' : World} {g : Nat} {s : ByteArray} {p k : Int} (h : BoxC w g s p k) (b : Bel w w') : BoxC w' g s p k :=
  ⟨⟨b.keep h.1.1, b.keep h.1.2.1, b.keep h.1.2.2⟩, b.free h.1.1 h.2.1, b.free h.1.2.1 h.2.2.1, b.free h.1.2.2 h.2.2.2⟩
theorem BoxC.exc {S : Nat → Prop} {w w' : World} {g : Nat} {s : ByteArray} {p k : Int} (h : BoxC w g s p k) (b : Exc S w w') (hS : ¬ S g) : BoxC w' g s p k :=
  ⟨⟨b.keep h.1.1 hS, b.keep h.1.2.1 hS, b.keep h.1.2.2 hS⟩, b.free h.1.1 hS h.2.1, b.free h.1.2.1 hS h.2.2.1, b.free h.1.2.2 hS h.2.2.2⟩
theorem boxC_new (w : World) (s : ByteArray) (p k : Int) : BoxC (w.alloc (.cells #[.string s, .int .i64 p, .int .i64 k] 52)) w.heap.size s p k := by
  have h : ∀ j, (w.alloc (.cells #[.string s, .int .i64 p, .int .i64 k] 52)).cell? ⟨w.heap.size, j, none⟩ = (#[Value.string s, .int .i64 p, .int .i64 k])[j]? := fun j => cell_of_row _ w.heap.size j _ 52 (0, 0) (heap_alloc_new w _)
  exact ⟨⟨h 0, h 1, h 2⟩, by simp, by simp, by simp⟩

theorem BoxC.set {w : World} {g : Nat} {s : ByteArray} {p k : Int} (h : BoxC w g s p k) (t : ByteArray) (q m : Int) :
    BoxC (((w.setCell ⟨g, 0, none⟩ (.string t)).setCell ⟨g, 1, none⟩ (.int .i64 q)).setCell ⟨g, 2, none⟩ (.int .i64 m)) g t q m := by
  have n01 : (⟨g, 0, none⟩ : Addr) ≠ ⟨g, 1, none⟩ := by simp
  have n02 : (⟨g, 0, none⟩ : Addr) ≠ ⟨g, 2, none⟩ := by simp
  have n12 : (⟨g, 1, none⟩ : Addr) ≠ ⟨g, 2, none⟩ := by simp
  have a1 : (w.setCell ⟨g, 0, none⟩ (.string t)).cell? ⟨g, 1, none⟩ = some (.int .i64 p) := by rw [World.cell?_setCell_other (h := n01)]; exact h.1.2.1
  have a2 : ((w.setCell ⟨g, 0, none⟩ (.string t)).setCell ⟨g, 1, none⟩ (.int .i64 q)).cell? ⟨g, 2, none⟩ = some (.int .i64 k) := by rw [World.cell?_setCell_other (h := n12), World.cell?_setCell_other (h := n02)]; exact h.1.2.2
  refine ⟨⟨?_, ?_, ?_⟩, ?_, ?_, ?_⟩
  · rw [World.cell?_setCell_other (h := n02.symm), World.cell?_setCell_other (h := n01.symm), World.cell?_setCell_same (h := h.1.1)]
  · rw [World.cell?_setCell_other (h := n12.symm), World.cell?_setCell_same (h := a1)]
  · rw [World.cell?_setCell_same (h := a2)]
  · rw [World.frozen?_setCell, World.frozen?_setCell, World.frozen?_setCell]; exact h.2.1
  · rw [World.frozen?_setCell, World.frozen?_setCell, World.frozen?_setCell]; exact h.2.2.1
  · rw [World.frozen?_setCell, World.frozen?_setCell, World.frozen?_setCell]; exact h.2.2.2
theorem csz_le (L : List UInt8) (p : Nat) : csz L p ≤ 4294967295 := by
  unfold csz
  have h := num_lt ((L.drop (p + 4)).take 4)
  have hl : ((L.drop (p + 4)).take 4).length ≤ 4 := by rw [List.length_take]; omega
  generalize ((L.drop (p + 4)).take 4).length = n at h hl
  have : n = 0 ∨ n = 1 ∨ n = 2 ∨ n = 3 ∨ n = 4 := by omega
  rcases this with rfl | rfl | rfl | rfl | rfl <;> omega

set_option maxHeartbeats 400000 in
theorem head_no (s : ByteArray) (L : List UInt8) (hs : s.data.toList = L) (hx : s.size ≤ maxLen) (p : Nat) (hp : p ≤ 140737488355328) (h : L.length < p + 8) (w : World) :
    Calls Try.prog 27 #[.string s, .int .i64 (p : Int)] w fun e w' => e = .returned (.tuple #[cval ch0, .bool false]) ∧ Bel w w' := by
  have hn := size_len s L hs
  unfold maxLen at hx
  rw [← hn] at h
  clear hs hn
  have hd : decide ((s.size : Int) - (p : Int) < 8) = true := decide_eq_true (by omega)
  obtain ⟨⟨x0, x1, x2⟩, _⟩ := boxC_new w ⟨#[]⟩ 0 0
  have X0 : Hid _ := x0
  have X1 : Hid _ := x1
  have X2 : Hid _ := x2
  clear x0 x1 x2
  go_enter Try.func27, Try.ntmps27
  go_wp2
  refine bodyPost_ret (v := .tuple #[cval ch0, .bool false]) (results_ch Try.results27 rfl rfl X0.out X1.out X2.out) rfl ⟨rfl, ?_⟩
  exact (Bel.refl _).alloc _

set_option maxHeartbeats 400000 in
theorem head_yes (s : ByteArray) (L : List UInt8) (hs : s.data.toList = L) (hx : s.size ≤ maxLen) (p : Nat) (hp : p ≤ 140737488355328) (h : p + 8 ≤ L.length) (w : World) :
    Calls Try.prog 27 #[.string s, .int .i64 (p : Int)] w fun e w' => e = .returned (.tuple #[cval (at8 L p), .bool true]) ∧ Bel w w' := by
  have hn := size_len s L hs
  unfold maxLen at hx
  have h' := h
  rw [← hn] at h
  have hd : decide ((s.size : Int) - (p : Int) < 8) = false := decide_eq_false (by omega)
  have hd2 : decide ((s.size : Int) < (p : Int) + 8) = false := decide_eq_false (by omega)
  have hd3 : decide (s.size < p + 8) = false := decide_eq_false (by omega)
  have e1 : (s.extract (p + 4) (p + 8)).data.toList = (L.drop (p + 4)).take 4 := by rw [ext_mid, hs, show p + 8 - (p + 4) = 4 by omega]
  have z1 := size_len _ _ e1
  have e0 : s.extract p (p + 4) = tx (cid L p) := ba_eq (by rw [ext_mid, hs, show p + 4 - p = 4 by omega]; rfl)
  have hnum : num (s.extract (p + 4) (p + 8)).data.toList = ((csz L p : Nat) : Int) := by
    rw [e1]
    unfold csz
    have := num_nonneg ((L.drop (p + 4)).take 4)
    omega
  have G : Hid (∀ w, Calls Try.prog 41 #[.string (s.extract (p + 4) (p + 8))] w fun e w' => e = .returned (.tuple #[.int .i64 ((csz L p : Nat) : Int), .int .i64 0]) ∧ w' = w) := fun w => by
    rw [← hnum]
    have hl : (List.take 4 (List.drop (p + 4) L)).length = 4 := by rw [List.length_take, List.length_drop]; omega
    exact Field.get_ok _ (by omega) (by omega) w
  have C : Hid (∀ w, Calls Try.prog 21 #[.string (tx (cid L p))] w fun e w' => e = .returned (.string (tx (cid L p))) ∧ Bel w w') := fun w => clone_ok _ (by
    have e : (tx (cid L p)).size = (cid L p).length := rfl
    have : (cid L p).length ≤ 4 := by unfold cid; rw [List.length_take]; omega
    omega) w
  have BX : Hid (∀ w1, Bel (w.alloc (.cells #[.string ⟨#[]⟩, .int .i64 0, .int .i64 0] 52)) w1 → BoxC w1 w.heap.size ⟨#[]⟩ 0 0) := fun w1 k => (boxC_new w ⟨#[]⟩ 0 0).bel k
  have A : Hid (at8 L p = (cid L p, p + 8, csz L p)) := rfl
  have hk : csz L p ≤ 4294967295 := csz_le L p
  clear e1 z1 hnum hs hn h'
  generalize csz L p = k at *
  generalize cid L p = l at *
  go_enter Try.func27, Try.ntmps27
  go_wp2
  go_quiet (fail)
  rw [e0]
  go_wp2_with fail
  refine (G.out _).mono ?_
  rintro e w1 ⟨rfl, rfl⟩
  go_wp2_with fail
  refine (C.out _).mono ?_
  rintro e w2 ⟨rfl, b2⟩
  have B2 : Hid (Bel w w2) := Bel.trans ((Bel.refl _).alloc _) (Bel.trans ((Bel.refl _).drewN _) b2)
  obtain ⟨⟨x0, x1, x2⟩, y0, y1, y2⟩ := BX.out w2 (Bel.trans ((Bel.refl _).drewN _) b2)
  clear b2 BX G C
  have BB : Hid (BoxC w2 w.heap.size ⟨#[]⟩ 0 0) := ⟨⟨x0, x1, x2⟩, y0, y1, y2⟩
  go_wp2
  obtain ⟨⟨c0, c1, c2⟩, _⟩ := BB.out.set (tx l) ((p : Int) + 8) (k : Int)
  refine bodyPost_ret (v := .tuple #[.agg #[.string (tx l), .int .i64 ((p : Int) + 8), .int .i64 (k : Int)], .bool true]) (results_ch Try.results27 rfl rfl c0 c1 c2) rfl ⟨?_, ?_⟩
  · rw [A.out]; rfl
  · exact ((B2.out.setCell (Nat.le_refl _) _).setCell (Nat.le_refl _) _).setCell (Nat.le_refl _) _

theorem head_ok (s : ByteArray) (L : List UInt8) (hs : s.data.toList = L) (hx : s.size ≤ maxLen) (p : Nat) (hp : p ≤ 140737488355328) (w : World) :
    Calls Try.prog 27 #[.string s, .int .i64 (p : Int)] w fun e w' => e = .returned (.tuple #[cval (if p + 8 ≤ L.length then at8 L p else ch0), .bool (decide (p + 8 ≤ L.length))]) ∧ Bel w w' := by
  by_cases h : p + 8 ≤ L.length
  · rw [if_pos h, decide_eq_true h]; exact head_yes s L hs hx p hp h w
  · rw [if_neg h, decide_eq_false h]; exact head_no s L hs hx p hp (by omega) w

set_option maxHeartbeats 400000 in
theorem lite_prefix (s : ByteArray) (L : List UInt8) (hs : s.data.toList = L) (hx : s.size ≤ maxLen) (w : World) :
    Calls Try.prog 44 #[.string s, .string ⟨#[87, 65, 86, 69]⟩] w fun e w' => e = .returned (.bool (decide (L.take 4 = [87, 65, 86, 69]))) ∧ w' = w := by
  have hn := size_len s L hs
  unfold maxLen at hx
  have z4 : (⟨#[87, 65, 86, 69]⟩ : ByteArray).size = 4 := rfl
  by_cases h : 4 ≤ s.size
  · have hd : decide (4 ≤ (s.size : Int)) = true := decide_eq_true (by omega)
    have hd2 : decide (4 ≤ s.size) = true := decide_eq_true (by omega)
    have hd3 : decide (s.size < 4) = false := decide_eq_false (by omega)
    have e0 : s.extract 0 4 = tx (L.take 4) := ba_eq (by rw [ext_mid, hs]; rfl)
    have hb : (L.take 4 == [87, 65, 86, 69]) = decide (L.take 4 = [87, 65, 86, 69]) := by rw [Bool.eq_iff_iff, beq_iff_eq, decide_eq_true_eq]
    generalize decide (L.take 4 = [87, 65, 86, 69]) = b at *
    generalize L.take 4 = l at *
    clear hs hn
    go_enter Try.func44, Try.ntmps44
    go_wp2
    go_ret
    exact ⟨rfl, rfl⟩
  · have hb : decide (L.take 4 = [87, 65, 86, 69]) = false := decide_eq_false (fun e => by
      have := congrArg List.length e
      rw [List.length_take] at this
      simp at this
      omega)
    have hd : decide (4 ≤ (s.size : Int)) = false := decide_eq_false (by omega)
    have hd2 : decide (4 ≤ s.size) = false := decide_eq_false (by omega)
    rw [hb]
    clear hs hn hb
    go_enter Try.func44, Try.ntmps44
    go_wp2
    go_ret
    exact ⟨rfl, rfl⟩

theorem prefix_ok (s : ByteArray) (L : List UInt8) (hs : s.data.toList = L) (hx : s.size ≤ maxLen) (w : World) :
    Calls Try.prog 40 #[.string s, .string ⟨#[87, 65, 86, 69]⟩] w fun e w' => e = .returned (.bool (decide (L.take 4 = [87, 65, 86, 69]))) ∧ w' = w := by
  have C : Hid (∀ w, Calls Try.prog 44 #[.string s, .string ⟨#[87, 65, 86, 69]⟩] w fun e w' => e = .returned (.bool (decide (L.take 4 = [87, 65, 86, 69]))) ∧ w' = w) := fun w => lite_prefix s L hs hx w
  clear hs
  generalize decide (L.take 4 = [87, 65, 86, 69]) = b at *
  go_enter Try.func40, Try.ntmps40
  go_wp2_with fail
  refine (C.out _).mono ?_
  rintro e w1 ⟨rfl, rfl⟩
  go_wp2
  go_ret
  exact ⟨rfl, rfl⟩

end Go.Proofs.Ythbjjjpleongbaa.Chk
