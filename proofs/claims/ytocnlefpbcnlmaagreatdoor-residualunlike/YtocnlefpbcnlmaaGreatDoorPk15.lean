/-
  Put, of whatever row; a row that is copied by append. Condition: the package's table is laid as its text lays it.
  The reference's NewModel. No condition.
  The contract of the check that every statement of layer 9 begins with: it answers true. Condition: the package's table is laid as its text lays it.
  The contracts of the reference's Squash and Stretch: they answer as the program's do. No condition but that the numbers are ints.
  The reference's Squash under a letter. No condition.
  The contracts of the reference's Dot and of its small functions: they answer as the program's do. No condition but that the numbers are ints.
-/
import Derived.Test.YtocnlefpbcnlmaaGreatDoorPk14
import Derived.Test.YtocnlefpbcnlmaaGreatDoorPk5
import Derived.Test.YtocnlefpbcnlmaaGreatDoorPk8
import Derived.Test.YtocnlefpbcnlmaaGreatDoorPk6
import Derived.Test.YtocnlefpbcnlmaaGreatDoorPk1
import Derived.Test.YtocnlefpbcnlmaaGreatDoorPk4

namespace Go.Proofs.YtocnlefpbcnlmaaGreatDoor.Res
open Go.RowKit Go.Sort Go.Proofs.YtocnlefpbcnlmaaGreatDoor.Mod Go.Proofs.YtocnlefpbcnlmaaGreatDoor.Ints
set_option linter.unusedVariables false
set_option linter.unusedSimpArgs false

/-- May these be told? -/
def okB (rs : List Int) : Bool := decide (rs.length ≤ 256) && rs.all fun x => decide (-16777216 ≤ x ∧ x ≤ 16777216)
theorem okB_iff (rs : List Int) : okB rs = true ↔ rs.length ≤ 256 ∧ AllFit rs := by
  unfold okB
  rw [Bool.and_eq_true, decide_eq_true_eq, List.all_eq_true]
  exact ⟨fun h => ⟨h.1, all_of fun x hx => of_decide_eq_true (p := -16777216 ≤ x ∧ x ≤ 16777216) (h.2 x hx)⟩, fun h => ⟨h.1, fun x hx => decide_eq_true (p := -16777216 ≤ x ∧ x ≤ 16777216) (fits_of h.2 x hx)⟩⟩
def putS (rs : List Int) : ByteArray := if okB rs then told rs else ⟨#[]⟩
def putE (rs : List Int) : Int := if okB rs then 0 else 1300

theorem put_is (ao : Option Addr) (rs : List Int) (n cap : Nat) (hn : n = rs.length) (hx : n ≤ maxLen) (w : World) (T : Str.Tab w) (hA : Slc w ao rs) :
    Calls Tryz.prog 6 #[.slice ao n cap] w fun e w' => e = .returned (.tuple #[.string (putS rs), .int .i64 (putE rs)]) ∧ Bel w w' := by
  unfold putS putE
  cases h : okB rs
  · exact (put_no ao rs n cap hn hx (fun q => by rw [(okB_iff rs).2 (hn ▸ q)] at h; cases h) w hA).mono fun _ _ k => ⟨k.1, k.2 ▸ Bel.refl _⟩
  · obtain ⟨h1, h2⟩ := (okB_iff rs).1 h
    exact put_yes ao rs n cap hn (hn ▸ h1) h2 w T hA

theorem okB_snoc (rs : List Int) (x : Int) : okB (rs ++ [x]) = (decide (rs.length < 256) && (okB rs && decide (-16777216 ≤ x ∧ x ≤ 16777216))) := by
  unfold okB
  rw [List.length_append, List.all_append]
  simp only [List.length_cons, List.length_nil, List.all_cons, List.all_nil, Bool.and_true]
  by_cases h : rs.length < 256
  · rw [decide_eq_true h, decide_eq_true (by omega : rs.length ≤ 256), decide_eq_true (by omega : rs.length + (0 + 1) ≤ 256)]
    simp
  · rw [decide_eq_false h, decide_eq_false (by omega : ¬ rs.length + (0 + 1) ≤ 256)]
    simp

/-- What a call owns is new to what was there ahead of it. -/
theorem bel_then {a b c : World} (h : Bel a b) (k : Below a.heap.size b c) : Bel a c := Below.trans h k

/-- A row is copied. -/
theorem wpl_copy {ops : Array Oper} {rest : List Oper} {o : Oper} {a : Act} {Q : Exit → Act → World → Prop} (w : World) (hgd : o.guard = none) (s x : Operand)
    (ho : o.op = .call { callee := .builtin .append, args := #[s, x], argTypes := #[22, 22] }) (ao : Option Addr) (L : List Int) (n cap : Nat)
    (hs : a.eval s = .slice (some ⟨w.heap.size, 0, none⟩) 0 0) (hx : a.eval x = .slice ao n cap) (hn : n = L.length) (h8 : n * 8 ≤ 140737488351232) (hnil : ao = none → cap = 0) (hA : Slc w ao L)
    (k : ∀ v w1, w1.ownsRow w.heap.size 3 1 v n (vals L) → Bel w w1 → wpList Tryz.prog ops Q rest (a.put o.dst v) w1) :
    wpList Tryz.prog ops Q (o :: rest) a (w.alloc (.cells #[] 3)) := by
  obtain ⟨i0, hi, hz0, hz1, hz2⟩ := info_parts Ints.info_int
  have hown : (w.alloc (.cells #[] 3)).ownsRow w.heap.size 3 1 (.slice (some ⟨w.heap.size, 0, none⟩) 0 0) 0 (vals []) := World.ownsRow_made w #[] 0 (Nat.le_refl _) (by unfold maxLen; omega) (by simp)
  cases ao with
  | none =>
    obtain rfl := hnil rfl
    have h0 : n = 0 := by
      rcases Nat.eq_zero_or_pos n with h | h
      · exact h
      · obtain ⟨x, hx, _⟩ := hA 0 (by omega)
        cases hx
    subst h0
    obtain rfl : L = [] := List.eq_nil_of_length_eq_zero hn.symm
    exact wpList_append_own_none hgd s x 22 ho w.heap.size 3 i0 1 Tryz.underlying22 hi _ 0 _ hs hown hx (k _ _ hown ((Bel.refl _).alloc _))
  | some y =>
    refine wpList_append_own _ hgd s x 22 ho w.heap.size 3 i0 (.int .i64 0) 1 8 Tryz.underlying22 hi hz0 hz1 hz2 rfl (by decide) _ 0 _ hs hown y n cap (vals L) hx (by rw [vals_length, hn, Nat.mul_one]) ?_ (ints_oneCell _ _) (by unfold maxLen; omega) (by omega) (by simp) ?_
    · intro j u hu
      have hj : j < L.length := by have := (List.getElem?_eq_some_iff.1 hu).1; rwa [vals_length] at this
      rw [vals_get L j hj] at hu
      obtain ⟨z, hz, hc⟩ := hA j hj
      cases hz
      rw [((Bel.refl w).alloc _).keep hc, hu]
    · intro v' w1 ho1 hg _
      exact k v' w1 (by simpa [vals] using ho1) (Below.grown ((Bel.refl w).alloc _) hg (by simp) (fun k hk => by simp [Value.ownBlock] at hk; omega))

/-- One more is appended. -/
theorem wpl_more {ops : Array Oper} {rest : List Oper} {o : Oper} {a : Act} {Q : Exit → Act → World → Prop} (w : World) (hgd : o.guard = none) (s x : Operand)
    (ho : o.op = .call { callee := .builtin .append, args := #[s, x], argTypes := #[22, 22] }) (B n : Nat) (hB : B ≤ w.heap.size) (v : Value) (L : List Int) (y : Int) (hs : a.eval s = v) (hx : a.eval x = .slice (some ⟨w.heap.size, 0, none⟩) 1 1)
    (hown : w.ownsRow B 3 1 v n (vals L)) (h8 : n * 8 ≤ 140737488351232)
    (k : ∀ v' w1, w1.ownsRow B 3 1 v' (n + 1) (vals (L ++ [y])) → Below B w w1 → wpList Tryz.prog ops Q rest (a.put o.dst v') w1) :
    wpList Tryz.prog ops Q (o :: rest) a (w.alloc (.cells #[.int .i64 y] 3)) := by
  obtain ⟨i0, hi, hz0, hz1, hz2⟩ := info_parts Ints.info_int
  refine wpList_append_own _ hgd s x 22 ho B 3 i0 (.int .i64 0) 1 8 Tryz.underlying22 hi hz0 hz1 hz2 rfl (by decide) _ n _ hs (hown.alloc _) ⟨w.heap.size, 0, none⟩ 1 1 (vals [y]) hx rfl (one_cell _ _) (ints_oneCell _ _) (by unfold maxLen; omega) (by omega) (by simp; omega) ?_
  intro v' w1 ho1 hg _
  exact k v' w1 (by rw [vals_append]; exact ho1) (Below.grown (Below.alloc (Below.refl _ _) hB _) hg (by simp; omega) (fun k hk => (hown.lt k hk).1))

end Go.Proofs.YtocnlefpbcnlmaaGreatDoor.Res

namespace Go.Proofs.YtocnlefpbcnlmaaGreatDoor.Mod
open Go.RowKit Go.Sort
set_option linter.unusedVariables false
set_option linter.unusedSimpArgs false

set_option maxHeartbeats 1000000 in
theorem ref_new_ok (w : World) :
    Calls Tryz.prog 25 #[] w fun e w' => e = .returned (mdl newM) ∧ Bel w w' := by
  have z := zero26
  have zl := zeros_len
  have ZZ : Hid (zeros = newL 0 0) := newL_0.symm
  generalize zeros = Z at *
  have NA : Hid (newL 192 3 = newM) := newL_all
  have NL : Hid (newM.length = 195) := newM_len
  generalize newM = M at *
  go_enter Tryz.func25, Tryz.ntmps25
  go_wp2_with fail
  go_loopw [2] (fun i wr => ∃ k : Nat, k ≤ 3 ∧ i = .int .i64 (k : Int) ∧ Holds wr (w.heap.size + 1) (newL (k * 64) k) ∧ Holds wr w.heap.size Z ∧ Bel w wr) (fun i _ => 3 - (intOf i).toNat)
  case atStart =>
    refine ⟨0, by omega, rfl, ?_, (holds_new w Z 46).bel ((Bel.refl _).alloc _), ((Bel.refl _).alloc _).alloc _⟩
    have h := holds_new (w.alloc (.cells (vals Z).toArray 46)) Z 46
    rw [World.size_alloc] at h
    have e := ZZ.out
    rwa [← e]
  case round =>
    obtain ⟨k, hk, rfl, h1, h0, hb⟩ := hrel
    have H1 : Hid (Holds wr (w.heap.size + 1) (newL (k * 64) k)) := h1
    have H0 : Hid (Holds wr w.heap.size Z) := h0
    have HB : Hid (Bel w wr) := hb
    clear h1 h0 hb
    by_cases hlt : k < 3
    · have hd : decide ((k : Int) < 3) = true := decide_eq_true (by omega)
      have c1 := H1.out.cell (192 + k) (by rw [newL_len]; omega)
      have f1 := H1.out.free (192 + k) (by rw [newL_len]; omega)
      generalize (newL (k * 64) k).getD (192 + k) 0 = old at *
      go_wp2_with fail
      go_loopw [3] (fun i wx => ∃ j : Nat, j ≤ 64 ∧ i = .int .i64 (j : Int) ∧ Holds wx (w.heap.size + 1) (newL (k * 64 + j) (k + 1)) ∧ Holds wx w.heap.size Z ∧ Bel w wx) (fun i _ => 64 - (intOf i).toNat)
      case atStart =>
        refine ⟨0, by omega, rfl, ?_, H0.out.other _ _ (by omega) _, HB.out.setCell (by simp) _⟩
        have h := H1.out.set (192 + k) (by rw [newL_len]; omega) 22000
        rwa [newL_weight (k * 64) k (by omega) hlt] at h
      case round =>
        clear c1 f1 H1 H0 HB
        obtain ⟨j, hj, rfl, h1, h0, hb⟩ := hrel
        have H1 : Hid (Holds wr (w.heap.size + 1) (newL (k * 64 + j) (k + 1))) := h1
        have H0 : Hid (Holds wr w.heap.size Z) := h0
        have HB : Hid (Bel w wr) := hb
        clear h1 h0 hb
        by_cases hjt : j < 64
        · have hd2 : decide ((j : Int) < 64) = true := decide_eq_true (by omega)
          have c1 := H1.out.cell (k * 64 + j) (by rw [newL_len]; omega)
          have f1 := H1.out.free (k * 64 + j) (by rw [newL_len]; omega)
          generalize (newL (k * 64 + j) (k + 1)).getD (k * 64 + j) 0 = old at *
          go_wp2
          go_roundw
          case rel =>
            have h := H1.out.set (k * 64 + j) (by rw [newL_len]; omega) 32768
            rw [newL_count _ _ (by omega)] at h
            exact ⟨j + 1, by omega, by go_num, h, (H0.out.other _ _ (by omega) _), (HB.out.setCell (by simp) _)⟩
          case measure => simp [intOf]; omega
        · obtain rfl : j = 64 := by omega
          go_wp2
          go_roundw
          case rel => exact ⟨k + 1, by omega, by go_num, by rw [show (k + 1) * 64 = k * 64 + 64 by omega]; exact H1.out, H0.out, HB.out⟩
          case measure => simp [intOf]; omega
    · obtain rfl : k = 3 := by omega
      have h1 : Holds wr (w.heap.size + 1) (newL 192 3) := H1.out
      have na := NA.out
      rw [na] at h1
      have R0 : Hid (Holds (wr.setCells w.heap.size 0 (vals M)) w.heap.size M) := holds_all H0.out M (zl.trans NL.out.symm)
      have HB2 : Hid (Bel w (wr.setCells w.heap.size 0 (vals M))) := Bel.setCells (Nat.le_refl _) _ _ HB.out
      have H2 : Hid (Holds wr (w.heap.size + 1) M) := h1
      clear h1 na H1 HB
      go_wp2_with (first | (with_reducible refine wpl_load26' H2.out NL.out rfl ?_) | (with_reducible refine wpl_store26 H0.out zl NL.out rfl rfl ?_))
      refine bodyPost_ret (v := mdl M) (results_model Tryz.results25 rfl R0.out NL.out) rfl ⟨rfl, HB2.out⟩

end Go.Proofs.YtocnlefpbcnlmaaGreatDoor.Mod

namespace Go.Proofs.YtocnlefpbcnlmaaGreatDoor.Mod
open Go.RowKit Go.Sort
set_option linter.unusedVariables false
set_option linter.unusedSimpArgs false

theorem num_ok (n : Int) (w : World) :
    Calls Tryz.prog 10 #[.int .i64 n] w fun e w' => e = .returned (.int .i64 n) ∧ Bel w w' :=
  (Cnt.num_ok n w).mono fun _ _ k => ⟨k.1, k.2 ▸ Bel.refl _⟩

def awM : List Int := learn newM 1 2 3 1
def badM : List Int := List.replicate 192 0 ++ [-1048577, 0, 0]
theorem awM_len : awM.length = 195 := (learn_len _ _ _ _ _).trans newM_len
theorem badM_len : badM.length = 195 := by decide +kernel
theorem awM_may : mayM awM = true := may_learn newM newM_len 1 2 3 (by decide) (by decide) (by decide) 1 newM_may
theorem badM_may : mayM badM = false := by
  cases h : mayM badM
  · rfl
  · have := ((may_iff _).1 h).2 192 (by decide) (by decide)
    have e : badM.getD 192 0 = -1048577 := by decide +kernel
    rw [e] at this
    omega
theorem awM_1 : awM.getD 1 0 = 34815 := by
  rw [awM, learn_get newM newM_len 1 2 3 (by decide) (by decide) (by decide), if_pos rfl, newM_get 1 (by decide)]
  decide +kernel
theorem awM_132 : awM.getD 132 0 = 32768 := by
  rw [awM, learn_get newM newM_len 1 2 3 (by decide) (by decide) (by decide), if_neg (by decide), if_neg (by decide), if_neg (by decide), if_neg (by decide), if_neg (by decide), if_neg (by decide), newM_get 132 (by decide)]

theorem aw_p (w : World) (T : Str.Tab w) : Calls Tryz.prog 47 #[mdl newM, .agg #[.int .i64 1, .int .i64 2, .int .i64 3]] w fun e w' => e = .returned (.tuple #[.int .i64 2051, .int .i64 0]) ∧ Bel w w' := by
  have := p_yes newM newM_len 1 2 3 (by decide) (by decide) (by decide) newM_may w T
  rw [new_tell 1 2 3 (by decide) (by decide) (by decide)] at this
  exact this
theorem aw_learn (w : World) (T : Str.Tab w) : Calls Tryz.prog 48 #[mdl newM, .agg #[.int .i64 1, .int .i64 2, .int .i64 3], .int .i64 1] w fun e w' => e = .returned (.tuple #[mdl awM, .int .i64 0]) ∧ Bel w w' :=
  learn_yes newM newM_len 1 2 3 (by decide) (by decide) (by decide) 1 (by decide) newM_may w T
theorem aw_p64 (w : World) (T : Str.Tab w) : Calls Tryz.prog 47 #[mdl newM, .agg #[.int .i64 64, .int .i64 0, .int .i64 0]] w fun e w' => e = .returned (.tuple #[.int .i64 0, .int .i64 900]) ∧ Bel w w' :=
  p_no newM newM_len 64 0 0 (by rw [show ctxB 64 0 0 = false by decide]; rfl) w T
theorem aw_bit (w : World) (T : Str.Tab w) : Calls Tryz.prog 48 #[mdl newM, .agg #[.int .i64 0, .int .i64 0, .int .i64 0], .int .i64 2] w fun e w' => e = .returned (.tuple #[mdl zeros, .int .i64 900]) ∧ Bel w w' :=
  learn_bit newM newM_len 0 0 0 2 (by rw [show ctxB 0 0 0 = true by decide, newM_may]; rfl) (by decide) w T
theorem aw_may (w : World) (T : Str.Tab w) : Calls Tryz.prog 104 #[mdl awM] w fun e w' => e = .returned (.bool true) ∧ Bel w w' := awM_may ▸ may_ok awM awM_len w T
theorem aw_bad (w : World) (T : Str.Tab w) : Calls Tryz.prog 104 #[mdl badM] w fun e w' => e = .returned (.bool false) ∧ Bel w w' := badM_may ▸ may_ok badM badM_len w T

end Go.Proofs.YtocnlefpbcnlmaaGreatDoor.Mod

namespace Go.Proofs.YtocnlefpbcnlmaaGreatDoor.Str
open Go.RowKit Go.Proofs.YtocnlefpbcnlmaaGreatDoor.Num
set_option linter.unusedVariables false

set_option maxHeartbeats 400000 in
theorem ref_above (x : Int) (h : 2047 < x) (w : World) :
    Calls Tryz.prog 93 #[.int .i64 x] w fun e w' => e = .returned (.int .i64 4095) ∧ Onto w w' := by
  go_enter Tryz.func93, Tryz.ntmps93
  go_wp2
  go_ret
  exact ⟨rfl, Onto.refl _⟩

set_option maxHeartbeats 400000 in
theorem ref_below (x : Int) (h : x < -2047) (w : World) :
    Calls Tryz.prog 93 #[.int .i64 x] w fun e w' => e = .returned (.int .i64 0) ∧ Onto w w' := by
  have h2 : ¬ 2047 < x := by omega
  go_enter Tryz.func93, Tryz.ntmps93
  go_wp2
  go_ret
  exact ⟨rfl, Onto.refl _⟩

theorem row_cell (w : World) (d : Nat) (hd : d < 33) : (w.alloc (.cells #[.int .i64 1, .int .i64 2, .int .i64 3, .int .i64 6, .int .i64 10, .int .i64 16, .int .i64 27, .int .i64 45, .int .i64 73, .int .i64 120, .int .i64 194, .int .i64 310, .int .i64 488, .int .i64 747, .int .i64 1101, .int .i64 1546, .int .i64 2047, .int .i64 2549, .int .i64 2994, .int .i64 3348, .int .i64 3607, .int .i64 3785, .int .i64 3901, .int .i64 3975, .int .i64 4022, .int .i64 4050, .int .i64 4068, .int .i64 4079, .int .i64 4085, .int .i64 4089, .int .i64 4092, .int .i64 4093, .int .i64 4094] 3)).cell? ⟨w.heap.size, d, none⟩ = some (.int .i64 (places.getD d 0)) := by
  have e : (#[.int .i64 1, .int .i64 2, .int .i64 3, .int .i64 6, .int .i64 10, .int .i64 16, .int .i64 27, .int .i64 45, .int .i64 73, .int .i64 120, .int .i64 194, .int .i64 310, .int .i64 488, .int .i64 747, .int .i64 1101, .int .i64 1546, .int .i64 2047, .int .i64 2549, .int .i64 2994, .int .i64 3348, .int .i64 3607, .int .i64 3785, .int .i64 3901, .int .i64 3975, .int .i64 4022, .int .i64 4050, .int .i64 4068, .int .i64 4079, .int .i64 4085, .int .i64 4089, .int .i64 4092, .int .i64 4093, .int .i64 4094] : Array Value) = (places.map fun z => Value.int .i64 z).toArray := rfl
  have hl : d < places.length := hd
  rw [e, World.cell?_alloc_at _ _ _ _ (by simp)]
  simp [List.getD, hl]

set_option maxHeartbeats 1000000 in
theorem ref_mid (x a b : Int) (d v : Nat) (h0 : -2047 ≤ x) (h1 : x ≤ 2047) (hd : x / 128 + 16 = (d : Int)) (hv : x % 128 = (v : Int)) (hd1 : d < 32) (hv1 : v < 128)
    (ha0 : 0 ≤ a) (ha1 : a ≤ 4094) (hb0 : 0 ≤ b) (hb1 : b ≤ 4094) (w : World) (ea : places.getD d 0 = a) (eb : places.getD (d + 1) 0 = b) :
    Calls Tryz.prog 93 #[.int .i64 x] w fun e w' => e = .returned (.int .i64 ((a * (128 - (v : Int)) + b * (v : Int) + 64) / 128)) ∧ Onto w w' := by
  have h2 : ¬ 2047 < x := by omega
  have h3 : ¬ x < -2047 := by omega
  have v0 : (0 : Int) ≤ v := by omega
  have v1 : (v : Int) ≤ 127 := by omega
  have m0 : 0 ≤ a * (128 - (v : Int)) := Int.mul_nonneg ha0 (by omega)
  have m1 : a * (128 - (v : Int)) ≤ 4094 * 128 := Int.mul_le_mul ha1 (by omega) (by omega) (by omega)
  have n0 : 0 ≤ b * (v : Int) := Int.mul_nonneg hb0 v0
  have n1 : b * (v : Int) ≤ 4094 * 128 := Int.mul_le_mul hb1 (by omega) (by omega) (by omega)
  have hm : bits .and .i64 x 127 = (v : Int) := (and_mask 7 127 (by decide) (by decide) x).trans hv
  have ca := row_cell w d (by omega)
  have cb := row_cell w (d + 1) (by omega)
  rw [ea] at ca
  rw [eb] at cb
  have oo : Hid (Onto w (w.alloc (.cells #[.int .i64 1, .int .i64 2, .int .i64 3, .int .i64 6, .int .i64 10, .int .i64 16, .int .i64 27, .int .i64 45, .int .i64 73, .int .i64 120, .int .i64 194, .int .i64 310, .int .i64 488, .int .i64 747, .int .i64 1101, .int .i64 1546, .int .i64 2047, .int .i64 2549, .int .i64 2994, .int .i64 3348, .int .i64 3607, .int .i64 3785, .int .i64 3901, .int .i64 3975, .int .i64 4022, .int .i64 4050, .int .i64 4068, .int .i64 4079, .int .i64 4085, .int .i64 4089, .int .i64 4092, .int .i64 4093, .int .i64 4094] 3))) := (Onto.refl w).alloc _ _
  clear ea eb hv
  go_enter Tryz.func93, Tryz.ntmps93
  go_wp2
  generalize w.alloc (.cells #[.int .i64 1, .int .i64 2, .int .i64 3, .int .i64 6, .int .i64 10, .int .i64 16, .int .i64 27, .int .i64 45, .int .i64 73, .int .i64 120, .int .i64 194, .int .i64 310, .int .i64 488, .int .i64 747, .int .i64 1101, .int .i64 1546, .int .i64 2047, .int .i64 2549, .int .i64 2994, .int .i64 3348, .int .i64 3607, .int .i64 3785, .int .i64 3901, .int .i64 3975, .int .i64 4022, .int .i64 4050, .int .i64 4068, .int .i64 4079, .int .i64 4085, .int .i64 4089, .int .i64 4092, .int .i64 4093, .int .i64 4094] 3) = W at *
  go_quiet (fail)
  go_wp2
  go_ret
  exact ⟨rfl, oo.out.drewN _⟩

/-- The reference's Squash answers the chance of P6.1. -/
theorem ref_squash (x : Int) (w : World) :
    Calls Tryz.prog 93 #[.int .i64 x] w fun e w' => e = .returned (.int .i64 (sq x)) ∧ Onto w w' := by
  by_cases h : 2047 < x
  · rw [sq_above x h]; exact ref_above x h w
  · by_cases k : x < -2047
    · rw [sq_below x k]; exact ref_below x k w
    · have e1 : x / 128 + 16 = ((((x + 2048) / 128).toNat : Nat) : Int) := by omega
      have e2 : x % 128 = ((((x + 2048) % 128).toNat : Nat) : Int) := by omega
      have l1 := places_low ((x + 2048) / 128).toNat (by omega)
      have l2 := places_low (((x + 2048) / 128).toNat + 1) (by omega)
      have c := ref_mid x _ _ _ _ (by omega) (by omega) e1 e2 (by omega) (by omega) l1.1 l1.2 l2.1 l2.2 w rfl rfl
      rw [sq_at x (by omega) (by omega)]
      have e3 : ((((x + 2048) % 128).toNat : Nat) : Int) = (x + 2048) % 128 := by omega
      rw [e3] at c
      exact c

set_option maxHeartbeats 400000 in
theorem upTo_yes (x a b : Int) (h0 : a ≤ x) (h1 : x ≤ b) (w : World) :
    Calls Tryz.prog 51 #[.int .i64 x, .int .i64 a, .int .i64 b] w fun e w' => e = .returned (.bool true) ∧ w' = w := by
  go_enter Tryz.func51, Tryz.ntmps51
  go_wp2
  go_ret
  exact ⟨rfl, rfl⟩

set_option maxHeartbeats 400000 in
theorem upTo_no (x a b : Int) (h : x < a ∨ b < x) (w : World) :
    Calls Tryz.prog 51 #[.int .i64 x, .int .i64 a, .int .i64 b] w fun e w' => e = .returned (.bool false) ∧ w' = w := by
  by_cases h0 : a ≤ x
  · have h1 : decide (x ≤ b) = false := decide_eq_false (by omega)
    clear h
    go_enter Tryz.func51, Tryz.ntmps51
    go_wp2
    go_ret
    exact ⟨rfl, rfl⟩
  · have h1 : decide (a ≤ x) = false := decide_eq_false h0
    clear h
    go_enter Tryz.func51, Tryz.ntmps51
    go_wp2
    go_ret
    exact ⟨rfl, rfl⟩

set_option maxHeartbeats 1000000 in
theorem ref_no (p : Int) (h : p < 0 ∨ 4095 < p) (w : World) :
    Calls Tryz.prog 95 #[.int .i64 p] w fun e w' => e = .returned (.tuple #[.int .i64 0, .int .i64 600]) ∧ Onto w w' := by
  have Q : Hid (∀ w, Calls Tryz.prog 51 #[.int .i64 p, .int .i64 0, .int .i64 4095] w fun e w' => e = .returned (.bool false) ∧ w' = w) := fun w => upTo_no p 0 4095 h w
  clear h
  go_enter Tryz.func95, Tryz.ntmps95
  go_wp2_with fail
  refine (Q.out _).mono ?_
  rintro e w1 ⟨rfl, rfl⟩
  go_wp2
  go_ret2
  exact ⟨rfl, Onto.refl _⟩

set_option maxHeartbeats 2000000 in
theorem ref_any (K : Nat) (hK : 4094 ≤ K) (p : Int) (h0 : 0 ≤ p) (h1 : p ≤ 4095) (w : World) :
    Calls Tryz.prog 95 #[.int .i64 p] w fun e w' => e = .returned (.tuple #[.int .i64 (st p), .int .i64 0]) ∧ Onto w w' := by
  have Q : Hid (∀ w, Calls Tryz.prog 51 #[.int .i64 p, .int .i64 0, .int .i64 4095] w fun e w' => e = .returned (.bool true) ∧ w' = w) := fun w => upTo_yes p 0 4095 h0 h1 w
  generalize hz : st p = z
  have Z : Hid (st p = z) := hz
  clear hz
  go_enter Tryz.func95, Tryz.ntmps95
  go_wp2_with fail
  refine (Q.out _).mono ?_
  rintro e w ⟨rfl, rfl⟩
  clear Q
  go_wp2
  go_loopg [4, 5] K (fun kx s4 s5 wr => ∃ (lo hi : Int), s4 = .int .i64 lo ∧ s5 = .int .i64 hi ∧ -2047 ≤ lo ∧ lo ≤ hi ∧ hi ≤ 2047 ∧ hi - lo ≤ (kx : Int) ∧ Hid (Onto w wr) ∧
    Hid ((∀ t : Int, -2047 ≤ t → t < lo → sq t < p) ∧ (hi = 2047 ∨ p ≤ sq hi)))
  case atStart => exact ⟨-2047, 2047, rfl, rfl, by omega, by omega, by omega, by omega, Onto.refl _, (⟨fun t a b => by omega, .inl rfl⟩ : (∀ t : Int, -2047 ≤ t → t < -2047 → sq t < p) ∧ ((2047 : Int) = 2047 ∨ p ≤ sq 2047))⟩
  case round =>
    obtain ⟨lo, hi, rfl, rfl, b0, b1, b2, hg, O, I⟩ := hrel
    by_cases hlt : lo < hi
    · have hq := ref_squash ((lo + hi) / 2) wr
      have hm0 : lo ≤ (lo + hi) / 2 := by omega
      have hm1 : (lo + hi) / 2 < hi := by omega
      by_cases hd : p ≤ sq ((lo + hi) / 2)
      · have HP : Hid (p ≤ sq ((lo + hi) / 2)) := hd
        generalize sq ((lo + hi) / 2) = y at hq hd
        go_wp2_with (go_at_call 93; refine hq.mono ?_; rintro e w' ⟨rfl, o1⟩)
        go_roundg (((lo + hi) / 2 - lo).toNat)
        case measure => omega
        case rel =>
          have I2 : Hid ((∀ t : Int, -2047 ≤ t → t < lo → sq t < p) ∧ ((lo + hi) / 2 = 2047 ∨ p ≤ sq ((lo + hi) / 2))) := ⟨I.out.1, .inr HP.out⟩
          exact ⟨lo, (lo + hi) / 2, rfl, rfl, by omega, by omega, by omega, by omega, O.out.trans o1, I2⟩
      · have HP : Hid (sq ((lo + hi) / 2) < p) := show sq ((lo + hi) / 2) < p from by omega
        have hd' : decide (p ≤ sq ((lo + hi) / 2)) = false := decide_eq_false hd
        clear hd
        generalize sq ((lo + hi) / 2) = y at hq hd'
        go_wp2_with (go_at_call 93; refine hq.mono ?_; rintro e w' ⟨rfl, o1⟩)
        go_roundg ((hi - ((lo + hi) / 2 + 1)).toNat)
        case measure => omega
        case rel =>
          have I2 : Hid ((∀ t : Int, -2047 ≤ t → t < (lo + hi) / 2 + 1 → sq t < p) ∧ (hi = 2047 ∨ p ≤ sq hi)) := ⟨fun t a b => (by
            have h5 := sq_mono t ((lo + hi) / 2) (by omega) (by omega) (by omega)
            have h6 := HP.out
            omega), I.out.2⟩
          exact ⟨(lo + hi) / 2 + 1, hi, rfl, rfl, by omega, by omega, by omega, by omega, O.out.trans o1, I2⟩
    · obtain rfl : hi = lo := by omega
      have E : z = hi := by
        have h : Least p hi := ⟨by omega, by omega, I.out.1, I.out.2⟩
        exact (Z.out).symm.trans (st_is h).symm
      subst E
      clear I Z
      go_wp2
      go_ret2
      exact ⟨rfl, O.out⟩

theorem ref_stretch (p : Int) (h0 : 0 ≤ p) (h1 : p ≤ 4095) (w : World) :
    Calls Tryz.prog 95 #[.int .i64 p] w fun e w' => e = .returned (.tuple #[.int .i64 (st p), .int .i64 0]) ∧ Onto w w' :=
  ref_any 4094 (Nat.le_refl _) p h0 h1 w

end Go.Proofs.YtocnlefpbcnlmaaGreatDoor.Str

namespace Go.Proofs.YtocnlefpbcnlmaaGreatDoor.Mix
open Go.RowKit Go.Proofs.YtocnlefpbcnlmaaGreatDoor.Num Go.Proofs.YtocnlefpbcnlmaaGreatDoor.Str
set_option linter.unusedVariables false

theorem ref_squash_is (x y : Int) (h : sq x = y) (w : World) :
    Calls Tryz.prog 93 #[.int .i64 x] w fun e w' => e = .returned (.int .i64 y) ∧ Onto w w' := h ▸ ref_squash x w

end Go.Proofs.YtocnlefpbcnlmaaGreatDoor.Mix

namespace Go.Proofs.YtocnlefpbcnlmaaGreatDoor.Mix
open Go.RowKit Go.Proofs.YtocnlefpbcnlmaaGreatDoor.Num Go.Proofs.YtocnlefpbcnlmaaGreatDoor.Str
set_option linter.unusedVariables false

set_option maxHeartbeats 400000 in
theorem bitMay_ok (b : Int) (w : World) :
    Calls Tryz.prog 52 #[.int .i64 b] w fun e w' => e = .returned (.bool (bitB b)) ∧ w' = w := by
  by_cases h0 : b = 0
  · subst h0
    go_enter Tryz.func52, Tryz.ntmps52
    go_wp2
    go_ret
    exact ⟨rfl, rfl⟩
  · by_cases h1 : b = 1
    · subst h1
      go_enter Tryz.func52, Tryz.ntmps52
      go_wp2
      go_ret
      exact ⟨rfl, rfl⟩
    · have e0 : (b == 0) = false := by simpa using h0
      have e1 : (b == 1) = false := by simpa using h1
      have e : bitB b = false := decide_eq_false fun k => k.elim h0 h1
      rw [e]
      clear h0 h1 e
      go_enter Tryz.func52, Tryz.ntmps52
      go_wp2
      go_ret
      exact ⟨rfl, rfl⟩

set_option maxHeartbeats 400000 in
theorem within_hold (x : Int) (w : World) :
    Calls Tryz.prog 92 #[.int .i64 x, .int .i64 (-1048576), .int .i64 1048576] w fun e w' => e = .returned (.int .i64 (hold x)) ∧ w' = w := by
  unfold hold
  by_cases h0 : x ≤ -1048576
  · rw [if_pos h0]
    go_enter Tryz.func92, Tryz.ntmps92
    go_wp2
    go_ret
    exact ⟨rfl, rfl⟩
  · rw [if_neg h0]
    by_cases h1 : 1048576 < x
    · rw [if_pos h1]
      go_enter Tryz.func92, Tryz.ntmps92
      go_wp2
      go_ret
      exact ⟨rfl, rfl⟩
    · rw [if_neg h1]
      by_cases h2 : x = 1048576
      · subst h2
        go_enter Tryz.func92, Tryz.ntmps92
        go_wp2
        go_ret
        exact ⟨rfl, rfl⟩
      · have h3 : ¬ 1048576 ≤ x := by omega
        go_enter Tryz.func92, Tryz.ntmps92
        go_wp2
        go_ret
        exact ⟨rfl, rfl⟩

set_option maxHeartbeats 400000 in
theorem within_raise (x : Int) (h : x ≤ 4095) (w : World) :
    Calls Tryz.prog 92 #[.int .i64 x, .int .i64 1, .int .i64 4095] w fun e w' => e = .returned (.int .i64 (raise x)) ∧ w' = w := by
  unfold raise
  by_cases h0 : x ≤ 1
  · rw [if_pos h0]
    have h3 : ¬ 4095 ≤ x := by omega
    go_enter Tryz.func92, Tryz.ntmps92
    go_wp2
    go_ret
    exact ⟨rfl, rfl⟩
  · rw [if_neg h0]
    by_cases h2 : x = 4095
    · subst h2
      go_enter Tryz.func92, Tryz.ntmps92
      go_wp2
      go_ret
      exact ⟨rfl, rfl⟩
    · have h3 : ¬ 4095 ≤ x := by omega
      go_enter Tryz.func92, Tryz.ntmps92
      go_wp2
      go_ret
      exact ⟨rfl, rfl⟩

theorem upTo_is (l x : Int) (w : World) :
    Calls Tryz.prog 51 #[.int .i64 x, .int .i64 (-l), .int .i64 l] w fun e w' => e = .returned (.bool (!passed l x)) ∧ w' = w := by
  by_cases h : x < -l ∨ l < x
  · have e : passed l x = true := decide_eq_true h
    rw [e]
    exact upTo_no x (-l) l h w
  · have e : passed l x = false := decide_eq_false h
    rw [e]
    exact upTo_yes x (-l) l (by omega) (by omega) w

set_option maxHeartbeats 1000000 in
theorem three_ok (l a b c : Int) (hl0 : 0 ≤ l) (hl1 : l ≤ 1048576) (w : World) :
    Calls Tryz.prog 91 #[.agg #[.int .i64 a, .int .i64 b, .int .i64 c], .int .i64 l] w fun e w' => e = .returned (.bool (!(passed l a || passed l b || passed l c))) ∧ Onto w w' := by
  have U : Hid (∀ x w, Calls Tryz.prog 51 #[.int .i64 x, .int .i64 (-l), .int .i64 l] w fun e w' => e = .returned (.bool (!passed l x)) ∧ w' = w) := upTo_is l
  cases ha : passed l a
  · cases hb : passed l b
    · cases hc : passed l c
      · go_enter Tryz.func91, Tryz.ntmps91
        go_wp2
        refine wp_loop_rounds 4 ?_
        rw [rounds_succ]
        go_wp2_with fail
        refine (U.out a _).mono ?_
        rw [ha]
        rintro e w1 ⟨rfl, rfl⟩
        go_wp2
        rw [rounds_succ]
        go_wp2_with fail
        refine (U.out b _).mono ?_
        rw [hb]
        rintro e w1 ⟨rfl, rfl⟩
        go_wp2
        rw [rounds_succ]
        go_wp2_with fail
        refine (U.out c _).mono ?_
        rw [hc]
        rintro e w1 ⟨rfl, rfl⟩
        go_wp2
        rw [rounds_succ]
        go_wp2
        go_ret
        exact ⟨rfl, (Onto.refl _).alloc _ _⟩
      · go_enter Tryz.func91, Tryz.ntmps91
        go_wp2
        refine wp_loop_rounds 3 ?_
        rw [rounds_succ]
        go_wp2_with fail
        refine (U.out a _).mono ?_
        rw [ha]
        rintro e w1 ⟨rfl, rfl⟩
        go_wp2
        rw [rounds_succ]
        go_wp2_with fail
        refine (U.out b _).mono ?_
        rw [hb]
        rintro e w1 ⟨rfl, rfl⟩
        go_wp2
        rw [rounds_succ]
        go_wp2_with fail
        refine (U.out c _).mono ?_
        rw [hc]
        rintro e w1 ⟨rfl, rfl⟩
        go_wp2
        go_ret
        exact ⟨rfl, (Onto.refl _).alloc _ _⟩
    · go_enter Tryz.func91, Tryz.ntmps91
      go_wp2
      refine wp_loop_rounds 2 ?_
      rw [rounds_succ]
      go_wp2_with fail
      refine (U.out a _).mono ?_
      rw [ha]
      rintro e w1 ⟨rfl, rfl⟩
      go_wp2
      rw [rounds_succ]
      go_wp2_with fail
      refine (U.out b _).mono ?_
      rw [hb]
      rintro e w1 ⟨rfl, rfl⟩
      go_wp2
      go_ret
      exact ⟨rfl, (Onto.refl _).alloc _ _⟩
  · go_enter Tryz.func91, Tryz.ntmps91
    go_wp2
    refine wp_loop_rounds 1 ?_
    rw [rounds_succ]
    go_wp2_with fail
    refine (U.out a _).mono ?_
    rw [ha]
    rintro e w1 ⟨rfl, rfl⟩
    go_wp2
    go_ret
    exact ⟨rfl, (Onto.refl _).alloc _ _⟩

theorem may_parts {a b c x y z : Int} (h : mayB a b c x y z = false) :
    (passed 1048576 a || passed 1048576 b || passed 1048576 c) = true ∨ ((passed 1048576 a || passed 1048576 b || passed 1048576 c) = false ∧ (passed 2047 x || passed 2047 y || passed 2047 z) = true) := by
  unfold mayB at h
  revert h
  cases (passed 1048576 a || passed 1048576 b || passed 1048576 c) <;> cases (passed 2047 x || passed 2047 y || passed 2047 z) <;> simp

theorem may_both {a b c x y z : Int} (h : mayB a b c x y z = true) :
    (passed 1048576 a || passed 1048576 b || passed 1048576 c) = false ∧ (passed 2047 x || passed 2047 y || passed 2047 z) = false := by
  unfold mayB at h
  revert h
  cases (passed 1048576 a || passed 1048576 b || passed 1048576 c) <;> cases (passed 2047 x || passed 2047 y || passed 2047 z) <;> simp

set_option maxHeartbeats 1000000 in
theorem ref_dot_no (a b c x y z : Int) (hm : ¬ May a b c x y z) (w : World) :
    Calls Tryz.prog 55 #[.agg #[.int .i64 a, .int .i64 b, .int .i64 c], .agg #[.int .i64 x, .int .i64 y, .int .i64 z]] w fun e w' => e = .returned (.tuple #[.int .i64 0, .int .i64 800]) ∧ Onto w w' := by
  rcases may_parts (mayB_no hm) with h | ⟨h, k⟩
  · have HH : Hid _ := h
    clear hm h
    go_enter Tryz.func55, Tryz.ntmps55
    go_wp2_with fail
    refine (three_ok 1048576 a b c (by decide) (by decide) _).mono ?_
    rw [show (passed 1048576 a || passed 1048576 b || passed 1048576 c) = true from HH.out]
    rintro e w1 ⟨rfl, o⟩
    have O1 : Hid (Onto w w1) := (((Onto.refl w).alloc _ _).alloc _ _).trans o
    clear o
    go_wp2
    go_ret2
    exact ⟨rfl, O1.out⟩
  · have HH : Hid _ := h
    have HK : Hid _ := k
    clear hm h k
    go_enter Tryz.func55, Tryz.ntmps55
    go_wp2_with fail
    refine (three_ok 1048576 a b c (by decide) (by decide) _).mono ?_
    rw [show (passed 1048576 a || passed 1048576 b || passed 1048576 c) = false from HH.out]
    rintro e w1 ⟨rfl, o⟩
    have O1 : Hid (Onto w w1) := (((Onto.refl w).alloc _ _).alloc _ _).trans o
    obtain ⟨⟨ws0, ws1, ws2⟩, xs0, xs1, xs2⟩ := box2 o
    clear o
    go_wp2_with fail
    refine (three_ok 2047 x y z (by decide) (by decide) _).mono ?_
    rw [show (passed 2047 x || passed 2047 y || passed 2047 z) = true from HK.out]
    rintro e w2 ⟨rfl, o⟩
    have O2 : Hid (Onto w w2) := O1.out.trans o
    clear o
    go_wp2
    go_ret2
    exact ⟨rfl, O2.out⟩

set_option maxHeartbeats 2000000 in
theorem ref_dot_yes (a b c x y z : Int) (hm : May a b c x y z) (w : World) :
    Calls Tryz.prog 55 #[.agg #[.int .i64 a, .int .i64 b, .int .i64 c], .agg #[.int .i64 x, .int .i64 y, .int .i64 z]] w fun e w' => e = .returned (.tuple #[.int .i64 (dot a b c x y z), .int .i64 0]) ∧ Onto w w' := by
  obtain ⟨h, k⟩ := may_both (mayB_yes hm)
  have HH : Hid _ := h
  have HK : Hid _ := k
  clear h k
  obtain ⟨⟨a0, a1⟩, ⟨b0, b1⟩, ⟨c0, c1⟩, ⟨x0, x1⟩, ⟨y0, y1⟩, z0, z1⟩ := hm
  obtain ⟨p0, p1⟩ := prod_le a x a0 a1 x0 x1
  obtain ⟨q0, q1⟩ := prod_le b y b0 b1 y0 y1
  obtain ⟨r0, r1⟩ := prod_le c z c0 c1 z0 z1
  obtain ⟨k, hk⟩ : ∃ k, sq ((a * x + b * y + c * z) / 65536) = k := ⟨_, rfl⟩
  have K : Hid (sq ((a * x + b * y + c * z) / 65536) = k) := hk
  have k1 : k ≤ 4095 := hk ▸ (sq_chance _).2
  have D : dot a b c x y z = raise k := by unfold dot sum; rw [hk]
  rw [D]
  clear hk D
  have R : Hid (∀ w, Calls Tryz.prog 92 #[.int .i64 k, .int .i64 1, .int .i64 4095] w fun e w' => e = .returned (.int .i64 (raise k)) ∧ w' = w) := within_raise k k1
  generalize raise k = v at *
  go_enter Tryz.func55, Tryz.ntmps55
  go_wp2_with fail
  refine (three_ok 1048576 a b c (by decide) (by decide) _).mono ?_
  rw [show (passed 1048576 a || passed 1048576 b || passed 1048576 c) = false from HH.out]
  rintro e w1 ⟨rfl, o⟩
  have O1 : Hid (Onto w w1) := (((Onto.refl w).alloc _ _).alloc _ _).trans o
  obtain ⟨⟨ws0, ws1, ws2⟩, xs0, xs1, xs2⟩ := box2 o
  clear o
  go_wp2_with fail
  refine (three_ok 2047 x y z (by decide) (by decide) _).mono ?_
  rw [show (passed 2047 x || passed 2047 y || passed 2047 z) = false from HK.out]
  rintro e w2 ⟨rfl, o⟩
  have O2 : Hid (Onto w w2) := O1.out.trans o
  replace ws0 := o.cell_some ws0
  replace ws1 := o.cell_some ws1
  replace ws2 := o.cell_some ws2
  replace xs0 := o.cell_some xs0
  replace xs1 := o.cell_some xs1
  replace xs2 := o.cell_some xs2
  clear o O1
  go_wp2
  refine wp_loop_rounds 4 ?_
  rw [rounds_succ]
  go_wp2
  go_quiet (fail)
  go_wp2
  rw [rounds_succ]
  go_wp2
  go_quiet (fail)
  go_wp2
  rw [rounds_succ]
  go_wp2
  go_quiet (fail)
  go_wp2
  rw [rounds_succ]
  go_wp2_with fail
  refine (ref_squash_is _ k K.out _).mono ?_
  rintro e w5 ⟨rfl, o⟩
  have O5 : Hid (Onto w w5) := (O2.out.drewN _).trans o
  clear o O2 ws0 ws1 ws2 xs0 xs1 xs2
  go_wp2_with fail
  refine (R.out _).mono ?_
  rintro e w6 ⟨rfl, rfl⟩
  go_wp2
  go_ret2
  exact ⟨rfl, O5.out⟩

end Go.Proofs.YtocnlefpbcnlmaaGreatDoor.Mix
