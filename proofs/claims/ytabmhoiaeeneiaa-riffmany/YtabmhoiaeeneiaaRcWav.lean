/-
  The contract of the statements' own wav, at the two files that they ask for. No condition.
-/
import Derived.Test.YtabmhoiaeeneiaaRcRef
namespace Go.Proofs.Ytabmhoiaeeneiaa.Chk
open Go.RowKit Go.Sort Go.Proofs.Ytabmhoiaeeneiaa.Mod Go.Proofs.Ytabmhoiaeeneiaa.Num
set_option linter.unusedVariables false
set_option linter.unusedSimpArgs false

theorem low2_lit (w : World) (x : Int) (s : ByteArray) (h0 : 0 ≤ x) (h1 : x < 65536) (hs : strOfNums [x % 256, x / 256] = s) :
    Calls Try.prog 18 #[.int .i64 x, .int .i64 2] w fun e w' => e = .returned (.string s) ∧ Bel w w' := by
  rw [← hs]; exact Ref.low2 x h0 h1 w
theorem low4_lit (w : World) (x : Int) (s : ByteArray) (h0 : 0 ≤ x) (h1 : x < 4294967296) (hs : strOfNums [x % 256, x / 256 % 256, x / 65536 % 256, x / 16777216] = s) :
    Calls Try.prog 18 #[.int .i64 x, .int .i64 4] w fun e w' => e = .returned (.string s) ∧ Bel w w' := by
  rw [← hs]; exact Ref.low4 x h0 h1 w
theorem ba_cat (l m : List UInt8) : ((⟨l.toArray⟩ : ByteArray) ++ (⟨m.toArray⟩ : ByteArray)) = ⟨(l ++ m).toArray⟩ := by
  apply ba_eq
  simp

/-- The file's bytes. -/
def abcB : List UInt8 := [82, 73, 70, 70, 52, 0, 0, 0, 87, 65, 86, 69, 102, 109, 116, 32, 16, 0, 0, 0, 1, 0, 1, 0, 114, 97, 116, 101, 97, 110, 100, 98, 1, 0, 8, 0, 100, 97, 116, 97, 3, 0, 0, 0, 97, 98, 99, 112, 109, 111, 114, 101, 3, 0, 0, 0, 97, 98, 99, 100]

set_option maxRecDepth 4000 in
set_option maxHeartbeats 1000000 in
theorem abc_ok (w : World) :
    Calls Try.prog 14 #[.agg #[.int .i64 1, .int .i64 8], .string ⟨#[97, 98, 99]⟩] w fun e w' => e = .returned (.string ⟨#[82, 73, 70, 70, 52, 0, 0, 0, 87, 65, 86, 69, 102, 109, 116, 32, 16, 0, 0, 0, 1, 0, 1, 0, 114, 97, 116, 101, 97, 110, 100, 98, 1, 0, 8, 0, 100, 97, 116, 97, 3, 0, 0, 0, 97, 98, 99, 112, 109, 111, 114, 101, 3, 0, 0, 0, 97, 98, 99, 100]⟩) ∧ Bel w w' := by
  have L1 : Hid (∀ w, Calls Try.prog 18 #[.int .i64 1, .int .i64 2] w fun e w' => e = .returned (.string ⟨#[1, 0]⟩) ∧ Bel w w') := fun w => low2_lit w 1 _ (by decide) (by decide) (by rfl)
  have L8 : Hid (∀ w, Calls Try.prog 18 #[.int .i64 8, .int .i64 2] w fun e w' => e = .returned (.string ⟨#[8, 0]⟩) ∧ Bel w w') := fun w => low2_lit w 8 _ (by decide) (by decide) (by rfl)
  have L3 : Hid (∀ w, Calls Try.prog 18 #[.int .i64 3, .int .i64 4] w fun e w' => e = .returned (.string ⟨#[3, 0, 0, 0]⟩) ∧ Bel w w') := fun w => low4_lit w 3 _ (by decide) (by decide) (by rfl)
  have L52 : Hid (∀ w, Calls Try.prog 18 #[.int .i64 52, .int .i64 4] w fun e w' => e = .returned (.string ⟨#[52, 0, 0, 0]⟩) ∧ Bel w w') := fun w => low4_lit w 52 _ (by decide) (by decide) (by rfl)
  have k0 : (w.alloc (.cells #[.int .i64 1, .int .i64 8] 37)).cell? ⟨w.heap.size, 0, none⟩ = some (.int .i64 1) := by go_simp
  have k1 : (w.alloc (.cells #[.int .i64 1, .int .i64 8] 37)).cell? ⟨w.heap.size, 1, none⟩ = some (.int .i64 8) := by go_simp
  have c0 := cell_regrown k0
  have c1 := cell_regrown k1
  go_enter Try.func14, Try.ntmps14
  go_wp2
  refine wp_region_quiet_below (by kernel_rfl) (by kernel_rfl) ?_
  repeat (go_big_quiet_step (first | (go_at_call 18; with_reducible exact Calls.regrown_of (L1.out _)) | (go_at_call 18; with_reducible exact Calls.regrown_of (L8.out _))))
  refine wpQuiet_nil ?_
  intro _ hw'
  obtain ⟨⟨dq, osq⟩, hw''⟩ := hw'
  subst hw''
  have B1 : Hid (Bel w (grow (redrawn (w.alloc (.cells #[.int .i64 1, .int .i64 8] 37)) dq) osq)) := ((Bel.refl _).alloc _).trans (below_regrown _ dq osq)
  clear c0 c1 k0 k1
  show Exit.then _ _ _ _ (grow (redrawn (w.alloc (.cells #[.int .i64 1, .int .i64 8] 37)) dq) osq)
  generalize grow (redrawn (w.alloc (.cells #[.int .i64 1, .int .i64 8] 37)) dq) osq = w1 at *
  simp only [ba_cat, List.cons_append, List.nil_append]
  go_wp2_with fail
  refine (L3.out _).mono ?_
  rintro e w2 ⟨rfl, b2⟩
  have B2 : Hid (Bel w w2) := B1.out.trans b2
  clear b2
  go_wp2_with fail
  simp only [ba_cat, List.cons_append, List.nil_append]
  refine (L52.out _).mono ?_
  rintro e w3 ⟨rfl, b3⟩
  have B3 : Hid (Bel w w3) := B2.out.trans b3
  clear b3
  go_wp2
  simp only [ba_cat, List.cons_append, List.nil_append]
  go_ret
  exact ⟨rfl, B3.out⟩

/-- The file's bytes. -/
def emptyB : List UInt8 := [82, 73, 70, 70, 48, 0, 0, 0, 87, 65, 86, 69, 102, 109, 116, 32, 16, 0, 0, 0, 1, 0, 1, 0, 114, 97, 116, 101, 97, 110, 100, 98, 1, 0, 8, 0, 100, 97, 116, 97, 0, 0, 0, 0, 109, 111, 114, 101, 3, 0, 0, 0, 97, 98, 99, 100]

set_option maxRecDepth 4000 in
set_option maxHeartbeats 1000000 in
theorem empty_ok (w : World) :
    Calls Try.prog 14 #[.agg #[.int .i64 1, .int .i64 8], .string ⟨#[]⟩] w fun e w' => e = .returned (.string ⟨#[82, 73, 70, 70, 48, 0, 0, 0, 87, 65, 86, 69, 102, 109, 116, 32, 16, 0, 0, 0, 1, 0, 1, 0, 114, 97, 116, 101, 97, 110, 100, 98, 1, 0, 8, 0, 100, 97, 116, 97, 0, 0, 0, 0, 109, 111, 114, 101, 3, 0, 0, 0, 97, 98, 99, 100]⟩) ∧ Bel w w' := by
  have L1 : Hid (∀ w, Calls Try.prog 18 #[.int .i64 1, .int .i64 2] w fun e w' => e = .returned (.string ⟨#[1, 0]⟩) ∧ Bel w w') := fun w => low2_lit w 1 _ (by decide) (by decide) (by rfl)
  have L8 : Hid (∀ w, Calls Try.prog 18 #[.int .i64 8, .int .i64 2] w fun e w' => e = .returned (.string ⟨#[8, 0]⟩) ∧ Bel w w') := fun w => low2_lit w 8 _ (by decide) (by decide) (by rfl)
  have L3 : Hid (∀ w, Calls Try.prog 18 #[.int .i64 0, .int .i64 4] w fun e w' => e = .returned (.string ⟨#[0, 0, 0, 0]⟩) ∧ Bel w w') := fun w => low4_lit w 0 _ (by decide) (by decide) (by rfl)
  have L52 : Hid (∀ w, Calls Try.prog 18 #[.int .i64 48, .int .i64 4] w fun e w' => e = .returned (.string ⟨#[48, 0, 0, 0]⟩) ∧ Bel w w') := fun w => low4_lit w 48 _ (by decide) (by decide) (by rfl)
  have k0 : (w.alloc (.cells #[.int .i64 1, .int .i64 8] 37)).cell? ⟨w.heap.size, 0, none⟩ = some (.int .i64 1) := by go_simp
  have k1 : (w.alloc (.cells #[.int .i64 1, .int .i64 8] 37)).cell? ⟨w.heap.size, 1, none⟩ = some (.int .i64 8) := by go_simp
  have c0 := cell_regrown k0
  have c1 := cell_regrown k1
  go_enter Try.func14, Try.ntmps14
  go_wp2
  refine wp_region_quiet_below (by kernel_rfl) (by kernel_rfl) ?_
  repeat (go_big_quiet_step (first | (go_at_call 18; with_reducible exact Calls.regrown_of (L1.out _)) | (go_at_call 18; with_reducible exact Calls.regrown_of (L8.out _))))
  refine wpQuiet_nil ?_
  intro _ hw'
  obtain ⟨⟨dq, osq⟩, hw''⟩ := hw'
  subst hw''
  have B1 : Hid (Bel w (grow (redrawn (w.alloc (.cells #[.int .i64 1, .int .i64 8] 37)) dq) osq)) := ((Bel.refl _).alloc _).trans (below_regrown _ dq osq)
  clear c0 c1 k0 k1
  show Exit.then _ _ _ _ (grow (redrawn (w.alloc (.cells #[.int .i64 1, .int .i64 8] 37)) dq) osq)
  generalize grow (redrawn (w.alloc (.cells #[.int .i64 1, .int .i64 8] 37)) dq) osq = w1 at *
  simp only [ba_cat, List.cons_append, List.nil_append]
  go_wp2_with fail
  refine (L3.out _).mono ?_
  rintro e w2 ⟨rfl, b2⟩
  have B2 : Hid (Bel w w2) := B1.out.trans b2
  clear b2
  go_wp2_with fail
  simp only [ba_cat, List.cons_append, List.nil_append]
  refine (L52.out _).mono ?_
  rintro e w3 ⟨rfl, b3⟩
  have B3 : Hid (Bel w w3) := B2.out.trans b3
  clear b3
  go_wp2
  simp only [ba_cat, List.cons_append, List.nil_append]
  go_ret
  exact ⟨rfl, B3.out⟩

end Go.Proofs.Ytabmhoiaeeneiaa.Chk
