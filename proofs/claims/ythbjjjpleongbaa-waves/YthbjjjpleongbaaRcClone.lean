/-
  The contract of strings.Clone, at this program. Condition: the text is at most 2^48 bytes long.
-/
import Derived.Test.YthbjjjpleongbaaRcRows
import Derived.Shelf.Strconv.Clone
import Derived.WalkSpells
import Derived.WalkLawsBesides
namespace Go.Proofs.Ythbjjjpleongbaa.Chk
open Go.RowKit Go.Shelf Go.Proofs.Ythbjjjpleongbaa.Mod
set_option linter.unusedVariables false
set_option linter.unusedSimpArgs false

/-- The library's numbers at this seat. -/
def renC : Ren := ⟨fun | 316 => 34 | n => n, fun | 37 => 39 | 127 => 85 | n => n, fun n => n⟩

theorem laysC : LaysM.n316 Try.prog renC where
  mixed := by kernel_rfl
  f316 := Try.func34.trans (congrArg some (by kernel_rfl))
  t0 := Try.underlying0
  a0 := Try.isAgg0
  z0 := Try.sizeOf0
  v0 := Try.zeroValue0
  t3 := Try.underlying3
  a3 := Try.isAgg3
  z3 := Try.sizeOf3
  v3 := Try.zeroValue3
  t4 := Try.underlying4
  a4 := Try.isAgg4
  z4 := Try.sizeOf4
  v4 := Try.zeroValue4
  t9 := Try.underlying9
  a9 := Try.isAgg9
  z9 := Try.sizeOf9
  v9 := Try.zeroValue9
  t37 := Try.underlying39
  a37 := Try.isAgg39
  z37 := Try.sizeOf39
  v37 := Try.zeroValue39
  t127 := Try.underlying85
  a127 := Try.isAgg85
  z127 := Try.sizeOf85
  v127 := Try.zeroValue85
  t5 := Try.underlying5
  a5 := Try.isAgg5
  z5 := Try.sizeOf5
  v5 := Try.zeroValue5
  i0 := by kernel_rfl
  i3 := by kernel_rfl
  i4 := by kernel_rfl
  i5 := by kernel_rfl
  i9 := by kernel_rfl
  i37 := by kernel_rfl
  i127 := by kernel_rfl

theorem lite_clone (s : ByteArray) (hs : s.size ≤ 281474976710656) (w : World) :
    Calls Try.prog 34 #[.string s] w fun e w' => e = .returned (.string s) ∧ Bel w w' := Any.stringslite_Clone laysC s w hs

theorem clone_ok (s : ByteArray) (hs : s.size ≤ 281474976710656) (w : World) :
    Calls Try.prog 21 #[.string s] w fun e w' => e = .returned (.string s) ∧ Bel w w' := by
  have C : Hid (∀ w, Calls Try.prog 34 #[.string s] w fun e w' => e = .returned (.string s) ∧ Bel w w') := fun w => lite_clone s hs w
  go_enter Try.func21, Try.ntmps21
  go_wp2_with fail
  refine (C.out _).mono ?_
  rintro e w1 ⟨rfl, b1⟩
  go_wp2
  go_ret
  exact ⟨rfl, b1⟩

end Go.Proofs.Ythbjjjpleongbaa.Chk
