/-
  The walk of StretchKnots: it answers true for any int. Condition: the package's table is laid as its text lays it.
-/
import Derived.Test.YtildelmffhbhiaaDoorSAwake
import Derived.Test.YtildelmffhbhiaaDoorStretchMirrorWalk
import Derived.Test.YtildelmffhbhiaaDoorNum
namespace Go.Proofs.YtildelmffhbhiaaDoor.Str
open Go.RowKit Go.Proofs.YtildelmffhbhiaaDoor.Num
set_option linter.unusedVariables false

theorem knot_cell (w : World) (d : Nat) (hd : d < 31) : (w.alloc (.cells #[.int .i64 2, .int .i64 3, .int .i64 6, .int .i64 10, .int .i64 16, .int .i64 27, .int .i64 45, .int .i64 73, .int .i64 120, .int .i64 194, .int .i64 310, .int .i64 488, .int .i64 747, .int .i64 1101, .int .i64 1546, .int .i64 2047, .int .i64 2549, .int .i64 2994, .int .i64 3348, .int .i64 3607, .int .i64 3785, .int .i64 3901, .int .i64 3975, .int .i64 4022, .int .i64 4050, .int .i64 4068, .int .i64 4079, .int .i64 4085, .int .i64 4089, .int .i64 4092, .int .i64 4093] 3)).cell? ⟨w.heap.size, d, none⟩ = some (.int .i64 (places.getD (d + 1) 0)) := by
  have e : (#[.int .i64 2, .int .i64 3, .int .i64 6, .int .i64 10, .int .i64 16, .int .i64 27, .int .i64 45, .int .i64 73, .int .i64 120, .int .i64 194, .int .i64 310, .int .i64 488, .int .i64 747, .int .i64 1101, .int .i64 1546, .int .i64 2047, .int .i64 2549, .int .i64 2994, .int .i64 3348, .int .i64 3607, .int .i64 3785, .int .i64 3901, .int .i64 3975, .int .i64 4022, .int .i64 4050, .int .i64 4068, .int .i64 4079, .int .i64 4085, .int .i64 4089, .int .i64 4092, .int .i64 4093] : Array Value) = (((places.drop 1).take 31).map fun z => Value.int .i64 z).toArray := rfl
  have hl : d + 1 < places.length := Nat.lt_of_lt_of_le (Nat.succ_lt_succ hd) (by decide)
  rw [e, World.cell?_alloc_at _ _ _ _ (by simp)]
  simp [List.getD, hd, hl]

set_option maxHeartbeats 1000000 in
theorem knots_walk (x : Int) (w : World) (T : Tab w) :
    Calls Tryd.prog 7 #[.int .i64 x] w fun e w' => e = .returned (.bool true) ∧ Onto w w' := by
  have TT : Hid (Tab w) := T
  clear T
  obtain ⟨k, hk⟩ : ∃ k : Nat, x % 18446744073709551616 % 31 = (k : Int) := ⟨(x % 18446744073709551616 % 31).toNat, by omega⟩
  have k1 : k < 31 := by omega
  have hv := mval x 31 k (by decide) (by decide) hk
  obtain ⟨y, hy⟩ : ∃ y, places.getD (k + 1) 0 = y := ⟨_, rfl⟩
  have Y : Hid (sq (128 * ((k : Int) - 15)) = y) := (knots k k1).trans hy
  have HY : Hid (places.getD (k + 1) 0 = y) := hy
  clear hy hk
  go_enter Tryd.func7, Tryd.ntmps7
  go_wp2_with fail
  refine (awake_true _ TT.out).mono ?_
  rintro e w1 ⟨rfl, o⟩
  have O1 : Hid (Onto w w1) := o
  clear o
  have ca := knot_cell w1 k k1
  rw [HY.out] at ca
  have oo : Hid (Onto w (w1.alloc (.cells #[.int .i64 2, .int .i64 3, .int .i64 6, .int .i64 10, .int .i64 16, .int .i64 27, .int .i64 45, .int .i64 73, .int .i64 120, .int .i64 194, .int .i64 310, .int .i64 488, .int .i64 747, .int .i64 1101, .int .i64 1546, .int .i64 2047, .int .i64 2549, .int .i64 2994, .int .i64 3348, .int .i64 3607, .int .i64 3785, .int .i64 3901, .int .i64 3975, .int .i64 4022, .int .i64 4050, .int .i64 4068, .int .i64 4079, .int .i64 4085, .int .i64 4089, .int .i64 4092, .int .i64 4093] 3))) := O1.out.alloc _ _
  clear O1 HY
  go_wp2
  generalize w1.alloc (.cells #[.int .i64 2, .int .i64 3, .int .i64 6, .int .i64 10, .int .i64 16, .int .i64 27, .int .i64 45, .int .i64 73, .int .i64 120, .int .i64 194, .int .i64 310, .int .i64 488, .int .i64 747, .int .i64 1101, .int .i64 1546, .int .i64 2047, .int .i64 2549, .int .i64 2994, .int .i64 3348, .int .i64 3607, .int .i64 3785, .int .i64 3901, .int .i64 3975, .int .i64 4022, .int .i64 4050, .int .i64 4068, .int .i64 4079, .int .i64 4085, .int .i64 4089, .int .i64 4092, .int .i64 4093] 3) = W at *
  have q : Hid (∀ n, Calls Tryd.prog 12 #[.int .i64 (128 * ((k : Int) - 15))] (W.drewN n) fun e w' => e = .returned (.int .i64 y) ∧ ∃ m, w' = (W.drewN n).drewN m) := fun n => Y.out ▸ squash_ok _ (W.drewN n) ((TT.out.onto oo.out).drewN n)
  go_quiet (first | (go_at_call 12; with_reducible exact Calls.quiet_of (q.out _)) | (go_at_call 11; exact Calls.quiet_of_same (num_ok _ _)))
  go_wp2
  go_ret
  exact ⟨rfl, oo.out.drewN _⟩

end Go.Proofs.YtildelmffhbhiaaDoor.Str
