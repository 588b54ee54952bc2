/-
  RiffRow answers true. Condition: the text's length is an int.
-/
import Derived.Test.YtabmhoiaeeneiaaRiffsWalk
namespace Go.Proofs.Ytabmhoiaeeneiaa.Chk
open Go.RowKit Go.Sort Go.Proofs.Ytabmhoiaeeneiaa.Mod Go.Proofs.Ytabmhoiaeeneiaa.Num
set_option linter.unusedVariables false
set_option linter.unusedSimpArgs false

set_option maxHeartbeats 1000000 in
theorem row_no (s : ByteArray) (hx : s.size ≤ maxLen) (h : chunks s.data.toList = none) (w : World) :
    Calls Try.prog 4 #[.string s] w fun e w' => e = .returned (.bool true) ∧ Bel w w' := by
  have C1 : Hid (∀ w, Calls Try.prog 8 #[.string s] w fun e w' => (∃ ao cap, e = .returned (.tuple #[.slice ao 0 cap, .int .i64 2000]) ∧ OwnC w' w.heap.size w'.heap.size (.slice ao 0 cap) []) ∧ Bel w w') := fun w => by have := chunks_c s _ rfl hx w; rw [h] at this; exact this
  unfold maxLen at hx
  clear h
  go_enter Try.func4, Try.ntmps4
  go_wp2_with fail
  refine (awake_ok _).mono ?_
  rintro e w0 ⟨rfl, b0⟩
  have B0 : Hid (Bel w w0) := b0
  clear b0
  go_wp2_with fail
  refine (C1.out _).mono ?_
  rintro e w1 ⟨⟨ao, cap, rfl, o1⟩, b1⟩
  have B1 : Hid (Bel w w1) := B0.out.trans b1
  clear o1 b1
  go_wp2
  go_ret
  exact ⟨rfl, B1.out⟩

theorem stop_succ (L : List UInt8) : ∀ k p, stop L (k + 1) p = nxt L (stop L k p)
  | 0, _ => rfl
  | k + 1, p => stop_succ L k (nxt L p)
theorem chain_at (L : List UInt8) : ∀ (k : Nat) (cs : List Ch) (p : Nat), chain L p cs → k < cs.length → cs.getD k ch0 = at8 L (stop L k p) ∧ nxt L (stop L k p) ≤ L.length
  | 0, c :: r, p, ⟨h1, h2, _⟩, _ => ⟨h1, h2⟩
  | k + 1, c :: r, p, ⟨_, _, h3⟩, hk => by
    have := chain_at L k r (nxt L p) h3 (by simpa using hk)
    exact this
  | _, [], _, _, hk => by simp at hk
theorem chain_end (L : List UInt8) : ∀ (cs : List Ch) (p : Nat), chain L p cs → stop L cs.length p = L.length
  | [], _, h => h
  | c :: r, p, ⟨_, _, h3⟩ => chain_end L r (nxt L p) h3

set_option maxHeartbeats 2000000 in
theorem row_yes (s : ByteArray) (hx : s.size ≤ maxLen) (A : List Ch) (h : chunks s.data.toList = some A) (w : World) :
    Calls Try.prog 4 #[.string s] w fun e w' => e = .returned (.bool true) ∧ Bel w w' := by
  have C1 : Hid (∀ w, Calls Try.prog 8 #[.string s] w fun e w' => (∃ ao cap, e = .returned (.tuple #[.slice ao A.length cap, .int .i64 0]) ∧ OwnC w' w.heap.size w'.heap.size (.slice ao A.length cap) A) ∧ Bel w w') := fun w => by have := chunks_c s _ rfl hx w; rw [h] at this; exact this
  obtain ⟨hw, hc, h64⟩ := chunks_chain h
  have HL : Hid (s.size = s.data.toList.length) := size_len s _ rfl
  have hle : s.size ≤ 4096 := by
    rw [isWav_eq, Bool.and_eq_true, decide_eq_true_eq] at hw
    rw [HL.out]; exact hw.1
  have HA : Hid (∀ k, k < A.length → A.getD k ch0 = at8 s.data.toList (stop s.data.toList k 12) ∧ nxt s.data.toList (stop s.data.toList k 12) ≤ s.data.toList.length) := fun k hk => chain_at _ k A 12 hc hk
  have HE : Hid (stop s.data.toList A.length 12 = s.data.toList.length) := chain_end _ A 12 hc
  have X : Hid (∀ p : Nat, s.extract p (p + 4) = tx (cid s.data.toList p)) := fun p => ba_eq (by rw [ext_mid, show p + 4 - p = 4 by omega]; rfl)
  clear h hw hc hx
  obtain ⟨n, hn⟩ : ∃ n, A.length = n := ⟨_, rfl⟩
  rw [hn] at C1 h64 HA HE
  have HN : Hid (A.length = n) := hn
  clear hn
  generalize s.data.toList = L at *
  go_enter Try.func4, Try.ntmps4
  go_wp2_with fail
  refine (awake_ok _).mono ?_
  rintro e w0 ⟨rfl, b0⟩
  have B0 : Hid (Bel w w0) := b0
  clear b0
  go_wp2_with fail
  refine (C1.out _).mono ?_
  rintro e w1 ⟨⟨ao, cap, rfl, o1⟩, b1⟩
  have B1 : Hid (Bel w w1) := B0.out.trans b1
  have S1 : Hid (Slk w1 ao A) := o1.slk
  clear o1 b1
  go_wp2
  go_loopw [5, 6] (fun a i wr => ∃ (p j : Nat), j ≤ n ∧ p ≤ 4096 ∧ a = .int .i64 p ∧ i = .int .i64 j ∧ Hid (stop L j 12 = p) ∧ Hid (∃ q, wr = w1.drewN q)) (fun _ i _ => n - (intOf i).toNat)
  case atStart => exact ⟨12, 0, Nat.zero_le _, by omega, rfl, rfl, rfl, ⟨0, rfl⟩⟩
  case round =>
    obtain ⟨p, j, hj, hp, rfl, rfl, hs, hw⟩ := hrel
    by_cases hlt : j < n
    · obtain ⟨g, rfl, f0, f1, f2⟩ := S1.out j (by rw [HN.out]; exact hlt)
      obtain ⟨ea, el⟩ := HA.out j hlt
      rw [hs.out] at ea el
      rw [ea] at f0 f1 f2
      have k8 : csz L p ≤ 4294967295 := csz_le L p
      have ex : nxt L p = p + 8 + csz L p + csz L p % 2 := by unfold nxt whole; omega
      have XP : s.extract p (p + 4) = tx (cid L p) := X.out p
      rw [← HL.out] at el
      have c0 : wr.cell? ⟨g, j * 3, none⟩ = some (.string (tx (cid L p))) := by obtain ⟨q, rfl⟩ := hw.out; exact f0
      have c1 : wr.cell? ⟨g, j * 3 + 1, none⟩ = some (.int .i64 ((p : Int) + 8)) := by obtain ⟨q, rfl⟩ := hw.out; exact f1
      have c2 : wr.cell? ⟨g, j * 3 + 2, none⟩ = some (.int .i64 ((csz L p : Nat) : Int)) := by obtain ⟨q, rfl⟩ := hw.out; exact f2
      have NS : Hid (stop L (j + 1) 12 = nxt L p) := (stop_succ L j 12).trans (by rw [hs.out])
      have XQ : Hid (((p : Int) + 8 + ((csz L p : Nat) : Int) + ((csz L p : Nat) : Int) % 2) = ((nxt L p : Nat) : Int)) := (by rw [ex]; omega : _ = _)
      have y2 : nxt L p ≤ 4096 := by omega
      have g1 : decide (((s.size : Int) - (p : Int) - 8) < ((csz L p : Nat) : Int)) = false := decide_eq_false (by omega)
      have g2 : decide (((csz L p : Nat) : Int) < 0) = false := decide_eq_false (by omega)
      have z1 : p + 4 ≤ s.size := by omega
      have z2 : decide (s.size < p + 4) = false := decide_eq_false (by omega)
      have z3 : decide ((s.size : Int) < (p : Int) + 4) = false := decide_eq_false (by omega)
      have hd : decide ((j : Int) < (n : Int)) = true := decide_eq_true (by omega)
      clear ea el f0 f1 f2 ex hs
      generalize nxt L p = y at *
      generalize csz L p = k at *
      generalize cid L p = l at *
      go_wp2
      go_quiet (fail)
      go_wp2
      go_quiet (fail)
      go_wp2
      rw [XQ.out]
      go_roundw
      case rel => exact ⟨y, j + 1, by omega, y2, by go_num, by go_num, NS.out, (by obtain ⟨q, e⟩ := hw.out; exact ⟨_, by rw [e, World.drewN_drewN]⟩ : ∃ q, _ = w1.drewN q)⟩
      case measure => simp [intOf]; omega
    · obtain rfl : j = n := by omega
      have hd : decide ((j : Int) < (j : Int)) = false := decide_eq_false (by omega)
      have hq : p = s.size := by rw [← hs.out, HE.out, HL.out]
      subst hq
      go_wp2
      go_ret
      exact ⟨rfl, by obtain ⟨q, e⟩ := hw.out; rw [e]; exact B1.out.drewN q⟩

theorem row_walk (s : ByteArray) (hx : s.size ≤ maxLen) (w : World) :
    Calls Try.prog 4 #[.string s] w fun e w' => e = .returned (.bool true) ∧ Bel w w' := by
  cases h : chunks s.data.toList with
  | none => exact row_no s hx h w
  | some A => exact row_yes s hx A h w

end Go.Proofs.Ytabmhoiaeeneiaa.Chk
