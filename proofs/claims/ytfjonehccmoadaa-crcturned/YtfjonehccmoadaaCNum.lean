/-
  Plain facts on the sum of a text's bytes: its step, that a step keeps what is turned (it is linear) and loses nothing (it is one to one), texts turned by texts, four bytes that are turned. No condition.
-/
import Derived.WalkKit
import Derived.Laws.BytesArg
import Derived.Laws.BitsAllLaws
namespace Go.Proofs.Ytfjonehccmoadaa.Crc

/-- One bit. -/
def step (x : Nat) : Nat := (x / 2) ^^^ (if x % 2 = 1 then 3988292384 else 0)

def steps : Nat → Nat → Nat
  | 0, x => x
  | k + 1, x => step (steps k x)

/-- One byte. -/
def byte (x b : Nat) : Nat := steps 8 (x ^^^ b)

/-- A row of bytes. -/
def run (x : Nat) : List UInt8 → Nat
  | [] => x
  | b :: r => run (byte x b.toNat) r

/-- The sum. -/
def crc (l : List UInt8) : Nat := run 4294967295 l ^^^ 4294967295

theorem step_odd (x : Nat) (h : x % 2 = 1) : step x = (x / 2) ^^^ 3988292384 := by rw [step, if_pos h]
theorem step_even (x : Nat) (h : x % 2 = 0) : step x = x / 2 := by rw [step, if_neg (by omega), Nat.xor_zero]

theorem step_lt (x : Nat) (h : x < 4294967296) : step x < 4294967296 := by
  rcases Nat.mod_two_eq_zero_or_one x with e | e
  · rw [step_even x e]; omega
  · rw [step_odd x e]
    exact Nat.xor_lt_two_pow (n := 32) (by omega) (by omega)

theorem steps_lt : ∀ (k x : Nat), x < 4294967296 → steps k x < 4294967296
  | 0, _, h => h
  | k + 1, x, h => step_lt _ (steps_lt k x h)

theorem xor_lt (x y : Nat) (hx : x < 4294967296) (hy : y < 4294967296) : x ^^^ y < 4294967296 := Nat.xor_lt_two_pow (n := 32) hx hy

theorem byte_lt (x b : Nat) (hx : x < 4294967296) (hb : b < 256) : byte x b < 4294967296 := steps_lt 8 _ (xor_lt x b hx (by omega))

theorem run_lt : ∀ (l : List UInt8) (x : Nat), x < 4294967296 → run x l < 4294967296
  | [], _, h => h
  | b :: r, x, h => run_lt r _ (byte_lt x b.toNat h b.toNat_lt)

theorem crc_lt (l : List UInt8) : crc l < 4294967296 := xor_lt _ _ (run_lt l _ (by decide)) (by decide)

theorem run_append : ∀ (l m : List UInt8) (x : Nat), run x (l ++ m) = run (run x l) m
  | [], _, _ => rfl
  | b :: r, m, x => by simp only [List.cons_append, run]; exact run_append r m _

theorem xor_zero_eq {a b : Nat} (h : a ^^^ b = 0) : a = b := by
  have h2 : (a ^^^ b) ^^^ b = 0 ^^^ b := by rw [h]
  simpa [Nat.xor_assoc] using h2

theorem xor_two (x y : Nat) : (x ^^^ y) % 2 = (x + y) % 2 := by
  have h : (x ^^^ y) % 2 ^ 1 = (x % 2 ^ 1) ^^^ (y % 2 ^ 1) := Nat.xor_mod_two_pow
  simp only [Nat.pow_one] at h
  have d00 : (0 : Nat) ^^^ 0 = 0 := by decide
  have d01 : (0 : Nat) ^^^ 1 = 1 := by decide
  have d10 : (1 : Nat) ^^^ 0 = 1 := by decide
  have d11 : (1 : Nat) ^^^ 1 = 0 := by decide
  rcases Nat.mod_two_eq_zero_or_one x with ex | ex <;> rcases Nat.mod_two_eq_zero_or_one y with ey | ey <;> rw [ex, ey] at h
  · rw [d00] at h; omega
  · rw [d01] at h; omega
  · rw [d10] at h; omega
  · rw [d11] at h; omega

theorem step_xor (x y : Nat) : step (x ^^^ y) = step x ^^^ step y := by
  have hd : (x ^^^ y) / 2 = x / 2 ^^^ y / 2 := Nat.xor_div_two
  have hm : (x ^^^ y) % 2 = (x + y) % 2 := xor_two x y
  rcases Nat.mod_two_eq_zero_or_one x with ex | ex <;> rcases Nat.mod_two_eq_zero_or_one y with ey | ey
  · rw [step_even x ex, step_even y ey, step_even _ (by omega), hd]
  · rw [step_even x ex, step_odd y ey, step_odd _ (by omega), hd, Nat.xor_assoc]
  · rw [step_odd x ex, step_even y ey, step_odd _ (by omega), hd, Nat.xor_assoc, Nat.xor_assoc, Nat.xor_comm (y / 2)]
  · rw [step_odd x ex, step_odd y ey, step_even _ (by omega), hd]
    rw [Nat.xor_assoc, Nat.xor_comm (y / 2), ← Nat.xor_assoc 3988292384, Nat.xor_self, Nat.zero_xor]

theorem steps_xor : ∀ (k x y : Nat), steps k (x ^^^ y) = steps k x ^^^ steps k y
  | 0, _, _ => rfl
  | k + 1, x, y => by simp only [steps, steps_xor k, step_xor]

theorem step_zero (x : Nat) (h : x < 4294967296) (e : step x = 0) : x = 0 := by
  rcases Nat.mod_two_eq_zero_or_one x with ex | ex
  · rw [step_even x ex] at e; omega
  · rw [step_odd x ex] at e
    have := xor_zero_eq e
    omega

theorem steps_zero : ∀ (k x : Nat), x < 4294967296 → steps k x = 0 → x = 0
  | 0, _, _, e => e
  | k + 1, x, h, e => steps_zero k x h (step_zero _ (steps_lt k x h) e)

theorem steps_one (k x y : Nat) (hx : x < 4294967296) (hy : y < 4294967296) (e : steps k x = steps k y) : x = y := by
  have h : steps k (x ^^^ y) = 0 := by rw [steps_xor, e, Nat.xor_self]
  exact xor_zero_eq (steps_zero k _ (xor_lt x y hx hy) h)

theorem step_double (y : Nat) : step (2 * y) = y := by rw [step_even _ (by omega)]; omega

theorem steps_eight (y : Nat) : steps 8 (256 * y) = y := by
  have h : ∀ k z, steps k (2 ^ k * z) = z := by
    intro k
    induction k with
    | zero => intro z; simp [steps]
    | succ k ih =>
      intro z
      have e : 2 ^ (k + 1) * z = 2 ^ k * (2 * z) := by rw [Nat.pow_succ, Nat.mul_assoc]
      rw [steps, e, ih, step_double]
  exact h 8 y

theorem byte_xor (x y a b : Nat) : byte (x ^^^ y) (a ^^^ b) = byte x a ^^^ byte y b := by
  rw [byte, byte, byte, ← steps_xor]
  congr 1
  rw [Nat.xor_assoc, Nat.xor_assoc, ← Nat.xor_assoc y, Nat.xor_comm y a, Nat.xor_assoc a]

theorem byte_one (x y b : Nat) (hx : x < 4294967296) (hy : y < 4294967296) (hb : b < 256) (e : byte x b = byte y b) : x = y := by
  have h := steps_one 8 _ _ (xor_lt x b hx (by omega)) (xor_lt y b hy (by omega)) e
  have h2 : (x ^^^ b) ^^^ b = (y ^^^ b) ^^^ b := by rw [h]
  simpa [Nat.xor_assoc] using h2

theorem run_one : ∀ (l : List UInt8) (x y : Nat), x < 4294967296 → y < 4294967296 → run x l = run y l → x = y
  | [], _, _, _, _, e => e
  | b :: r, x, y, hx, hy, e => byte_one x y b.toNat hx hy b.toNat_lt (run_one r _ _ (byte_lt x _ hx b.toNat_lt) (byte_lt y _ hy b.toNat_lt) e)

theorem crc_same (l m : List UInt8) : crc l = crc m ↔ run 4294967295 l = run 4294967295 m := by
  constructor
  · intro h
    have h2 : (run 4294967295 l ^^^ 4294967295) ^^^ 4294967295 = (run 4294967295 m ^^^ 4294967295) ^^^ 4294967295 := by
      show crc l ^^^ _ = crc m ^^^ _; rw [h]
    simpa [Nat.xor_assoc] using h2
  · intro h; rw [crc, crc, h]

/-- Two texts of one sum go on alike, of two they do not. -/
theorem crc_more (l m r : List UInt8) : crc l = crc m ↔ crc (l ++ r) = crc (m ++ r) := by
  rw [crc_same, crc_same, run_append, run_append]
  constructor
  · intro h; rw [h]
  · intro h; exact run_one r _ _ (run_lt l _ (by decide)) (run_lt m _ (by decide)) h

/-- A text turned by another, byte by byte. -/
def turn : List UInt8 → List UInt8 → List UInt8
  | a :: r, b :: q => (a ^^^ b) :: turn r q
  | _, _ => []

theorem turn_length : ∀ (l m : List UInt8), l.length = m.length → (turn l m).length = l.length
  | [], _, _ => rfl
  | _ :: _, [], h => by simp at h
  | a :: r, b :: q, h => by simp only [turn, List.length_cons]; rw [turn_length r q (by simpa using h)]

theorem run_turn : ∀ (l m : List UInt8) (x y : Nat), l.length = m.length → run (x ^^^ y) (turn l m) = run x l ^^^ run y m
  | [], [], _, _, _ => rfl
  | [], _ :: _, _, _, h => by simp at h
  | _ :: _, [], _, _, h => by simp at h
  | a :: r, b :: q, x, y, h => by
    simp only [turn, run, UInt8.toNat_xor, byte_xor]
    exact run_turn r q _ _ (by simpa using h)

theorem crc_turn3 (l m n : List UInt8) (h1 : l.length = m.length) (h2 : l.length = n.length) : crc (turn (turn l m) n) = (crc l ^^^ crc m) ^^^ crc n := by
  have e : (4294967295 : Nat) = (4294967295 ^^^ 4294967295) ^^^ 4294967295 := by decide
  have k : run 4294967295 (turn (turn l m) n) = (run 4294967295 l ^^^ run 4294967295 m) ^^^ run 4294967295 n := by
    rw [← run_turn l m _ _ h1, ← run_turn _ n _ _ (by rw [turn_length l m h1]; exact h2)]
    congr 1
  rw [crc, crc, crc, crc, k]
  generalize run 4294967295 l = a
  generalize run 4294967295 m = b
  generalize run 4294967295 n = c
  have q : ∀ o : Nat, (a ^^^ b ^^^ c) ^^^ o = ((a ^^^ o) ^^^ (b ^^^ o)) ^^^ (c ^^^ o) := by
    intro o
    apply Nat.eq_of_testBit_eq
    intro i
    simp only [Nat.testBit_xor]
    cases a.testBit i <;> cases b.testBit i <;> cases c.testBit i <;> cases o.testBit i <;> rfl
  exact q _

/-- Four bytes that are not all 0 leave something. -/
theorem four_some (a b c d : Nat) (ha : a < 256) (hb : b < 256) (hc : c < 256) (hd : d < 256) (h : byte (byte (byte (byte 0 a) b) c) d = 0) : a = 0 ∧ b = 0 ∧ c = 0 ∧ d = 0 := by
  have z : ∀ x y v : Nat, x < 4294967296 → y < 256 → v < 16777216 → byte x y = v → x = y ^^^ 256 * v := by
    intro x y v hx hy hv e
    have e2 : steps 8 (x ^^^ y) = steps 8 (256 * v) := by rw [steps_eight]; exact e
    have e3 := steps_one 8 _ _ (xor_lt x y hx (by omega)) (by omega) e2
    have e4 : (x ^^^ y) ^^^ y = (256 * v) ^^^ y := by rw [e3]
    rw [Nat.xor_comm (256 * v) y] at e4
    simpa [Nat.xor_assoc] using e4
  have l1 := byte_lt 0 a (by decide) ha
  have l2 := byte_lt _ b l1 hb
  have l3 := byte_lt _ c l2 hc
  have e3 := z _ d 0 l3 hd (by decide) h
  rw [Nat.mul_zero, Nat.xor_zero] at e3
  have e2 := z _ c d l2 hc (by omega) e3
  have m2 : c ^^^ 256 * d < 65536 := Nat.xor_lt_two_pow (n := 16) (by omega) (by omega)
  have e1 := z _ b _ l1 hb (by omega) e2
  have m1 : b ^^^ 256 * (c ^^^ 256 * d) < 16777216 := Nat.xor_lt_two_pow (n := 24) (by omega) (by omega)
  have e0 := z 0 a _ (by decide) ha m1 e1
  have k0 := xor_zero_eq e0.symm
  have a0 : a = 0 := by omega
  have k1 := xor_zero_eq (show b ^^^ 256 * (c ^^^ 256 * d) = 0 by omega)
  have b0 : b = 0 := by omega
  have k2 := xor_zero_eq (show c ^^^ 256 * d = 0 by omega)
  exact ⟨a0, b0, by omega, by omega⟩

theorem turn_append : ∀ (l m p q : List UInt8), l.length = m.length → turn (l ++ p) (m ++ q) = turn l m ++ turn p q
  | [], [], _, _, _ => rfl
  | [], _ :: _, _, _, h => by simp at h
  | _ :: _, [], _, _, h => by simp at h
  | a :: r, b :: s, p, q, h => by simp only [List.cons_append, turn]; rw [turn_append r s p q (by simpa using h)]

/-- Four bytes turned, somewhere in a text. -/
theorem crc_burst (p q : List UInt8) (s0 s1 s2 s3 a b c d : UInt8) (h : ¬ (a = 0 ∧ b = 0 ∧ c = 0 ∧ d = 0)) :
    crc (p ++ (s0 ^^^ a) :: (s1 ^^^ b) :: (s2 ^^^ c) :: (s3 ^^^ d) :: q) ≠ crc (p ++ s0 :: s1 :: s2 :: s3 :: q) := by
  intro e
  apply h
  rw [crc_same, run_append, run_append] at e
  simp only [run] at e
  have lp := run_lt p 4294967295 (by decide)
  generalize run 4294967295 p = x at e lp
  have hb : ∀ (y : Nat) (s : UInt8), y < 4294967296 → byte y s.toNat < 4294967296 := fun y s hy => byte_lt y _ hy s.toNat_lt
  have e2 := run_one q _ _ (hb _ _ (hb _ _ (hb _ _ (hb _ _ lp)))) (hb _ _ (hb _ _ (hb _ _ (hb _ _ lp)))) e
  have ex : ∀ (y v : Nat) (s t : UInt8), byte (y ^^^ v) (s ^^^ t).toNat = byte y s.toNat ^^^ byte v t.toNat := fun y v s t => by rw [UInt8.toNat_xor, byte_xor]
  have e0 : byte x (s0 ^^^ a).toNat = byte x s0.toNat ^^^ byte 0 a.toNat := by
    have := ex x 0 s0 a
    rwa [Nat.xor_zero] at this
  rw [e0, ex, ex, ex] at e2
  have z : byte (byte (byte (byte 0 a.toNat) b.toNat) c.toNat) d.toNat = 0 := by
    have := congrArg (fun v => byte (byte (byte (byte x s0.toNat) s1.toNat) s2.toNat) s3.toNat ^^^ v) e2
    simpa [← Nat.xor_assoc] using this
  have f := four_some _ _ _ _ a.toNat_lt b.toNat_lt c.toNat_lt d.toNat_lt z
  exact ⟨UInt8.toNat_inj.1 f.1, UInt8.toNat_inj.1 f.2.1, UInt8.toNat_inj.1 f.2.2.1, UInt8.toNat_inj.1 f.2.2.2⟩

end Go.Proofs.Ytfjonehccmoadaa.Crc
