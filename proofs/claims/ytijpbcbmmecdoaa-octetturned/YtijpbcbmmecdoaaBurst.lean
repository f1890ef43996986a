/- Plain facts on sums: the register's step is linear and takes only nought to nought; so bits that are turned within 32 bits change the sum. No condition but that the rows are of one length. -/
import Derived.Test.YtijpbcbmmecdoaaMath
namespace Go.Proofs.Ytijpbcbmmecdoaa
open Go.RowKit

theorem xor_half (x y : Nat) : (x ^^^ y) / 2 = x / 2 ^^^ y / 2 := by
  have := Nat.shiftRight_xor_distrib (a := x) (b := y) (i := 1)
  simpa [Nat.shiftRight_eq_div_pow] using this
theorem xor_odd (x y : Nat) : (x ^^^ y) % 2 = 1 ↔ ¬ (x % 2 = 1 ↔ y % 2 = 1) := Nat.xor_mod_two_eq_one
theorem crcStep_xor (x y : Nat) : crcStep (x ^^^ y) = crcStep x ^^^ crcStep y := by
  unfold crcStep
  rw [xor_half]
  by_cases hx : x % 2 = 1
  · by_cases hy : y % 2 = 1
    · rw [if_neg (by rw [xor_odd]; simp [hx, hy]), if_pos hx, if_pos hy, Nat.xor_assoc, Nat.xor_comm 3988292384, Nat.xor_assoc, Nat.xor_self, Nat.xor_zero]
    · rw [if_pos (by rw [xor_odd]; simp [hx, hy]), if_pos hx, if_neg hy, Nat.xor_assoc, Nat.xor_assoc, Nat.xor_comm 3988292384]
  · by_cases hy : y % 2 = 1
    · rw [if_pos (by rw [xor_odd]; simp [hx, hy]), if_neg hx, if_pos hy, Nat.xor_assoc]
    · rw [if_neg (by rw [xor_odd]; simp [hx, hy]), if_neg hx, if_neg hy]
theorem crcSteps_xor (n x y : Nat) : crcSteps n (x ^^^ y) = crcSteps n x ^^^ crcSteps n y := by
  induction n generalizing x y with
  | zero => rfl
  | succ n ih => show crcSteps n (crcStep (x ^^^ y)) = _; rw [crcStep_xor, ih]; rfl
theorem crcSteps_add (m n x : Nat) : crcSteps (m + n) x = crcSteps n (crcSteps m x) := by
  induction m generalizing x with
  | zero => rw [Nat.zero_add]; rfl
  | succ m ih => rw [show m + 1 + n = (m + n) + 1 from by omega]; exact ih (crcStep x)
theorem crcStep_even (y : Nat) : crcStep (y <<< 1) = y := by
  have e : y <<< 1 = 2 * y := by rw [Nat.shiftLeft_eq]; omega
  unfold crcStep
  rw [e, if_neg (by omega)]; omega
theorem crcSteps_shift (f q : Nat) : crcSteps f (q <<< f) = q := by
  induction f generalizing q with
  | zero => rfl
  | succ f ih =>
    have e : q <<< (f + 1) = (q <<< f) <<< 1 := by rw [← Nat.shiftLeft_add]
    show crcSteps f (crcStep (q <<< (f + 1))) = q
    rw [e, crcStep_even, ih]
theorem crcStep_zero (x : Nat) (hx : x < 4294967296) (h : crcStep x = 0) : x = 0 := by
  unfold crcStep at h
  split at h
  · have h2 : x / 2 = 3988292384 := by
      have := congrArg (fun z => z ^^^ 3988292384) h
      simpa [Nat.xor_assoc] using this
    omega
  · omega
theorem crcSteps_zero (n x : Nat) (hx : x < 4294967296) (h : crcSteps n x = 0) : x = 0 := by
  induction n generalizing x with
  | zero => exact h
  | succ n ih => exact crcStep_zero x hx (ih (crcStep x) (crcStep_lt hx) h)
theorem crcSteps_of_zero (n : Nat) : crcSteps n 0 = 0 := by
  induction n with
  | zero => rfl
  | succ n ih => exact ih
/-- A row of bytes as one number, the first byte lowest. -/
def numL : List UInt8 → Nat
  | [] => 0
  | c :: l => c.toNat ^^^ (numL l <<< 8)
theorem crcRow_num (x : Nat) (l : List UInt8) : crcRow x l = crcSteps (8 * l.length) (x ^^^ numL l) := by
  induction l generalizing x with
  | nil => show x = x ^^^ 0; rw [Nat.xor_zero]
  | cons c l ih =>
    show crcRow (crcByte (x ^^^ c.toNat)) l = _
    rw [ih, List.length_cons, show 8 * (l.length + 1) = 8 + 8 * l.length from by omega, crcSteps_add]
    congr 1
    show _ = crcSteps 8 (x ^^^ (c.toNat ^^^ (numL l <<< 8)))
    rw [← Nat.xor_assoc, crcSteps_xor, crcSteps_shift]; rfl
/-- Bits that are turned within 32 bits one beside another change the sum. -/
theorem burst (b c : List UInt8) (q f : Nat) (hl : c.length = b.length) (hf : f ≤ 8 * b.length) (hq : q < 4294967296) (h : numL c = numL b ^^^ (q <<< f)) : crcAll b = crcAll c ↔ q = 0 := by
  have hb := crcRow_lt b (x := 4294967295) (by omega)
  have hc := crcRow_lt c (x := 4294967295) (by omega)
  have e : crcRow 4294967295 c = crcRow 4294967295 b ^^^ crcSteps (8 * b.length - f) q := by
    rw [crcRow_num, crcRow_num, hl, h, ← Nat.xor_assoc, crcSteps_xor]
    congr 1
    rw [show 8 * b.length = f + (8 * b.length - f) from by omega, crcSteps_add, crcSteps_shift]
    congr 1; omega
  constructor
  · intro h2
    have h3 : crcRow 4294967295 b = crcRow 4294967295 c := by unfold crcAll at h2; omega
    rw [e] at h3
    have h4 : crcSteps (8 * b.length - f) q = 0 := by
      have := congrArg (fun z => crcRow 4294967295 b ^^^ z) h3
      simp only [Nat.xor_self] at this
      rw [← Nat.xor_assoc, Nat.xor_self, Nat.zero_xor] at this
      exact this.symm
    exact crcSteps_zero _ q hq h4
  · intro h2
    rw [h2, crcSteps_of_zero, Nat.xor_zero] at e
    unfold crcAll; rw [e]
theorem numL_set (l : List UInt8) (j t : Nat) (hj : j < l.length) (v : UInt8) (hv : v.toNat = l[j].toNat ^^^ 2 ^ t) : numL (l.set j v) = numL l ^^^ (1 <<< (8 * j + t)) := by
  induction l generalizing j with
  | nil => simp at hj
  | cons c l ih =>
    cases j with
    | zero =>
      have hv' : v.toNat = c.toNat ^^^ 2 ^ t := hv
      show v.toNat ^^^ (numL l <<< 8) = (c.toNat ^^^ (numL l <<< 8)) ^^^ _
      rw [hv', Nat.mul_zero, Nat.zero_add, show 1 <<< t = 2 ^ t from by rw [Nat.shiftLeft_eq, Nat.one_mul], Nat.xor_assoc, Nat.xor_assoc, Nat.xor_comm (2 ^ t)]
    | succ j =>
      have hj' : j < l.length := by simpa using hj
      have := ih j hj' hv
      show c.toNat ^^^ (numL (l.set j v) <<< 8) = (c.toNat ^^^ (numL l <<< 8)) ^^^ _
      rw [this, Nat.shiftLeft_xor_distrib, ← Nat.xor_assoc, ← Nat.shiftLeft_add]
      congr 2; omega
/-- One bit more of a pattern. -/
theorem mod_next (p i f : Nat) (hb : p / 2 ^ i % 2 = 1) : (p % 2 ^ (i + 1)) <<< f = ((p % 2 ^ i) <<< f) ^^^ (1 <<< (f + i)) := by
  rw [Nat.mod_pow_succ, hb, Nat.mul_one]
  have hlt : p % 2 ^ i < 2 ^ i := Nat.mod_lt _ (Nat.two_pow_pos i)
  have e : p % 2 ^ i + 2 ^ i = p % 2 ^ i ^^^ 2 ^ i := by
    have h1 := Nat.two_pow_add_eq_or_of_lt hlt 1
    rw [Nat.mul_one] at h1
    rw [Nat.add_comm, h1]
    apply Nat.eq_of_testBit_eq
    intro k
    rw [Nat.testBit_or, Nat.testBit_xor, Nat.testBit_two_pow]
    by_cases hk : i = k
    · subst hk; simp [Nat.testBit_lt_two_pow hlt]
    · simp [hk]
  rw [e, Nat.shiftLeft_xor_distrib]
  congr 1
  rw [Nat.shiftLeft_eq, Nat.shiftLeft_eq, Nat.one_mul, ← Nat.pow_add, Nat.add_comm]
theorem mod_same (p i : Nat) (hb : p / 2 ^ i % 2 = 0) : p % 2 ^ (i + 1) = p % 2 ^ i := by rw [Nat.mod_pow_succ, hb]; simp
theorem mod_pos (p i : Nat) (hb : p / 2 ^ i % 2 = 1) : p % 2 ^ (i + 1) ≠ 0 := by
  rw [Nat.mod_pow_succ, hb]
  have := Nat.two_pow_pos i
  omega
end Go.Proofs.Ytijpbcbmmecdoaa
