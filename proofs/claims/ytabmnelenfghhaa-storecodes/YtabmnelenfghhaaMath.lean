/- Plain facts on sums of bytes: the register's step, a byte, a row of bytes, as functions on natural numbers. No condition. -/
import Derived.WalkKit
import Derived.Laws.BitsAllLaws
namespace Go.Proofs.Ytabmnelenfghhaa
open Go.RowKit

/-- One bit of the register. -/
def crcStep (x : Nat) : Nat := if x % 2 = 1 then (x / 2) ^^^ 3988292384 else x / 2
def crcSteps : Nat → Nat → Nat
  | 0, x => x
  | n + 1, x => crcSteps n (crcStep x)
/-- A byte. -/
def crcByte (x : Nat) : Nat := crcSteps 8 x
/-- A row of bytes. -/
def crcRow (x : Nat) (l : List UInt8) : Nat := l.foldl (fun r c => crcByte (r ^^^ c.toNat)) x
def crcAll (l : List UInt8) : Nat := 4294967295 - crcRow 4294967295 l

theorem crcStep_lt {x : Nat} (h : x < 4294967296) : crcStep x < 4294967296 := by
  unfold crcStep
  split
  · exact Nat.xor_lt_two_pow (n := 32) (by omega) (by omega)
  · omega
theorem crcSteps_lt (n : Nat) {x : Nat} (h : x < 4294967296) : crcSteps n x < 4294967296 := by
  induction n generalizing x with
  | zero => exact h
  | succ n ih => exact ih (crcStep_lt h)
theorem crcSteps_snoc (n x : Nat) : crcSteps (n + 1) x = crcStep (crcSteps n x) := by
  induction n generalizing x with
  | zero => rfl
  | succ n ih => exact ih (crcStep x)
theorem crcByte_lt {x : Nat} (h : x < 4294967296) : crcByte x < 4294967296 := crcSteps_lt 8 h
theorem xor_byte_lt {x : Nat} (h : x < 4294967296) (c : UInt8) : x ^^^ c.toNat < 4294967296 :=
  Nat.xor_lt_two_pow (n := 32) h (by have := c.toNat_lt; omega)
theorem crcRow_lt (l : List UInt8) {x : Nat} (h : x < 4294967296) : crcRow x l < 4294967296 := by
  induction l generalizing x with
  | nil => exact h
  | cons c l ih => exact ih (crcByte_lt (xor_byte_lt h c))
theorem crcRow_append (x : Nat) (a b : List UInt8) : crcRow x (a ++ b) = crcRow (crcRow x a) b := by simp [crcRow]
theorem crcRow_take (x : Nat) (l : List UInt8) (k : Nat) (h : k < l.length) : crcRow x (l.take (k + 1)) = crcByte (crcRow x (l.take k) ^^^ l[k].toNat) := by
  rw [List.take_succ_eq_append_getElem h, crcRow_append]; rfl
theorem crcAll_lt (l : List UInt8) : crcAll l < 4294967296 := by unfold crcAll; omega

theorem crcAll_append (a b : List UInt8) : crcAll (a ++ b) = 4294967295 - crcRow (4294967295 - crcAll a) b := by
  have := crcRow_lt a (x := 4294967295) (by omega)
  unfold crcAll
  rw [crcRow_append, show 4294967295 - (4294967295 - crcRow 4294967295 a) = crcRow 4294967295 a from by omega]
theorem crcAll_take (ls : List (List UInt8)) (k : Nat) (h : k < ls.length) (y : Nat) (hy : y = crcAll (ls.take k).flatten) :
    crcAll (ls.take (k + 1)).flatten = 4294967295 - crcRow (4294967295 - y) ls[k] := by
  rw [List.take_succ_eq_append_getElem h, List.flatten_append, crcAll_append, hy]; simp

/-- The walk's words for the register's step. -/
theorem and_one (y : Int) (h0 : 0 ≤ y) (h1 : y < 4294967296) : bits .and .u32 y 1 = y % 2 := by
  rw [u32_and y 1 h0 h1 (by omega) (by omega)]
  have : y.toNat &&& (1 : Int).toNat = y.toNat % 2 := Nat.and_one_is_mod _
  rw [this]; omega
theorem xor_poly (y : Int) (h0 : 0 ≤ y) (h1 : y < 4294967296) : bits .xor .u32 y 3988292384 = ((y.toNat ^^^ 3988292384 : Nat) : Int) := by
  rw [u32_xor y _ h0 h1 (by omega) (by omega)]; rfl

theorem nat_not32 (x : Nat) (h : x < 4294967296) : 4294967295 ^^^ x = 4294967295 - x := by
  apply Nat.eq_of_testBit_eq
  intro i
  have e : (4294967295 - x : Nat) = 2 ^ 32 - (x + 1) := by omega
  rw [e, Nat.testBit_two_pow_sub_succ (by omega), Nat.testBit_xor, show (4294967295 : Nat) = 2 ^ 32 - 1 from rfl, Nat.testBit_two_pow_sub_one]
  by_cases hi : i < 32
  · simp [hi]
  · have : x.testBit i = false := Nat.testBit_lt_two_pow (Nat.lt_of_lt_of_le h (Nat.pow_le_pow_right (n := 2) (by omega) (by omega) : 2 ^ 32 ≤ 2 ^ i))
    simp [hi, this]
/-- '^x' of a uint32. -/
theorem not_u32 (x : Int) (h0 : 0 ≤ x) (h1 : x < 4294967296) : bits .xor .u32 IntKind.u32.max x = ((4294967295 - x.toNat : Nat) : Int) := by
  have e : IntKind.u32.max = 4294967295 := by decide
  rw [e, u32_xor _ _ (by omega) (by omega) h0 h1, ← nat_not32 x.toNat (by omega)]; rfl
theorem xor_reg (y : Nat) (c : UInt8) (h : y < 4294967296) : bits .xor .u32 (y : Int) (c.toNat : Int) = ((y ^^^ c.toNat : Nat) : Int) :=
  u32_xor_nat y c.toNat h (by have := c.toNat_lt; omega)

end Go.Proofs.Ytabmnelenfghhaa
