/- What takeWord of package octet answers. Conditions: at least four bytes stand there. -/
import Derived.Test.YtmjlionimgfanaaWord
namespace Go.Proofs.Ytmjlionimgfanaa
open Go.RowKit
theorem or_up (i a c : Nat) (ha : a < 2 ^ i) (hc : c < 256) (hi : i + 8 ≤ 32) : bits .or .u32 (a : Int) ((c * 2 ^ i : Nat) : Int) = ((a + c * 2 ^ i : Nat) : Int) := by
  have h1 : c * 2 ^ i < 2 ^ (i + 8) := by rw [Nat.pow_add, Nat.mul_comm]; exact Nat.mul_lt_mul_of_pos_left hc (Nat.two_pow_pos i)
  have h2 : (2 : Nat) ^ (i + 8) ≤ 2 ^ 32 := Nat.pow_le_pow_right (by omega) hi
  have h3 : (2 : Nat) ^ i ≤ 2 ^ (i + 8) := Nat.pow_le_pow_right (by omega) (by omega)
  rw [u32_or_nat _ _ (by omega) (by omega), Nat.or_comm, Nat.mul_comm, ← Nat.two_pow_add_eq_or_of_lt ha, Nat.add_comm]
end Go.Proofs.Ytmjlionimgfanaa
