/- Plain facts on numbers in groups of seven bits: what is laid, how long it is. No condition. -/
import Derived.Test.YtabmnelenfghhaaOwn
namespace Go.Proofs.Ytabmnelenfghhaa
open Go.RowKit

/-- The groups above the lowest, laid ahead of what stands already; f: at most so many. -/
def numHiF : Nat → Nat → List UInt8 → List UInt8
  | 0, _, acc => acc
  | f + 1, n, acc => if n = 0 then acc else numHiF f (n / 128) (UInt8.ofNat (n % 128 + 128) :: acc)
def numHi (n : Nat) (acc : List UInt8) : List UInt8 := numHiF n n acc
/-- A number's bytes. -/
def numB (n : Nat) : List UInt8 := numHi (n / 128) [UInt8.ofNat (n % 128)]

theorem numHiF_zero (f : Nat) (acc : List UInt8) : numHiF f 0 acc = acc := by cases f <;> simp [numHiF]
theorem numHiF_fuel (f g n : Nat) (acc : List UInt8) (hf : n ≤ f) (hg : n ≤ g) : numHiF f n acc = numHiF g n acc := by
  induction f generalizing g n acc with
  | zero =>
    obtain rfl : n = 0 := by omega
    rw [numHiF_zero, numHiF_zero]
  | succ f ih =>
    rcases Nat.eq_zero_or_pos n with rfl | hp
    · rw [numHiF_zero, numHiF_zero]
    · obtain ⟨g', rfl⟩ : ∃ g', g = g' + 1 := ⟨g - 1, by omega⟩
      simp only [numHiF]
      rw [if_neg (by omega), if_neg (by omega)]
      exact ih g' _ _ (by omega) (by omega)
theorem numHi_zero (acc : List UInt8) : numHi 0 acc = acc := rfl
theorem numHi_pos (n : Nat) (acc : List UInt8) (h : 0 < n) : numHi n acc = numHi (n / 128) (UInt8.ofNat (n % 128 + 128) :: acc) := by
  unfold numHi
  obtain ⟨m, rfl⟩ : ∃ m, n = m + 1 := ⟨n - 1, by omega⟩
  rw [numHiF, if_neg (by omega)]
  exact numHiF_fuel _ _ _ _ (by omega) (by omega)
theorem u64_and127 (n : Int) (h0 : 0 ≤ n) (h1 : n < 18446744073709551616) : bits .and .u64 n 127 = n % 128 := by
  rw [u64_and n 127 h0 h1 (by omega) (by omega)]
  have : n.toNat &&& (127 : Int).toNat = n.toNat % 128 := Nat.and_two_pow_sub_one_eq_mod _ 7
  rw [this]; omega
theorem u64_or128 (n : Int) (h0 : 0 ≤ n) (h1 : n < 128) : bits .or .u64 n 128 = n + 128 := by
  rw [u64_or n 128 h0 (by omega) (by omega) (by omega)]
  have e : (128 : Int).toNat = 2 ^ 7 * 1 := rfl
  rw [e, Nat.or_comm, ← Nat.two_pow_add_eq_or_of_lt (by omega)]; omega
theorem bv_num (n : Nat) (h : n < 256) : bv (UInt8.ofNat n) = .int .u8 (n : Int) := by
  unfold bv; rw [UInt8.toNat_ofNat', Nat.mod_eq_of_lt (by simpa using h)]

/-- The rounds of the loop: q is what is left, from place a on the bytes stand. -/
def NumAt (n0 q a : Nat) (acc : List UInt8) : Prop := a ≤ 9 ∧ acc.length = 10 - a ∧ q * 128 ^ (10 - a) ≤ n0 ∧ numHi q acc = numB n0
theorem NumAt.start (n0 : Nat) : NumAt n0 (n0 / 128) 9 [UInt8.ofNat (n0 % 128)] := ⟨by omega, by simp, by simp; omega, rfl⟩
theorem NumAt.room {n0 q a : Nat} {acc : List UInt8} (h : NumAt n0 q a acc) (hn : n0 < 18446744073709551616) (hq : 0 < q) : 1 ≤ a := by
  obtain ⟨h1, h2, h3, h4⟩ := h
  rcases Nat.eq_zero_or_pos a with rfl | h
  · simp at h3; omega
  · exact h
theorem NumAt.step {n0 q a : Nat} {acc : List UInt8} (h : NumAt n0 q a acc) (hn : n0 < 18446744073709551616) (hq : 0 < q) : NumAt n0 (q / 128) (a - 1) (UInt8.ofNat (q % 128 + 128) :: acc) := by
  have hr := h.room hn hq
  obtain ⟨h1, h2, h3, h4⟩ := h
  refine ⟨by omega, by simp [h2]; omega, ?_, by rw [← numHi_pos _ _ hq]; exact h4⟩
  rw [show 10 - (a - 1) = (10 - a) + 1 from by omega, Nat.pow_succ, Nat.mul_comm (128 ^ (10 - a)) 128, ← Nat.mul_assoc]
  exact Nat.le_trans (Nat.mul_le_mul_right _ (by omega)) h3
theorem NumAt.done {n0 a : Nat} {acc : List UInt8} (h : NumAt n0 0 a acc) : acc = numB n0 := by rw [← h.2.2.2, numHi_zero]
theorem numHi_len (n : Nat) (acc : List UInt8) (j : Nat) (h : n < 128 ^ j) : (numHi n acc).length ≤ acc.length + j := by
  induction j generalizing n acc with
  | zero =>
    have : n = 0 := by simpa using h
    subst this; rw [numHi_zero]; simp
  | succ j ih =>
    rcases Nat.eq_zero_or_pos n with rfl | hp
    · rw [numHi_zero]; omega
    · rw [numHi_pos _ _ hp]
      have := ih (n / 128) (UInt8.ofNat (n % 128 + 128) :: acc) (Nat.div_lt_of_lt_mul (by rw [Nat.pow_succ] at h; omega))
      simp only [List.length_cons] at this; omega
theorem numB_len (n : Nat) (h : n < 18446744073709551616) : (numB n).length ≤ 10 := by
  have := numHi_len (n / 128) [UInt8.ofNat (n % 128)] 9 (by simp; omega)
  simpa [numB] using this
/-- A cell of the row is written. -/
theorem drop_set {cs : Array Value} {a : Nat} {acc : List UInt8} {v : Value} {c : UInt8} (hs : cs.size = 10) (ha : 1 ≤ a) (ha9 : a ≤ 9) (hd : cs.toList.drop a = acc.map bv) (hv : v = bv c) :
    (cs.setIfInBounds (a - 1) v).size = 10 ∧ (cs.setIfInBounds (a - 1) v).toList.drop (a - 1) = (c :: acc).map bv := by
  refine ⟨by simp [hs], ?_⟩
  rw [Array.toList_setIfInBounds, List.drop_eq_getElem_cons (by simp [hs]; omega)]
  simp only [List.getElem_set_self, List.map_cons, hv]
  congr 1
  rw [show a - 1 + 1 = a from by omega, ← hd, List.drop_set_of_lt (by omega)]
end Go.Proofs.Ytabmnelenfghhaa
