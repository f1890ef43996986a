/- Plain facts on frames with turned bits and on beginnings of frames. Conditions: the data are at most MaxText bytes. -/
import Derived.Test.YtijpbcbmmecdoaaBursts
import Derived.Test.YtijpbcbmmecdoaaUnframe
namespace Go.Proofs.Ytijpbcbmmecdoaa
open Go.RowKit

theorem xor_low (a x : Nat) (h : a < 256) : a ^^^ (x <<< 8) = a + 256 * x := by
  have e : x <<< 8 + a = x <<< 8 ||| a := Nat.shiftLeft_add_eq_or_of_lt (by omega) x
  have e2 : x <<< 8 = 256 * x := by rw [Nat.shiftLeft_eq]; omega
  have e3 : a ^^^ (x <<< 8) = x <<< 8 ||| a := by
    apply Nat.eq_of_testBit_eq
    intro k
    rw [Nat.testBit_or, Nat.testBit_xor, Nat.testBit_shiftLeft]
    by_cases hk : 8 ≤ k
    · have : a.testBit k = false := Nat.testBit_lt_two_pow (Nat.lt_of_lt_of_le h (Nat.pow_le_pow_right (n := 2) (by omega) hk : 2 ^ 8 ≤ 2 ^ k))
      simp [this]
    · simp [hk]
  rw [e3, ← e]; omega
theorem numL_four (a b c d : UInt8) : numL [a, b, c, d] = wordV [a, b, c, d] := by
  have ha := a.toNat_lt; have hb := b.toNat_lt; have hc := c.toNat_lt; have hd := d.toNat_lt
  show a.toNat ^^^ ((b.toNat ^^^ ((c.toNat ^^^ ((d.toNat ^^^ (0 <<< 8)) <<< 8)) <<< 8)) <<< 8) = _
  rw [xor_low _ _ (by omega), xor_low _ _ (by omega), xor_low _ _ (by omega), xor_low _ _ (by omega)]
  simp only [wordV]; omega
theorem numL_inj (a b : List UInt8) (hl : a.length = b.length) (h : numL a = numL b) : a = b := by
  induction a generalizing b with
  | nil => cases b with
    | nil => rfl
    | cons _ _ => cases hl
  | cons x a ih =>
    cases b with
    | nil => cases hl
    | cons y b =>
      have hx := x.toNat_lt; have hy := y.toNat_lt
      have h' : x.toNat ^^^ (numL a <<< 8) = y.toNat ^^^ (numL b <<< 8) := h
      rw [xor_low _ _ (by omega), xor_low _ _ (by omega)] at h'
      rw [ih b (by simpa using hl) (by omega), UInt8.toNat_inj.1 (show x.toNat = y.toNat by omega)]
/-- Four bytes are the sum of those ahead exactly if the register behind all is the one number. -/
theorem sum_res (h s : List UInt8) (hs : s.length = 4) : wordV s = crcAll h ↔ crcRow 4294967295 (h ++ s) = crcSteps 32 4294967295 := by
  match s, hs with
  | [a, b, c, d], _ =>
    have hr := crcRow_lt h (x := 4294967295) (by omega)
    have hw := wordV_lt [a, b, c, d]
    rw [crcRow_append, crcRow_num, numL_four]
    show _ ↔ crcSteps 32 _ = _
    unfold crcAll
    generalize crcRow 4294967295 h = R at hr ⊢
    generalize wordV [a, b, c, d] = W at hw ⊢
    constructor
    · intro e
      rw [e, ← nat_not32 R hr, Nat.xor_comm 4294967295, ← Nat.xor_assoc, Nat.xor_self, Nat.zero_xor]
    · intro e
      have e2 : crcSteps 32 ((R ^^^ W) ^^^ 4294967295) = 0 := by rw [crcSteps_xor, e, Nat.xor_self]
      have e3 := crcSteps_zero 32 _ (Nat.xor_lt_two_pow (n := 32) (Nat.xor_lt_two_pow (n := 32) hr hw) (by omega)) e2
      have e4 : W = R ^^^ 4294967295 := by
        have := congrArg (fun z => R ^^^ z ^^^ 4294967295) e3
        simp only [Nat.xor_zero] at this
        rw [← Nat.xor_assoc, ← Nat.xor_assoc, Nat.xor_self, Nat.zero_xor, Nat.xor_assoc, Nat.xor_self, Nat.xor_zero] at this
        exact this
      rw [e4, Nat.xor_comm, nat_not32 R hr]
theorem crcAll_row (a b : List UInt8) : crcAll a = crcAll b ↔ crcRow 4294967295 a = crcRow 4294967295 b := by
  have := crcRow_lt a (x := 4294967295) (by omega)
  have := crcRow_lt b (x := 4294967295) (by omega)
  unfold crcAll; omega

theorem wordV_take (a b : List UInt8) (h : a.take 4 = b.take 4) (ha : 4 ≤ a.length) (hb : 4 ≤ b.length) : wordV a = wordV b := by
  match a, b, ha, hb with
  | a1 :: a2 :: a3 :: a4 :: a, b1 :: b2 :: b3 :: b4 :: b, _, _ =>
    simp only [List.take_succ_cons, List.take_zero, List.cons.injEq, and_true] at h
    obtain ⟨rfl, rfl, rfl, rfl⟩ := h
    rfl
theorem wordV_frame (l : List UInt8) (hl : l.length ≤ 1048576) : wordV (frameB l) = l.length := by
  unfold frameB headB; rw [List.append_assoc]; exact wordV_fourB _ _ (by omega)
/-- The answer to a frame with turned bits. -/
theorem unfE_turned (l c : List UInt8) (q f : Nat) (hl : l.length ≤ 1048576) (hcl : c.length = l.length + 8) (ht : c.take 4 = (frameB l).take 4) (hq : q < 4294967296) (hf : 32 + f ≤ 8 * (l.length + 8))
    (hn : numL c = numL (frameB l) ^^^ (q <<< (32 + f))) : unfE c = if q = 0 then 0 else 5 := by
  have hfl := frameB_len l
  have hw : wordV c = l.length := by rw [wordV_take c (frameB l) ht (by omega) (by omega), wordV_frame l hl]
  have h0 : ¬ c = [] := fun h => by rw [h] at hcl; simp at hcl
  unfold unfE
  rw [if_neg h0, if_neg (by omega), hw, if_neg (by omega), if_neg (by omega)]
  have e1 := sum_res (c.take (4 + l.length)) (c.drop (4 + l.length)) (by simp; omega)
  rw [List.take_append_drop] at e1
  have e2 := sum_res (headB l) (fourB (crcAll (headB l))) (fourB_len _)
  have e3 : wordV (fourB (crcAll (headB l))) = crcAll (headB l) := by
    have := wordV_fourB (crcAll (headB l)) [] (crcAll_lt _)
    rwa [List.append_nil] at this
  have e4 : crcRow 4294967295 (frameB l) = crcSteps 32 4294967295 := e2.1 e3
  have e5 := burst (frameB l) c q (32 + f) (by omega) (by omega) hq hn
  rw [crcAll_row, e4] at e5
  by_cases h : q = 0
  · rw [if_pos h, if_pos (e1.2 (e5.2 h).symm)]
  · rw [if_neg h, if_neg (fun k => h (e5.1 (e1.1 k).symm))]
theorem unfD_frame (l : List UInt8) (hl : l.length ≤ 1048576) : unfD (frameB l) = l := by
  unfold unfD
  rw [wordV_frame l hl]
  unfold frameB headB
  rw [List.append_assoc, List.drop_append_of_le_length (by simp [fourB_len]), show (fourB l.length).drop 4 = [] from by rw [List.drop_eq_nil_of_le]; simp [fourB_len]]
  simp
/-- The answer to a beginning of a frame. -/
theorem unfE_begin (l : List UInt8) (k : Nat) (hl : l.length ≤ 1048576) (hk : k < l.length + 8) : unfE ((frameB l).take k) = if k = 0 then 8 else 4 := by
  have hfl := frameB_len l
  have hkl : ((frameB l).take k).length = k := by rw [List.length_take]; omega
  by_cases h0 : k = 0
  · subst h0; rfl
  · rw [if_neg h0]
    have hne : ¬ (frameB l).take k = [] := fun h => by rw [h] at hkl; simp at hkl; omega
    unfold unfE
    rw [if_neg hne, hkl]
    by_cases h4 : k < 4
    · rw [if_pos h4]
    · have hw : wordV ((frameB l).take k) = l.length := by
        rw [wordV_take _ (frameB l) (by rw [List.take_take]; congr 1; omega) (by omega) (by omega), wordV_frame l hl]
      rw [if_neg h4, hw, if_neg (by omega), if_pos (by omega)]
end Go.Proofs.Ytijpbcbmmecdoaa
