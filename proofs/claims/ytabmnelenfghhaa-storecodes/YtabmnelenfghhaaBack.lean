/- Plain facts: lists that are laid are read back, in order. Conditions: at most 4096 elements, which fit. -/
import Derived.Test.YtabmnelenfghhaaNumIso
import Derived.Test.YtabmnelenfghhaaPutBase
namespace Go.Proofs.Ytabmnelenfghhaa
open Go.RowKit

theorem flat_ge {α : Type} (enc : α → List UInt8) (xs : List α) (h : ∀ x ∈ xs, 1 ≤ (enc x).length) : xs.length ≤ (xs.flatMap enc).length := by
  induction xs with
  | nil => simp
  | cons x xs ih =>
    have h1 := h x (List.mem_cons_self ..)
    have h2 := ih fun y hy => h y (List.mem_cons_of_mem _ hy)
    rw [List.flatMap_cons, List.length_append, List.length_cons]; omega
theorem getGo_back {α β : Type} (enc : α → List UInt8) (dec : α → β) (rv : Option (List UInt8) → β) (rs : Option (List UInt8) → Option (List UInt8)) (xs : List α) (rest : List UInt8) (acc : List β)
    (h : ∀ x ∈ xs, ∀ t, rv (some (enc x ++ t)) = dec x ∧ rs (some (enc x ++ t)) = some t) :
    getGo rv rs xs.length (some (xs.flatMap enc ++ rest)) acc = (some (acc ++ xs.map dec), some rest) := by
  induction xs generalizing acc with
  | nil => simp [getGo]
  | cons x xs ih =>
    have h1 := h x (List.mem_cons_self ..) (xs.flatMap enc ++ rest)
    rw [List.flatMap_cons, List.append_assoc, List.length_cons]
    show (if badO (rs (some (enc x ++ (xs.flatMap enc ++ rest)))) then _ else getGo rv rs xs.length (rs (some (enc x ++ (xs.flatMap enc ++ rest)))) (acc ++ [rv (some (enc x ++ (xs.flatMap enc ++ rest)))])) = _
    rw [h1.2, h1.1, if_neg (by simp [badO]), ih _ fun y hy => h y (List.mem_cons_of_mem _ hy)]
    simp
theorem getR_back {α β : Type} (enc : α → List UInt8) (dec : α → β) (rv : Option (List UInt8) → β) (rs : Option (List UInt8) → Option (List UInt8)) (xs : List α) (rest : List UInt8) (hn : xs.length ≤ 4096)
    (h1 : ∀ x ∈ xs, 1 ≤ (enc x).length) (h : ∀ x ∈ xs, ∀ t, rv (some (enc x ++ t)) = dec x ∧ rs (some (enc x ++ t)) = some t) :
    getR rv rs (some (listB enc xs ++ rest)) = (some (xs.map dec), some rest) := by
  have e : lenR 4096 (some (listB enc xs ++ rest)) = (xs.length, some (xs.flatMap enc ++ rest)) := by
    unfold lenR listB
    rw [List.append_assoc, numR_numB _ _ (by omega), if_neg]
    have := flat_ge enc xs h1
    simp only [leftN, List.length_append]; omega
  unfold getR
  rw [e, if_neg (by simp [badO]), getGo_back enc dec rv rs xs rest [] h]; simp
theorem numB_pos (n : Nat) : 1 ≤ (numB n).length := by rw [numB_eq]; simp
theorem num_back (n : Nat) (h : n < 18446744073709551616) (t : List UInt8) : numV (some (numB n ++ t)) = n ∧ numS (some (numB n ++ t)) = some t := by
  unfold numV numS; rw [numR_numB _ _ h]; exact ⟨rfl, rfl⟩
theorem int_back (n : Int) (h0 : -9223372036854775808 ≤ n) (h1 : n < 9223372036854775808) (t : List UInt8) : intV (some (intB n ++ t)) = n ∧ intS (some (intB n ++ t)) = some t := by
  by_cases hn : 0 ≤ n
  · have e : intB n = 0 :: numB n.toNat := by unfold intB; rw [if_pos hn]
    have e2 : numR (some (numB n.toNat ++ t)) = (n.toNat, some t) := numR_numB _ _ (by omega)
    have hS : intS (some (intB n ++ t)) = some t := by
      rw [e]
      show (if 1 < (0 : UInt8).toNat ∨ 9223372036854775807 < (numR (some (numB n.toNat ++ t))).1 then none else (numR (some (numB n.toNat ++ t))).2) = _
      rw [e2, if_neg]
      simp; omega
    refine ⟨?_, hS⟩
    unfold intV
    rw [hS, if_neg (by simp [badO]), e]
    show (if (0 : UInt8).toNat = 1 then _ else ((numR (some (numB n.toNat ++ t))).1 : Int)) = _
    rw [e2, if_neg (by decide)]
    simp; omega
  · have e : intB n = 1 :: numB (-1 - n).toNat := by unfold intB; rw [if_neg hn]
    have e2 : numR (some (numB (-1 - n).toNat ++ t)) = ((-1 - n).toNat, some t) := numR_numB _ _ (by omega)
    have hS : intS (some (intB n ++ t)) = some t := by
      rw [e]
      show (if 1 < (1 : UInt8).toNat ∨ 9223372036854775807 < (numR (some (numB (-1 - n).toNat ++ t))).1 then none else (numR (some (numB (-1 - n).toNat ++ t))).2) = _
      rw [e2, if_neg]
      simp; omega
    refine ⟨?_, hS⟩
    unfold intV
    rw [hS, if_neg (by simp [badO]), e]
    show (if (1 : UInt8).toNat = 1 then -1 - ((numR (some (numB (-1 - n).toNat ++ t))).1 : Int) else _) = _
    rw [e2, if_pos (by decide)]
    simp; omega
theorem text_back (s : ByteArray) (h : s.size ≤ 1048576) (t : List UInt8) : textV (some (textB s ++ t)) = s.data.toList ∧ textS (some (textB s ++ t)) = some t := by
  have hl : s.data.toList.length = s.size := by simp
  have e : lenR 1048576 (some (textB s ++ t)) = (s.size, some (s.data.toList ++ t)) := by
    unfold lenR textB
    rw [List.append_assoc, numR_numB _ _ (by omega), if_neg]
    simp only [leftN, List.length_append, hl]; omega
  unfold textV textS
  rw [e]
  refine ⟨?_, ?_⟩
  · show (s.data.toList ++ t).take s.size = _
    rw [← hl, List.take_left]
  · show some ((s.data.toList ++ t).drop s.size) = _
    rw [← hl, List.drop_left]
end Go.Proofs.Ytabmnelenfghhaa
