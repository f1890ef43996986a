/- The law SpanNorms, walked. No condition but that the row lies in memory. -/
import Derived.Test.YtkbcinjpnihnaabSpLaw
namespace Go.Proofs.Ytkbcinjpnihnaab
open Go.RowKit Go.Shelf

theorem of0_plain (a b : List Sp) : PlainL (ofL a b (keepF 0 a b)) ∧ ∀ k, InL (ofL a b (keepF 0 a b)) k ↔ (InL a k ∨ InL b k) :=
  ofL_plain a b (keepF 0 a b) (fun p q => p ∨ q) (by simp) fun k => by simp [keepF, keepK, hasB_iff]
theorem of1_plain (a b : List Sp) : PlainL (ofL a b (keepF 1 a b)) ∧ ∀ k, InL (ofL a b (keepF 1 a b)) k ↔ (InL a k ∧ InL b k) :=
  ofL_plain a b (keepF 1 a b) (fun p q => p ∧ q) (by simp) fun k => by simp [keepF, keepK, hasB_iff]
theorem of2_plain (a b : List Sp) : PlainL (ofL a b (keepF 2 a b)) ∧ ∀ k, InL (ofL a b (keepF 2 a b)) k ↔ (InL a k ∧ ¬ InL b k) :=
  ofL_plain a b (keepF 2 a b) (fun p q => p ∧ ¬ q) (by simp) fun k => by
    have h2 := hasB_iff b k
    simp only [keepF, keepK]
    simp
    rw [hasB_iff a k]
    rw [← h2]; simp
theorem InL_nil (k : Int) : ¬ InL [] k := by simp [InL]
end Go.Proofs.Ytkbcinjpnihnaab
