/- Plain facts: what is read has just these bytes. -/
import Derived.Test.YtabmnelenfghhaaBkReadF
namespace Go.Proofs.Ytabmnelenfghhaa
open Go.RowKit
set_option linter.unusedVariables false
set_option linter.unusedSimpArgs false

theorem endB_true {s : Option (List UInt8)} (h : endB s = true) : s = some [] := by
  match s, h with
  | some [], _ => rfl
  | some (_ :: _), h => cases h
  | none, h => cases h
theorem enc_dec (l : List UInt8) (h : dcOk l = true) : codeB (dcD l) = l ∧ SOk (dcD l) := by
  unfold dcOk at h
  simp only [Bool.and_eq_true, Bool.not_eq_true'] at h
  obtain ⟨hm, he, ha⟩ := h
  obtain ⟨hf0, ht0, hft⟩ := may_span hm
  have hF := dcF_of hf0
  have hT := dcT_of (l := l) (by omega)
  clear hm hf0 ht0 hft
  have hcs : ∀ c ∈ rdL (dcS l) (dcN l), COk c := fun c hc => (noBlock_ok c).1 (by have := List.any_eq_false.1 ha c hc; simpa using this)
  have hSO : SOk (dcD l) := by
    unfold SOk dcD
    simp only
    exact hcs
  refine ⟨?_, hSO⟩
  have hr : rdS (dcS l) (dcN l) = some [] := endB_true he
  cases e : dcS l with
  | none => rw [e, rdS_dead (s := none) (j := 0) rfl _ (Nat.zero_le _)] at hr; cases hr
  | some q =>
    obtain ⟨c, r1, e3, e2, hc, hb⟩ := dcS_some e
    rw [e] at hr hcs
    have hci : ∀ i, i < dcN l → COk (tcC (rdS (some q) i)) := fun i hi => hcs _ (by simp only [rdL, List.mem_map]; exact ⟨i, by simpa using hi, rfl⟩)
    have h1 := cells_only q (dcN l) hci [] hr
    rw [List.append_nil] at h1
    have n1 := num_only l r1 e3
    have n2 := num_only r1 (c :: q) e2
    rw [e3] at hT
    have hD : dcD l = ⟨dcF l, dcT l, boolV (dcR l), rdL (some q) (dcN l)⟩ := by unfold dcD; rw [e]
    rw [hD]
    unfold codeB headB
    simp only
    rw [hF, hT, hb, Int.toNat_natCast, Int.toNat_natCast, byte_of hc, ← h1, List.append_assoc, List.append_assoc]
    simp only [List.singleton_append]
    rw [← n2, ← n1]
end Go.Proofs.Ytabmnelenfghhaa
