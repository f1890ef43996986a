/- Plain facts: what a store's cells may be, and that commands leave them so; a store's bytes. -/
import Derived.Test.YtabmnelenfghhaaBkAll
import Derived.Test.YtabmnelenfghhaaBkCOk
namespace Go.Proofs.Ytabmnelenfghhaa
open Go.RowKit
set_option linter.unusedVariables false
set_option linter.unusedSimpArgs false

theorem chF_ok (c : CmdD) (k : Fin 4) (d cnt : Nat) (h1 : 0 ≤ c.seq ∧ c.seq ≤ 1099511627776) (h2 : c.op = 2 → ∀ s ∈ c.data, isTextB s = true) (pre : List (Fin cnt)) : ∀ (cs : List CellD), (∀ x ∈ cs, COk x) → ∀ x ∈ chF c k d cnt cs pre, COk x := by
  unfold chF
  induction pre with
  | nil => intro cs h; exact h
  | cons p pre ih =>
    intro cs h
    rw [List.foldl_cons]
    refine ih _ fun x hx => ?_
    unfold chStep at hx
    rcases List.mem_or_eq_of_mem_set hx with hx | rfl
    · exact h x hx
    · have hg := getD_ok h (d + p.val)
      generalize cs.getD (d + p.val) zeroC = y at hg
      unfold chC
      split
      · exact hg
      · refine ⟨?_, fun j => ?_⟩
        · show isTextB (if c.op = 2 then c.data.getD p.val ⟨#[]⟩ else ⟨#[]⟩) = true
          split
          · rename_i ho
            rw [List.getD_eq_getElem?_getD]
            cases he : c.data[p.val]? with
            | none => exact empty_text
            | some s => exact h2 ho s (List.mem_of_getElem? he)
          · exact empty_text
        · show 0 ≤ (if j = k then c.seq else y.m j) ∧ (if j = k then c.seq else y.m j) ≤ _
          split
          · exact h1
          · exact hg.2 j
theorem next_ok {S : StD} (h : SOk S) (c : CmdD) : SOk (nextS S c) := by
  unfold nextS
  split
  · exact h
  · rename_i hok
    split
    · rename_i ho
      have hm : mayB c = true := by
        have : okB S c = true := by simpa using hok
        unfold okB at this
        simp only [Bool.and_eq_true] at this
        exact this.1.1
      unfold mayB at hm
      rw [if_neg (by omega), if_pos (by unfold isClB; rcases ho with h | h <;> simp [h])] at hm
      simp only [Bool.and_eq_true] at hm
      obtain ⟨ha, hb⟩ := hm
      refine chF_ok c _ _ _ ?_ ?_ _ _ h
      · unfold mayAskB at ha
        simp only [Bool.and_eq_true, decide_eq_true_eq] at ha
        omega
      · intro h2 s hs
        unfold mayCarryB at hb
        rw [if_pos h2] at hb
        simp only [Bool.and_eq_true, Bool.not_eq_true', decide_eq_true_eq] at hb
        have := List.any_eq_false.1 hb.2 s hs
        simpa using this
    · split
      · exact h
      · exact h
end Go.Proofs.Ytabmnelenfghhaa
