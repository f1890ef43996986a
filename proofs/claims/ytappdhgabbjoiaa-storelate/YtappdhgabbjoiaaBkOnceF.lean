/- Plain facts: a command that is applied again changes nothing; a frozen store stays. -/
import Derived.Test.YtappdhgabbjoiaaBkAll
namespace Go.Proofs.Ytappdhgabbjoiaa
open Go.RowKit
set_option linter.unusedVariables false
set_option linter.unusedSimpArgs false

theorem chC_idem (c : CmdD) (k : Fin 4) (i : Nat) (x : CellD) : chC c k i (chC c k i x) = chC c k i x := by
  unfold chC
  by_cases h : c.seq ≤ x.m k
  · rw [if_pos h, if_pos h]
  · rw [if_neg h, if_pos (by simp)]
theorem chStep_get (c : CmdD) (k : Fin 4) (d cnt : Nat) (cs : List CellD) (x : Fin cnt) (j : Nat) : (chStep c k d cnt cs x)[j]? = if j = d + x.val then cs[j]?.map (chC c k x.val) else cs[j]? := by
  unfold chStep
  by_cases h : j = d + x.val
  · subst h
    rw [if_pos rfl]
    by_cases hl : d + x.val < cs.length
    · simp [hl, List.getD, List.getElem?_eq_getElem hl]
    · rw [List.getElem?_eq_none (by simpa using hl), List.getElem?_eq_none (by omega)]; rfl
  · rw [if_neg h, List.getElem?_set]
    simp [show ¬ d + x.val = j from fun e => h e.symm]
theorem chF_get (c : CmdD) (k : Fin 4) (d cnt : Nat) (pre : List (Fin cnt)) (hn : pre.Nodup) : ∀ (cs : List CellD) (j : Nat), (chF c k d cnt cs pre)[j]? = if ∃ x ∈ pre, j = d + x.val then cs[j]?.map (chC c k (j - d)) else cs[j]? := by
  induction pre with
  | nil => intro cs j; simp [chF]
  | cons x pre ih =>
    intro cs j
    have hn' := List.nodup_cons.1 hn
    have e : chF c k d cnt cs (x :: pre) = chF c k d cnt (chStep c k d cnt cs x) pre := rfl
    rw [e, ih hn'.2, chStep_get]
    by_cases h1 : j = d + x.val
    · have h2 : ¬ ∃ y ∈ pre, j = d + y.val := by
        rintro ⟨y, hy, e2⟩
        have : y = x := Fin.ext (by omega)
        subst this; exact hn'.1 hy
      rw [if_neg h2, if_pos h1, if_pos ⟨x, by simp, h1⟩, show j - d = x.val by omega]
    · rw [if_neg h1]
      by_cases h2 : ∃ y ∈ pre, j = d + y.val
      · rw [if_pos h2, if_pos (by obtain ⟨y, hy, e2⟩ := h2; exact ⟨y, by simp [hy], e2⟩)]
      · rw [if_neg h2, if_neg (by rintro ⟨y, hy, e2⟩; rcases List.mem_cons.1 hy with rfl | hy; exact h1 e2; exact h2 ⟨y, hy, e2⟩)]
theorem finRange_nodup (n : Nat) : (List.finRange n).Nodup :=
  List.pairwise_iff_getElem.2 fun i j hi hj hij => by
    intro e
    have := congrArg Fin.val e
    simp at this
    omega
theorem chF_idem (c : CmdD) (k : Fin 4) (d cnt : Nat) (cs : List CellD) : chF c k d cnt (chF c k d cnt cs (List.finRange cnt)) (List.finRange cnt) = chF c k d cnt cs (List.finRange cnt) := by
  apply List.ext_getElem?
  intro j
  rw [chF_get _ _ _ _ _ (finRange_nodup cnt), chF_get _ _ _ _ _ (finRange_nodup cnt)]
  by_cases h : ∃ x ∈ List.finRange cnt, j = d + x.val
  · rw [if_pos h, if_pos h, Option.map_map]
    cases cs[j]? with
    | none => rfl
    | some x => simp [chC_idem]
  · rw [if_neg h, if_neg h]
theorem errN_next (S : StD) (c : CmdD) (c' : CmdD) : errN (nextS S c') c = errN S c := by
  have h : inB (nextS S c') c = inB S c := by
    unfold inB
    have : (nextS S c').from' = S.from' ∧ (nextS S c').to = S.to := by
      unfold nextS
      split
      · exact ⟨rfl, rfl⟩
      · split
        · exact ⟨rfl, rfl⟩
        · split <;> exact ⟨rfl, rfl⟩
    rw [this.1, this.2]
  unfold errN
  rw [h]
theorem inB_next (S : StD) (c : CmdD) (c' : CmdD) : inB (nextS S c') c = inB S c ∧ dOf (nextS S c') c = dOf S c := by
  have : (nextS S c').from' = S.from' ∧ (nextS S c').to = S.to := by
    unfold nextS
    split
    · exact ⟨rfl, rfl⟩
    · split
      · exact ⟨rfl, rfl⟩
      · split <;> exact ⟨rfl, rfl⟩
  unfold inB dOf
  rw [this.1, this.2]
  exact ⟨rfl, rfl⟩
theorem okB_err {S : StD} {c : CmdD} (h : errN S c ≠ 0) : okB S c = false := by
  unfold errN at h
  unfold okB
  by_cases hm : mayB c = false
  · rw [hm]; rfl
  · rw [if_neg hm] at h
    by_cases hi : (isClB c.op && !inB S c) = true
    · simp only [Bool.and_eq_true, Bool.not_eq_true'] at hi
      rw [hi.1, hi.2]; simp
    · rw [if_neg hi] at h; exact absurd rfl h
/-- Again, of a command that is no freeze. -/
theorem again_facts {S : StD} {c : CmdD} (h5 : c.op ≠ 5) : okB (nextS S c) c = okB S c ∧ dataOf (nextS S c) c = dataOf S c ∧ nextS (nextS S c) c = nextS S c := by
  have hfr : (nextS S c).fr = S.fr := by
    unfold nextS
    split
    · rfl
    · split
      · rfl
      · first | rfl | rw [if_neg h5]
  obtain ⟨hi, hd⟩ := inB_next S c c
  have hok : okB (nextS S c) c = okB S c := by unfold okB; rw [hi, hfr]
  refine ⟨hok, ?_, ?_⟩
  · unfold dataOf
    rw [hok, hd]
    by_cases h : okB S c = true ∧ c.op = 1
    · rw [if_pos h, if_pos h]
      have : nextS S c = S := by unfold nextS; rw [if_neg (by rw [h.1]; simp), if_neg (by omega), if_neg h5]
      rw [this]
    · rw [if_neg h, if_neg h]
  · by_cases h0 : okB S c = false
    · have e : nextS S c = S := by unfold nextS; rw [if_pos h0]
      rw [e, e]
    · by_cases h2 : c.op = 2 ∨ c.op = 3
      · have e : nextS S c = S.put (chF c (clOf c) (dOf S c) (cntOf c) S.cells (List.finRange (cntOf c))) := by unfold nextS; rw [if_neg h0, if_pos h2]
        have e2 : nextS (nextS S c) c = (nextS S c).put (chF c (clOf c) (dOf (nextS S c) c) (cntOf c) (nextS S c).cells (List.finRange (cntOf c))) := by
          show (if okB (nextS S c) c = false then nextS S c else if c.op = 2 ∨ c.op = 3 then _ else _) = _
          rw [hok, if_neg h0, if_pos h2]
        rw [e2, hd, e]
        show S.put (chF c _ _ _ (chF c _ _ _ S.cells _) _) = _
        rw [chF_idem]
      · have e : nextS S c = S := by unfold nextS; rw [if_neg h0, if_neg h2, if_neg h5]
        rw [e, e]
/-- Again, of a freeze. -/
theorem again_freeze {S : StD} {c : CmdD} (h5 : c.op = 5) (he : errN S c = 0) : okB (nextS S c) c = false ∧ (nextS S c).fr = true ∧ nextS (nextS S c) c = nextS S c := by
  have hfr : (nextS S c).fr = true := by
    unfold nextS
    by_cases h0 : okB S c = false
    · rw [if_pos h0]
      unfold errN at he
      by_cases hm : mayB c = false
      · rw [if_pos hm] at he; cases he
      · have hc : isClB c.op = false := by rw [h5]; rfl
        unfold okB at h0
        rw [hc] at h0
        simp at h0 hm
        exact h0 hm
    · rw [if_neg h0, if_neg (by omega), if_pos h5]
  have hok : okB (nextS S c) c = false := by unfold okB; rw [hfr]; simp
  exact ⟨hok, hfr, by rw [show nextS (nextS S c) c = if okB (nextS S c) c = false then nextS S c else _ from rfl, if_pos hok]⟩
/-- A frozen store stays, and says no. -/
theorem frozen_facts {S : StD} (c : CmdD) (hf : S.fr = true) : okB S c = false ∧ dataOf S c = [] ∧ nextS S c = S ∧ (errN S c = 0 → mayB c = true) := by
  have hok : okB S c = false := by unfold okB; rw [hf]; simp
  refine ⟨hok, by unfold dataOf; rw [hok]; simp, by unfold nextS; rw [if_pos hok], fun he => ?_⟩
  unfold errN at he
  by_cases hm : mayB c = false
  · rw [if_pos hm] at he; cases he
  · simpa using hm
end Go.Proofs.Ytappdhgabbjoiaa
