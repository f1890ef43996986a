/- Plain facts of what is loaded. No condition. -/
import Derived.Test.YtjimneaimnjanaaCoRRead
import Derived.Test.YtjimneaimnjanaaCoLoadF
import Derived.Test.YtjimneaimnjanaaCoRef
namespace Go.Proofs.Ytjimneaimnjanaa
open Go.RowKit
set_option linter.unusedVariables false
set_option linter.unusedSimpArgs false

theorem textV_fit (m : List UInt8) : (textV (some m)).length ≤ m.length := by
  cases h : textS (some m) with
  | none =>
    unfold textS at h
    unfold textV
    split at h
    · simp
    · cases h
  | some r =>
    have e := congrArg List.length (text_only m r h)
    rw [List.length_append] at e
    have : (textV (some m)).length ≤ (textB ⟨(textV (some m)).toArray⟩).length := by
      unfold textB
      simp
    omega
theorem nsS_fit (l : List UInt8) (i : Nat) : ∀ r, nsS l i = some r → r.length ≤ l.length := by
  induction i with
  | zero => intro r h; cases h; exact Nat.le_refl _
  | succ i ih =>
    intro r h
    cases hm : nsS l i with
    | none => have h' : intS (nsS l i) = some r := h; rw [hm] at h'; cases h'
    | some m =>
      have h' : intS (nsS l i) = some r := h
      rw [hm] at h'
      have e := congrArg List.length (int_only m r h').1
      rw [List.length_append] at e
      have := ih m hm
      omega
theorem ldV_fit (l : List UInt8) : (ldV l).size ≤ l.length := by
  show (textV (nsS l 4)).toArray.size ≤ _
  rw [List.size_toArray]
  cases hm : nsS l 4 with
  | none => exact Nat.zero_le _
  | some m => exact Nat.le_trans (textV_fit m) (nsS_fit l 4 m hm)
theorem setN_self (D : CoD) (i : Nat) (x s : Int) : setN { D with self := s } i x = { setN D i x with self := s } := by unfold setN; split <;> rfl
theorem setN_role (D : CoD) (i : Nat) (x : Int) : (setN D i x).role = D.role := by unfold setN; split <;> rfl
theorem nsD_self (self : Int) (l : List UInt8) (i : Nat) : nsD self l i = { nsD 0 l i with self := self } := by
  induction i with
  | zero => rfl
  | succ i ih =>
    unfold nsD
    rw [ih]
    exact setN_self _ _ _ _
theorem nsD_role (self : Int) (l : List UInt8) (i : Nat) : (nsD self l i).role = 0 := by
  induction i with
  | zero => rfl
  | succ i ih =>
    unfold nsD
    rw [setN_role]
    exact ih
theorem ldD_self (self : Int) (l : List UInt8) : ldD self l = { ldD 0 l with self := self } := by
  unfold ldD
  rw [nsD_self]
theorem ldD_role (self : Int) (l : List UInt8) : (ldD self l).role = 0 := by
  unfold ldD
  exact nsD_role _ _ _
theorem ldD_bv (self : Int) (l : List UInt8) : (ldD self l).bv = ldV l := by
  unfold ldD
  generalize ldV l = a
  rfl
theorem mayD_self (D : CoD) (s : Int) : mayD { D with self := s } = mayD D := rfl
theorem ldB_self (self : Int) (l : List UInt8) : ldB self l = ldB 0 l := by
  unfold ldB
  rw [ldD_self, mayD_self]
theorem fol_text (term : Int) : ∀ (l : List En) (past : Int), folR term past l = true → ∀ e ∈ l, e.text.size ≤ 4096
  | [], _, _, e, he => by cases he
  | x :: l, past, h, e, he => by
    unfold folR at h
    simp only [Bool.and_eq_true] at h
    rcases List.mem_cons.1 he with rfl | he
    · exact ((ent_iff _ _).1 h.1.2).1
    · exact fol_text term l _ h.2 e he
theorem vUp_le (D : CoD) (hb : D.bv.size ≤ 999999) (hl : ∀ e ∈ D.log, e.text.size ≤ 4096) (n : Nat) : (vUp D n).size ≤ 999999 := by
  induction n with
  | zero => exact hb
  | succ n ih =>
    unfold vUp
    split
    · by_cases hn : n < D.log.length
      · have : D.log.getD n ⟨0, 0, ⟨#[]⟩⟩ = D.log[n] := by simp [List.getD, List.getElem?_eq_getElem hn]
        rw [this]
        have := hl _ (List.getElem_mem hn)
        omega
      · have : D.log.getD n ⟨0, 0, ⟨#[]⟩⟩ = ⟨0, 0, ⟨#[]⟩⟩ := by simp [List.getD, List.getElem?_eq_none (show D.log.length ≤ n by omega)]
        rw [this]
        exact Nat.zero_le _
    · exact ih
/-- All that the law wants of what was loaded. -/
structure LdF (D : CoD) (l : List UInt8) : Prop where
  i : CoI D
  j : CoJ D
  by_ : coBy D = l
  told : D.told = D.bi
  role : D.role = 0
  now : (vNow D).size ≤ 999999
theorem ld_facts (self : Int) (l : List UInt8) (hl : l.length ≤ 5000) (h : ldB self l = true) : LdF { ldD self l with told := (ldD self l).bi } l := by
  have h2 := h
  unfold ldB at h2
  rw [Bool.and_eq_true] at h2
  obtain ⟨he, hm⟩ := h2
  obtain ⟨s1, s2⟩ := load_same self l he
  have hv := ldV_fit l
  rw [← ldD_bv self l] at hv
  have hr := ldD_role self l
  have hm7 := (mayD_iff _).1 hm
  clear h hm he
  generalize ldD self l = D at *
  obtain ⟨m1, m2, m3, m4, m5, m6, m7⟩ := hm7
  refine ⟨⟨m3.1, by have := m3.2; show D.bi ≤ _; omega, by show D.log.length ≤ _; omega⟩, ⟨s2.n, s2.v, s2.x, s2.l, s2.len⟩, s1, rfl, hr, ?_⟩
  exact vUp_le { D with told := D.bi } (by show D.bv.size ≤ _; omega) (fol_text _ _ _ m7) _
end Go.Proofs.Ytjimneaimnjanaa
