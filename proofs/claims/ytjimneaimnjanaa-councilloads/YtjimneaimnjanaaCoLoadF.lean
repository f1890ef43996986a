/- What is loaded is written as the same bytes: plain facts. -/
import Derived.Test.YtjimneaimnjanaaCoLoad
namespace Go.Proofs.Ytjimneaimnjanaa
open Go.RowKit
set_option linter.unusedVariables false
set_option linter.unusedSimpArgs false

theorem int_only (l r : List UInt8) (h : intS (some l) = some r) : l = intB (intV (some l)) ++ r ∧ I64 (intV (some l)) := by
  have hb : badO (intS (some l)) = false := by rw [h]; rfl
  unfold intV
  rw [hb, if_neg (by decide)]
  cases l with
  | nil =>
    unfold intS at h
    split at h
    · cases h
    · simp [byteS, numR] at h
  | cons c t =>
    replace h : (if 1 < c.toNat ∨ 9223372036854775807 < (numR (some t)).1 then none else (numR (some t)).2) = some r := h
    show c :: t = intB (if c.toNat = 1 then -1 - ((numR (some t)).1 : Int) else ((numR (some t)).1 : Int)) ++ r ∧ I64 (if c.toNat = 1 then -1 - ((numR (some t)).1 : Int) else ((numR (some t)).1 : Int))
    by_cases hn : 1 < c.toNat ∨ 9223372036854775807 < (numR (some t)).1
    · rw [if_pos hn] at h; cases h
    · rw [if_neg hn] at h
      have hc : ¬ 1 < c.toNat := fun e => hn (.inl e)
      have hbig : ¬ 9223372036854775807 < (numR (some t)).1 := fun e => hn (.inr e)
      have h3 : numR (some t) = ((numR (some t)).1, some r) := by rw [← h]
      obtain ⟨h4, -⟩ := numR_only t _ r h3
      generalize (numR (some t)).1 = n at *
      by_cases h1 : c.toNat = 1
      · rw [if_pos h1]
        have hc1 : c = 1 := UInt8.toNat_inj.1 h1
        refine ⟨?_, by constructor <;> omega⟩
        unfold intB
        rw [if_neg (by omega), show (-1 - (-1 - (n : Int))).toNat = n by omega, h4, hc1]
        rfl
      · rw [if_neg h1]
        have h0 : c.toNat = 0 := by omega
        have hc0 : c = 0 := UInt8.toNat_inj.1 h0
        refine ⟨?_, by constructor <;> omega⟩
        unfold intB
        rw [if_pos (by omega), Int.toNat_natCast, h4, hc0]
        rfl
theorem text_only (l r : List UInt8) (h : textS (some l) = some r) : l = textB ⟨(textV (some l)).toArray⟩ ++ r := by
  unfold textS at h
  unfold textV
  split at h
  · cases h
  · rename_i r' h'
    obtain rfl := Option.some.inj h
    have h2 : ¬ (1048576 < (numR (some l)).1 ∨ leftN (numR (some l)).2 < (numR (some l)).1) ∧ lenR 1048576 (some l) = numR (some l) := by
      unfold lenR at h' ⊢
      split at h'
      · cases h'
      · rename_i hn
        exact ⟨hn, if_neg hn⟩
    obtain ⟨hn, he⟩ := h2
    rw [he] at h' ⊢
    have h3 : numR (some l) = ((numR (some l)).1, some r') := by rw [← h']
    obtain ⟨h4, h5⟩ := numR_only l _ r' h3
    rw [h'] at hn
    simp only [leftN] at hn
    have hl : ((⟨(r'.take (numR (some l)).1).toArray⟩ : ByteArray)).size = (numR (some l)).1 := by
      simp only [ByteArray.size, List.size_toArray, List.length_take]; omega
    unfold textB
    rw [hl, List.append_assoc]
    simp only [List.take_append_drop]
    exact h4
theorem textV_len (s : Option (List UInt8)) : (textV s).length ≤ 1048576 := by
  have h := lenR_le 1048576 s
  unfold textV
  split
  · simp
  · simp only [List.length_take]; omega
theorem intS_none : intS none = none := rfl
theorem textS_none : textS none = none := rfl
theorem ent_only (l r : List UInt8) (h : eS (some l) = some r) : l = enBy (eV (some l)) ++ r ∧ EnJ (eV (some l)) := by
  unfold eS at h
  unfold eV enBy
  cases h1 : intS (some l) with
  | none => rw [h1, intS_none, textS_none] at h; cases h
  | some l1 =>
    rw [h1] at h
    cases h2 : intS (some l1) with
    | none => rw [h2, textS_none] at h; cases h
    | some l2 =>
      rw [h2] at h
      obtain ⟨e1, i1⟩ := int_only l l1 h1
      obtain ⟨e2, i2⟩ := int_only l1 l2 h2
      have e3 := text_only l2 r h
      refine ⟨?_, ⟨i1, i2, ?_⟩⟩
      · show l = intB (intV (some l)) ++ intB (intV (some l1)) ++ textB ⟨(textV (some l2)).toArray⟩ ++ r
        rw [List.append_assoc, List.append_assoc, ← e3, ← e2]
        exact e1
      · show (⟨(textV (some l2)).toArray⟩ : ByteArray).size ≤ 1048576
        have := textV_len (some l2)
        simpa [ByteArray.size] using this
theorem go_only (n : Nat) : ∀ (l : List UInt8) (acc L : List En) (r : List UInt8), getGo eV eS n (some l) acc = (some L, some r) → ∃ xs, L = acc ++ xs ∧ xs.length = n ∧ l = xs.flatMap enBy ++ r ∧ ∀ x ∈ xs, EnJ x := by
  induction n with
  | zero =>
    intro l acc L r h
    simp only [getGo, Prod.mk.injEq, Option.some.injEq] at h
    exact ⟨[], by simp [h.1], rfl, by simp [h.2], by simp⟩
  | succ n ih =>
    intro l acc L r h
    simp only [getGo] at h
    cases he : eS (some l) with
    | none => rw [he] at h; simp [badO] at h
    | some l1 =>
      rw [he] at h
      simp only [badO] at h
      obtain ⟨xs, h1, h2, h3, h4⟩ := ih l1 _ L r h
      obtain ⟨e1, e2⟩ := ent_only l l1 he
      refine ⟨eV (some l) :: xs, by rw [h1]; simp, by simp [h2], ?_, fun x hx => ?_⟩
      · rw [List.flatMap_cons, List.append_assoc, ← h3]; exact e1
      · rcases List.mem_cons.1 hx with rfl | hx
        · exact e2
        · exact h4 x hx
theorem ents_only (l : List UInt8) (G : Option (List En) × Option (List UInt8)) (hG : G = getR eV eS (some l)) (r : List UInt8) (hr : G.2 = some r) : ∃ L, G.1 = some L ∧ l = listB enBy L ++ r ∧ L.length ≤ 4096 ∧ ∀ x ∈ L, EnJ x := by
  have hle := lenR_le 4096 (some l)
  unfold getR at hG
  cases h2 : (lenR 4096 (some l)).2 with
  | none => rw [h2] at hG; simp [badO] at hG; rw [hG] at hr; cases hr
  | some l2 =>
    rw [h2] at hG
    simp only [badO] at hG
    have hnum : lenR 4096 (some l) = numR (some l) := by
      unfold lenR at h2 ⊢
      split at h2
      · cases h2
      · rename_i hn; exact if_neg hn
    have h3 : numR (some l) = ((lenR 4096 (some l)).1, some l2) := by rw [← h2, hnum]
    obtain ⟨h4, -⟩ := numR_only l _ l2 h3
    generalize (lenR 4096 (some l)).1 = n at *
    have hgo : getGo eV eS n (some l2) [] = G := hG.symm
    obtain ⟨o, s⟩ := G
    simp only at hr
    subst hr
    cases o with
    | none =>
      exfalso
      clear h4 h3 hnum hle h2 hG
      revert hgo
      generalize ([] : List En) = acc
      intro hgo
      induction n generalizing l2 acc with
      | zero => simp [getGo] at hgo
      | succ n ih =>
        simp only [getGo] at hgo
        cases he : eS (some l2) with
        | none => rw [he] at hgo; simp [badO] at hgo
        | some l3 => rw [he] at hgo; simp only [badO] at hgo; exact ih _ _ hgo
    | some L =>
      obtain ⟨xs, e1, e2, e3, e4⟩ := go_only n l2 [] L r hgo
      simp only [List.nil_append] at e1
      subst e1
      refine ⟨L, rfl, ?_, by omega, e4⟩
      unfold listB
      rw [e2, List.append_assoc, ← e3]
      exact h4
/-- What is loaded can be laid, and is laid as the same. -/
theorem load_same (self : Int) (l : List UInt8) (h : endB (ldG l).2 = true) : coBy (ldD self l) = l ∧ CoJ (ldD self l) := by
  have hend : (ldG l).2 = some [] := by
    match hs : (ldG l).2, h with
    | some [], _ => rfl
    | some (_ :: _), h => cases h
    | none, h => cases h
  have hN : ∀ i, nsS l (i + 1) = intS (nsS l i) := fun _ => rfl
  cases h1 : nsS l 1 with
  | none =>
    exfalso
    have : nsS l 4 = none := by rw [hN, hN, hN, h1]; rfl
    unfold ldG at hend; rw [this] at hend; cases hend
  | some l1 =>
    cases h2 : nsS l 2 with
    | none =>
      exfalso
      have : nsS l 4 = none := by rw [hN, hN, h2]; rfl
      unfold ldG at hend; rw [this] at hend; cases hend
    | some l2 =>
      cases h3 : nsS l 3 with
      | none =>
        exfalso
        have : nsS l 4 = none := by rw [hN, h3]; rfl
        unfold ldG at hend; rw [this] at hend; cases hend
      | some l3 =>
        cases h4 : nsS l 4 with
        | none => exfalso; unfold ldG at hend; rw [h4] at hend; cases hend
        | some l4 =>
          cases h5 : textS (some l4) with
          | none => exfalso; unfold ldG at hend; rw [h4, h5] at hend; cases hend
          | some l5 =>
            cases h6 : textS (some l5) with
            | none => exfalso; unfold ldG at hend; rw [h4, h5, h6] at hend; cases hend
            | some l6 =>
              have hG : ldG l = getR eV eS (some l6) := by unfold ldG; rw [h4, h5, h6]
              obtain ⟨L, g1, g2, g3, g4⟩ := ents_only l6 _ hG [] hend
              obtain ⟨e0, i0⟩ := int_only l l1 (by rw [← h1]; rfl)
              obtain ⟨e1, i1⟩ := int_only l1 l2 (by rw [← h2, hN, h1])
              obtain ⟨e2, i2⟩ := int_only l2 l3 (by rw [← h3, hN, h2])
              obtain ⟨e3, i3⟩ := int_only l3 l4 (by rw [← h4, hN, h3])
              have e4 := text_only l4 l5 h5
              have e5 := text_only l5 l6 h6
              have dn : numL (ldD self l) = [intV (some l), intV (some l1), intV (some l2), intV (some l3)] := by
                show [intV (nsS l 0), intV (nsS l 1), intV (nsS l 2), intV (nsS l 3)] = _
                rw [h1, h2, h3]; rfl
              have dv : (ldD self l).bv = ⟨(textV (some l4)).toArray⟩ := by show ldV l = _; unfold ldV; rw [h4]
              have dx : (ldD self l).bx = ⟨(textV (some l5)).toArray⟩ := by show ldX l = _; unfold ldX; rw [h4, h5]
              have dl : (ldD self l).log = L := by show (ldG l).1.getD [] = _; rw [g1]; rfl
              refine ⟨?_, ⟨?_, ?_, ?_, ?_, ?_⟩⟩
              · unfold coBy
                rw [dn, dv, dx, dl]
                simp only [List.flatMap_cons, List.flatMap_nil, List.append_nil, List.append_assoc]
                rw [List.append_nil] at g2
                rw [← g2, ← e5, ← e4, ← e3, ← e2, ← e1, ← e0]
              · rw [dn]
                intro x hx
                simp at hx
                rcases hx with rfl | rfl | rfl | rfl
                · exact i0
                · exact i1
                · exact i2
                · exact i3
              · rw [dv]; have := textV_len (some l4); simpa [ByteArray.size] using this
              · rw [dx]; have := textV_len (some l5); simpa [ByteArray.size] using this
              · rw [dl]; exact g4
              · rw [dl]; exact g3
end Go.Proofs.Ytjimneaimnjanaa
