/- A Map and the document's Map tell the same: plain facts. -/
import Derived.Test.YtbfmanhbbancmaaSpRefG
import Derived.Test.YtbfmanhbbancmaaSpGet
namespace Go.Proofs.Ytbfmanhbbancmaa

def Agree (l : List Pc) (D : List Dn) : Prop := ∀ k v, HasP l k v ↔ RGet D k v true
theorem rget_nil (k v : Int) (ok : Bool) : RGet [] k v ok ↔ v = 0 ∧ ok = false := by
  constructor
  · rintro (⟨_, h⟩ | ⟨j, h, _⟩)
    · exact h
    · simp at h
  · exact fun h => .inl ⟨(fun d hd => by cases hd), h⟩
theorem agree_nil : Agree [] [] := fun k v => by
  rw [rget_nil]
  constructor
  · exact fun h => absurd h (HasP_nil k v)
  · exact fun h => by cases h.2
theorem rget_snoc (D : List Dn) (d : Dn) (k v : Int) (ok : Bool) : RGet (D ++ [d]) k v ok ↔ (hitD k d ∧ ok = d.2.2 ∧ v = if d.2.2 then d.2.1 else 0) ∨ (¬ hitD k d ∧ RGet D k v ok) := by
  constructor
  · rintro (⟨h1, h2⟩ | ⟨j, hj, h1, h2, h3⟩)
    · exact .inr ⟨h1 d (by simp), .inl ⟨fun e he => h1 e (by simp [he]), h2⟩⟩
    · rw [List.length_append, List.length_singleton] at hj
      rcases Nat.lt_or_ge j D.length with h | h
      · have hd := h2 D.length (by simp) h
        rw [List.getElem_append_right (by omega)] at hd
        simp only [Nat.sub_self, List.getElem_cons_zero] at hd
        rw [List.getElem_append_left h] at h1 h3
        refine .inr ⟨hd, .inr ⟨j, h, h1, fun i hi hlt => ?_, h3⟩⟩
        have := h2 i (by simp; omega) hlt
        rwa [List.getElem_append_left hi] at this
      · obtain rfl : j = D.length := by omega
        rw [List.getElem_append_right (by omega)] at h1 h3
        simp only [Nat.sub_self, List.getElem_cons_zero] at h1 h3
        exact .inl ⟨h1, h3⟩
  · rintro (⟨h1, h2⟩ | ⟨h1, h2 | ⟨j, hj, g1, g2, g3⟩⟩)
    · refine .inr ⟨D.length, by simp, ?_, fun i hi hlt => by simp at hi; omega, ?_⟩
      · rw [List.getElem_append_right (by omega)]; simpa using h1
      · rw [List.getElem_append_right (by omega)]; simpa using h2
    · refine .inl ⟨fun e he => ?_, h2.2⟩
      rcases List.mem_append.1 he with he | he
      · exact h2.1 e he
      · obtain rfl : e = d := by simpa using he
        exact h1
    · refine .inr ⟨j, by simp; omega, by rw [List.getElem_append_left hj]; exact g1, fun i hi hlt => ?_, by rw [List.getElem_append_left hj]; exact g3⟩
      rcases Nat.lt_or_ge i D.length with h | h
      · rw [List.getElem_append_left h]; exact g2 i h hlt
      · rw [List.getElem_append_right h]
        have : i - D.length = 0 := by simp at hi; omega
        simp only [this, List.getElem_cons_zero]; exact h1
/-- One more is done to both. -/
theorem agree_step {l l' : List Pc} {D : List Dn} {s : Sp} {v : Int} {on : Bool} (h : Agree l D) (hc : ChP l s (if on then [(s.1, s.2, v)] else []) l') : Agree l' (if s.1 < s.2 then D ++ [(s, v, on)] else D) := by
  intro k u
  rw [hc.2 k u]
  split
  · rename_i hk
    rw [if_pos (show s.1 < s.2 by omega), rget_snoc]
    constructor
    · intro hp
      cases on with
      | false => exact absurd hp (HasP_nil k u)
      | true => exact .inl ⟨hk, rfl, by rw [if_pos rfl] at hp; exact ((HasP_one _ _ _).1 hp).2.2.symm⟩
    · rintro (⟨_, h1, h2⟩ | ⟨h1, _⟩)
      · simp only at h1 h2
        subst h1
        rw [if_pos rfl] at h2 ⊢
        exact (HasP_one _ _ _).2 ⟨hk.1, hk.2, h2.symm⟩
      · exact absurd hk h1
  · rename_i hk
    rw [h k u]
    split
    · rw [rget_snoc]
      constructor
      · exact fun g => .inr ⟨hk, g⟩
      · rintro (⟨g, _⟩ | ⟨_, g⟩)
        · exact absurd g hk
        · exact g
    · exact Iff.rfl
theorem rget_unique {D : List Dn} {k v u : Int} {a b : Bool} (h : RGet D k v a) (g : RGet D k u b) : v = u ∧ a = b := by
  rcases h with ⟨h1, h2, h3⟩ | ⟨j, hj, h1, h2, h3, h4⟩
  · rcases g with ⟨g1, g2, g3⟩ | ⟨i, hi, g1, _⟩
    · exact ⟨by rw [h2, g2], by rw [h3, g3]⟩
    · exact absurd g1 (h1 _ (List.getElem_mem hi))
  · rcases g with ⟨g1, _⟩ | ⟨i, hi, g1, g2, g3, g4⟩
    · exact absurd h1 (g1 _ (List.getElem_mem hj))
    · obtain rfl : i = j := by
        rcases Nat.lt_trichotomy i j with h | h | h
        · exact absurd h1 (g2 j hj h)
        · exact h
        · exact absurd g1 (h2 i hi h)
      exact ⟨by rw [h4, g4], by rw [h3, g3]⟩
/-- Both answer the same. -/
theorem agree_get {l : List Pc} {D : List Dn} {k v u : Int} {a b : Bool} (h : Agree l D) (h1 : GetOf l k v a) (h2 : RGet D k u b) : v = u ∧ a = b := by
  cases a with
  | true => exact rget_unique ((h k v).1 (h1.1 rfl)) h2
  | false =>
    obtain ⟨rfl, hn⟩ := h1.2 rfl
    cases b with
    | true => exact absurd ((h k u).2 h2) (hn u)
    | false =>
      rcases h2 with ⟨_, h2, _⟩ | ⟨j, hj, _, _, h3, h4⟩
      · exact ⟨h2.symm, rfl⟩
      · rw [← h3] at h4
        exact ⟨by rw [h4]; rfl, rfl⟩
end Go.Proofs.Ytbfmanhbbancmaa
