/- The document's Pieces, as lists: plain facts. -/
import Derived.Test.YtbfmanhbbancmaaSpMapD
import Derived.Test.YtbfmanhbbancmaaSpEnds1
namespace Go.Proofs.Ytbfmanhbbancmaa

theorem snocRec {α : Type} {P : List α → Prop} (h0 : P []) (h1 : ∀ l a, P l → P (l ++ [a])) (l : List α) : P l := by
  have key : ∀ (n : Nat) (l : List α), l.length = n → P l := by
    intro n
    induction n with
    | zero => intro l hl; rw [List.eq_nil_of_length_eq_zero hl]; exact h0
    | succ n ih =>
      intro l hl
      rcases List.eq_nil_or_concat l with rfl | ⟨q, y, rfl⟩
      · simp at hl
      · rw [List.concat_eq_append] at hl ⊢
        exact h1 q y (ih q (by simpa using hl))
  exact key _ l rfl
/-- What the document's Map tells, reckoned. -/
def rgetF (k : Int) : List Dn → Int × Bool
  | D => D.foldl (fun r d => if d.1.1 ≤ k ∧ k < d.1.2 then (if d.2.2 then d.2.1 else 0, d.2.2) else r) (0, false)
theorem rgetF_snoc (k : Int) (D : List Dn) (d : Dn) : rgetF k (D ++ [d]) = if d.1.1 ≤ k ∧ k < d.1.2 then (if d.2.2 then d.2.1 else 0, d.2.2) else rgetF k D := by
  simp [rgetF]
theorem rgetF_spec (k : Int) (D : List Dn) : RGet D k (rgetF k D).1 (rgetF k D).2 := by
  refine snocRec (P := fun D => RGet D k (rgetF k D).1 (rgetF k D).2) ((rget_nil _ _ _).2 ⟨rfl, rfl⟩) (fun D d ih => ?_) D
  · rw [rget_snoc, rgetF_snoc]
    by_cases h : d.1.1 ≤ k ∧ k < d.1.2
    · rw [if_pos h]; exact .inl ⟨h, rfl, rfl⟩
    · rw [if_neg h]; exact .inr ⟨h, ih⟩
theorem rgetF_iff (k v : Int) (ok : Bool) (D : List Dn) : RGet D k v ok ↔ rgetF k D = (v, ok) := by
  constructor
  · intro h
    have := rget_unique (rgetF_spec k D) h
    exact Prod.ext this.1 this.2
  · intro h
    have := rgetF_spec k D
    rwa [h] at this
/-- Where no span of D begins or ends between, it tells the same. -/
theorem rgetF_same (D : List Dn) (k m : Int) (h : ∀ d ∈ D, (d.1.1 ≤ k ∧ k < d.1.2) ↔ (d.1.1 ≤ m ∧ m < d.1.2)) : rgetF k D = rgetF m D := by
  revert h
  refine snocRec (P := fun D => (∀ d ∈ D, (d.1.1 ≤ k ∧ k < d.1.2) ↔ (d.1.1 ≤ m ∧ m < d.1.2)) → rgetF k D = rgetF m D) (fun _ => rfl) (fun D d ih h => ?_) D
  · rw [rgetF_snoc, rgetF_snoc, ih fun e he => h e (by simp [he])]
    have := h d (by simp)
    by_cases hk : d.1.1 ≤ k ∧ k < d.1.2
    · rw [if_pos hk, if_pos (this.1 hk)]
    · rw [if_neg hk, if_neg (fun e => hk (this.2 e))]
/-- The pieces from the first n ends. -/
def pcsD (D : List Dn) (E : List Int) : Nat → List Pc
  | 0 => []
  | n + 1 => if (rgetF (E.getD n 0) D).2 then layL (pcsD D E n) (E.getD n 0, E.getD (n + 1) 0, (rgetF (E.getD n 0) D).1) else pcsD D E n
theorem pcs_can (D : List Dn) (E : List Int) (hE : ∀ i, i + 1 < E.length → E.getD i 0 < E.getD (i + 1) 0) (n : Nat) (hn : n < E.length) :
    Can (pcsD D E n) ∧ (∀ x ∈ pcsD D E n, x.2.1 ≤ E.getD n 0) ∧ (∀ k v, HasP (pcsD D E n) k v ↔ ∃ i, i < n ∧ E.getD i 0 ≤ k ∧ k < E.getD (i + 1) 0 ∧ rgetF (E.getD i 0) D = (v, true)) := by
  induction n with
  | zero =>
    refine ⟨⟨(fun x hx => by cases hx), List.Pairwise.nil⟩, (fun x hx => by cases hx), fun k v => ⟨fun h => absurd h (HasP_nil k v), ?_⟩⟩
    rintro ⟨i, hi, _⟩; omega
  | succ n ih =>
    obtain ⟨c1, c2, c3⟩ := ih (by omega)
    have hlt := hE n hn
    unfold pcsD
    split
    · rename_i hon
      obtain ⟨d1, d2, d3⟩ := lay_can (pcsD D E n) (E.getD n 0, E.getD (n + 1) 0, (rgetF (E.getD n 0) D).1) c1 hlt c2
      refine ⟨d1, fun x hx => ?_, fun k v => ?_⟩
      · obtain ⟨y, hy, y1, _⟩ := (d3 x hx).2
        rcases List.mem_append.1 hy with hy | hy
        · have := c2 y hy; omega
        · obtain rfl : y = (E.getD n 0, E.getD (n + 1) 0, (rgetF (E.getD n 0) D).1) := by simpa using hy
          rw [y1]; exact Int.le_refl _
      · rw [d2, c3, HasP_one]
        constructor
        · rintro (⟨i, hi, h⟩ | ⟨h1, h2, h3⟩)
          · exact ⟨i, by omega, h⟩
          · exact ⟨n, by omega, h1, h2, Prod.ext h3 hon⟩
        · rintro ⟨i, hi, h1, h2, h3⟩
          rcases Nat.lt_or_ge i n with h | h
          · exact .inl ⟨i, h, h1, h2, h3⟩
          · obtain rfl : i = n := by omega
            exact .inr ⟨h1, h2, by rw [h3]⟩
    · rename_i hon
      refine ⟨c1, fun x hx => by have := c2 x hx; omega, fun k v => ?_⟩
      rw [c3]
      constructor
      · rintro ⟨i, hi, h⟩; exact ⟨i, by omega, h⟩
      · rintro ⟨i, hi, h1, h2, h3⟩
        rcases Nat.lt_or_ge i n with h | h
        · exact ⟨i, h, h1, h2, h3⟩
        · obtain rfl : i = n := by omega
          rw [h3] at hon; exact absurd rfl hon
theorem pair_lt {E : List Int} (h : E.Pairwise fun x y => x < y) : ∀ i j, i < j → j < E.length → E.getD i 0 < E.getD j 0 := by
  intro i j hij hj
  have := List.pairwise_iff_getElem.1 h i j (by omega) hj hij
  rw [List.getD_eq_getElem?_getD, List.getD_eq_getElem?_getD, List.getElem?_eq_getElem hj, List.getElem?_eq_getElem (by omega)]
  exact this
theorem mem_at {E : List Int} {x : Int} (h : x ∈ E) : ∃ j, j < E.length ∧ E.getD j 0 = x := by
  obtain ⟨j, hj, e⟩ := List.mem_iff_getElem.1 h
  exact ⟨j, hj, by rw [List.getD_eq_getElem?_getD, List.getElem?_eq_getElem hj]; exact e⟩
/-- Each number lies before the first end, behind the last, or between two. -/
theorem ends_find {E : List Int} (k : Int) (n : Nat) (hn : n < E.length) (h0 : E.getD 0 0 ≤ k) (h1 : k < E.getD n 0) : ∃ i, i < n ∧ E.getD i 0 ≤ k ∧ k < E.getD (i + 1) 0 := by
  induction n with
  | zero => omega
  | succ n ih =>
    rcases Int.lt_or_le k (E.getD n 0) with hk | hk
    · obtain ⟨i, hi, h⟩ := ih (by omega) hk
      exact ⟨i, by omega, h⟩
    · exact ⟨n, by omega, hk, h1⟩
theorem pcs_all (D : List Dn) (E : List Int) (hE : E.Pairwise fun x y => x < y) (hD : ∀ d ∈ D, d.1.1 ∈ E ∧ d.1.2 ∈ E) (n : Nat) (hn : n + 1 = E.length) :
    Can (pcsD D E n) ∧ ∀ k v, HasP (pcsD D E n) k v ↔ RGet D k v true := by
  obtain ⟨c1, c2, c3⟩ := pcs_can D E (fun i hi => pair_lt hE i (i + 1) (by omega) hi) n (by omega)
  refine ⟨c1, fun k v => ?_⟩
  have same : ∀ i, i < n → E.getD i 0 ≤ k → k < E.getD (i + 1) 0 → rgetF k D = rgetF (E.getD i 0) D := by
    intro i hi h1 h2
    refine rgetF_same D _ _ fun d hd => ?_
    obtain ⟨⟨a, ha, ea⟩, ⟨b, hb, eb⟩⟩ := (show (∃ j, j < E.length ∧ E.getD j 0 = d.1.1) ∧ (∃ j, j < E.length ∧ E.getD j 0 = d.1.2) from ⟨mem_at (hD d hd).1, mem_at (hD d hd).2⟩)
    have lt := pair_lt hE
    have q1 : d.1.1 ≤ k ↔ d.1.1 ≤ E.getD i 0 := by
      rw [← ea]
      constructor
      · intro h
        rcases Nat.lt_or_ge i a with hh | hh
        · rcases Nat.lt_or_ge (i + 1) a with h3 | h3
          · have := lt (i + 1) a h3 ha; omega
          · obtain rfl : a = i + 1 := by omega
            omega
        · rcases Nat.lt_or_ge a i with h3 | h3
          · have := lt a i h3 (by omega); omega
          · obtain rfl : a = i := by omega
            omega
      · intro h; omega
    have q2 : k < d.1.2 ↔ E.getD i 0 < d.1.2 := by
      rw [← eb]
      constructor
      · intro h; omega
      · intro h
        rcases Nat.lt_or_ge i b with hh | hh
        · rcases Nat.lt_or_ge (i + 1) b with h3 | h3
          · have := lt (i + 1) b h3 hb; omega
          · obtain rfl : b = i + 1 := by omega
            omega
        · rcases Nat.lt_or_ge b i with h3 | h3
          · have := lt b i h3 (by omega); omega
          · obtain rfl : b = i := by omega
            omega
    rw [q1, q2]
  rw [c3, rgetF_iff]
  constructor
  · rintro ⟨i, hi, h1, h2, h3⟩
    rw [same i hi h1 h2]; exact h3
  · intro h
    have hg := (rgetF_iff k v true D).2 h
    rcases hg with ⟨_, _, h3⟩ | ⟨j, hj, hit, _⟩
    · cases h3
    · have lt := pair_lt hE
      obtain ⟨a, ha, ea⟩ := mem_at (hD _ (List.getElem_mem hj)).1
      obtain ⟨b, hb, eb⟩ := mem_at (hD _ (List.getElem_mem hj)).2
      have g1 : E.getD 0 0 ≤ k := by
        have := hit.1
        rcases Nat.eq_zero_or_pos a with h0 | h0
        · subst h0; omega
        · have := lt 0 a h0 ha; omega
      have g2 : k < E.getD n 0 := by
        have := hit.2
        rcases Nat.lt_or_ge b n with h0 | h0
        · have := lt b n h0 (by omega); omega
        · obtain rfl : b = n := by omega
          omega
      obtain ⟨i, hi, h1, h2⟩ := ends_find k n (by omega) g1 g2
      exact ⟨i, hi, h1, h2, by rw [← same i hi h1 h2]; exact h⟩
end Go.Proofs.Ytbfmanhbbancmaa
