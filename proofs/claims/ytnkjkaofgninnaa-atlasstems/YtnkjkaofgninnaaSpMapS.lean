/- The pieces of a Map as what they tell of each block: plain facts, without the program. -/
import Derived.Test.YtnkjkaofgninnaaSpPut
namespace Go.Proofs.Ytnkjkaofgninnaa

/-- Block k has the value v. -/
def HasP (l : List Pc) (k v : Int) : Prop := ∃ x ∈ l, x.1 ≤ k ∧ k < x.2.1 ∧ x.2.2 = v
/-- A piece may stand behind another. -/
def Nxt (a b : Pc) : Prop := a.2.1 < b.1 ∨ (a.2.1 = b.1 ∧ a.2.2 ≠ b.2.2)
/-- The pieces are what a Map's are: none empty, rising, none that could be one with the next. -/
def Can (l : List Pc) : Prop := (∀ x ∈ l, x.1 < x.2.1) ∧ l.Pairwise Nxt
theorem Nxt.le {a b : Pc} (h : Nxt a b) : a.2.1 ≤ b.1 := by rcases h with h | ⟨h, _⟩ <;> omega
theorem HasP_nil (k v : Int) : ¬ HasP [] k v := fun ⟨_, h, _⟩ => by cases h
theorem HasP_append (a b : List Pc) (k v : Int) : HasP (a ++ b) k v ↔ HasP a k v ∨ HasP b k v := by
  constructor
  · rintro ⟨x, hx, h⟩
    rcases List.mem_append.1 hx with hx | hx
    · exact .inl ⟨x, hx, h⟩
    · exact .inr ⟨x, hx, h⟩
  · rintro (⟨x, hx, h⟩ | ⟨x, hx, h⟩)
    · exact ⟨x, List.mem_append.2 (.inl hx), h⟩
    · exact ⟨x, List.mem_append.2 (.inr hx), h⟩
theorem HasP_one (x : Pc) (k v : Int) : HasP [x] k v ↔ x.1 ≤ k ∧ k < x.2.1 ∧ x.2.2 = v := by
  constructor
  · rintro ⟨y, hy, h⟩
    obtain rfl : y = x := by simpa using hy
    exact h
  · exact fun h => ⟨x, by simp, h⟩
theorem HasP_cons (x : Pc) (l : List Pc) (k v : Int) : HasP (x :: l) k v ↔ (x.1 ≤ k ∧ k < x.2.1 ∧ x.2.2 = v) ∨ HasP l k v := by
  rw [show x :: l = [x] ++ l from rfl, HasP_append, HasP_one]
theorem Can.tail {x : Pc} {l : List Pc} (h : Can (x :: l)) : Can l := ⟨fun y hy => h.1 y (List.mem_cons_of_mem _ hy), (List.pairwise_cons.1 h.2).2⟩
theorem Can.head {x : Pc} {l : List Pc} (h : Can (x :: l)) : x.1 < x.2.1 ∧ ∀ y ∈ l, Nxt x y := ⟨h.1 x (by simp), (List.pairwise_cons.1 h.2).1⟩
/-- Where the first of two rows ends before the other's, the other tells more. -/
theorem can_end {x y : Pc} {t u : List Pc} (ha : Can (x :: t)) (h1 : x.1 = y.1) (h2 : x.2.2 = y.2.2) (h : ∀ k v, HasP (y :: u) k v → HasP (x :: t) k v) : ¬ x.2.1 < y.2.1 := by
  intro hlt
  obtain ⟨z, hz, z1, z2, z3⟩ := h x.2.1 y.2.2 ⟨y, by simp, by have := ha.head.1; omega, hlt, rfl⟩
  rcases List.mem_cons.1 hz with rfl | hz
  · omega
  · rcases ha.head.2 z hz with h | ⟨_, h⟩
    · omega
    · exact h (by rw [h2, z3])
theorem can_unique (a b : List Pc) (ha : Can a) (hb : Can b) (h : ∀ k v, HasP a k v ↔ HasP b k v) : a = b := by
  induction a generalizing b with
  | nil =>
    cases b with
    | nil => rfl
    | cons y u => exact absurd ((h y.1 y.2.2).2 ⟨y, by simp, by omega, hb.head.1, rfl⟩) (HasP_nil _ _)
  | cons x t ih =>
    cases b with
    | nil => exact absurd ((h x.1 x.2.2).1 ⟨x, by simp, by omega, ha.head.1, rfl⟩) (HasP_nil _ _)
    | cons y u =>
      have key : ∀ {x y : Pc} {t u : List Pc}, Can (x :: t) → Can (y :: u) → (∀ k v, HasP (x :: t) k v → HasP (y :: u) k v) → y.1 ≤ x.1 := by
        intro x y t u ha hb h
        obtain ⟨z, hz, z1, z2, _⟩ := h x.1 x.2.2 ⟨x, by simp, by omega, ha.head.1, rfl⟩
        rcases List.mem_cons.1 hz with rfl | hz
        · exact z1
        · have := (hb.head.2 z hz).le; have := hb.head.1; omega
      have e1 : x.1 = y.1 := by
        have := key ha hb fun k v => (h k v).1
        have := key hb ha fun k v => (h k v).2
        omega
      have e2 : x.2.2 = y.2.2 := by
        obtain ⟨z, hz, z1, z2, z3⟩ := (h x.1 x.2.2).1 ⟨x, by simp, by omega, ha.head.1, rfl⟩
        rcases List.mem_cons.1 hz with rfl | hz
        · exact z3.symm
        · have := (hb.head.2 z hz).le; have := hb.head.1; omega
      have e3 : x.2.1 = y.2.1 := by
        have := can_end ha e1 e2 fun k v => (h k v).2
        have := can_end hb e1.symm e2.symm fun k v => (h k v).1
        omega
      obtain rfl : x = y := by
        obtain ⟨p, q, v⟩ := x
        obtain ⟨p', q', v'⟩ := y
        simp only at e1 e2 e3
        subst e1 e2 e3
        rfl
      rw [ih u ha.tail hb.tail fun k v => ?_]
      have hk := h k v
      rw [HasP_cons, HasP_cons] at hk
      constructor
      · intro ht
        rcases hk.1 (.inr ht) with h' | h'
        · obtain ⟨z, hz, z1, z2, _⟩ := ht
          have := (ha.head.2 z hz).le; omega
        · exact h'
      · intro ht
        rcases hk.2 (.inr ht) with h' | h'
        · obtain ⟨z, hz, z1, z2, _⟩ := ht
          have := (hb.head.2 z hz).le; omega
        · exact h'
theorem can_append (a b : List Pc) : Can (a ++ b) ↔ Can a ∧ Can b ∧ ∀ x ∈ a, ∀ y ∈ b, Nxt x y := by
  unfold Can
  rw [List.pairwise_append]
  constructor
  · rintro ⟨h1, h2, h3, h4⟩
    exact ⟨⟨fun x hx => h1 x (by simp [hx]), h2⟩, ⟨fun x hx => h1 x (by simp [hx]), h3⟩, h4⟩
  · rintro ⟨⟨h1, h2⟩, ⟨h3, h4⟩, h5⟩
    refine ⟨fun x hx => ?_, h2, h4, h5⟩
    rcases List.mem_append.1 hx with hx | hx
    · exact h1 x hx
    · exact h3 x hx
theorem can_one (x : Pc) (h : x.1 < x.2.1) : Can [x] := ⟨fun y hy => by obtain rfl : y = x := (by simpa using hy); exact h, List.pairwise_singleton _ _⟩
/-- A piece more is laid. -/
theorem lay_can (p : List Pc) (x : Pc) (hp : Can p) (hx : x.1 < x.2.1) (hl : ∀ y ∈ p, y.2.1 ≤ x.1) :
    Can (layL p x) ∧ (∀ k v, HasP (layL p x) k v ↔ HasP p k v ∨ HasP [x] k v) ∧ (∀ e ∈ layL p x, (∃ y ∈ p ++ [x], e.1 = y.1 ∧ e.2.2 = y.2.2) ∧ (∃ y ∈ p ++ [x], e.2.1 = y.2.1 ∧ e.2.2 = y.2.2)) := by
  rcases List.eq_nil_or_concat p with rfl | ⟨q, y, rfl⟩
  · rw [layL_nil]
    exact ⟨can_one x hx, fun k v => by simp [HasP_nil], fun e he => ⟨⟨e, by simpa using he, rfl, rfl⟩, ⟨e, by simpa using he, rfl, rfl⟩⟩⟩
  · rw [List.concat_eq_append] at hp hl ⊢
    rw [layL_snoc]
    obtain ⟨hq, hy, hn⟩ := (can_append q [y]).1 hp
    have hyl := hl y (by simp)
    have hy1 := hy.1 y (by simp)
    split
    · rename_i hm
      refine ⟨(can_append _ _).2 ⟨hq, can_one _ (by simp only; omega), fun a ha b hb => ?_⟩, fun k v => ?_, fun e he => ?_⟩
      · obtain rfl : b = (y.1, x.2.1, y.2.2) := by simpa using hb
        exact hn a ha y (by simp)
      · rw [HasP_append, HasP_append, HasP_one, HasP_one, HasP_one]
        simp only
        constructor
        · rintro (h | ⟨h1, h2, h3⟩)
          · exact .inl (.inl h)
          · rcases Int.lt_or_le k y.2.1 with h | h
            · exact .inl (.inr ⟨h1, h, h3⟩)
            · exact .inr ⟨by omega, h2, by rw [← hm.2]; exact h3⟩
        · rintro ((h | ⟨h1, h2, h3⟩) | ⟨h1, h2, h3⟩)
          · exact .inl h
          · exact .inr ⟨h1, by omega, h3⟩
          · exact .inr ⟨by omega, h2, by rw [hm.2]; exact h3⟩
      · rcases List.mem_append.1 he with he | he
        · exact ⟨⟨e, by simp [he], rfl, rfl⟩, ⟨e, by simp [he], rfl, rfl⟩⟩
        · obtain rfl : e = (y.1, x.2.1, y.2.2) := by simpa using he
          exact ⟨⟨y, by simp, rfl, rfl⟩, ⟨x, by simp, rfl, hm.2⟩⟩
    · rename_i hm
      refine ⟨(can_append _ _).2 ⟨hp, can_one x hx, fun a ha b hb => ?_⟩, fun k v => HasP_append _ _ _ _, fun e he => ⟨⟨e, he, rfl, rfl⟩, ⟨e, he, rfl, rfl⟩⟩⟩
      obtain rfl : b = x := by simpa using hb
      rcases List.mem_append.1 ha with ha | ha
      · have := (hn a ha y (by simp)).le
        exact .inl (by omega)
      · obtain rfl : a = y := by simpa using ha
        by_cases he : a.2.1 = b.1
        · exact .inr ⟨he, fun h => hm ⟨he, h⟩⟩
        · exact .inl (by omega)
theorem layF_can (xs p : List Pc) (hp : Can p) (hx : ∀ x ∈ xs, x.1 < x.2.1) (hr : xs.Pairwise fun a b => a.2.1 ≤ b.1) (hl : ∀ y ∈ p, ∀ x ∈ xs, y.2.1 ≤ x.1) :
    Can (xs.foldl layL p) ∧ (∀ k v, HasP (xs.foldl layL p) k v ↔ HasP p k v ∨ HasP xs k v) ∧ (∀ e ∈ xs.foldl layL p, (∃ y ∈ p ++ xs, e.1 = y.1 ∧ e.2.2 = y.2.2) ∧ (∃ y ∈ p ++ xs, e.2.1 = y.2.1 ∧ e.2.2 = y.2.2)) := by
  induction xs generalizing p with
  | nil => exact ⟨hp, fun k v => by simp [HasP_nil], fun e he => ⟨⟨e, by simpa using he, rfl, rfl⟩, ⟨e, by simpa using he, rfl, rfl⟩⟩⟩
  | cons x xs ih =>
    obtain ⟨hx1, hr1⟩ := List.pairwise_cons.1 hr
    obtain ⟨c1, c2, c3⟩ := lay_can p x hp (hx x (by simp)) fun y hy => hl y hy x (by simp)
    obtain ⟨d1, d2, d3⟩ := ih (layL p x) c1 (fun y hy => hx y (by simp [hy])) hr1 (fun e he z hz => by
      obtain ⟨y, hy, y1, _⟩ := (c3 e he).2
      rw [y1]
      rcases List.mem_append.1 hy with hy | hy
      · exact hl y hy z (by simp [hz])
      · obtain rfl : y = x := by simpa using hy
        exact hx1 z hz)
    have sub : ∀ y ∈ p ++ [x], y ∈ p ++ x :: xs := fun y hy => by
      rcases List.mem_append.1 hy with hy | hy
      · simp [hy]
      · simp at hy; simp [hy]
    refine ⟨d1, fun k v => ?_, fun e he => ?_⟩
    · rw [List.foldl_cons, d2, c2, HasP_one, HasP_cons, or_assoc]
    · obtain ⟨⟨y, hy, y1, y2⟩, ⟨z, hz, z1, z2⟩⟩ := d3 e he
      constructor
      · rcases List.mem_append.1 hy with hy | hy
        · obtain ⟨a, ha, a1, a2⟩ := (c3 y hy).1
          exact ⟨a, sub a ha, by omega, by omega⟩
        · exact ⟨y, by simp [hy], y1, y2⟩
      · rcases List.mem_append.1 hz with hz | hz
        · obtain ⟨a, ha, a1, a2⟩ := (c3 z hz).2
          exact ⟨a, sub a ha, by omega, by omega⟩
        · exact ⟨z, by simp [hz], z1, z2⟩
/-- What is cut out of a row. -/
theorem cutP_mem (s : Sp) (l : List Pc) (x : Pc) : x ∈ cutP s l ↔ ∃ z ∈ l, max z.1 s.1 < min z.2.1 s.2 ∧ x = (max z.1 s.1, min z.2.1 s.2, z.2.2) := by
  unfold cutP
  rw [List.mem_filterMap]
  constructor
  · rintro ⟨z, hz, h⟩
    split at h
    · rename_i hc; cases h; exact ⟨z, hz, hc, rfl⟩
    · cases h
  · rintro ⟨z, hz, hc, rfl⟩
    exact ⟨z, hz, by rw [if_pos hc]⟩
theorem HasP_cut (s : Sp) (l : List Pc) (k v : Int) : HasP (cutP s l) k v ↔ HasP l k v ∧ s.1 ≤ k ∧ k < s.2 := by
  constructor
  · rintro ⟨x, hx, h1, h2, h3⟩
    obtain ⟨z, hz, hc, rfl⟩ := (cutP_mem s l x).1 hx
    simp only at h1 h2 h3
    exact ⟨⟨z, hz, by omega, by omega, h3⟩, by omega, by omega⟩
  · rintro ⟨⟨z, hz, h1, h2, h3⟩, h4, h5⟩
    exact ⟨_, (cutP_mem s l _).2 ⟨z, hz, by omega, rfl⟩, by simp only; omega, by simp only; omega, h3⟩
theorem cutP_pair (s : Sp) (l : List Pc) (h : l.Pairwise fun a b => a.2.1 ≤ b.1) : (cutP s l).Pairwise fun a b => a.2.1 ≤ b.1 := by
  unfold cutP
  rw [List.pairwise_filterMap]
  refine h.imp fun {a b} hab x hx y hy => ?_
  split at hx
  · split at hy
    · cases hx; cases hy; simp only; omega
    · cases hy
  · cases hx
theorem cutP_one (s : Sp) (l : List Pc) (h : l.Pairwise fun a b => a.2.1 ≤ b.1) (hs : ∀ z ∈ l, max z.1 s.1 < min z.2.1 s.2 → ∀ y ∈ l, max y.1 s.1 < min y.2.1 s.2 → y.1 < z.2.1) : (cutP s l).length ≤ 1 := by
  induction l with
  | nil => simp [cutP]
  | cons x l ih =>
    obtain ⟨h1, h2⟩ := List.pairwise_cons.1 h
    by_cases hx : max x.1 s.1 < min x.2.1 s.2
    · have : cutP s l = [] := by
        rcases hc : cutP s l with _ | ⟨y, t⟩
        · rfl
        · obtain ⟨z, hz, hq, -⟩ := (cutP_mem s l y).1 (by rw [hc]; simp)
          have := hs x (by simp) hx z (by simp [hz]) hq
          have := h1 z hz
          omega
      have e : cutP s (x :: l) = (max x.1 s.1, min x.2.1 s.2, x.2.2) :: cutP s l := by simp only [cutP, List.filterMap_cons]; rw [if_pos hx]
      rw [e, this]; simp
    · have e : cutP s (x :: l) = cutP s l := by simp only [cutP, List.filterMap_cons]; rw [if_neg hx]
      rw [e]
      exact ih h2 fun z hz hq y hy => hs z (by simp [hz]) hq y (by simp [hy])
theorem Can.rise {l : List Pc} (h : Can l) : l.Pairwise fun a b => a.2.1 ≤ b.1 := h.2.imp Nxt.le
theorem Can.rise3 {l : List Pc} (h : Can l) : Rise3 l := by
  intro i j hij hj
  have h1 := (List.pairwise_iff_getElem.1 h.rise) i j (by omega) hj hij
  have h2 := h.1 l[j] (List.getElem_mem hj)
  have h3 := h.1 (l[i]'(by omega)) (List.getElem_mem _)
  exact ⟨h1, by omega, by omega⟩
/-- Where the parts of a row lie to s. -/
theorem near_parts {l : List Pc} {s : Sp} {i j : Nat} (hn : NearL l s i j) : l = l.take i ++ (l.take j).drop i ++ l.drop j ∧ (∀ y ∈ l.take i, y.2.1 < s.1) ∧ (∀ z ∈ (l.take j).drop i, s.1 ≤ z.2.1 ∧ z.1 ≤ s.2) ∧ (∀ z ∈ l.drop j, s.2 < z.1) := by
  refine ⟨?_, ?_, ?_, ?_⟩
  · have h1 : l.take i = (l.take j).take i := by rw [List.take_take, Nat.min_eq_left hn.ij]
    rw [h1, List.take_append_drop, List.take_append_drop]
  · intro y hy
    obtain ⟨k, hk, rfl⟩ := List.mem_iff_getElem.1 hy
    rw [List.length_take] at hk
    rw [List.getElem_take]
    exact hn.f1 k (by omega) (by omega)
  · intro z hz
    obtain ⟨k, hk, rfl⟩ := List.mem_iff_getElem.1 hz
    rw [List.length_drop, List.length_take] at hk
    rw [List.getElem_drop, List.getElem_take]
    exact ⟨hn.f2 (i + k) (by omega) (by omega), hn.f3 (i + k) (by omega) (by omega)⟩
  · intro z hz
    obtain ⟨k, hk, rfl⟩ := List.mem_iff_getElem.1 hz
    rw [List.length_drop] at hk
    rw [List.getElem_drop]
    exact hn.f4 (j + k) (by omega) (by omega)
/-- What change makes of a row. -/
theorem ch_can (l put : List Pc) (s : Sp) (i j : Nat) (hl : Can l) (hn : NearL l s i j) (hs : s.1 < s.2) (hI : ∀ x ∈ l, -9223372036854775808 ≤ x.1 ∧ x.2.1 ≤ 9223372036854775807)
    (hp : put = [] ∨ ∃ v, put = [(s.1, s.2, v)]) :
    Can (chL l put s i j) ∧ (∀ k v, HasP (chL l put s i j) k v ↔ if s.1 ≤ k ∧ k < s.2 then HasP put k v else HasP l k v) ∧ (chL l put s i j).length ≤ l.length + 3 := by
  obtain ⟨hl0, hA, hB, hC⟩ := near_parts hn
  have hlen : (l.take i).length + ((l.take j).drop i).length + (l.drop j).length = l.length := by
    have := congrArg List.length hl0
    simp only [List.length_append] at this
    omega
  unfold chL anewL
  obtain ⟨A, eA⟩ : ∃ A, A = l.take i := ⟨_, rfl⟩
  obtain ⟨B, eB⟩ : ∃ B, B = (l.take j).drop i := ⟨_, rfl⟩
  obtain ⟨C, eC⟩ : ∃ C, C = l.drop j := ⟨_, rfl⟩
  rw [← eA, ← eB, ← eC] at hl0 hlen ⊢
  rw [← eA] at hA
  rw [← eB] at hB
  rw [← eC] at hC
  clear eA eB eC hn
  rw [hl0] at hl hI
  obtain ⟨hAB, hc, hABC⟩ := (can_append _ _).1 hl
  obtain ⟨ha, hb, hab⟩ := (can_append _ _).1 hAB
  have hL : ∀ x ∈ cutP (-9223372036854775808, s.1) B, x.1 < x.2.1 ∧ x.2.1 ≤ s.1 ∧ ∃ z ∈ B, x.1 = z.1 ∧ x.2.2 = z.2.2 := by
    intro x hx
    obtain ⟨z, hz, hc, rfl⟩ := (cutP_mem _ _ _).1 hx
    have := (hI z (by simp [hz])).1
    exact ⟨hc, by simp only; omega, z, hz, by simp only; omega, rfl⟩
  have hR : ∀ x ∈ cutP (s.2, 9223372036854775807) B, x.1 < x.2.1 ∧ s.2 ≤ x.1 ∧ ∃ z ∈ B, x.2.1 = z.2.1 ∧ x.2.2 = z.2.2 := by
    intro x hx
    obtain ⟨z, hz, hc, rfl⟩ := (cutP_mem _ _ _).1 hx
    have := (hI z (by simp [hz])).2
    exact ⟨hc, by simp only; omega, z, hz, by simp only; omega, rfl⟩
  have hP : ∀ x ∈ put, x.1 = s.1 ∧ x.2.1 = s.2 := by
    intro x hx
    rcases hp with rfl | ⟨v, rfl⟩
    · cases hx
    · obtain rfl : x = (s.1, s.2, v) := by simpa using hx
      exact ⟨rfl, rfl⟩
  have hPp : put.Pairwise fun a b => a.2.1 ≤ b.1 := by rcases hp with rfl | ⟨v, rfl⟩ <;> simp
  have hPl : put.length ≤ 1 := by rcases hp with rfl | ⟨v, rfl⟩ <;> simp
  have lL := cutP_one (-9223372036854775808, s.1) B hb.rise (fun z hz hq y hy hq' => by have := hB z hz; simp only at hq hq'; omega)
  have lR := cutP_one (s.2, 9223372036854775807) B hb.rise (fun z hz hq y hy hq' => by have := hB y hy; simp only at hq hq'; omega)
  rw [← List.foldl_append, ← List.foldl_append]
  obtain ⟨xs, hxs⟩ : ∃ xs, xs = cutP (-9223372036854775808, s.1) B ++ (put ++ cutP (s.2, 9223372036854775807) B) := ⟨_, rfl⟩
  rw [← hxs]
  have hx1 : ∀ x ∈ xs, x.1 < x.2.1 := by
    intro x hx
    rw [hxs] at hx
    simp only [List.mem_append] at hx
    rcases hx with hx | hx | hx
    · exact (hL x hx).1
    · have := hP x hx; omega
    · exact (hR x hx).1
  have hx2 : xs.Pairwise fun a b => a.2.1 ≤ b.1 := by
    rw [hxs, List.pairwise_append, List.pairwise_append]
    refine ⟨cutP_pair _ _ hb.rise, ⟨hPp, cutP_pair _ _ hb.rise, fun a ha b hb => ?_⟩, fun a ha b hb => ?_⟩
    · have := hP a ha; have := hR b hb; omega
    · have := hL a ha
      rcases List.mem_append.1 hb with hb | hb
      · have := hP b hb; omega
      · have := hR b hb; omega
  obtain ⟨d1, d2, d3⟩ := layF_can xs [] ⟨(fun x hx => by cases hx), List.Pairwise.nil⟩ hx1 hx2 (fun y hy => by cases hy)
  refine ⟨?_, fun k v => ?_, ?_⟩
  · refine (can_append _ _).2 ⟨(can_append _ _).2 ⟨ha, d1, fun y hy e he => ?_⟩, hc, fun e he z hz => ?_⟩
    · obtain ⟨x, hx, e1, e2⟩ := (d3 e he).1
      have hy1 := hA y hy
      rw [List.nil_append, hxs] at hx
      simp only [List.mem_append] at hx
      rcases hx with hx | hx | hx
      · obtain ⟨_, _, z, hz, z1, z2⟩ := hL x hx
        have := hab y hy z hz
        unfold Nxt at this ⊢
        rw [e1, e2, z1, z2]; exact this
      · have := hP x hx; exact .inl (by omega)
      · have := hR x hx; exact .inl (by omega)
    · rcases List.mem_append.1 he with he | he
      · exact hABC e (List.mem_append.2 (.inl he)) z hz
      · obtain ⟨x, hx, e1, e2⟩ := (d3 e he).2
        have hz1 := hC z hz
        rw [List.nil_append, hxs] at hx
        simp only [List.mem_append] at hx
        rcases hx with hx | hx | hx
        · have := hL x hx; exact .inl (by omega)
        · have := hP x hx; exact .inl (by omega)
        · obtain ⟨_, _, y, hy, y1, y2⟩ := hR x hx
          have := hABC y (List.mem_append.2 (.inr hy)) z hz
          unfold Nxt at this ⊢
          rw [e1, e2, y1, y2]; exact this
  · have hxk : HasP xs k v ↔ (HasP B k v ∧ -9223372036854775808 ≤ k ∧ k < s.1) ∨ HasP put k v ∨ (HasP B k v ∧ s.2 ≤ k ∧ k < 9223372036854775807) := by
      rw [hxs, HasP_append, HasP_append, HasP_cut, HasP_cut]
    rw [HasP_append, HasP_append, d2, hxk, hl0, HasP_append, HasP_append]
    have kA : HasP A k v → k < s.1 := fun ⟨y, hy, h1, h2, _⟩ => by have := hA y hy; omega
    have kC : HasP C k v → s.2 < k + 1 := fun ⟨y, hy, h1, h2, _⟩ => by have := hC y hy; omega
    have kB : HasP B k v → -9223372036854775808 ≤ k ∧ k < 9223372036854775807 := fun ⟨y, hy, h1, h2, _⟩ => by have := hI y (by simp [hy]); omega
    have kP : HasP put k v → s.1 ≤ k ∧ k < s.2 := fun ⟨y, hy, h1, h2, _⟩ => by have := hP y hy; omega
    have kN := HasP_nil k v
    split
    · rename_i hk
      constructor
      · rintro ((h | h | ⟨h, h1, h2⟩ | h | ⟨h, h1, h2⟩) | h)
        · have := kA h; omega
        · exact absurd h kN
        · omega
        · exact h
        · omega
        · have := kC h; omega
      · exact fun h => .inl (.inr (.inr (.inr (.inl h))))
    · rename_i hk
      constructor
      · rintro ((h | h | ⟨h, _⟩ | h | ⟨h, _⟩) | h)
        · exact .inl (.inl h)
        · exact absurd h kN
        · exact .inl (.inr h)
        · exact absurd (kP h) hk
        · exact .inl (.inr h)
        · exact .inr h
      · rintro ((h | h) | h)
        · exact .inl (.inl h)
        · have hb' := kB h
          rcases Int.lt_or_le k s.1 with h1 | h1
          · exact .inl (.inr (.inr (.inl ⟨h, hb'.1, h1⟩)))
          · exact .inl (.inr (.inr (.inr (.inr ⟨h, by omega, hb'.2⟩))))
        · exact .inr h
  · have := layF_len xs []
    have hxl : xs.length ≤ 3 := by rw [hxs]; simp only [List.length_append]; omega
    simp only [List.length_append, List.length_nil] at this ⊢
    omega
/-- The ends of the pieces stay within what the ints are. -/
theorem ch_I (l r : List Pc) (s : Sp) (put : List Pc) (hr : Can r) (h : ∀ k v, HasP r k v ↔ if s.1 ≤ k ∧ k < s.2 then HasP put k v else HasP l k v) (hs : -9223372036854775808 ≤ s.1 ∧ s.2 ≤ 9223372036854775807) (hI : ∀ x ∈ l, -9223372036854775808 ≤ x.1 ∧ x.2.1 ≤ 9223372036854775807) :
    ∀ x ∈ r, -9223372036854775808 ≤ x.1 ∧ x.2.1 ≤ 9223372036854775807 := by
  intro x hx
  have hx1 := hr.1 x hx
  have h1 := (h x.1 x.2.2).1 ⟨x, hx, by omega, hx1, rfl⟩
  have h2 := (h (x.2.1 - 1) x.2.2).1 ⟨x, hx, by omega, by omega, rfl⟩
  constructor
  · split at h1
    · omega
    · obtain ⟨z, hz, z1, _⟩ := h1
      have := hI z hz; omega
  · split at h2
    · omega
    · obtain ⟨z, hz, _, z2, _⟩ := h2
      have := hI z hz; omega
end Go.Proofs.Ytnkjkaofgninnaa
