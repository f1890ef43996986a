/- Plain facts on rows of spans as sets of blocks: plain rows with the same blocks are one; what Norm makes of a rising row, and what the document builds of parts between ends, is plain and has their blocks. No condition but those said. -/
import Derived.Test.YtbfmanhbbancmaaSpBase
namespace Go.Proofs.Ytbfmanhbbancmaa

/-- The row l has the block k. -/
def InL (l : List Sp) (k : Int) : Prop := ∃ x ∈ l, x.1 ≤ k ∧ k < x.2
/-- The row is plain: none is empty; each begins behind the one before it, with a gap. -/
def PlainL (l : List Sp) : Prop := (∀ x ∈ l, x.1 < x.2) ∧ l.Pairwise fun x y => x.2 < y.1
theorem InL_cons (x : Sp) (l : List Sp) (k : Int) : InL (x :: l) k ↔ (x.1 ≤ k ∧ k < x.2) ∨ InL l k := by
  constructor
  · rintro ⟨z, hz, h⟩
    rcases List.mem_cons.1 hz with rfl | hz
    · exact .inl h
    · exact .inr ⟨z, hz, h⟩
  · rintro (h | ⟨z, hz, h⟩)
    · exact ⟨x, List.mem_cons_self, h⟩
    · exact ⟨z, List.mem_cons_of_mem _ hz, h⟩
theorem InL_append (a b : List Sp) (k : Int) : InL (a ++ b) k ↔ InL a k ∨ InL b k := by
  constructor
  · rintro ⟨z, hz, h⟩
    rcases List.mem_append.1 hz with hz | hz
    · exact .inl ⟨z, hz, h⟩
    · exact .inr ⟨z, hz, h⟩
  · rintro (⟨z, hz, h⟩ | ⟨z, hz, h⟩)
    · exact ⟨z, List.mem_append_left _ hz, h⟩
    · exact ⟨z, List.mem_append_right _ hz, h⟩
theorem InL_one (x : Sp) (k : Int) : InL [x] k ↔ x.1 ≤ k ∧ k < x.2 := by
  rw [InL_cons]
  exact ⟨fun h => h.elim id (fun ⟨_, hz, _⟩ => by cases hz), .inl⟩
theorem PlainL.tail {x : Sp} {l : List Sp} (h : PlainL (x :: l)) : PlainL l := ⟨fun z hz => h.1 z (List.mem_cons_of_mem _ hz), (List.pairwise_cons.1 h.2).2⟩
theorem PlainL.beyond {x : Sp} {l : List Sp} (h : PlainL (x :: l)) {k : Int} (hk : InL l k) : x.2 < k := by
  obtain ⟨z, hz, h1, h2⟩ := hk
  have := (List.pairwise_cons.1 h.2).1 z hz
  omega
theorem PlainL.least {x : Sp} {l : List Sp} (h : PlainL (x :: l)) {k : Int} (hk : InL (x :: l) k) : x.1 ≤ k := by
  have h1 := h.1 x List.mem_cons_self
  rcases (InL_cons x l k).1 hk with h' | h'
  · exact h'.1
  · have := h.beyond h'; omega
theorem plain_end {x y : Sp} {a b : List Sp} (ha : PlainL (x :: a)) (h1 : x.1 = y.1) (he : ∀ k, InL (x :: a) k ↔ InL (y :: b) k) : ¬ x.2 < y.2 := by
  intro h
  have hx := ha.1 x List.mem_cons_self
  have hi := (he x.2).2 ((InL_cons y b x.2).2 (.inl ⟨by omega, h⟩))
  rcases (InL_cons x a x.2).1 hi with h' | h'
  · omega
  · have := ha.beyond h'; omega
/-- Two plain rows that have the same blocks are one. -/
theorem plain_unique {a b : List Sp} (ha : PlainL a) (hb : PlainL b) (he : ∀ k, InL a k ↔ InL b k) : a = b := by
  induction a generalizing b with
  | nil =>
    cases b with
    | nil => rfl
    | cons y b =>
      have := hb.1 y List.mem_cons_self
      obtain ⟨_, hz, _⟩ := (he y.1).2 ((InL_cons y b y.1).2 (.inl ⟨Int.le_refl _, this⟩))
      cases hz
  | cons x a ih =>
    cases b with
    | nil =>
      have := ha.1 x List.mem_cons_self
      obtain ⟨_, hz, _⟩ := (he x.1).1 ((InL_cons x a x.1).2 (.inl ⟨Int.le_refl _, this⟩))
      cases hz
    | cons y b =>
      have hx := ha.1 x List.mem_cons_self
      have hy := hb.1 y List.mem_cons_self
      have h1 := hb.least ((he x.1).1 ((InL_cons x a x.1).2 (.inl ⟨Int.le_refl _, hx⟩)))
      have h2 := ha.least ((he y.1).2 ((InL_cons y b y.1).2 (.inl ⟨Int.le_refl _, hy⟩)))
      have e1 : x.1 = y.1 := by omega
      have h3 := plain_end ha e1 he
      have h4 := plain_end hb e1.symm fun k => (he k).symm
      have e2 : x.2 = y.2 := by omega
      have exy : x = y := Prod.ext e1 e2
      subst exy
      rw [ih ha.tail hb.tail fun k => ?_]
      have hk := he k
      rw [InL_cons, InL_cons] at hk
      constructor
      · intro h
        have := ha.beyond h
        rcases hk.1 (.inr h) with h' | h'
        · omega
        · exact h'
      · intro h
        have := hb.beyond h
        rcases hk.2 (.inr h) with h' | h'
        · omega
        · exact h'
theorem plain_snoc {q : List Sp} {y : Sp} : PlainL (q ++ [y]) ↔ PlainL q ∧ y.1 < y.2 ∧ ∀ z ∈ q, z.2 < y.1 := by
  constructor
  · rintro ⟨h1, h2⟩
    obtain ⟨h3, -, h5⟩ := List.pairwise_append.1 h2
    exact ⟨⟨fun z hz => h1 z (List.mem_append_left _ hz), h3⟩, h1 y (by simp), fun z hz => h5 z hz y (by simp)⟩
  · rintro ⟨⟨h1, h2⟩, h3, h4⟩
    refine ⟨fun z hz => ?_, List.pairwise_append.2 ⟨h2, by simp, fun z hz u hu => ?_⟩⟩
    · rcases List.mem_append.1 hz with hz | hz
      · exact h1 z hz
      · rw [List.mem_singleton.1 hz]; exact h3
    · rw [List.mem_singleton.1 hu]; exact h4 z hz
/-- A span more behind a plain row, which begins no sooner than all that is there. -/
theorem growL_plain {p : List Sp} {x : Sp} (hp : PlainL p) (hx : x.1 < x.2) (hr : ∀ z ∈ p, z.1 ≤ x.1) :
    PlainL (growL p x) ∧ (∀ k, InL (growL p x) k ↔ InL p k ∨ (x.1 ≤ k ∧ k < x.2)) ∧ ∀ z ∈ growL p x, z.1 ≤ x.1 := by
  rcases List.eq_nil_or_concat p with rfl | ⟨q, y, rfl⟩
  · refine ⟨⟨fun z hz => by rw [List.mem_singleton.1 hz]; exact hx, by simp [growL_nil]⟩, fun k => ?_, fun z hz => by rw [List.mem_singleton.1 hz]; exact Int.le_refl _⟩
    rw [growL_nil, InL_one]
    exact ⟨.inr, fun h => h.elim (fun ⟨_, hz, _⟩ => by cases hz) id⟩
  · rw [List.concat_eq_append] at hp hr ⊢
    obtain ⟨h1, h2, h3⟩ := plain_snoc.1 hp
    have hy := hr y (by simp)
    rw [growL_snoc]
    split
    · rename_i hlt
      refine ⟨plain_snoc.2 ⟨hp, hx, fun z hz => ?_⟩, fun k => ?_, fun z hz => ?_⟩
      · rcases List.mem_append.1 hz with hz | hz
        · have := h3 z hz; have := h1.1 z hz; omega
        · rw [List.mem_singleton.1 hz]; exact hlt
      · rw [InL_append, InL_one]
      · rcases List.mem_append.1 hz with hz | hz
        · exact hr z hz
        · rw [List.mem_singleton.1 hz]; exact Int.le_refl _
    · rename_i hge
      refine ⟨plain_snoc.2 ⟨h1, by show y.1 < max y.2 x.2; omega, fun z hz => h3 z hz⟩, fun k => ?_, fun z hz => ?_⟩
      · rw [InL_append, InL_append, InL_one, InL_one]
        show InL q k ∨ (y.1 ≤ k ∧ k < max y.2 x.2) ↔ _
        constructor
        · rintro (h | h)
          · exact .inl (.inl h)
          · by_cases hk : k < y.2
            · exact .inl (.inr ⟨h.1, hk⟩)
            · exact .inr ⟨by omega, by omega⟩
        · rintro ((h | h) | h)
          · exact .inl h
          · exact .inr ⟨h.1, by omega⟩
          · exact .inr ⟨by omega, by omega⟩
      · rcases List.mem_append.1 hz with hz | hz
        · exact hr z (List.mem_append_left _ hz)
        · rw [List.mem_singleton.1 hz]; exact hy
theorem growF_plain (l p : List Sp) (hp : PlainL p) (hf : ∀ x ∈ l, x.1 < x.2) (hr : l.Pairwise fun x y => x.1 ≤ y.1) (hpl : ∀ z ∈ p, ∀ x ∈ l, z.1 ≤ x.1) :
    PlainL (l.foldl growL p) ∧ ∀ k, InL (l.foldl growL p) k ↔ InL p k ∨ InL l k := by
  induction l generalizing p with
  | nil => exact ⟨hp, fun k => ⟨.inl, fun h => h.elim id (fun ⟨_, hz, _⟩ => by cases hz)⟩⟩
  | cons x l ih =>
    obtain ⟨g1, g2, g3⟩ := growL_plain hp (hf x List.mem_cons_self) fun z hz => hpl z hz x List.mem_cons_self
    obtain ⟨r1, r2⟩ := List.pairwise_cons.1 hr
    obtain ⟨i1, i2⟩ := ih (growL p x) g1 (fun z hz => hf z (List.mem_cons_of_mem _ hz)) r2 fun z hz u hu => Int.le_trans (g3 z hz) (r1 u hu)
    refine ⟨i1, fun k => ?_⟩
    rw [List.foldl_cons, i2, g2, InL_cons]
    exact or_assoc
/-- What Norm makes of a rising row of full spans: plain, with the same blocks. -/
theorem norm_plain (l : List Sp) (hf : ∀ x ∈ l, x.1 < x.2) (hr : l.Pairwise fun x y => x.1 ≤ y.1) : PlainL (l.foldl growL []) ∧ ∀ k, InL (l.foldl growL []) k ↔ InL l k := by
  obtain ⟨h1, h2⟩ := growF_plain l [] ⟨(fun _ h => by cases h), List.Pairwise.nil⟩ hf hr (fun _ h => by cases h)
  exact ⟨h1, fun k => (h2 k).trans ⟨fun h => h.elim (fun ⟨_, hz, _⟩ => by cases hz) id, .inr⟩⟩
/-- The blocks of a row are those of its full spans, in whatever order. -/
theorem InL_filter (l : List Sp) (p : Sp → Bool) (h : ∀ x, p x = false → x.2 ≤ x.1) (k : Int) : InL (l.filter p) k ↔ InL l k := by
  constructor
  · rintro ⟨z, hz, h'⟩
    exact ⟨z, (List.mem_filter.1 hz).1, h'⟩
  · rintro ⟨z, hz, h1, h2⟩
    refine ⟨z, List.mem_filter.2 ⟨hz, ?_⟩, h1, h2⟩
    cases hp : p z with
    | true => rfl
    | false => have := h z hp; omega
theorem InL_perm {a b : List Sp} (h : a.Perm b) (k : Int) : InL a k ↔ InL b k := by
  unfold InL
  exact exists_congr fun x => and_congr_left fun _ => h.mem_iff
/-- A number more, in its place, if it is not there. -/
def insE : List Int → Int → List Int
  | [], n => [n]
  | x :: l, n => if x = n then x :: l else if n < x then n :: x :: l else x :: insE l n
theorem insE_mem (l : List Int) (n m : Int) : m ∈ insE l n ↔ m = n ∨ m ∈ l := by
  induction l with
  | nil => simp [insE]
  | cons x l ih =>
    unfold insE
    split
    · rename_i h; subst h; simp
    · split
      · simp
      · simp only [List.mem_cons, ih]
        constructor
        · rintro (h | h | h)
          · exact .inr (.inl h)
          · exact .inl h
          · exact .inr (.inr h)
        · rintro (h | h | h)
          · exact .inr (.inl h)
          · exact .inl h
          · exact .inr (.inr h)
theorem insE_rises (l : List Int) (n : Int) (h : l.Pairwise fun x y => x < y) : (insE l n).Pairwise fun x y => x < y := by
  induction l with
  | nil => simp [insE]
  | cons x l ih =>
    obtain ⟨h1, h2⟩ := List.pairwise_cons.1 h
    unfold insE
    split
    · exact h
    · rename_i hne
      split
      · rename_i hlt
        refine List.pairwise_cons.2 ⟨fun z hz => ?_, h⟩
        rcases List.mem_cons.1 hz with rfl | hz
        · exact hlt
        · have := h1 z hz; omega
      · rename_i hge
        refine List.pairwise_cons.2 ⟨fun z hz => ?_, ih h2⟩
        rcases (insE_mem l n z).1 hz with rfl | hz
        · omega
        · exact h1 z hz
/-- The ends of a row's full spans. -/
def endsL (E : List Int) (l : List Sp) : List Int := l.foldl (fun E x => if x.1 < x.2 then insE (insE E x.1) x.2 else E) E
theorem endsL_rises (l : List Sp) (E : List Int) (h : E.Pairwise fun x y => x < y) : (endsL E l).Pairwise fun x y => x < y := by
  induction l generalizing E with
  | nil => exact h
  | cons x l ih =>
    refine ih _ ?_
    dsimp only
    split
    · exact insE_rises _ _ (insE_rises _ _ h)
    · exact h
theorem endsL_mem (l : List Sp) (E : List Int) (m : Int) : m ∈ endsL E l ↔ m ∈ E ∨ ∃ x ∈ l, x.1 < x.2 ∧ (m = x.1 ∨ m = x.2) := by
  induction l generalizing E with
  | nil => simp [endsL]
  | cons x l ih =>
    show m ∈ endsL _ l ↔ _
    rw [ih]
    dsimp only
    by_cases hx : x.1 < x.2
    · rw [if_pos hx, insE_mem, insE_mem]
      constructor
      · rintro ((h | h | h) | ⟨z, hz, h⟩)
        · exact .inr ⟨x, List.mem_cons_self, hx, .inr h⟩
        · exact .inr ⟨x, List.mem_cons_self, hx, .inl h⟩
        · exact .inl h
        · exact .inr ⟨z, List.mem_cons_of_mem _ hz, h⟩
      · rintro (h | ⟨z, hz, h1, h2⟩)
        · exact .inl (.inr (.inr h))
        · rcases List.mem_cons.1 hz with rfl | hz
          · exact h2.elim (fun h => .inl (.inr (.inl h))) fun h => .inl (.inl h)
          · exact .inr ⟨z, hz, h1, h2⟩
    · rw [if_neg hx]
      constructor
      · rintro (h | ⟨z, hz, h⟩)
        · exact .inl h
        · exact .inr ⟨z, List.mem_cons_of_mem _ hz, h⟩
      · rintro (h | ⟨z, hz, h1, h2⟩)
        · exact .inl h
        · rcases List.mem_cons.1 hz with rfl | hz
          · exact absurd h1 hx
          · exact .inr ⟨z, hz, h1, h2⟩
/-- The parts between ends that are kept. -/
def partsL (keep : Int → Bool) : List Int → List Sp
  | a :: b :: l => if keep a then (a, b) :: partsL keep (b :: l) else partsL keep (b :: l)
  | _ => []
theorem partsL_from (keep : Int → Bool) (E : List Int) (h : E.Pairwise fun x y => x < y) : (∀ x ∈ partsL keep E, x.1 < x.2 ∧ x.1 ∈ E) ∧ (partsL keep E).Pairwise (fun x y => x.2 ≤ y.1) := by
  match E with
  | [] => exact ⟨fun _ h => by simp [partsL] at h, by simp [partsL]⟩
  | [a] => exact ⟨fun _ h => by simp [partsL] at h, by simp [partsL]⟩
  | a :: b :: l =>
    obtain ⟨h1, h2⟩ := List.pairwise_cons.1 h
    obtain ⟨i1, i2⟩ := partsL_from keep (b :: l) h2
    have hb : ∀ z ∈ b :: l, b ≤ z := fun z hz => by
      rcases List.mem_cons.1 hz with rfl | hz
      · exact Int.le_refl _
      · have := (List.pairwise_cons.1 h2).1 z hz; omega
    unfold partsL
    split
    · refine ⟨fun x hx => ?_, List.pairwise_cons.2 ⟨fun x hx => hb _ (i1 x hx).2, i2⟩⟩
      rcases List.mem_cons.1 hx with rfl | hx
      · exact ⟨h1 b List.mem_cons_self, List.mem_cons_self⟩
      · exact ⟨(i1 x hx).1, List.mem_cons_of_mem _ (i1 x hx).2⟩
    · exact ⟨fun x hx => ⟨(i1 x hx).1, List.mem_cons_of_mem _ (i1 x hx).2⟩, i2⟩
/-- A set that turns at no number but those of E, and has nothing ahead of them and behind: the kept parts have just its blocks. -/
theorem partsL_in (keep : Int → Bool) (E : List Int) (h : E.Pairwise fun x y => x < y) (k : Int) : InL (partsL keep E) k ↔ ∃ a, a ∈ E ∧ a ≤ k ∧ keep a = true ∧ (∀ z ∈ E, z ≤ k → z ≤ a) ∧ ∃ z ∈ E, k < z := by
  match E with
  | [] => exact ⟨fun ⟨_, h, _⟩ => by simp [partsL] at h, fun ⟨_, h, _⟩ => by cases h⟩
  | [a] =>
    refine ⟨fun ⟨_, h, _⟩ => by simp [partsL] at h, fun ⟨b, hb, h1, _, _, z, hz, h2⟩ => ?_⟩
    rw [List.mem_singleton.1 hb] at h1
    rw [List.mem_singleton.1 hz] at h2
    omega
  | a :: b :: l =>
    obtain ⟨h1, h2⟩ := List.pairwise_cons.1 h
    have ih := partsL_in keep (b :: l) h2 k
    have hab := h1 b List.mem_cons_self
    have hb : ∀ z ∈ b :: l, b ≤ z := fun z hz => by
      rcases List.mem_cons.1 hz with rfl | hz
      · exact Int.le_refl _
      · have := (List.pairwise_cons.1 h2).1 z hz; omega
    have hin : InL (partsL keep (a :: b :: l)) k ↔ (keep a = true ∧ a ≤ k ∧ k < b) ∨ InL (partsL keep (b :: l)) k := by
      conv => lhs; unfold partsL
      split
      · rename_i hk
        rw [InL_cons]
        simp [hk]
      · rename_i hk
        simp [hk]
    rw [hin, ih]
    constructor
    · rintro (⟨g1, g2, g3⟩ | ⟨c, c1, c2, c3, c4, z, z1, z2⟩)
      · refine ⟨a, List.mem_cons_self, g2, g1, fun z hz hzk => ?_, b, by simp, g3⟩
        rcases List.mem_cons.1 hz with rfl | hz
        · exact Int.le_refl _
        · have := hb z hz; omega
      · refine ⟨c, List.mem_cons_of_mem _ c1, c2, c3, fun u hu huk => ?_, z, List.mem_cons_of_mem _ z1, z2⟩
        rcases List.mem_cons.1 hu with rfl | hu
        · have := hb c c1; omega
        · exact c4 u hu huk
    · rintro ⟨c, c1, c2, c3, c4, z, z1, z2⟩
      rcases List.mem_cons.1 c1 with rfl | d1
      · refine .inl ⟨c3, c2, ?_⟩
        by_cases hk : b ≤ k
        · have := c4 b (by simp) hk; omega
        · omega
      · refine .inr ⟨c, d1, c2, c3, fun u hu huk => c4 u (List.mem_cons_of_mem _ hu) huk, z, ?_, z2⟩
        have := hb c d1
        rcases List.mem_cons.1 z1 with e | z1
        · omega
        · exact z1
theorem last_le (E : List Int) (k : Int) (h : ∃ z ∈ E, z ≤ k) : ∃ a ∈ E, a ≤ k ∧ ∀ z ∈ E, z ≤ k → z ≤ a := by
  induction E with
  | nil => obtain ⟨_, h, _⟩ := h; cases h
  | cons x E ih =>
    by_cases hx : ∃ z ∈ E, z ≤ k
    · obtain ⟨a, a1, a2, a3⟩ := ih hx
      by_cases hxa : x ≤ k ∧ a < x
      · refine ⟨x, List.mem_cons_self, hxa.1, fun z hz hzk => ?_⟩
        rcases List.mem_cons.1 hz with e | hz
        · omega
        · have := a3 z hz hzk; omega
      · refine ⟨a, List.mem_cons_of_mem _ a1, a2, fun z hz hzk => ?_⟩
        rcases List.mem_cons.1 hz with e | hz
        · omega
        · exact a3 z hz hzk
    · obtain ⟨z, hz, hzk⟩ := h
      rcases List.mem_cons.1 hz with e | hz
      · refine ⟨x, List.mem_cons_self, by omega, fun u hu huk => ?_⟩
        rcases List.mem_cons.1 hu with e | hu
        · omega
        · exact absurd ⟨u, hu, huk⟩ hx
      · exact absurd ⟨z, hz, hzk⟩ hx
/-- The ends of the row's full spans are in E. -/
def EndsIn (E : List Int) (l : List Sp) : Prop := ∀ x ∈ l, x.1 < x.2 → x.1 ∈ E ∧ x.2 ∈ E
/-- Between ends a row does not turn. -/
theorem EndsIn.turn {E : List Int} {l : List Sp} (h : EndsIn E l) {a k : Int} (hak : a ≤ k) (hm : ∀ z ∈ E, z ≤ k → z ≤ a) : InL l a ↔ InL l k := by
  constructor
  · rintro ⟨x, hx, h1, h2⟩
    refine ⟨x, hx, by omega, ?_⟩
    by_cases hk : k < x.2
    · exact hk
    · have := hm x.2 (h x hx (by omega)).2 (by omega); omega
  · rintro ⟨x, hx, h1, h2⟩
    exact ⟨x, hx, hm x.1 (h x hx (by omega)).1 h1, by omega⟩
theorem EndsIn.around {E : List Int} {l : List Sp} (h : EndsIn E l) {k : Int} (hk : InL l k) : (∃ z ∈ E, z ≤ k) ∧ ∃ z ∈ E, k < z := by
  obtain ⟨x, hx, h1, h2⟩ := hk
  have := h x hx (by omega)
  exact ⟨⟨x.1, this.1, h1⟩, x.2, this.2, h2⟩
/-- The kept parts have just the blocks of a set that turns at ends only and lies among them. -/
theorem parts_of (keep : Int → Bool) (E : List Int) (hE : E.Pairwise fun x y => x < y) (P : Int → Prop) (hk : ∀ a, keep a = true ↔ P a) (ht : ∀ a k, a ≤ k → (∀ z ∈ E, z ≤ k → z ≤ a) → (P a ↔ P k)) (ha : ∀ k, P k → (∃ z ∈ E, z ≤ k) ∧ ∃ z ∈ E, k < z) (k : Int) : InL (partsL keep E) k ↔ P k := by
  rw [partsL_in keep E hE k]
  constructor
  · rintro ⟨a, -, h2, h3, h4, -⟩
    exact (ht a k h2 h4).1 ((hk a).1 h3)
  · intro h
    obtain ⟨h1, h2⟩ := ha k h
    obtain ⟨a, a1, a2, a3⟩ := last_le E k h1
    exact ⟨a, a1, a2, (hk a).2 ((ht a k a2 a3).2 h), a3, h2⟩
/-- A kept part, behind those that are there: grown together where it stands side by side with the last. -/
def putL (p : List Sp) (x : Sp) : List Sp :=
  match p.getLast? with
  | none => [x]
  | some y => if y.2 = x.1 then p.dropLast ++ [(y.1, x.2)] else p ++ [x]
theorem putL_snoc (q : List Sp) (y x : Sp) : putL (q ++ [y]) x = if y.2 = x.1 then q ++ [(y.1, x.2)] else (q ++ [y]) ++ [x] := by simp [putL]
theorem putL_grow (p : List Sp) (x : Sp) (hx : x.1 < x.2) (h : ∀ y, p.getLast? = some y → y.2 ≤ x.1) : putL p x = growL p x ∧ ∀ y, (putL p x).getLast? = some y → y.2 = x.2 := by
  rcases List.eq_nil_or_concat p with rfl | ⟨q, y, rfl⟩
  · exact ⟨rfl, fun y hy => by simp [putL] at hy; rw [← hy]⟩
  · rw [List.concat_eq_append] at h ⊢
    have hy := h y (by simp)
    rw [putL_snoc, growL_snoc]
    by_cases he : y.2 = x.1
    · rw [if_pos he, if_neg (by omega)]
      have hm : max y.2 x.2 = x.2 := by omega
      rw [hm]
      exact ⟨rfl, fun z hz => by simp at hz; rw [← hz]⟩
    · rw [if_neg he, if_pos (by omega)]
      exact ⟨rfl, fun z hz => by simp at hz; rw [← hz]⟩
theorem putF_grow (l p : List Sp) (hf : ∀ x ∈ l, x.1 < x.2) (hr : l.Pairwise fun x y => x.2 ≤ y.1) (h : ∀ y, p.getLast? = some y → ∀ x ∈ l, y.2 ≤ x.1) : l.foldl putL p = l.foldl growL p := by
  induction l generalizing p with
  | nil => rfl
  | cons x l ih =>
    obtain ⟨r1, r2⟩ := List.pairwise_cons.1 hr
    obtain ⟨e, hl⟩ := putL_grow p x (hf x List.mem_cons_self) fun y hy => h y hy x List.mem_cons_self
    rw [List.foldl_cons, List.foldl_cons, ← e]
    refine ih _ (fun z hz => hf z (List.mem_cons_of_mem _ hz)) r2 fun y hy z hz => ?_
    rw [hl y hy]
    exact r1 z hz
/-- What Build makes of the kept parts: plain, with their blocks. -/
theorem build_plain (keep : Int → Bool) (E : List Int) (hE : E.Pairwise fun x y => x < y) : PlainL ((partsL keep E).foldl putL []) ∧ ∀ k, InL ((partsL keep E).foldl putL []) k ↔ InL (partsL keep E) k := by
  obtain ⟨h1, h2⟩ := partsL_from keep E hE
  rw [putF_grow _ [] (fun x hx => (h1 x hx).1) h2 (fun y hy => by simp at hy)]
  refine norm_plain _ (fun x hx => (h1 x hx).1) ?_
  refine List.Pairwise.imp_of_mem ?_ h2
  intro x y hx _ h
  have := (h1 x hx).1
  omega
/-- What the document answers: a row by what two rows have. -/
def ofL (a b : List Sp) (keep : Int → Bool) : List Sp := (partsL keep (endsL (endsL [] a) b)).foldl putL []
theorem ofL_plain (a b : List Sp) (keep : Int → Bool) (P : Prop → Prop → Prop) (h0 : ¬ P False False) (hk : ∀ k, keep k = true ↔ P (InL a k) (InL b k)) : PlainL (ofL a b keep) ∧ ∀ k, InL (ofL a b keep) k ↔ P (InL a k) (InL b k) := by
  have hE : (endsL (endsL [] a) b).Pairwise fun x y => x < y := endsL_rises b _ (endsL_rises a [] List.Pairwise.nil)
  have ea : EndsIn (endsL (endsL [] a) b) a := fun x hx h => by
    constructor <;> (rw [endsL_mem, endsL_mem]; exact .inl (.inr ⟨x, hx, h, by simp⟩))
  have eb : EndsIn (endsL (endsL [] a) b) b := fun x hx h => by
    constructor <;> (rw [endsL_mem]; exact .inr ⟨x, hx, h, by simp⟩)
  obtain ⟨h1, h2⟩ := build_plain keep _ hE
  refine ⟨h1, fun k => (h2 k).trans (parts_of keep _ hE (fun k => P (InL a k) (InL b k)) hk ?_ ?_ k)⟩
  · intro u v huv hm
    rw [propext (ea.turn huv hm), propext (eb.turn huv hm)]
  · intro v hv
    by_cases ha : InL a v
    · exact ea.around ha
    · by_cases hb : InL b v
      · exact eb.around hb
      · rw [eq_false ha, eq_false hb] at hv
        exact absurd hv h0
end Go.Proofs.Ytbfmanhbbancmaa
