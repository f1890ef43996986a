/- SpSets SpRefs SpIns SpEnds SpBuildS SpBuild SpOf: joined. No condition. -/
import Derived.Test.YtnkjkaofgninnaaSpBase
import Derived.Deep.RegionWith
import Derived.Deep.QuietTactic
import Derived.BigQuiet
import Derived.Test.YtnkjkaofgninnaaSpLay
import Derived.Deep.RegionHeld3
namespace Go.Proofs.Ytnkjkaofgninnaa

/-- The row l has the block k. -/
def InL (l : List Sp) (k : Int) : Prop := ∃ x ∈ l, x.1 ≤ k ∧ k < x.2
/-- The row is plain: none is empty; each begins behind the one before it, with a gap. -/
def PlainL (l : List Sp) : Prop := (∀ x ∈ l, x.1 < x.2) ∧ l.Pairwise fun x y => x.2 < y.1
theorem InL_cons (x : Sp) (l : List Sp) (k : Int) : InL (x :: l) k ↔ (x.1 ≤ k ∧ k < x.2) ∨ InL l k := by
  constructor
  · rintro ⟨z, hz, h⟩
    rcases List.mem_cons.1 hz with rfl | hz
    · exact .inl h
    · exact .inr ⟨z, hz, h⟩
  · rintro (h | ⟨z, hz, h⟩)
    · exact ⟨x, List.mem_cons_self, h⟩
    · exact ⟨z, List.mem_cons_of_mem _ hz, h⟩
theorem InL_append (a b : List Sp) (k : Int) : InL (a ++ b) k ↔ InL a k ∨ InL b k := by
  constructor
  · rintro ⟨z, hz, h⟩
    rcases List.mem_append.1 hz with hz | hz
    · exact .inl ⟨z, hz, h⟩
    · exact .inr ⟨z, hz, h⟩
  · rintro (⟨z, hz, h⟩ | ⟨z, hz, h⟩)
    · exact ⟨z, List.mem_append_left _ hz, h⟩
    · exact ⟨z, List.mem_append_right _ hz, h⟩
theorem InL_one (x : Sp) (k : Int) : InL [x] k ↔ x.1 ≤ k ∧ k < x.2 := by
  rw [InL_cons]
  exact ⟨fun h => h.elim id (fun ⟨_, hz, _⟩ => by cases hz), .inl⟩
theorem PlainL.tail {x : Sp} {l : List Sp} (h : PlainL (x :: l)) : PlainL l := ⟨fun z hz => h.1 z (List.mem_cons_of_mem _ hz), (List.pairwise_cons.1 h.2).2⟩
theorem PlainL.beyond {x : Sp} {l : List Sp} (h : PlainL (x :: l)) {k : Int} (hk : InL l k) : x.2 < k := by
  obtain ⟨z, hz, h1, h2⟩ := hk
  have := (List.pairwise_cons.1 h.2).1 z hz
  omega
theorem PlainL.least {x : Sp} {l : List Sp} (h : PlainL (x :: l)) {k : Int} (hk : InL (x :: l) k) : x.1 ≤ k := by
  have h1 := h.1 x List.mem_cons_self
  rcases (InL_cons x l k).1 hk with h' | h'
  · exact h'.1
  · have := h.beyond h'; omega
theorem plain_end {x y : Sp} {a b : List Sp} (ha : PlainL (x :: a)) (h1 : x.1 = y.1) (he : ∀ k, InL (x :: a) k ↔ InL (y :: b) k) : ¬ x.2 < y.2 := by
  intro h
  have hx := ha.1 x List.mem_cons_self
  have hi := (he x.2).2 ((InL_cons y b x.2).2 (.inl ⟨by omega, h⟩))
  rcases (InL_cons x a x.2).1 hi with h' | h'
  · omega
  · have := ha.beyond h'; omega
/-- Two plain rows that have the same blocks are one. -/
theorem plain_unique {a b : List Sp} (ha : PlainL a) (hb : PlainL b) (he : ∀ k, InL a k ↔ InL b k) : a = b := by
  induction a generalizing b with
  | nil =>
    cases b with
    | nil => rfl
    | cons y b =>
      have := hb.1 y List.mem_cons_self
      obtain ⟨_, hz, _⟩ := (he y.1).2 ((InL_cons y b y.1).2 (.inl ⟨Int.le_refl _, this⟩))
      cases hz
  | cons x a ih =>
    cases b with
    | nil =>
      have := ha.1 x List.mem_cons_self
      obtain ⟨_, hz, _⟩ := (he x.1).1 ((InL_cons x a x.1).2 (.inl ⟨Int.le_refl _, this⟩))
      cases hz
    | cons y b =>
      have hx := ha.1 x List.mem_cons_self
      have hy := hb.1 y List.mem_cons_self
      have h1 := hb.least ((he x.1).1 ((InL_cons x a x.1).2 (.inl ⟨Int.le_refl _, hx⟩)))
      have h2 := ha.least ((he y.1).2 ((InL_cons y b y.1).2 (.inl ⟨Int.le_refl _, hy⟩)))
      have e1 : x.1 = y.1 := by omega
      have h3 := plain_end ha e1 he
      have h4 := plain_end hb e1.symm fun k => (he k).symm
      have e2 : x.2 = y.2 := by omega
      have exy : x = y := Prod.ext e1 e2
      subst exy
      rw [ih ha.tail hb.tail fun k => ?_]
      have hk := he k
      rw [InL_cons, InL_cons] at hk
      constructor
      · intro h
        have := ha.beyond h
        rcases hk.1 (.inr h) with h' | h'
        · omega
        · exact h'
      · intro h
        have := hb.beyond h
        rcases hk.2 (.inr h) with h' | h'
        · omega
        · exact h'
theorem plain_snoc {q : List Sp} {y : Sp} : PlainL (q ++ [y]) ↔ PlainL q ∧ y.1 < y.2 ∧ ∀ z ∈ q, z.2 < y.1 := by
  constructor
  · rintro ⟨h1, h2⟩
    obtain ⟨h3, -, h5⟩ := List.pairwise_append.1 h2
    exact ⟨⟨fun z hz => h1 z (List.mem_append_left _ hz), h3⟩, h1 y (by simp), fun z hz => h5 z hz y (by simp)⟩
  · rintro ⟨⟨h1, h2⟩, h3, h4⟩
    refine ⟨fun z hz => ?_, List.pairwise_append.2 ⟨h2, by simp, fun z hz u hu => ?_⟩⟩
    · rcases List.mem_append.1 hz with hz | hz
      · exact h1 z hz
      · rw [List.mem_singleton.1 hz]; exact h3
    · rw [List.mem_singleton.1 hu]; exact h4 z hz
/-- A span more behind a plain row, which begins no sooner than all that is there. -/
theorem growL_plain {p : List Sp} {x : Sp} (hp : PlainL p) (hx : x.1 < x.2) (hr : ∀ z ∈ p, z.1 ≤ x.1) :
    PlainL (growL p x) ∧ (∀ k, InL (growL p x) k ↔ InL p k ∨ (x.1 ≤ k ∧ k < x.2)) ∧ ∀ z ∈ growL p x, z.1 ≤ x.1 := by
  rcases List.eq_nil_or_concat p with rfl | ⟨q, y, rfl⟩
  · refine ⟨⟨fun z hz => by rw [List.mem_singleton.1 hz]; exact hx, by simp [growL_nil]⟩, fun k => ?_, fun z hz => by rw [List.mem_singleton.1 hz]; exact Int.le_refl _⟩
    rw [growL_nil, InL_one]
    exact ⟨.inr, fun h => h.elim (fun ⟨_, hz, _⟩ => by cases hz) id⟩
  · rw [List.concat_eq_append] at hp hr ⊢
    obtain ⟨h1, h2, h3⟩ := plain_snoc.1 hp
    have hy := hr y (by simp)
    rw [growL_snoc]
    split
    · rename_i hlt
      refine ⟨plain_snoc.2 ⟨hp, hx, fun z hz => ?_⟩, fun k => ?_, fun z hz => ?_⟩
      · rcases List.mem_append.1 hz with hz | hz
        · have := h3 z hz; have := h1.1 z hz; omega
        · rw [List.mem_singleton.1 hz]; exact hlt
      · rw [InL_append, InL_one]
      · rcases List.mem_append.1 hz with hz | hz
        · exact hr z hz
        · rw [List.mem_singleton.1 hz]; exact Int.le_refl _
    · rename_i hge
      refine ⟨plain_snoc.2 ⟨h1, by show y.1 < max y.2 x.2; omega, fun z hz => h3 z hz⟩, fun k => ?_, fun z hz => ?_⟩
      · rw [InL_append, InL_append, InL_one, InL_one]
        show InL q k ∨ (y.1 ≤ k ∧ k < max y.2 x.2) ↔ _
        constructor
        · rintro (h | h)
          · exact .inl (.inl h)
          · by_cases hk : k < y.2
            · exact .inl (.inr ⟨h.1, hk⟩)
            · exact .inr ⟨by omega, by omega⟩
        · rintro ((h | h) | h)
          · exact .inl h
          · exact .inr ⟨h.1, by omega⟩
          · exact .inr ⟨by omega, by omega⟩
      · rcases List.mem_append.1 hz with hz | hz
        · exact hr z (List.mem_append_left _ hz)
        · rw [List.mem_singleton.1 hz]; exact hy
theorem growF_plain (l p : List Sp) (hp : PlainL p) (hf : ∀ x ∈ l, x.1 < x.2) (hr : l.Pairwise fun x y => x.1 ≤ y.1) (hpl : ∀ z ∈ p, ∀ x ∈ l, z.1 ≤ x.1) :
    PlainL (l.foldl growL p) ∧ ∀ k, InL (l.foldl growL p) k ↔ InL p k ∨ InL l k := by
  induction l generalizing p with
  | nil => exact ⟨hp, fun k => ⟨.inl, fun h => h.elim id (fun ⟨_, hz, _⟩ => by cases hz)⟩⟩
  | cons x l ih =>
    obtain ⟨g1, g2, g3⟩ := growL_plain hp (hf x List.mem_cons_self) fun z hz => hpl z hz x List.mem_cons_self
    obtain ⟨r1, r2⟩ := List.pairwise_cons.1 hr
    obtain ⟨i1, i2⟩ := ih (growL p x) g1 (fun z hz => hf z (List.mem_cons_of_mem _ hz)) r2 fun z hz u hu => Int.le_trans (g3 z hz) (r1 u hu)
    refine ⟨i1, fun k => ?_⟩
    rw [List.foldl_cons, i2, g2, InL_cons]
    exact or_assoc
/-- What Norm makes of a rising row of full spans: plain, with the same blocks. -/
theorem norm_plain (l : List Sp) (hf : ∀ x ∈ l, x.1 < x.2) (hr : l.Pairwise fun x y => x.1 ≤ y.1) : PlainL (l.foldl growL []) ∧ ∀ k, InL (l.foldl growL []) k ↔ InL l k := by
  obtain ⟨h1, h2⟩ := growF_plain l [] ⟨(fun _ h => by cases h), List.Pairwise.nil⟩ hf hr (fun _ h => by cases h)
  exact ⟨h1, fun k => (h2 k).trans ⟨fun h => h.elim (fun ⟨_, hz, _⟩ => by cases hz) id, .inr⟩⟩
/-- The blocks of a row are those of its full spans, in whatever order. -/
theorem InL_filter (l : List Sp) (p : Sp → Bool) (h : ∀ x, p x = false → x.2 ≤ x.1) (k : Int) : InL (l.filter p) k ↔ InL l k := by
  constructor
  · rintro ⟨z, hz, h'⟩
    exact ⟨z, (List.mem_filter.1 hz).1, h'⟩
  · rintro ⟨z, hz, h1, h2⟩
    refine ⟨z, List.mem_filter.2 ⟨hz, ?_⟩, h1, h2⟩
    cases hp : p z with
    | true => rfl
    | false => have := h z hp; omega
theorem InL_perm {a b : List Sp} (h : a.Perm b) (k : Int) : InL a k ↔ InL b k := by
  unfold InL
  exact exists_congr fun x => and_congr_left fun _ => h.mem_iff
/-- A number more, in its place, if it is not there. -/
def insE : List Int → Int → List Int
  | [], n => [n]
  | x :: l, n => if x = n then x :: l else if n < x then n :: x :: l else x :: insE l n
theorem insE_mem (l : List Int) (n m : Int) : m ∈ insE l n ↔ m = n ∨ m ∈ l := by
  induction l with
  | nil => simp [insE]
  | cons x l ih =>
    unfold insE
    split
    · rename_i h; subst h; simp
    · split
      · simp
      · simp only [List.mem_cons, ih]
        constructor
        · rintro (h | h | h)
          · exact .inr (.inl h)
          · exact .inl h
          · exact .inr (.inr h)
        · rintro (h | h | h)
          · exact .inr (.inl h)
          · exact .inl h
          · exact .inr (.inr h)
theorem insE_rises (l : List Int) (n : Int) (h : l.Pairwise fun x y => x < y) : (insE l n).Pairwise fun x y => x < y := by
  induction l with
  | nil => simp [insE]
  | cons x l ih =>
    obtain ⟨h1, h2⟩ := List.pairwise_cons.1 h
    unfold insE
    split
    · exact h
    · rename_i hne
      split
      · rename_i hlt
        refine List.pairwise_cons.2 ⟨fun z hz => ?_, h⟩
        rcases List.mem_cons.1 hz with rfl | hz
        · exact hlt
        · have := h1 z hz; omega
      · rename_i hge
        refine List.pairwise_cons.2 ⟨fun z hz => ?_, ih h2⟩
        rcases (insE_mem l n z).1 hz with rfl | hz
        · omega
        · exact h1 z hz
/-- The ends of a row's full spans. -/
def endsL (E : List Int) (l : List Sp) : List Int := l.foldl (fun E x => if x.1 < x.2 then insE (insE E x.1) x.2 else E) E
theorem endsL_rises (l : List Sp) (E : List Int) (h : E.Pairwise fun x y => x < y) : (endsL E l).Pairwise fun x y => x < y := by
  induction l generalizing E with
  | nil => exact h
  | cons x l ih =>
    refine ih _ ?_
    dsimp only
    split
    · exact insE_rises _ _ (insE_rises _ _ h)
    · exact h
theorem endsL_mem (l : List Sp) (E : List Int) (m : Int) : m ∈ endsL E l ↔ m ∈ E ∨ ∃ x ∈ l, x.1 < x.2 ∧ (m = x.1 ∨ m = x.2) := by
  induction l generalizing E with
  | nil => simp [endsL]
  | cons x l ih =>
    show m ∈ endsL _ l ↔ _
    rw [ih]
    dsimp only
    by_cases hx : x.1 < x.2
    · rw [if_pos hx, insE_mem, insE_mem]
      constructor
      · rintro ((h | h | h) | ⟨z, hz, h⟩)
        · exact .inr ⟨x, List.mem_cons_self, hx, .inr h⟩
        · exact .inr ⟨x, List.mem_cons_self, hx, .inl h⟩
        · exact .inl h
        · exact .inr ⟨z, List.mem_cons_of_mem _ hz, h⟩
      · rintro (h | ⟨z, hz, h1, h2⟩)
        · exact .inl (.inr (.inr h))
        · rcases List.mem_cons.1 hz with rfl | hz
          · exact h2.elim (fun h => .inl (.inr (.inl h))) fun h => .inl (.inl h)
          · exact .inr ⟨z, hz, h1, h2⟩
    · rw [if_neg hx]
      constructor
      · rintro (h | ⟨z, hz, h⟩)
        · exact .inl h
        · exact .inr ⟨z, List.mem_cons_of_mem _ hz, h⟩
      · rintro (h | ⟨z, hz, h1, h2⟩)
        · exact .inl h
        · rcases List.mem_cons.1 hz with rfl | hz
          · exact absurd h1 hx
          · exact .inr ⟨z, hz, h1, h2⟩
/-- The parts between ends that are kept. -/
def partsL (keep : Int → Bool) : List Int → List Sp
  | a :: b :: l => if keep a then (a, b) :: partsL keep (b :: l) else partsL keep (b :: l)
  | _ => []
theorem partsL_from (keep : Int → Bool) (E : List Int) (h : E.Pairwise fun x y => x < y) : (∀ x ∈ partsL keep E, x.1 < x.2 ∧ x.1 ∈ E) ∧ (partsL keep E).Pairwise (fun x y => x.2 ≤ y.1) := by
  match E with
  | [] => exact ⟨fun _ h => by simp [partsL] at h, by simp [partsL]⟩
  | [a] => exact ⟨fun _ h => by simp [partsL] at h, by simp [partsL]⟩
  | a :: b :: l =>
    obtain ⟨h1, h2⟩ := List.pairwise_cons.1 h
    obtain ⟨i1, i2⟩ := partsL_from keep (b :: l) h2
    have hb : ∀ z ∈ b :: l, b ≤ z := fun z hz => by
      rcases List.mem_cons.1 hz with rfl | hz
      · exact Int.le_refl _
      · have := (List.pairwise_cons.1 h2).1 z hz; omega
    unfold partsL
    split
    · refine ⟨fun x hx => ?_, List.pairwise_cons.2 ⟨fun x hx => hb _ (i1 x hx).2, i2⟩⟩
      rcases List.mem_cons.1 hx with rfl | hx
      · exact ⟨h1 b List.mem_cons_self, List.mem_cons_self⟩
      · exact ⟨(i1 x hx).1, List.mem_cons_of_mem _ (i1 x hx).2⟩
    · exact ⟨fun x hx => ⟨(i1 x hx).1, List.mem_cons_of_mem _ (i1 x hx).2⟩, i2⟩
/-- A set that turns at no number but those of E, and has nothing ahead of them and behind: the kept parts have just its blocks. -/
theorem partsL_in (keep : Int → Bool) (E : List Int) (h : E.Pairwise fun x y => x < y) (k : Int) : InL (partsL keep E) k ↔ ∃ a, a ∈ E ∧ a ≤ k ∧ keep a = true ∧ (∀ z ∈ E, z ≤ k → z ≤ a) ∧ ∃ z ∈ E, k < z := by
  match E with
  | [] => exact ⟨fun ⟨_, h, _⟩ => by simp [partsL] at h, fun ⟨_, h, _⟩ => by cases h⟩
  | [a] =>
    refine ⟨fun ⟨_, h, _⟩ => by simp [partsL] at h, fun ⟨b, hb, h1, _, _, z, hz, h2⟩ => ?_⟩
    rw [List.mem_singleton.1 hb] at h1
    rw [List.mem_singleton.1 hz] at h2
    omega
  | a :: b :: l =>
    obtain ⟨h1, h2⟩ := List.pairwise_cons.1 h
    have ih := partsL_in keep (b :: l) h2 k
    have hab := h1 b List.mem_cons_self
    have hb : ∀ z ∈ b :: l, b ≤ z := fun z hz => by
      rcases List.mem_cons.1 hz with rfl | hz
      · exact Int.le_refl _
      · have := (List.pairwise_cons.1 h2).1 z hz; omega
    have hin : InL (partsL keep (a :: b :: l)) k ↔ (keep a = true ∧ a ≤ k ∧ k < b) ∨ InL (partsL keep (b :: l)) k := by
      conv => lhs; unfold partsL
      split
      · rename_i hk
        rw [InL_cons]
        simp [hk]
      · rename_i hk
        simp [hk]
    rw [hin, ih]
    constructor
    · rintro (⟨g1, g2, g3⟩ | ⟨c, c1, c2, c3, c4, z, z1, z2⟩)
      · refine ⟨a, List.mem_cons_self, g2, g1, fun z hz hzk => ?_, b, by simp, g3⟩
        rcases List.mem_cons.1 hz with rfl | hz
        · exact Int.le_refl _
        · have := hb z hz; omega
      · refine ⟨c, List.mem_cons_of_mem _ c1, c2, c3, fun u hu huk => ?_, z, List.mem_cons_of_mem _ z1, z2⟩
        rcases List.mem_cons.1 hu with rfl | hu
        · have := hb c c1; omega
        · exact c4 u hu huk
    · rintro ⟨c, c1, c2, c3, c4, z, z1, z2⟩
      rcases List.mem_cons.1 c1 with rfl | d1
      · refine .inl ⟨c3, c2, ?_⟩
        by_cases hk : b ≤ k
        · have := c4 b (by simp) hk; omega
        · omega
      · refine .inr ⟨c, d1, c2, c3, fun u hu huk => c4 u (List.mem_cons_of_mem _ hu) huk, z, ?_, z2⟩
        have := hb c d1
        rcases List.mem_cons.1 z1 with e | z1
        · omega
        · exact z1
theorem last_le (E : List Int) (k : Int) (h : ∃ z ∈ E, z ≤ k) : ∃ a ∈ E, a ≤ k ∧ ∀ z ∈ E, z ≤ k → z ≤ a := by
  induction E with
  | nil => obtain ⟨_, h, _⟩ := h; cases h
  | cons x E ih =>
    by_cases hx : ∃ z ∈ E, z ≤ k
    · obtain ⟨a, a1, a2, a3⟩ := ih hx
      by_cases hxa : x ≤ k ∧ a < x
      · refine ⟨x, List.mem_cons_self, hxa.1, fun z hz hzk => ?_⟩
        rcases List.mem_cons.1 hz with e | hz
        · omega
        · have := a3 z hz hzk; omega
      · refine ⟨a, List.mem_cons_of_mem _ a1, a2, fun z hz hzk => ?_⟩
        rcases List.mem_cons.1 hz with e | hz
        · omega
        · exact a3 z hz hzk
    · obtain ⟨z, hz, hzk⟩ := h
      rcases List.mem_cons.1 hz with e | hz
      · refine ⟨x, List.mem_cons_self, by omega, fun u hu huk => ?_⟩
        rcases List.mem_cons.1 hu with e | hu
        · omega
        · exact absurd ⟨u, hu, huk⟩ hx
      · exact absurd ⟨z, hz, hzk⟩ hx
/-- The ends of the row's full spans are in E. -/
def EndsIn (E : List Int) (l : List Sp) : Prop := ∀ x ∈ l, x.1 < x.2 → x.1 ∈ E ∧ x.2 ∈ E
/-- Between ends a row does not turn. -/
theorem EndsIn.turn {E : List Int} {l : List Sp} (h : EndsIn E l) {a k : Int} (hak : a ≤ k) (hm : ∀ z ∈ E, z ≤ k → z ≤ a) : InL l a ↔ InL l k := by
  constructor
  · rintro ⟨x, hx, h1, h2⟩
    refine ⟨x, hx, by omega, ?_⟩
    by_cases hk : k < x.2
    · exact hk
    · have := hm x.2 (h x hx (by omega)).2 (by omega); omega
  · rintro ⟨x, hx, h1, h2⟩
    exact ⟨x, hx, hm x.1 (h x hx (by omega)).1 h1, by omega⟩
theorem EndsIn.around {E : List Int} {l : List Sp} (h : EndsIn E l) {k : Int} (hk : InL l k) : (∃ z ∈ E, z ≤ k) ∧ ∃ z ∈ E, k < z := by
  obtain ⟨x, hx, h1, h2⟩ := hk
  have := h x hx (by omega)
  exact ⟨⟨x.1, this.1, h1⟩, x.2, this.2, h2⟩
/-- The kept parts have just the blocks of a set that turns at ends only and lies among them. -/
theorem parts_of (keep : Int → Bool) (E : List Int) (hE : E.Pairwise fun x y => x < y) (P : Int → Prop) (hk : ∀ a, keep a = true ↔ P a) (ht : ∀ a k, a ≤ k → (∀ z ∈ E, z ≤ k → z ≤ a) → (P a ↔ P k)) (ha : ∀ k, P k → (∃ z ∈ E, z ≤ k) ∧ ∃ z ∈ E, k < z) (k : Int) : InL (partsL keep E) k ↔ P k := by
  rw [partsL_in keep E hE k]
  constructor
  · rintro ⟨a, -, h2, h3, h4, -⟩
    exact (ht a k h2 h4).1 ((hk a).1 h3)
  · intro h
    obtain ⟨h1, h2⟩ := ha k h
    obtain ⟨a, a1, a2, a3⟩ := last_le E k h1
    exact ⟨a, a1, a2, (hk a).2 ((ht a k a2 a3).2 h), a3, h2⟩
/-- A kept part, behind those that are there: grown together where it stands side by side with the last. -/
def putL (p : List Sp) (x : Sp) : List Sp :=
  match p.getLast? with
  | none => [x]
  | some y => if y.2 = x.1 then p.dropLast ++ [(y.1, x.2)] else p ++ [x]
theorem putL_snoc (q : List Sp) (y x : Sp) : putL (q ++ [y]) x = if y.2 = x.1 then q ++ [(y.1, x.2)] else (q ++ [y]) ++ [x] := by simp [putL]
theorem putL_grow (p : List Sp) (x : Sp) (hx : x.1 < x.2) (h : ∀ y, p.getLast? = some y → y.2 ≤ x.1) : putL p x = growL p x ∧ ∀ y, (putL p x).getLast? = some y → y.2 = x.2 := by
  rcases List.eq_nil_or_concat p with rfl | ⟨q, y, rfl⟩
  · exact ⟨rfl, fun y hy => by simp [putL] at hy; rw [← hy]⟩
  · rw [List.concat_eq_append] at h ⊢
    have hy := h y (by simp)
    rw [putL_snoc, growL_snoc]
    by_cases he : y.2 = x.1
    · rw [if_pos he, if_neg (by omega)]
      have hm : max y.2 x.2 = x.2 := by omega
      rw [hm]
      exact ⟨rfl, fun z hz => by simp at hz; rw [← hz]⟩
    · rw [if_neg he, if_pos (by omega)]
      exact ⟨rfl, fun z hz => by simp at hz; rw [← hz]⟩
theorem putF_grow (l p : List Sp) (hf : ∀ x ∈ l, x.1 < x.2) (hr : l.Pairwise fun x y => x.2 ≤ y.1) (h : ∀ y, p.getLast? = some y → ∀ x ∈ l, y.2 ≤ x.1) : l.foldl putL p = l.foldl growL p := by
  induction l generalizing p with
  | nil => rfl
  | cons x l ih =>
    obtain ⟨r1, r2⟩ := List.pairwise_cons.1 hr
    obtain ⟨e, hl⟩ := putL_grow p x (hf x List.mem_cons_self) fun y hy => h y hy x List.mem_cons_self
    rw [List.foldl_cons, List.foldl_cons, ← e]
    refine ih _ (fun z hz => hf z (List.mem_cons_of_mem _ hz)) r2 fun y hy z hz => ?_
    rw [hl y hy]
    exact r1 z hz
/-- What Build makes of the kept parts: plain, with their blocks. -/
theorem build_plain (keep : Int → Bool) (E : List Int) (hE : E.Pairwise fun x y => x < y) : PlainL ((partsL keep E).foldl putL []) ∧ ∀ k, InL ((partsL keep E).foldl putL []) k ↔ InL (partsL keep E) k := by
  obtain ⟨h1, h2⟩ := partsL_from keep E hE
  rw [putF_grow _ [] (fun x hx => (h1 x hx).1) h2 (fun y hy => by simp at hy)]
  refine norm_plain _ (fun x hx => (h1 x hx).1) ?_
  refine List.Pairwise.imp_of_mem ?_ h2
  intro x y hx _ h
  have := (h1 x hx).1
  omega
/-- What the document answers: a row by what two rows have. -/
def ofL (a b : List Sp) (keep : Int → Bool) : List Sp := (partsL keep (endsL (endsL [] a) b)).foldl putL []
theorem ofL_plain (a b : List Sp) (keep : Int → Bool) (P : Prop → Prop → Prop) (h0 : ¬ P False False) (hk : ∀ k, keep k = true ↔ P (InL a k) (InL b k)) : PlainL (ofL a b keep) ∧ ∀ k, InL (ofL a b keep) k ↔ P (InL a k) (InL b k) := by
  have hE : (endsL (endsL [] a) b).Pairwise fun x y => x < y := endsL_rises b _ (endsL_rises a [] List.Pairwise.nil)
  have ea : EndsIn (endsL (endsL [] a) b) a := fun x hx h => by
    constructor <;> (rw [endsL_mem, endsL_mem]; exact .inl (.inr ⟨x, hx, h, by simp⟩))
  have eb : EndsIn (endsL (endsL [] a) b) b := fun x hx h => by
    constructor <;> (rw [endsL_mem]; exact .inr ⟨x, hx, h, by simp⟩)
  obtain ⟨h1, h2⟩ := build_plain keep _ hE
  refine ⟨h1, fun k => (h2 k).trans (parts_of keep _ hE (fun k => P (InL a k) (InL b k)) hk ?_ ?_ k)⟩
  · intro u v huv hm
    rw [propext (ea.turn huv hm), propext (eb.turn huv hm)]
  · intro v hv
    by_cases ha : InL a v
    · exact ea.around ha
    · by_cases hb : InL b v
      · exact eb.around hb
      · rw [eq_false ha, eq_false hb] at hv
        exact absurd hv h0
end Go.Proofs.Ytnkjkaofgninnaa
namespace Go.Proofs.Ytnkjkaofgninnaa
open Go.RowKit

theorem Sps.lit {w : World} {b o cap : Nat} {l : List Sp} (h : Sps w (.slice (some ⟨b, o, none⟩) l.length cap) l) (j : Nat) (hj : j < l.length) : w.cell? ⟨b, o + j * 2, none⟩ = some (.int .i64 l[j].1) ∧ w.cell? ⟨b, o + j * 2 + 1, none⟩ = some (.int .i64 l[j].2) := by
  obtain ⟨ao, n, cap', e, h1, h2, h3, h4, h5⟩ := h
  cases e
  have := h5 _ rfl j hj
  rw [Addr.add_lit, Addr.add_lit, ← Nat.add_assoc] at this
  exact this
theorem Sps.addr {w : World} {ao : Option Addr} {cap : Nat} {l : List Sp} (h : Sps w (.slice ao l.length cap) l) (hl : 0 < l.length) : ∃ b o, ao = some ⟨b, o, none⟩ := by
  obtain ⟨ao', n, cap', e, h1, h2, h3, h4, h5⟩ := h
  cases e
  cases ao with
  | none => have := h4 rfl; omega
  | some a =>
    have h0 := (h5 a rfl 0 hl).1
    have := World.cell?_spot h0
    obtain ⟨b, o, sp⟩ := a
    simp [Addr.add] at this
    subst this
    exact ⟨b, o, rfl⟩
/-- Whether the row has the block. -/
def hasB (l : List Sp) (k : Int) : Bool := l.any fun x => decide (x.1 ≤ k) && decide (k < x.2)
theorem hasB_iff (l : List Sp) (k : Int) : hasB l k = true ↔ InL l k := by simp [hasB, InL]
theorem hasB_next (l : List Sp) (k : Int) (i : Nat) (h : i < l.length) : hasB (l.take (i + 1)) k = (hasB (l.take i) k || (decide (l[i].1 ≤ k) && decide (k < l[i].2))) := by
  unfold hasB
  rw [List.take_succ_eq_append_getElem h, List.any_append]
  simp only [List.any_cons, List.any_nil, Bool.or_false]
theorem hasB_at (l : List Sp) (k : Int) (i : Nat) (h : i < l.length) (h1 : l[i].1 ≤ k) (h2 : k < l[i].2) : hasB l k = true := (hasB_iff l k).2 ⟨l[i], List.getElem_mem h, h1, h2⟩
set_option maxHeartbeats 1600000 in
theorem rhas_any (v : Value) (l : List Sp) (k : Int) (w : World) (hv : Sps w v l) (hl : l.length ≤ 1000000000) :
    Calls Try.prog 37 #[v, .int .i64 k] w fun e w' => e = .returned (.bool (hasB l k)) ∧ Below w.heap.size w w' := by
  have HV := hid hv
  obtain ⟨ao, cap, rfl⟩ := hv.shape
  clear hv
  have hlI : (l.length : Int) ≤ 1000000000 := by omega
  obtain ⟨r, hr⟩ : ∃ r, r = hasB l k := ⟨_, rfl⟩
  rw [← hr]
  have HR := hid hr
  clear hr
  go_enter Try.func37, Try.ntmps37
  go_wp2_with fail
  go_loopw [6, 9] (fun _ iv wr => ∃ i : Nat, iv = .int .i64 i ∧ i ≤ l.length ∧ hasB (l.take i) k = false ∧ Below w.heap.size w wr) (fun _ iv _ => l.length - (intOf iv).toNat)
  case atStart => exact ⟨0, rfl, Nat.zero_le _, by simp [hasB], Below.refl _ _⟩
  case round =>
    obtain ⟨i, rfl, hi, hh, hb⟩ := hrel
    have HH := hid hh
    have HB := hid hb
    have HVR := hid (HV.out.below hb)
    clear hh hb
    by_cases hlt : i < l.length
    · obtain ⟨b, o, rfl⟩ := HVR.out.addr (by omega)
      obtain ⟨c0, c1⟩ := HVR.out.lit i hlt
      obtain ⟨x, hx⟩ : ∃ x, x = l[i] := ⟨_, rfl⟩
      rw [← hx] at c0 c1
      have HX := hid hx
      clear hx
      obtain ⟨p, q⟩ := x
      have HBA : Hid (Below w.heap.size w (wr.alloc (.cells #[.int .i64 p, .int .i64 q] 43))) := hid (HB.out.alloc HB.out.size _)
      by_cases h1 : p ≤ k
      · by_cases h2 : k < q
        · have HT : Hid (r = true) := hid (by rw [HR.out]; exact hasB_at l k i hlt (by rw [← HX.out]; exact h1) (by rw [← HX.out]; exact h2))
          go_wp2
          go_ret
          exact ⟨by rw [HT.out]; rfl, HBA.out⟩
        · have HN : Hid (hasB (l.take (i + 1)) k = false) := hid (by rw [hasB_next l k i hlt, HH.out, ← HX.out]; simp; omega)
          go_wp2
          go_roundw
          case rel => exact ⟨i + 1, by go_num, by omega, HN.out, HBA.out⟩
          case measure => simp [intOf]; omega
      · have HN : Hid (hasB (l.take (i + 1)) k = false) := hid (by rw [hasB_next l k i hlt, HH.out, ← HX.out]; simp; omega)
        go_wp2
        go_roundw
        case rel => exact ⟨i + 1, by go_num, by omega, HN.out, HBA.out⟩
        case measure => simp [intOf]; omega
    · have HT : Hid (r = false) := hid (by have := HH.out; rw [List.take_of_length_le (by omega)] at this; rw [HR.out]; exact this)
      go_wp2
      go_ret
      exact ⟨by rw [HT.out]; rfl, HB.out⟩
theorem below_drewN {B : Nat} {w w' : World} (h : Below B w w') (q : Nat) : Below B w (w'.drewN q) := ⟨h.os, h.tape, h.output, h.size, h.block⟩
theorem take_eq_next {a b : List Sp} (i : Nat) (ha : i < a.length) (hb : i < b.length) (h : a.take i = b.take i) (he : a[i] = b[i]) : a.take (i + 1) = b.take (i + 1) := by
  rw [List.take_succ_eq_append_getElem ha, List.take_succ_eq_append_getElem hb, h, he]
end Go.Proofs.Ytnkjkaofgninnaa
namespace Go.Proofs.Ytnkjkaofgninnaa
open Go.RowKit

theorem insE_behind (q : List Int) (n : Int) (h : ∀ y ∈ q, y < n) : insE q n = q ++ [n] := by
  induction q with
  | nil => rfl
  | cons z q ih =>
    have hz := h z List.mem_cons_self
    unfold insE
    rw [if_neg (by omega), if_neg (by omega), ih fun y hy => h y (List.mem_cons_of_mem _ hy)]
    rfl
theorem insE_within (q : List Int) (n x : Int) (hn : n ∉ q) (h : ∃ y ∈ q, n < y) : insE (q ++ [x]) n = insE q n ++ [x] := by
  induction q with
  | nil => obtain ⟨_, h, _⟩ := h; cases h
  | cons z q ih =>
    have hz : z ≠ n := fun e => hn (by rw [e]; exact List.mem_cons_self)
    rw [List.cons_append]
    unfold insE
    rw [if_neg hz, if_neg hz]
    by_cases hlt : n < z
    · rw [if_pos hlt, if_pos hlt]; rfl
    · rw [if_neg hlt, if_neg hlt, ih (fun hm => hn (List.mem_cons_of_mem _ hm)) ?_]
      · rfl
      · obtain ⟨y, hy, hny⟩ := h
        rcases List.mem_cons.1 hy with e | hy
        · exact absurd (e ▸ hny) hlt
        · exact ⟨y, hy, hny⟩
theorem insE_ahead (q : List Int) (n x : Int) (h : ∀ y ∈ q, y < n) (hx : n < x) : insE (q ++ [x]) n = q ++ [n] ++ [x] := by
  induction q with
  | nil =>
    show insE (x :: []) n = [n, x]
    unfold insE
    rw [if_neg (by omega), if_pos hx]
  | cons z q ih =>
    have hz := h z List.mem_cons_self
    rw [List.cons_append]
    unfold insE
    rw [if_neg (by omega), if_neg (by omega), ih fun y hy => h y (List.mem_cons_of_mem _ hy)]
    rfl
theorem insE_there (l : List Int) (n : Int) (hs : l.Pairwise fun x y => x < y) (h : n ∈ l) : insE l n = l := by
  induction l with
  | nil => cases h
  | cons z l ih =>
    obtain ⟨h1, h2⟩ := List.pairwise_cons.1 hs
    unfold insE
    by_cases hz : z = n
    · rw [if_pos hz]
    · rw [if_neg hz]
      rcases List.mem_cons.1 h with e | h
      · exact absurd e.symm hz
      · have := h1 n h
        rw [if_neg (by omega), ih h2 h]
/-- Numbers as values. -/
def ivs (l : List Int) : List Value := l.map fun x => .int .i64 x
/-- The value v is a row of the call's own, its numbers are l. -/
def OwnN (w : World) (base : Nat) (v : Value) (l : List Int) : Prop := w.ownsRow base 3 1 v l.length (ivs l)
theorem OwnN.nil (w : World) (base : Nat) : OwnN w base (.slice none 0 0) [] := World.ownsRow_nil _ _ _ _
theorem OwnN.shape {w : World} {base : Nat} {v : Value} {l : List Int} (h : OwnN w base v l) : ∃ va vc, v = .slice va l.length vc := by
  obtain ⟨h1, h2⟩ := h
  rcases h2 with ⟨rfl, h0⟩ | ⟨g, cap, cur, rfl, -⟩
  · exact ⟨none, 0, by rw [h0]⟩
  · exact ⟨_, _, rfl⟩
theorem OwnN.kept {w w' : World} {base : Nat} {v : Value} {l : List Int} (h : OwnN w base v l) (hb : ∀ k, base ≤ k → k < w.heap.size → w'.heap[k]? = w.heap[k]?) : OwnN w' base v l := by
  obtain ⟨h1, h2⟩ := h
  refine ⟨h1, ?_⟩
  rcases h2 with h2 | ⟨g, cap, cur, hv, hg, hh, r⟩
  · exact Or.inl h2
  · exact Or.inr ⟨g, cap, cur, hv, hg, by rw [hb g hg (lt_of_block hh)]; exact hh, r⟩
theorem OwnN.below {w w' : World} {base : Nat} {v : Value} {l : List Int} (h : OwnN w base v l) (hb : Below w.heap.size w w') : OwnN w' base v l := h.kept fun k _ hk => hb.block k hk
theorem OwnN.lower {w : World} {base base' : Nat} {v : Value} {l : List Int} (h : OwnN w base v l) (hb : base' ≤ base) : OwnN w base' v l := by
  obtain ⟨h1, h2⟩ := h
  refine ⟨h1, ?_⟩
  rcases h2 with h2 | ⟨g, cap, cur, hv, hg, r⟩
  · exact Or.inl h2
  · exact Or.inr ⟨g, cap, cur, hv, by omega, r⟩
theorem OwnN.at_lit {w : World} {base : Nat} {va : Option Addr} {vc : Nat} {l : List Int} (h : OwnN w base (.slice va l.length vc) l) (j : Nat) (hj : j < l.length) : ∃ g, va = some ⟨g, 0, none⟩ ∧ w.cell? ⟨g, j, none⟩ = some (.int .i64 l[j]) := by
  obtain ⟨h1, h2⟩ := id h
  rcases h2 with ⟨e, h0⟩ | ⟨g, cap, cur, e, -⟩
  · omega
  · cases e
    have := World.ownsRow.cells h rfl j (.int .i64 l[j]) (by simp [ivs, hj])
    exact ⟨g, rfl, by simpa [Addr.add_lit] using this⟩
theorem Try.underlyingIs : Try.prog.underlying 38 = some (.slice 3) := by kernel_rfl
theorem Try.infoI : (Try.prog.info? 3).map (fun i => (i.zero, i.size, i.bytes)) = some (some (.int .i64 0), 1, 8) := by kernel_rfl
theorem one_cellN {w : World} {g : Nat} {u : Value} (h : w.cell? ⟨g, 0, none⟩ = some u) : ∀ j x, [u][j]? = some x → w.cell? ((⟨g, 0, none⟩ : Addr).add j) = some x := by
  intro j x hj
  match j with
  | 0 => simp at hj; subst hj; exact h
  | j + 1 => simp at hj
theorem one_int (x : Int) : ∀ u ∈ [Value.int .i64 x], u.oneCell' = true := by intro u hu; simp at hu; subst hu; rfl
/-- A number more behind a row of the call's own. -/
theorem wpl_appendN {w : World} {ops : Array Oper} {rest : List Oper} {o : Oper} {a : Act} {Q : Exit → Act → World → Prop} (hgd : o.guard = none) (s x : Operand)
    (ho : o.op = .call { callee := .builtin .append, args := #[s, x], argTypes := #[38, 38] })
    (base : Nat) (v : Value) (l : List Int) (hs : a.eval s = v) (hown : OwnN w base v l) (g : Nat) (y : Int) (hx : a.eval x = .slice (some ⟨g, 0, none⟩) 1 1) (hg : w.cell? ⟨g, 0, none⟩ = some (.int .i64 y))
    (hl : l.length ≤ 1000000001) (hbase : base ≤ w.heap.size)
    (h : ∀ va vc m w', m = l ++ [y] → OwnN w' base (.slice va m.length vc) m → Below base w w' → wpList Try.prog ops Q rest (a.put o.dst (.slice va m.length vc)) w') :
    wpList Try.prog ops Q (o :: rest) a w := by
  obtain ⟨i, hi, hz0, hz1, hz2⟩ := info_parts Try.infoI
  refine wpList_append_own w hgd s x 38 ho base 3 i (.int .i64 0) 1 8 Try.underlyingIs hi hz0 hz1 hz2 rfl (by decide) v l.length (ivs l) hs hown ⟨g, 0, none⟩ 1 1 [.int .i64 y] hx rfl (one_cellN hg) (one_int y) (by unfold maxLen; omega) (by omega) hbase ?_
  intro v' w' ho' hg' _
  have ho2 : OwnN w' base v' (l ++ [y]) := by
    show w'.ownsRow _ _ _ _ (l ++ [y]).length (ivs (l ++ [y]))
    rw [List.length_append]
    have e : ivs (l ++ [y]) = ivs l ++ [.int .i64 y] := by simp [ivs]
    rw [e]; exact ho'
  obtain ⟨va, vc, rfl⟩ := ho2.shape
  refine h va vc _ w' rfl ho2 ⟨hg'.os, hg'.tape, hg'.output, hg'.size, fun k hk => hg'.block k (by omega) fun e => ?_⟩
  have := (World.ownsRow.lt hown k e.symm).1
  omega
/-- What in has laid of a beginning of the row. -/
structure InsI (p : List Int) (n : Int) (laid : Bool) (q : List Int) : Prop where
  out : n ∉ p
  yes : laid = true → (∃ y ∈ p, n < y) ∧ q = insE p n
  no : laid = false → (∀ y ∈ p, y < n) ∧ q = p
theorem InsI.start (n : Int) : InsI [] n false [] := ⟨by simp, (fun h => by cases h), (fun _ => ⟨(fun y hy => by cases hy), rfl⟩)⟩
theorem InsI.len {p : List Int} {n : Int} {laid : Bool} {q : List Int} (h : InsI p n laid q) : q.length ≤ p.length + 1 := by
  cases laid with
  | false => rw [(h.no rfl).2]; omega
  | true =>
    rw [(h.yes rfl).2]
    have : ∀ p : List Int, (insE p n).length ≤ p.length + 1 := by
      intro p
      induction p with
      | nil => simp [insE]
      | cons z p ih =>
        unfold insE
        split
        · simp
        · split
          · simp
          · simp; exact ih
    exact this p
theorem InsI.end {p : List Int} {n : Int} {laid : Bool} {q : List Int} (h : InsI p n laid q) : (laid = true → q = insE p n) ∧ (laid = false → q ++ [n] = insE p n) :=
  ⟨fun e => (h.yes e).2, fun e => by rw [(h.no e).2, insE_behind p n (h.no e).1]⟩
theorem InsI.put {p : List Int} {n x : Int} {q : List Int} (h : InsI p n false q) (hx : n < x) : InsI (p ++ [x]) n true (q ++ [n] ++ [x]) := by
  obtain ⟨h1, h2⟩ := h.no rfl
  subst h2
  exact ⟨by simp; exact ⟨h.out, by omega⟩, fun _ => ⟨⟨x, by simp, hx⟩, (insE_ahead q n x h1 hx).symm⟩, fun e => by cases e⟩
theorem InsI.on {p : List Int} {n x : Int} {laid : Bool} {q : List Int} (h : InsI p n laid q) (hx : x ≠ n) (hl : laid = false → ¬ n < x) : InsI (p ++ [x]) n laid (q ++ [x]) := by
  refine ⟨by simp; exact ⟨h.out, fun e => hx e.symm⟩, fun e => ?_, fun e => ?_⟩
  · obtain ⟨⟨y, hy, hn⟩, h2⟩ := h.yes e
    exact ⟨⟨y, by simp [hy], hn⟩, by rw [h2, insE_within p n x h.out ⟨y, hy, hn⟩]⟩
  · obtain ⟨h1, h2⟩ := h.no e
    have := hl e
    refine ⟨fun y hy => ?_, by rw [h2]⟩
    rcases List.mem_append.1 hy with hy | hy
    · exact h1 y hy
    · rw [List.mem_singleton.1 hy]; omega
theorem take_next (l : List Int) (i : Nat) (h : i < l.length) : l.take (i + 1) = l.take i ++ [l[i]] := List.take_succ_eq_append_getElem h
theorem new_cellN (w : World) (x : Int) : (w.alloc (.cells #[.int .i64 x] 3)).cell? ⟨w.heap.size, 0, none⟩ = some (.int .i64 x) := by rw [cell_of_row _ _ _ _ _ _ (heap_alloc_new _ _)]; rfl
set_option maxRecDepth 100000 in
set_option maxHeartbeats 3200000 in
theorem rin_any (B : Nat) (v : Value) (l : List Int) (n : Int) (w : World) (hv : OwnN w B v l) (hB : B ≤ w.heap.size) (hl : l.length ≤ 1000000000) (hs : l.Pairwise fun x y => x < y) :
    Calls Try.prog 58 #[v, .int .i64 n] w fun e w' => ∃ va vc, e = .returned (.slice va (insE l n).length vc) ∧ OwnN w' B (.slice va (insE l n).length vc) (insE l n) ∧ Below w.heap.size w w' := by
  have HV := hid hv
  obtain ⟨ao, cap, rfl⟩ := hv.shape
  clear hv
  have HS := hid hs
  have HBB := hid hB
  clear hs
  obtain ⟨r, hr⟩ : ∃ r, r = insE l n := ⟨_, rfl⟩
  rw [← hr]
  have HR := hid hr
  clear hr
  go_enter Try.func58, Try.ntmps58
  go_wp2_with fail
  go_loopw [5, 6, 8, 11] (fun ov lv _ iv wr => ∃ (i : Nat) (va : Option Addr) (vc : Nat) (laid : Bool) (q : List Int), iv = .int .i64 i ∧ lv = .bool laid ∧ ov = .slice va q.length vc ∧ i ≤ l.length ∧ InsI (l.take i) n laid q ∧ OwnN wr w.heap.size (.slice va q.length vc) q ∧ Below w.heap.size w wr) (fun _ _ _ iv _ => l.length - (intOf iv).toNat)
  case atStart => exact ⟨0, none, 0, false, [], rfl, rfl, rfl, Nat.zero_le _, by simpa using InsI.start n, OwnN.nil _ _, Below.refl _ _⟩
  case round =>
    obtain ⟨i, va, vc, laid, q, rfl, rfl, rfl, hi, hin, ho, hb⟩ := hrel
    have HI := hid hin
    have OA := hid ho
    have BA := hid hb
    have hq := hin.len
    have LA : Hid (q.length ≤ 1000000001) := hid (by simp at hq; omega)
    clear hin ho hb
    by_cases hlt : i < l.length
    · obtain ⟨g, rfl, c0⟩ := (HV.out.below (BA.out.mono (Nat.le_refl _))).at_lit i hlt
      obtain ⟨x, hx⟩ : ∃ x, x = l[i] := ⟨_, rfl⟩
      rw [← hx] at c0
      have HX := hid hx
      have HTN : Hid (l.take (i + 1) = l.take i ++ [x]) := hid (by rw [take_next l i hlt, ← hx])
      clear hx
      by_cases hxn : x = n
      · have hxn' : (x == n) = true := by simpa using hxn
        have HE : Hid (r = l) := hid (by rw [HR.out]; exact insE_there l n HS.out (by rw [← hxn, HX.out]; exact List.getElem_mem hlt))
        clear hxn
        go_wp2
        go_ret
        refine ⟨some ⟨g, 0, none⟩, cap, by rw [HE.out]; rfl, ?_, BA.out⟩
        rw [HE.out]
        exact HV.out.below BA.out
      · have hxn' : (x == n) = false := by simpa using hxn
        have HXN := hid hxn
        clear hxn
        cases laid with
        | true =>
          have HN : Hid (InsI (l.take (i + 1)) n true (q ++ [x])) := hid (by rw [HTN.out]; exact HI.out.on HXN.out (fun e => by cases e))
          by_cases hnx : n < x
          all_goals
            go_wp2_with (at_builtin; refine wpl_appendN rfl _ _ rfl w.heap.size _ _ rfl (OA.out.below ((Below.refl _ _).alloc (Nat.le_refl _) _)) _ x rfl (new_cellN _ _) LA.out (Nat.le_trans BA.out.size (by simp)) ?_; intro va1 vc1 m1 w1 hm1 ho1 hb1; have HM1 := hid hm1; have OB := hid ho1; have BB := hid ((BA.out.alloc BA.out.size (.cells #[.int .i64 x] 3)).trans hb1); clear hm1 ho1 hb1)
            go_wp2
            go_roundw
            case rel => exact ⟨i + 1, va1, vc1, true, m1, by go_num, rfl, rfl, by omega, by rw [HM1.out]; exact HN.out, OB.out, BB.out⟩
            case measure => simp [intOf]; omega
        | false =>
          by_cases hnx : n < x
          · have HN : Hid (InsI (l.take (i + 1)) n true (q ++ [n] ++ [x])) := hid (by rw [HTN.out]; exact HI.out.put hnx)
            have LB0 : Hid ((q ++ [n]).length ≤ 1000000001) := hid (by simp at hq ⊢; have := HI.out.no rfl; rw [this.2]; simp; omega)
            go_wp2_with (first | (at_builtin; refine wpl_appendN rfl _ _ rfl w.heap.size _ _ rfl (OA.out.below ((Below.refl _ _).alloc (Nat.le_refl _) _)) _ n rfl (new_cellN _ _) LA.out (Nat.le_trans BA.out.size (by simp)) ?_; intro va1 vc1 m1 w1 hm1 ho1 hb1; have HM1 := hid hm1; have OB := hid ho1; have BB := hid ((BA.out.alloc BA.out.size (.cells #[.int .i64 n] 3)).trans hb1); clear hm1 ho1 hb1) | (at_builtin; refine wpl_appendN rfl _ _ rfl w.heap.size _ m1 rfl (OB.out.below ((Below.refl _ _).alloc (Nat.le_refl _) _)) _ x rfl (new_cellN _ _) (by rw [HM1.out]; exact LB0.out) (Nat.le_trans BB.out.size (by simp)) ?_; intro va2 vc2 m2 w2 hm2 ho2 hb2; have HM2 := hid hm2; have OC := hid ho2; have BC := hid ((BB.out.alloc BB.out.size (.cells #[.int .i64 x] 3)).trans hb2); clear hm2 ho2 hb2))
            go_wp2
            go_roundw
            case rel => exact ⟨i + 1, va2, vc2, true, m2, by go_num, rfl, rfl, by omega, by rw [HM2.out, HM1.out]; exact HN.out, OC.out, BC.out⟩
            case measure => simp [intOf]; omega
          · have HN : Hid (InsI (l.take (i + 1)) n false (q ++ [x])) := hid (by rw [HTN.out]; exact HI.out.on HXN.out (fun _ => hnx))
            go_wp2_with (at_builtin; refine wpl_appendN rfl _ _ rfl w.heap.size _ _ rfl (OA.out.below ((Below.refl _ _).alloc (Nat.le_refl _) _)) _ x rfl (new_cellN _ _) LA.out (Nat.le_trans BA.out.size (by simp)) ?_; intro va1 vc1 m1 w1 hm1 ho1 hb1; have HM1 := hid hm1; have OB := hid ho1; have BB := hid ((BA.out.alloc BA.out.size (.cells #[.int .i64 x] 3)).trans hb1); clear hm1 ho1 hb1)
            go_wp2
            go_roundw
            case rel => exact ⟨i + 1, va1, vc1, false, m1, by go_num, rfl, rfl, by omega, by rw [HM1.out]; exact HN.out, OB.out, BB.out⟩
            case measure => simp [intOf]; omega
    · have htk : l.take i = l := List.take_of_length_le (by omega)
      have hend := HI.out.end
      rw [htk, ← HR.out] at hend
      clear htk
      cases laid with
      | true =>
        have HQ := hid (hend.1 rfl)
        clear hend
        go_wp2
        go_ret
        refine ⟨va, vc, by rw [← HQ.out]; rfl, ?_, BA.out⟩
        rw [← HQ.out]
        exact OA.out.lower HBB.out
      | false =>
        have HQ := hid (hend.2 rfl)
        clear hend
        go_wp2_with (at_builtin; refine wpl_appendN rfl _ _ rfl w.heap.size _ _ rfl (OA.out.below ((Below.refl _ _).alloc (Nat.le_refl _) _)) _ n rfl (new_cellN _ _) LA.out (Nat.le_trans BA.out.size (by simp)) ?_; intro va1 vc1 m1 w1 hm1 ho1 hb1; have HM1 := hid hm1; have OB := hid ho1; have BB := hid ((BA.out.alloc BA.out.size (.cells #[.int .i64 n] 3)).trans hb1); clear hm1 ho1 hb1)
        have HQ2 : Hid (m1 = r) := hid (HM1.out.trans HQ.out)
        go_wp2
        go_ret
        refine ⟨va1, vc1, by rw [← HQ2.out]; rfl, ?_, BB.out⟩
        rw [← HQ2.out]
        exact OB.out.lower HBB.out
end Go.Proofs.Ytnkjkaofgninnaa
namespace Go.Proofs.Ytnkjkaofgninnaa
open Go.RowKit

theorem insE_len (p : List Int) (n : Int) : (insE p n).length ≤ p.length + 1 := by
  induction p with
  | nil => simp [insE]
  | cons z p ih =>
    unfold insE
    split
    · simp
    · split
      · simp
      · simp; exact ih
theorem endsL_len (l : List Sp) (E : List Int) : (endsL E l).length ≤ E.length + 2 * l.length := by
  induction l generalizing E with
  | nil => simp [endsL]
  | cons x l ih =>
    show (endsL _ l).length ≤ _
    refine Nat.le_trans (ih _) ?_
    dsimp only
    split
    · have h1 := insE_len (insE E x.1) x.2
      have h2 := insE_len E x.1
      simp; omega
    · simp; omega
theorem endsL_next (E : List Int) (l : List Sp) (i : Nat) (h : i < l.length) : endsL E (l.take (i + 1)) = if l[i].1 < l[i].2 then insE (insE (endsL E (l.take i)) l[i].1) l[i].2 else endsL E (l.take i) := by
  unfold endsL
  rw [List.take_succ_eq_append_getElem h, List.foldl_append]
  rfl
/-- The ends of the first i of two rows. -/
def ends2 (a b : List Sp) : Nat → List Int
  | 0 => []
  | 1 => endsL [] a
  | _ => endsL (endsL [] a) b
theorem ends2_rises (a b : List Sp) (i : Nat) : (ends2 a b i).Pairwise fun x y => x < y := by
  match i with
  | 0 => exact List.Pairwise.nil
  | 1 => exact endsL_rises a [] List.Pairwise.nil
  | _ + 2 => exact endsL_rises b _ (endsL_rises a [] List.Pairwise.nil)
set_option maxRecDepth 100000 in
set_option maxHeartbeats 3200000 in
theorem rends_any (g : Nat) (u v : Value) (a b : List Sp) (w : World) (hu : Sps w u a) (hv : Sps w v b) (hg : w.heap[g]? = some (.cells #[u, v] 50 (0, 0))) (ha : a.length ≤ 1000000) (hb : b.length ≤ 1000000) :
    Calls Try.prog 36 #[.slice (some ⟨g, 0, none⟩) 2 2] w fun e w' => ∃ va vc, e = .returned (.slice va (ends2 a b 2).length vc) ∧ OwnN w' w.heap.size (.slice va (ends2 a b 2).length vc) (ends2 a b 2) ∧ Below w.heap.size w w' := by
  have z0 : w.cell? ⟨g, 0, none⟩ = some u := by rw [cell_of_row _ _ _ _ _ _ hg]; rfl
  have z1 : w.cell? ⟨g, 1, none⟩ = some v := by rw [cell_of_row _ _ _ _ _ _ hg]; rfl
  clear hg
  have HROW : Hid (∀ i, i < 2 → ∃ ua uc c, w.cell? ⟨g, i, none⟩ = some (.slice ua c.length uc) ∧ Sps w (.slice ua c.length uc) c ∧ c.length ≤ 1000000 ∧ (ends2 a b i).length ≤ 2000000 ∧ ends2 a b (i + 1) = endsL (ends2 a b i) c) := hid (by
    obtain ⟨ua, uc, rfl⟩ := hu.shape
    obtain ⟨va, vc, rfl⟩ := hv.shape
    intro i hi
    match i, hi with
    | 0, _ => exact ⟨ua, uc, a, z0, hu, ha, by simp [ends2], rfl⟩
    | 1, _ => exact ⟨va, vc, b, z1, hv, hb, by have := endsL_len a []; simp at this; show (endsL [] a).length ≤ _; omega, rfl⟩)
  clear z0 z1 hu hv
  obtain ⟨F, hF⟩ : ∃ F, F = ends2 a b := ⟨_, rfl⟩
  have HFR : Hid (∀ i, (F i).Pairwise fun x y => x < y) := hid (fun i => by rw [hF]; exact ends2_rises a b i)
  have HF0 : Hid (F 0 = []) := hid (by rw [hF]; rfl)
  rw [← hF] at HROW ⊢
  clear hF
  go_enter Try.func36, Try.ntmps36
  go_wp2_with fail
  go_loopw [3, 5, 7, 10, 14, 15, 16] (fun ov _ _ iv _ _ _ wr => ∃ (i : Nat) (va : Option Addr) (vc : Nat) (q : List Int), iv = .int .i64 i ∧ ov = .slice va q.length vc ∧ i ≤ 2 ∧ q = F i ∧ OwnN wr w.heap.size (.slice va q.length vc) q ∧ Below w.heap.size w wr) (fun _ _ _ iv _ _ _ _ => 2 - (intOf iv).toNat)
  case atStart => exact ⟨0, none, 0, [], rfl, rfl, by omega, HF0.out.symm, OwnN.nil _ _, Below.refl _ _⟩
  case round =>
    obtain ⟨i, va, vc, q, rfl, rfl, hi, hq, ho, hb⟩ := hrel
    have HQ := hid hq
    have OA := hid ho
    have BA := hid hb
    clear hq ho hb
    by_cases hlt : i < 2
    · obtain ⟨ua, uc, c, r1, r2, r3, r4, r5⟩ := HROW.out i hlt
      have hltI : (i : Int) < 2 := by omega
      have r1' := cell_later BA.out r1
      have HC := hid (r2.below BA.out)
      have HW := hid r2
      have H4 := hid r4
      have H5 := hid r5
      clear r1 r2 r4 r5 hi
      go_wp2_with fail
      go_loopw [3, 7, 16] (fun ov _ jv wz => ∃ (j : Nat) (va : Option Addr) (vc : Nat) (q : List Int), jv = .int .i64 j ∧ ov = .slice va q.length vc ∧ j ≤ c.length ∧ q = endsL (F i) (c.take j) ∧ OwnN wz w.heap.size (.slice va q.length vc) q ∧ Below w.heap.size w wz) (fun _ _ jv _ => c.length - (intOf jv).toNat)
      case atStart => exact ⟨0, va, vc, q, rfl, rfl, Nat.zero_le _, HQ.out, OA.out, BA.out⟩
      case round =>
        obtain ⟨j, va, vc, q, rfl, rfl, hj, hq, ho, hb⟩ := hrel
        clear HQ OA BA HC
        have HQ := hid hq
        have OA := hid ho
        have BA := hid hb
        have HC := hid (HW.out.below hb)
        have LQ : Hid (q.length ≤ 5000000) := hid (by have h1 := endsL_len (c.take j) (F i); have h2 := H4.out; rw [hq]; simp at h1; omega)
        have RQ : Hid (q.Pairwise fun x y => x < y) := hid (by rw [hq]; exact endsL_rises _ _ (HFR.out i))
        clear hq ho hb
        by_cases hjl : j < c.length
        · obtain ⟨g1, o1, rfl⟩ := HC.out.addr (by omega)
          obtain ⟨c0, c1⟩ := HC.out.lit j hjl
          have HNX := hid (endsL_next (F i) c j hjl)
          obtain ⟨x, hx⟩ : ∃ x, x = c[j] := ⟨_, rfl⟩
          rw [← hx] at c0 c1 HNX
          clear hx
          obtain ⟨s, t⟩ := x
          rw [← HQ.out] at HNX
          have BX := hid (BA.out.alloc BA.out.size (.cells #[.int .i64 s, .int .i64 t] 43))
          have OX := hid (OA.out.below ((Below.refl _ _).alloc (Nat.le_refl _) (.cells #[.int .i64 s, .int .i64 t] 43)))
          by_cases hst : s < t
          · have HE : Hid (endsL (F i) (c.take (j + 1)) = insE (insE q s) t) := hid (by rw [HNX.out, if_pos hst])
            clear HNX
            have BX7 : Hid ((wr.alloc (.cells #[.int .i64 s, .int .i64 t] 43)).heap[wr.heap.size]? = some (.cells #[.int .i64 s, .int .i64 t] 43 (0, 0))) := hid (heap_alloc_new _ _)
            go_wp2_with fail
            refine (rin_any w.heap.size _ q s _ OX.out BX.out.size (by have := LQ.out; omega) RQ.out).mono ?_
            rintro e w2 ⟨va2, vc2, rfl, ho2, hb2⟩
            have e1 : w2.cell? ⟨wr.heap.size, 1, none⟩ = some (.int .i64 t) := cell_later hb2 (by rw [cell_of_row _ _ _ _ _ _ BX7.out]; rfl)
            have L2 : Hid ((insE q s).length ≤ 6000000) := hid (by have := insE_len q s; have := LQ.out; omega)
            have R2 := hid (insE_rises q s RQ.out)
            have O2 := hid ho2
            have B2 := hid (BX.out.trans (hb2.mono BX.out.size))
            clear ho2 hb2 BX7
            obtain ⟨q2, hq2⟩ : ∃ q2, q2 = insE q s := ⟨_, rfl⟩
            rw [← hq2] at O2 L2 R2 HE ⊢
            clear hq2
            go_wp2_with fail
            refine (rin_any w.heap.size _ q2 t _ O2.out B2.out.size (by have := L2.out; omega) R2.out).mono ?_
            rintro e w3 ⟨va3, vc3, rfl, ho3, hb3⟩
            have O3 := hid ho3
            have B3 := hid (B2.out.trans (hb3.mono B2.out.size))
            clear ho3 hb3
            obtain ⟨q3, hq3⟩ : ∃ q3, q3 = insE q2 t := ⟨_, rfl⟩
            rw [← hq3] at O3 HE ⊢
            clear hq3
            go_wp2
            go_roundw
            case rel => exact ⟨j + 1, va3, vc3, q3, by go_num, rfl, by omega, HE.out.symm, O3.out, B3.out⟩
            case measure => simp [intOf]; omega
          · have HE : Hid (endsL (F i) (c.take (j + 1)) = q) := hid (by rw [HNX.out, if_neg hst])
            clear HNX
            go_wp2
            go_roundw
            case rel => exact ⟨j + 1, va, vc, q, by go_num, rfl, by omega, HE.out.symm, OX.out, BX.out⟩
            case measure => simp [intOf]; omega
        · have HE : Hid (q = F (i + 1)) := hid (by rw [H5.out, HQ.out, List.take_of_length_le (by omega)])
          go_wp2
          go_roundw
          case rel => exact ⟨i + 1, va, vc, q, by go_num, rfl, by omega, HE.out, OA.out, BA.out⟩
          case measure => simp [intOf]; omega
    · obtain rfl : i = 2 := by omega
      go_wp2
      go_ret
      refine ⟨va, vc, by rw [← HQ.out]; rfl, ?_, BA.out⟩
      rw [← HQ.out]
      exact OA.out
end Go.Proofs.Ytnkjkaofgninnaa
namespace Go.Proofs.Ytnkjkaofgninnaa

/-- The kept parts among the first i, as the document's Build goes over them. -/
def parts2 (E : List Int) (ks : List Bool) : Nat → List Sp
  | 0 => []
  | i + 1 => if ks.getD i false = true then parts2 E ks i ++ [(E.getD i 0, E.getD (i + 1) 0)] else parts2 E ks i
theorem parts2_cons (a : Int) (E : List Int) (k0 : Bool) (ks : List Bool) (i : Nat) : parts2 (a :: E) (k0 :: ks) (i + 1) = (if k0 = true then [(a, E.getD 0 0)] else []) ++ parts2 E ks i := by
  induction i with
  | zero => cases k0 <;> simp [parts2]
  | succ i ih =>
    rw [parts2, ih, parts2]
    simp only [List.getD_cons_succ]
    split <;> simp
/-- Over all, they are those between ends that are kept. -/
theorem parts2_all (keep : Int → Bool) (E : List Int) : parts2 E (E.map keep) (E.length - 1) = partsL keep E := by
  match E with
  | [] => rfl
  | [a] => rfl
  | a :: b :: l =>
    have ih := parts2_all keep (b :: l)
    have h := parts2_cons a (b :: l) (keep a) ((b :: l).map keep) ((b :: l).length - 1)
    have e : (a :: b :: l).length - 1 = ((b :: l).length - 1) + 1 := by simp
    rw [e, List.map_cons, h, ih]
    conv => rhs; unfold partsL
    split <;> simp
/-- What Build has made of the first i. -/
def buildN (E : List Int) (ks : List Bool) (i : Nat) : List Sp := (parts2 E ks i).foldl putL []
theorem buildN_next (E : List Int) (ks : List Bool) (i : Nat) : buildN E ks (i + 1) = if ks.getD i false = true then putL (buildN E ks i) (E.getD i 0, E.getD (i + 1) 0) else buildN E ks i := by
  unfold buildN
  rw [parts2]
  split
  · rw [List.foldl_append]; rfl
  · rfl
theorem buildN_all (a b : List Sp) (keep : Int → Bool) (E : List Int) (hE : E = endsL (endsL [] a) b) : buildN E (E.map keep) (E.length - 1) = ofL a b keep := by
  unfold buildN ofL
  rw [parts2_all, hE]
end Go.Proofs.Ytnkjkaofgninnaa
namespace Go.Proofs.Ytnkjkaofgninnaa
open Go.RowKit

/-- 'append(s, x)' of one span within a statement that draws its order. -/
theorem step_appendS {ops : Array Oper} {o : Oper} {a : Act} {w : World} {K : Act → World → Prop} {Q : Exit → Act → World → Prop} {E : Prop} (hgd : o.guard = none) (s x : Operand)
    (ho : o.op = .call { callee := .builtin .append, args := #[s, x], argTypes := #[50, 50] })
    (base : Nat) (v : Value) (l : List Sp) (hs : a.eval s = v) (hown : OwnS w base v l) (g : Nat) (y : Sp) (hx : a.eval x = .slice (some ⟨g, 0, none⟩) 1 1) (hg : w.heap[g]? = some (.cells #[.int .i64 y.1, .int .i64 y.2] 43 (0, 0)))
    (hl : l.length ≤ 1000000001) (hbase : base ≤ w.heap.size)
    (h : ∀ va vc m w', m = l ++ [y] → OwnS w' base (.slice va m.length vc) m → w.grownBy w' v.ownBlock → K (a.put o.dst (.slice va m.length vc)) w') :
    if Region.wanted o (yielded ops a.tmps) = true then Oper.wp Try.prog o a w K Q else E := by
  have hw : Region.wanted o (yielded ops a.tmps) = true := by simp [Region.wanted, hgd]
  rw [if_pos hw]
  obtain ⟨i, hi, hz0, hz1, hz2⟩ := info_parts Try.infoSp
  refine wp_append_own w s x 50 ho base 43 i (.agg #[.int .i64 0, .int .i64 0]) 2 16 Try.underlyingSs hi hz0 hz1 hz2 rfl (by decide) v l.length (flat l) hs hown ⟨g, 0, none⟩ 1 1 [.int .i64 y.1, .int .i64 y.2] hx rfl ?_ (flat_one [y]) (by unfold maxLen; omega) (by omega) hbase ?_
  · intro j u hj
    match j with
    | 0 => simp at hj; subst hj; rw [Addr.add_lit, cell_of_row w g _ _ _ _ hg]; rfl
    | 1 => simp at hj; subst hj; rw [Addr.add_lit, cell_of_row w g _ _ _ _ hg]; rfl
    | j + 2 => simp at hj
  · intro v' w' ho' hg' _
    have ho2 : OwnS w' base v' (l ++ [y]) := by
      show w'.ownsRow _ _ _ _ (l ++ [y]).length (flat (l ++ [y]))
      rw [List.length_append, flat_append]; exact ho'
    obtain ⟨va, vc, rfl⟩ := ho2.shape
    exact h va vc _ w' rfl ho2 hg'
def bvs (l : List Bool) : List Value := l.map fun x => .bool x
/-- The value v is a row of truths. -/
def OwnB (w : World) (base : Nat) (v : Value) (l : List Bool) : Prop := w.ownsRow base 4 1 v l.length (bvs l)
theorem OwnB.shape {w : World} {base : Nat} {v : Value} {l : List Bool} (h : OwnB w base v l) : ∃ va vc, v = .slice va l.length vc := by
  obtain ⟨h1, h2⟩ := h
  rcases h2 with ⟨rfl, h0⟩ | ⟨g, cap, cur, rfl, -⟩
  · exact ⟨none, 0, by rw [h0]⟩
  · exact ⟨_, _, rfl⟩
theorem OwnB.below {w w' : World} {base : Nat} {v : Value} {l : List Bool} (h : OwnB w base v l) (hb : Below w.heap.size w w') : OwnB w' base v l := by
  obtain ⟨h1, h2⟩ := h
  refine ⟨h1, ?_⟩
  rcases h2 with h2 | ⟨g, cap, cur, hv, hg, hh, r⟩
  · exact Or.inl h2
  · exact Or.inr ⟨g, cap, cur, hv, hg, by rw [hb.block g (lt_of_block hh)]; exact hh, r⟩
theorem OwnB.at_lit {w : World} {base : Nat} {va : Option Addr} {vc : Nat} {l : List Bool} (h : OwnB w base (.slice va l.length vc) l) (j : Nat) (hj : j < l.length) : ∃ g, va = some ⟨g, 0, none⟩ ∧ w.cell? ⟨g, j, none⟩ = some (.bool l[j]) := by
  have h' : w.ownsRow base 4 1 (.slice va l.length vc) l.length (bvs l) := h
  obtain ⟨h1, h2⟩ := h
  rcases h2 with ⟨_, h0⟩ | ⟨g, cap, cur, e, -⟩
  · omega
  · cases e
    refine ⟨g, rfl, ?_⟩
    have := h'.cells (g := g) rfl j (.bool l[j]) (by simp [bvs, hj])
    rw [Addr.add_lit] at this
    simpa using this
theorem buildN_len (E : List Int) (ks : List Bool) (i : Nat) : (buildN E ks i).length ≤ i := by
  induction i with
  | zero => simp [buildN, parts2]
  | succ i ih =>
    rw [buildN_next]
    split
    · have : ∀ (p : List Sp) (x : Sp), (putL p x).length ≤ p.length + 1 := by
        intro p x
        rcases List.eq_nil_or_concat p with rfl | ⟨q, y, rfl⟩
        · simp [putL]
        · rw [List.concat_eq_append, putL_snoc]; split <;> simp
      have := this (buildN E ks i) (E.getD i 0, E.getD (i + 1) 0)
      omega
    · omega
set_option maxRecDepth 100000 in
set_option maxHeartbeats 4000000 in
theorem rbuild_any (ev kv : Value) (E : List Int) (ks : List Bool) (B1 B2 : Nat) (w : World) (he : OwnN w B1 ev E) (hk : OwnB w B2 kv ks) (hlen : ks.length = E.length) (hl : E.length ≤ 10000000) :
    Calls Try.prog 38 #[ev, kv] w fun e w' => ∃ va vc, e = .returned (.slice va (buildN E ks (E.length - 1)).length vc) ∧ OwnS w' w.heap.size (.slice va (buildN E ks (E.length - 1)).length vc) (buildN E ks (E.length - 1)) ∧ Below w.heap.size w w' := by
  have HE := hid he
  have HK := hid hk
  obtain ⟨ea, ec, rfl⟩ := he.shape
  obtain ⟨ka, kc, rfl⟩ := hk.shape
  clear he hk
  rw [hlen] at HK ⊢
  have HLEN := hid hlen
  clear hlen
  go_enter Try.func38, Try.ntmps38
  go_wp2_with fail
  go_loopw [5, 6] (fun ov iv wr => ∃ (i : Nat) (va : Option Addr) (vc : Nat) (p : List Sp), iv = .int .i64 i ∧ ov = .slice va p.length vc ∧ i ≤ E.length - 1 ∧ p = buildN E ks i ∧ OwnS wr w.heap.size (.slice va p.length vc) p ∧ Below w.heap.size w wr) (fun _ iv _ => E.length - (intOf iv).toNat)
  case atStart => exact ⟨0, none, 0, [], rfl, rfl, Nat.zero_le _, rfl, OwnS.nil _ _, Below.refl _ _⟩
  case round =>
    obtain ⟨i, va, vc, p, rfl, rfl, hi, hp, ho, hb⟩ := hrel
    have HP := hid hp
    have HO := hid ho
    have HB := hid hb
    have LP : Hid (p.length ≤ 10000000) := hid (by rw [hp]; have := buildN_len E ks i; omega)
    clear hp ho hb
    by_cases hlt : i + 1 < E.length
    · have hltI : (i : Int) + 1 < (E.length : Int) := by omega
      obtain ⟨ge, rfl, ce0⟩ := HE.out.at_lit i (by omega)
      obtain ⟨ge', hge, ce1⟩ := HE.out.at_lit (i + 1) hlt
      cases hge
      have hki : i < ks.length := by rw [HLEN.out]; omega
      have hk' : OwnB w B2 (.slice ka ks.length kc) ks := by rw [HLEN.out]; exact HK.out
      obtain ⟨gk, rfl, ck0⟩ := hk'.at_lit i hki
      have HNX := hid (buildN_next E ks i)
      have g0 : E.getD i 0 = E[i]'(by omega) := by simp [List.getD, List.getElem?_eq_getElem (show i < E.length by omega)]
      have g1 : E.getD (i + 1) 0 = E[i + 1]'hlt := by simp [List.getD, List.getElem?_eq_getElem hlt]
      have gk : ks.getD i false = ks[i]'hki := by simp [List.getD, List.getElem?_eq_getElem hki]
      rw [g0, g1, gk, ← HP.out] at HNX
      clear g0 g1 gk hk'
      generalize E[i]'(by omega) = x at ce0 HNX
      generalize E[i + 1]'hlt = y at ce1 HNX
      generalize ks[i]'hki = kb at ck0 HNX
      have c0 := cell_later HB.out ce0
      have c1 := cell_later HB.out ce1
      have ck := cell_later HB.out ck0
      have hi0 : (0 : Int) ≤ (i : Int) := by omega
      have hi1 : (i : Int) < (E.length : Int) := by omega
      have hi2 : (0 : Int) ≤ (i : Int) + 1 := by omega
      have hwr : IntKind.i64.wrap ((i : Int) + 1) = (i : Int) + 1 := IntWalk.i64_in _ ⟨by omega, by omega⟩
      have hin : 0 ≤ (i : Int) + 1 ∧ (i : Int) + 1 < (E.length : Int) := ⟨hi2, hltI⟩
      have hge : ge < w.heap.size := World.block_lt_of_cell? _ _ ce0
      clear ce0 ce1 ck0
      cases kb with
      | false =>
        go_wp2_with fail
        go_roundw
        case rel => exact ⟨i + 1, va, vc, p, by go_num, rfl, by omega, by have := HNX.out; simp at this; exact this.symm, HO.out, HB.out⟩
        case measure => simp [intOf]; omega
      | true =>
        have HN2 : Hid (buildN E ks (i + 1) = putL p (x, y)) := hid (by have := HNX.out; simpa using this)
        clear HNX
        rcases List.eq_nil_or_concat p with rfl | ⟨q, z, rfl⟩
        · simp only [List.length_nil] at HO LP ⊢
          have hd : decide ((0 : Int) ≤ -1) = false := by decide
          have hlp : ([] : List Sp).length ≤ 1000000001 := by simp
          go_wp2_with fail
          go_quiet (fail)
          obtain ⟨W, hW⟩ : ∃ W, W = wr.drewN nq := ⟨_, rfl⟩
          rw [← hW]
          have BW : Hid (Below wr.heap.size wr W) := hid (by rw [hW]; exact ⟨rfl, rfl, rfl, Nat.le_refl _, fun _ _ => rfl⟩)
          have OW := hid (HO.out.below BW.out)
          have SW : Hid (∀ X, Below W.heap.size W X → X.cell? ⟨ge, i, none⟩ = some (.int .i64 x) ∧ X.cell? ⟨ge, i + 1, none⟩ = some (.int .i64 y)) := hid fun X hX => ⟨cell_later hX (cell_later BW.out c0), cell_later hX (cell_later BW.out c1)⟩
          have hsW : w.heap.size ≤ W.heap.size := Nat.le_trans HB.out.size BW.out.size
          have OX := hid (OW.out.below (((Below.refl W.heap.size W).drew).alloc (Nat.le_refl _) (.cells #[.int .i64 x, .int .i64 y] 43)))
          have hsX : w.heap.size ≤ (W.drew.alloc (.cells #[.int .i64 x, .int .i64 y] 43)).heap.size := Nat.le_trans hsW (by simp)
          have SWW := hid (SW.out W (Below.refl _ _))
          clear hW c0 c1 ck
          go_wp2_with fail
          go_region_held3 (fun X => X.cell? ⟨ge, i, none⟩ = some (.int .i64 x) ∧ X.cell? ⟨ge, i + 1, none⟩ = some (.int .i64 y)) (first | exact SW.out _ ((Below.refl _ _).drew) | exact SW.out _ (((Below.refl _ _).drew).alloc (Nat.le_refl _) _) | exact SW9.out) (first | (refine step_appendS rfl (.tmp 46) (.tmp 57) rfl w.heap.size _ _ rfl OX.out W.heap.size (x, y) rfl (heap_alloc_new _ _) hlp hsX ?_; intro va9 vc9 m9 w9 hm9 ho9 hg9; have O9 := hid ho9; have M9 := hid hm9; have B9 : Hid (Below w.heap.size W w9) := hid (((((Below.refl w.heap.size W).drew).alloc hsW _)).trans (belowS_grown OX.out hg9 hsX)); have SW9 : Hid (w9.cell? ⟨ge, i, none⟩ = some (.int .i64 x) ∧ w9.cell? ⟨ge, i + 1, none⟩ = some (.int .i64 y)) := hid ⟨(B9.out.cell (p := ⟨ge, i, none⟩) hge).trans SWW.out.1, (B9.out.cell (p := ⟨ge, i + 1, none⟩) hge).trans SWW.out.2⟩; clear ho9 hm9 hg9))
          go_wp2_with fail
          go_roundw
          case rel => exact ⟨i + 1, va9, vc9, m9, by go_num, rfl, by omega, by rw [HN2.out, M9.out]; rfl, O9.out, (HB.out.trans (BW.out.mono HB.out.size)).trans B9.out⟩
          case measure => simp [intOf]; omega
        · rw [List.concat_eq_append] at *
          have hnl : (q ++ [z]).length = q.length + 1 := by simp
          have hva : ∃ g, va = some ⟨g, 0, none⟩ := by
            obtain ⟨h1, h2⟩ := HO.out
            rcases h2 with ⟨_, h0⟩ | ⟨g, cap, cur, e, -⟩
            · omega
            · cases e; exact ⟨g, rfl⟩
          obtain ⟨g, rfl⟩ := hva
          have hpl := LP.out
          rw [hnl] at HO hpl ⊢
          obtain ⟨n, hn⟩ : ∃ n, n = q.length := ⟨_, rfl⟩
          rw [← hn] at HO hpl ⊢
          obtain ⟨a, c⟩ := z
          have hA : (⟨g, 0, none⟩ : Addr).add (n * 2 + 1) = ⟨g, n * 2 + 1, none⟩ := by rw [Addr.add_lit]; simp
          have HOn : Hid (wr.ownsRow w.heap.size 43 2 (.slice (some ⟨g, 0, none⟩) (n + 1) vc) (n + 1) (flat (q ++ [(a, c)]))) := hid (by have := HO.out; unfold OwnS at this; rwa [hnl, ← hn] at this)
          have hc : wr.cell? ⟨g, n * 2 + 1, none⟩ = some (.int .i64 c) := by
            have := World.ownsRow.cells HOn.out (g := g) rfl (n * 2 + 1) (.int .i64 c) (by
              have := (flat_at (q ++ [(a, c)]) n (by simp [hn])).2
              rw [this]; simp [hn])
            rwa [hA] at this
          have hfz : wr.frozen? ⟨g, n * 2 + 1, none⟩ = false := World.ownsRow.frozenAt HOn.out _
          have HN := hid hn
          have HGB := hid (World.ownsRow.lt HO.out g rfl)
          have hn0 : (0 : Int) ≤ (n : Int) := by omega
          have hn0' : decide ((0 : Int) ≤ (n : Int)) = true := decide_eq_true hn0
          have hn1 : (n : Int) < (n : Int) + 1 := by omega
          have hn2 : (n : Int) ≤ 10000000 := by omega
          clear hn hA hnl hpl
          by_cases hcx : c = x
          · have HE2 : Hid (putL (q ++ [(a, c)]) (x, y) = q ++ [(a, y)]) := hid (by rw [putL_snoc, if_pos hcx])
            have hbe : (c == x) = true := by simpa using hcx
            clear hcx LP
            go_wp2_with fail
            go_quiet (fail)
            go_wp2_with fail
            have hse : (q ++ [(a, c)]).set n (a, y) = q ++ [(a, y)] := by have := HN.out; subst this; simp
            have hnl : (q ++ [(a, c)]).length = n + 1 := by have := HN.out; simp [this]
            have hlq : (q ++ [(a, y)]).length = n + 1 := by have := HN.out; simp [this]
            have hgt : (q ++ [(a, c)])[n]'(by rw [hnl]; omega) = (a, c) := by have := HN.out; subst this; simp
            have hfs := flat_set (q ++ [(a, c)]) n (by rw [hnl]; omega) y
            rw [hgt, hse] at hfs
            have h' : (wr.drewN nq).ownsRow w.heap.size 43 2 (.slice (some ⟨g, 0, none⟩) (n + 1) vc) (n + 1) (flat (q ++ [(a, c)])) := by
              have := HO.out.below (show Below wr.heap.size wr (wr.drewN nq) from ⟨rfl, rfl, rfl, Nat.le_refl _, fun _ _ => rfl⟩); unfold OwnS at this; rwa [hnl] at this
            have hst := (World.ownsRow.stored h' (n * 2 + 1) (.int .i64 y)).1
            rw [hfs] at hst
            go_roundw
            case rel =>
              refine ⟨i + 1, some ⟨g, 0, none⟩, vc, q ++ [(a, y)], by go_num, by rw [hlq], by omega, by rw [HN2.out, HE2.out], ?_, ?_⟩
              · rw [hlq]; unfold OwnS; rw [hlq]; exact hst
              · exact (HB.out.trans (show Below w.heap.size wr (wr.drewN nq) from ⟨rfl, rfl, rfl, Nat.le_refl _, fun _ _ => rfl⟩)).setCell (p := ⟨g, n * 2 + 1, none⟩) HGB.out.1 _
            case measure => simp [intOf]; omega
          · have HE2 : Hid (putL (q ++ [(a, c)]) (x, y) = (q ++ [(a, c)]) ++ [(x, y)]) := hid (by rw [putL_snoc, if_neg hcx])
            have hbe : (c == x) = false := by simpa using hcx
            have hlp : (q ++ [(a, c)]).length ≤ 1000000001 := by have := LP.out; omega
            clear hcx
            go_wp2_with fail
            go_quiet (fail)
            obtain ⟨W, hW⟩ : ∃ W, W = wr.drewN nq := ⟨_, rfl⟩
            rw [← hW]
            have BW : Hid (Below wr.heap.size wr W) := hid (by rw [hW]; exact ⟨rfl, rfl, rfl, Nat.le_refl _, fun _ _ => rfl⟩)
            have OW := hid (HO.out.below BW.out)
            have SW : Hid (∀ X, Below W.heap.size W X → X.cell? ⟨ge, i, none⟩ = some (.int .i64 x) ∧ X.cell? ⟨ge, i + 1, none⟩ = some (.int .i64 y)) := hid fun X hX => ⟨cell_later hX (cell_later BW.out c0), cell_later hX (cell_later BW.out c1)⟩
            have hsW : w.heap.size ≤ W.heap.size := Nat.le_trans HB.out.size BW.out.size
            have OX := hid (OW.out.below (((Below.refl W.heap.size W).drew).alloc (Nat.le_refl _) (.cells #[.int .i64 x, .int .i64 y] 43)))
            have hsX : w.heap.size ≤ (W.drew.alloc (.cells #[.int .i64 x, .int .i64 y] 43)).heap.size := Nat.le_trans hsW (by simp)
            have SWW := hid (SW.out W (Below.refl _ _))
            clear hW c0 c1 ck
            go_wp2_with fail
            go_region_held3 (fun X => X.cell? ⟨ge, i, none⟩ = some (.int .i64 x) ∧ X.cell? ⟨ge, i + 1, none⟩ = some (.int .i64 y)) (first | exact SW.out _ ((Below.refl _ _).drew) | exact SW.out _ (((Below.refl _ _).drew).alloc (Nat.le_refl _) _) | exact SW9.out) (first | (refine step_appendS rfl (.tmp 46) (.tmp 57) rfl w.heap.size _ _ rfl OX.out W.heap.size (x, y) rfl (heap_alloc_new _ _) hlp hsX ?_; intro va9 vc9 m9 w9 hm9 ho9 hg9; have O9 := hid ho9; have M9 := hid hm9; have B9 : Hid (Below w.heap.size W w9) := hid (((((Below.refl w.heap.size W).drew).alloc hsW _)).trans (belowS_grown OX.out hg9 hsX)); have SW9 : Hid (w9.cell? ⟨ge, i, none⟩ = some (.int .i64 x) ∧ w9.cell? ⟨ge, i + 1, none⟩ = some (.int .i64 y)) := hid ⟨(B9.out.cell (p := ⟨ge, i, none⟩) hge).trans SWW.out.1, (B9.out.cell (p := ⟨ge, i + 1, none⟩) hge).trans SWW.out.2⟩; clear ho9 hm9 hg9))
            go_wp2_with fail
            go_roundw
            case rel => exact ⟨i + 1, va9, vc9, m9, by go_num, rfl, by omega, by rw [HN2.out, M9.out, HE2.out], O9.out, (HB.out.trans (BW.out.mono HB.out.size)).trans B9.out⟩
            case measure => simp [intOf]; omega
    · have hltI : ¬ (i : Int) + 1 < (E.length : Int) := by omega
      have hie : i = E.length - 1 := by omega
      have HPE : Hid (p = buildN E ks (E.length - 1)) := hid (by rw [← hie]; exact HP.out)
      clear HP hie
      go_wp2_with fail
      go_ret
      rw [← HPE.out]
      exact ⟨va, vc, rfl, HO.out, HB.out⟩
end Go.Proofs.Ytnkjkaofgninnaa
namespace Go.Proofs.Ytnkjkaofgninnaa
open Go.RowKit

theorem Try.underlyingBs : Try.prog.underlying 88 = some (.slice 4) := by kernel_rfl
theorem Try.infoBo : (Try.prog.info? 4).map (fun i => (i.zero, i.size, i.bytes)) = some (some (.bool false), 1, 1) := by kernel_rfl
theorem OwnB.nil (w : World) (base : Nat) : OwnB w base (.slice none 0 0) [] := World.ownsRow_nil _ _ _ _
theorem one_cellB {w : World} {g : Nat} {u : Value} (h : w.cell? ⟨g, 0, none⟩ = some u) : ∀ j x, [u][j]? = some x → w.cell? ((⟨g, 0, none⟩ : Addr).add j) = some x := by
  intro j x hj
  match j with
  | 0 => simp at hj; subst hj; rw [Addr.add_lit]; exact h
  | j + 1 => simp at hj
theorem wpl_appendB {w : World} {ops : Array Oper} {rest : List Oper} {o : Oper} {a : Act} {Q : Exit → Act → World → Prop} (hgd : o.guard = none) (s x : Operand)
    (ho : o.op = .call { callee := .builtin .append, args := #[s, x], argTypes := #[88, 88] })
    (base : Nat) (v : Value) (l : List Bool) (hs : a.eval s = v) (hown : OwnB w base v l) (g : Nat) (y : Bool) (hx : a.eval x = .slice (some ⟨g, 0, none⟩) 1 1) (hg : w.cell? ⟨g, 0, none⟩ = some (.bool y))
    (hl : l.length ≤ 1000000001) (hbase : base ≤ w.heap.size)
    (h : ∀ va vc m w', m = l ++ [y] → OwnB w' base (.slice va m.length vc) m → Below base w w' → wpList Try.prog ops Q rest (a.put o.dst (.slice va m.length vc)) w') :
    wpList Try.prog ops Q (o :: rest) a w := by
  obtain ⟨i, hi, hz0, hz1, hz2⟩ := info_parts Try.infoBo
  refine wpList_append_own w hgd s x 88 ho base 4 i (.bool false) 1 1 Try.underlyingBs hi hz0 hz1 hz2 rfl (by decide) v l.length (bvs l) hs hown ⟨g, 0, none⟩ 1 1 [.bool y] hx rfl (one_cellB hg) (by intro u hu; simp at hu; subst hu; rfl) (by unfold maxLen; omega) (by omega) hbase ?_
  intro v' w' ho' hg' _
  have ho2 : OwnB w' base v' (l ++ [y]) := by
    show w'.ownsRow _ _ _ _ (l ++ [y]).length (bvs (l ++ [y]))
    rw [List.length_append]
    have e : bvs (l ++ [y]) = bvs l ++ [.bool y] := by simp [bvs]
    rw [e]; exact ho'
  obtain ⟨va, vc, rfl⟩ := ho2.shape
  refine h va vc _ w' rfl ho2 ⟨hg'.os, hg'.tape, hg'.output, hg'.size, fun k hk => hg'.block k (by omega) fun e => ?_⟩
  have := (World.ownsRow.lt hown k e.symm).1
  omega
/-- What is kept, by kind. -/
def keepK (kind : Nat) (one two : Bool) : Bool := if kind = 0 then one || two else if kind = 1 then one && two else one && !two
def keepF (kind : Nat) (a b : List Sp) (x : Int) : Bool := keepK kind (hasB a x) (hasB b x)
set_option maxRecDepth 100000 in
set_option maxHeartbeats 4000000 in
theorem rof_0 (u v : Value) (a b : List Sp) (w : World) (hu : Sps w u a) (hv : Sps w v b) (ha : a.length ≤ 1000000) (hb : b.length ≤ 1000000) :
    Calls Try.prog 17 #[u, v, .int .i64 0] w fun e w' => ∃ va vc, e = .returned (.slice va (ofL a b (keepF 0 a b)).length vc) ∧ OwnS w' w.heap.size (.slice va (ofL a b (keepF 0 a b)).length vc) (ofL a b (keepF 0 a b)) ∧ Below w.heap.size w w' := by
  have HU := hid hu
  have HV := hid hv
  obtain ⟨ua, uc, rfl⟩ := hu.shape
  obtain ⟨va, vc, rfl⟩ := hv.shape
  have HEN := hid (rends_any w.heap.size (.slice ua a.length uc) (.slice va b.length vc) a b (w.alloc (.cells #[.slice ua a.length uc, .slice va b.length vc] 50)) (hu.alloc _) (hv.alloc _) (heap_alloc_new _ _) ha hb)
  clear hu hv
  go_enter Try.func17, Try.ntmps17
  go_wp2_with fail
  refine HEN.out.mono ?_
  rintro e w1 ⟨ea, ec, rfl, ho1, hb1⟩
  obtain ⟨E, hEE⟩ : ∃ E, E = ends2 a b 2 := ⟨_, rfl⟩
  rw [← hEE] at ho1 ⊢
  have HEE : Hid (E = endsL (endsL [] a) b) := hid hEE
  have hE : E.length ≤ 10000000 := by
    rw [hEE]; show (endsL (endsL [] a) b).length ≤ _
    have h1 := endsL_len b (endsL [] a); have h2 := endsL_len a []; simp at h2; omega
  have O1 := hid (ho1.lower (base' := w.heap.size) (by simp))
  have B1 := hid (((Below.refl _ _).alloc (Nat.le_refl _) _).trans (hb1.mono (by simp)) : Below w.heap.size w w1)
  clear hEE ho1 hb1 HEN
  go_wp2_with fail
  go_loopw [8, 10, 11, 12, 19] (fun kv _ _ _ iv wr => ∃ (i : Nat) (va : Option Addr) (vc : Nat) (ks : List Bool), iv = .int .i64 i ∧ kv = .slice va ks.length vc ∧ i ≤ E.length ∧ ks = (E.take i).map (keepF 0 a b) ∧ OwnB wr w1.heap.size (.slice va ks.length vc) ks ∧ Below w1.heap.size w1 wr) (fun _ _ _ _ iv _ => E.length - (intOf iv).toNat)
  case atStart => exact ⟨0, none, 0, [], rfl, rfl, Nat.zero_le _, rfl, OwnB.nil _ _, Below.refl _ _⟩
  case round =>
    obtain ⟨i, va, vc, ks, rfl, rfl, hi, hks, ho, hb⟩ := hrel
    have HKS := hid hks
    have HO := hid ho
    have HB := hid (B1.out.trans (hb.mono B1.out.size))
    have HB1 := hid hb
    clear hks ho hb
    by_cases hlt : i < E.length
    · have hltI : (i : Int) < (E.length : Int) := by omega
      obtain ⟨ge, hge, ce0⟩ := O1.out.at_lit i hlt
      subst hge
      have c0 := cell_later HB1.out ce0
      have HNX : Hid ((E.take (i + 1)).map (keepF 0 a b) = ks ++ [keepK 0 (hasB a E[i]) (hasB b E[i])]) := hid (by rw [List.take_succ_eq_append_getElem hlt, List.map_append, ← HKS.out]; rfl)
      generalize E[i]'hlt = x at c0 HNX
      have HLK : Hid (ks.length ≤ 10000000) := hid (by rw [HKS.out]; simp; omega)
      have HUA := hid (HU.out.below HB.out)
      have HVA := hid (HV.out.below HB.out)
      clear ce0
      go_wp2_with fail
      refine (rhas_any _ a x wr HUA.out (by omega)).mono ?_
      rintro e w2 ⟨rfl, hb2⟩
      have B2 := hid hb2
      clear hb2
      go_wp2_with fail
      refine (rhas_any _ b x w2 (HVA.out.below B2.out) (by omega)).mono ?_
      rintro e w3 ⟨rfl, hb3⟩
      have B3 := hid (B2.out.trans (hb3.mono B2.out.size))
      clear hb3 B2
      have O3 := hid (HO.out.below B3.out)
      generalize hasB a x = p at HNX ⊢
      generalize hasB b x = q at HNX ⊢
      have hs3 : w1.heap.size ≤ (w3.alloc (.cells #[.bool (keepK 0 p q)] 4)).heap.size := Nat.le_trans HB1.out.size (Nat.le_trans B3.out.size (by simp))
      have OX := hid (O3.out.below ((Below.refl _ _).alloc (Nat.le_refl _) (.cells #[.bool (keepK 0 p q)] 4)))
      have CX : Hid ((w3.alloc (.cells #[.bool (keepK 0 p q)] 4)).cell? ⟨w3.heap.size, 0, none⟩ = some (.bool (keepK 0 p q))) := hid (by rw [cell_of_row _ _ _ _ _ _ (heap_alloc_new _ _)]; rfl)
      have BX := hid (HB1.out.trans ((B3.out.trans ((Below.refl _ _).alloc B3.out.size (.cells #[.bool (keepK 0 p q)] 4))).mono HB1.out.size))
      have hlk : ks.length ≤ 1000000001 := by have := HLK.out; omega
      cases p <;> cases q <;> simp only [show keepK 0 false false = false from rfl, show keepK 0 false true = true from rfl, show keepK 0 true false = true from rfl, show keepK 0 true true = true from rfl] at HNX OX CX BX hs3
      all_goals
        go_wp2_with (at_builtin; refine wpl_appendB rfl (.tmp 29) (.tmp 59) rfl w1.heap.size (.slice va ks.length vc) ks rfl OX.out w3.heap.size _ rfl CX.out hlk hs3 ?_; intro va5 vc5 m5 w5 hm5 ho5 hb5; have O5 := hid ho5; have M5 := hid hm5; have B5 := hid (BX.out.trans hb5); clear ho5 hm5 hb5)
        go_roundw
        case rel => exact ⟨i + 1, va5, vc5, m5, by go_num, rfl, by omega, by rw [M5.out, HNX.out], O5.out, B5.out⟩
        case measure => simp [intOf]; omega
    · have hltI : ¬ (i : Int) < (E.length : Int) := by omega
      obtain rfl : i = E.length := by omega
      rw [List.take_length] at HKS
      have hkl : ks.length = E.length := by rw [HKS.out]; simp
      have HRB := hid (rbuild_any _ _ E ks w.heap.size w1.heap.size wr (O1.out.below HB1.out) HO.out hkl hE)
      have HKL := hid hkl
      rw [hkl] at HRB
      clear hkl
      go_wp2_with fail
      rw [HKL.out]
      refine HRB.out.mono ?_
      rintro e w9 ⟨va9, vc9, rfl, ho9, hb9⟩
      have HEQ : Hid (buildN E ks (E.length - 1) = ofL a b (keepF 0 a b)) := hid (by rw [HKS.out]; exact buildN_all a b (keepF 0 a b) E HEE.out)
      have O9 := hid ho9
      have B9 := hid (HB.out.trans (hb9.mono HB.out.size))
      clear ho9 hb9
      go_wp2_with fail
      go_ret
      rw [HEQ.out] at O9 ⊢
      exact ⟨va9, vc9, rfl, O9.out.lower HB.out.size, B9.out⟩
set_option maxRecDepth 100000 in
set_option maxHeartbeats 4000000 in
theorem rof_1 (u v : Value) (a b : List Sp) (w : World) (hu : Sps w u a) (hv : Sps w v b) (ha : a.length ≤ 1000000) (hb : b.length ≤ 1000000) :
    Calls Try.prog 17 #[u, v, .int .i64 1] w fun e w' => ∃ va vc, e = .returned (.slice va (ofL a b (keepF 1 a b)).length vc) ∧ OwnS w' w.heap.size (.slice va (ofL a b (keepF 1 a b)).length vc) (ofL a b (keepF 1 a b)) ∧ Below w.heap.size w w' := by
  have HU := hid hu
  have HV := hid hv
  obtain ⟨ua, uc, rfl⟩ := hu.shape
  obtain ⟨va, vc, rfl⟩ := hv.shape
  have HEN := hid (rends_any w.heap.size (.slice ua a.length uc) (.slice va b.length vc) a b (w.alloc (.cells #[.slice ua a.length uc, .slice va b.length vc] 50)) (hu.alloc _) (hv.alloc _) (heap_alloc_new _ _) ha hb)
  clear hu hv
  go_enter Try.func17, Try.ntmps17
  go_wp2_with fail
  refine HEN.out.mono ?_
  rintro e w1 ⟨ea, ec, rfl, ho1, hb1⟩
  obtain ⟨E, hEE⟩ : ∃ E, E = ends2 a b 2 := ⟨_, rfl⟩
  rw [← hEE] at ho1 ⊢
  have HEE : Hid (E = endsL (endsL [] a) b) := hid hEE
  have hE : E.length ≤ 10000000 := by
    rw [hEE]; show (endsL (endsL [] a) b).length ≤ _
    have h1 := endsL_len b (endsL [] a); have h2 := endsL_len a []; simp at h2; omega
  have O1 := hid (ho1.lower (base' := w.heap.size) (by simp))
  have B1 := hid (((Below.refl _ _).alloc (Nat.le_refl _) _).trans (hb1.mono (by simp)) : Below w.heap.size w w1)
  clear hEE ho1 hb1 HEN
  go_wp2_with fail
  go_loopw [8, 10, 11, 12, 19] (fun kv _ _ _ iv wr => ∃ (i : Nat) (va : Option Addr) (vc : Nat) (ks : List Bool), iv = .int .i64 i ∧ kv = .slice va ks.length vc ∧ i ≤ E.length ∧ ks = (E.take i).map (keepF 1 a b) ∧ OwnB wr w1.heap.size (.slice va ks.length vc) ks ∧ Below w1.heap.size w1 wr) (fun _ _ _ _ iv _ => E.length - (intOf iv).toNat)
  case atStart => exact ⟨0, none, 0, [], rfl, rfl, Nat.zero_le _, rfl, OwnB.nil _ _, Below.refl _ _⟩
  case round =>
    obtain ⟨i, va, vc, ks, rfl, rfl, hi, hks, ho, hb⟩ := hrel
    have HKS := hid hks
    have HO := hid ho
    have HB := hid (B1.out.trans (hb.mono B1.out.size))
    have HB1 := hid hb
    clear hks ho hb
    by_cases hlt : i < E.length
    · have hltI : (i : Int) < (E.length : Int) := by omega
      obtain ⟨ge, hge, ce0⟩ := O1.out.at_lit i hlt
      subst hge
      have c0 := cell_later HB1.out ce0
      have HNX : Hid ((E.take (i + 1)).map (keepF 1 a b) = ks ++ [keepK 1 (hasB a E[i]) (hasB b E[i])]) := hid (by rw [List.take_succ_eq_append_getElem hlt, List.map_append, ← HKS.out]; rfl)
      generalize E[i]'hlt = x at c0 HNX
      have HLK : Hid (ks.length ≤ 10000000) := hid (by rw [HKS.out]; simp; omega)
      have HUA := hid (HU.out.below HB.out)
      have HVA := hid (HV.out.below HB.out)
      clear ce0
      go_wp2_with fail
      refine (rhas_any _ a x wr HUA.out (by omega)).mono ?_
      rintro e w2 ⟨rfl, hb2⟩
      have B2 := hid hb2
      clear hb2
      go_wp2_with fail
      refine (rhas_any _ b x w2 (HVA.out.below B2.out) (by omega)).mono ?_
      rintro e w3 ⟨rfl, hb3⟩
      have B3 := hid (B2.out.trans (hb3.mono B2.out.size))
      clear hb3 B2
      have O3 := hid (HO.out.below B3.out)
      generalize hasB a x = p at HNX ⊢
      generalize hasB b x = q at HNX ⊢
      have hs3 : w1.heap.size ≤ (w3.alloc (.cells #[.bool (keepK 1 p q)] 4)).heap.size := Nat.le_trans HB1.out.size (Nat.le_trans B3.out.size (by simp))
      have OX := hid (O3.out.below ((Below.refl _ _).alloc (Nat.le_refl _) (.cells #[.bool (keepK 1 p q)] 4)))
      have CX : Hid ((w3.alloc (.cells #[.bool (keepK 1 p q)] 4)).cell? ⟨w3.heap.size, 0, none⟩ = some (.bool (keepK 1 p q))) := hid (by rw [cell_of_row _ _ _ _ _ _ (heap_alloc_new _ _)]; rfl)
      have BX := hid (HB1.out.trans ((B3.out.trans ((Below.refl _ _).alloc B3.out.size (.cells #[.bool (keepK 1 p q)] 4))).mono HB1.out.size))
      have hlk : ks.length ≤ 1000000001 := by have := HLK.out; omega
      cases p <;> cases q <;> simp only [show keepK 1 false false = false from rfl, show keepK 1 false true = false from rfl, show keepK 1 true false = false from rfl, show keepK 1 true true = true from rfl] at HNX OX CX BX hs3
      all_goals
        go_wp2_with (at_builtin; refine wpl_appendB rfl (.tmp 29) (.tmp 59) rfl w1.heap.size (.slice va ks.length vc) ks rfl OX.out w3.heap.size _ rfl CX.out hlk hs3 ?_; intro va5 vc5 m5 w5 hm5 ho5 hb5; have O5 := hid ho5; have M5 := hid hm5; have B5 := hid (BX.out.trans hb5); clear ho5 hm5 hb5)
        go_roundw
        case rel => exact ⟨i + 1, va5, vc5, m5, by go_num, rfl, by omega, by rw [M5.out, HNX.out], O5.out, B5.out⟩
        case measure => simp [intOf]; omega
    · have hltI : ¬ (i : Int) < (E.length : Int) := by omega
      obtain rfl : i = E.length := by omega
      rw [List.take_length] at HKS
      have hkl : ks.length = E.length := by rw [HKS.out]; simp
      have HRB := hid (rbuild_any _ _ E ks w.heap.size w1.heap.size wr (O1.out.below HB1.out) HO.out hkl hE)
      have HKL := hid hkl
      rw [hkl] at HRB
      clear hkl
      go_wp2_with fail
      rw [HKL.out]
      refine HRB.out.mono ?_
      rintro e w9 ⟨va9, vc9, rfl, ho9, hb9⟩
      have HEQ : Hid (buildN E ks (E.length - 1) = ofL a b (keepF 1 a b)) := hid (by rw [HKS.out]; exact buildN_all a b (keepF 1 a b) E HEE.out)
      have O9 := hid ho9
      have B9 := hid (HB.out.trans (hb9.mono HB.out.size))
      clear ho9 hb9
      go_wp2_with fail
      go_ret
      rw [HEQ.out] at O9 ⊢
      exact ⟨va9, vc9, rfl, O9.out.lower HB.out.size, B9.out⟩
set_option maxRecDepth 100000 in
set_option maxHeartbeats 4000000 in
theorem rof_2 (u v : Value) (a b : List Sp) (w : World) (hu : Sps w u a) (hv : Sps w v b) (ha : a.length ≤ 1000000) (hb : b.length ≤ 1000000) :
    Calls Try.prog 17 #[u, v, .int .i64 2] w fun e w' => ∃ va vc, e = .returned (.slice va (ofL a b (keepF 2 a b)).length vc) ∧ OwnS w' w.heap.size (.slice va (ofL a b (keepF 2 a b)).length vc) (ofL a b (keepF 2 a b)) ∧ Below w.heap.size w w' := by
  have HU := hid hu
  have HV := hid hv
  obtain ⟨ua, uc, rfl⟩ := hu.shape
  obtain ⟨va, vc, rfl⟩ := hv.shape
  have HEN := hid (rends_any w.heap.size (.slice ua a.length uc) (.slice va b.length vc) a b (w.alloc (.cells #[.slice ua a.length uc, .slice va b.length vc] 50)) (hu.alloc _) (hv.alloc _) (heap_alloc_new _ _) ha hb)
  clear hu hv
  go_enter Try.func17, Try.ntmps17
  go_wp2_with fail
  refine HEN.out.mono ?_
  rintro e w1 ⟨ea, ec, rfl, ho1, hb1⟩
  obtain ⟨E, hEE⟩ : ∃ E, E = ends2 a b 2 := ⟨_, rfl⟩
  rw [← hEE] at ho1 ⊢
  have HEE : Hid (E = endsL (endsL [] a) b) := hid hEE
  have hE : E.length ≤ 10000000 := by
    rw [hEE]; show (endsL (endsL [] a) b).length ≤ _
    have h1 := endsL_len b (endsL [] a); have h2 := endsL_len a []; simp at h2; omega
  have O1 := hid (ho1.lower (base' := w.heap.size) (by simp))
  have B1 := hid (((Below.refl _ _).alloc (Nat.le_refl _) _).trans (hb1.mono (by simp)) : Below w.heap.size w w1)
  clear hEE ho1 hb1 HEN
  go_wp2_with fail
  go_loopw [8, 10, 11, 12, 19] (fun kv _ _ _ iv wr => ∃ (i : Nat) (va : Option Addr) (vc : Nat) (ks : List Bool), iv = .int .i64 i ∧ kv = .slice va ks.length vc ∧ i ≤ E.length ∧ ks = (E.take i).map (keepF 2 a b) ∧ OwnB wr w1.heap.size (.slice va ks.length vc) ks ∧ Below w1.heap.size w1 wr) (fun _ _ _ _ iv _ => E.length - (intOf iv).toNat)
  case atStart => exact ⟨0, none, 0, [], rfl, rfl, Nat.zero_le _, rfl, OwnB.nil _ _, Below.refl _ _⟩
  case round =>
    obtain ⟨i, va, vc, ks, rfl, rfl, hi, hks, ho, hb⟩ := hrel
    have HKS := hid hks
    have HO := hid ho
    have HB := hid (B1.out.trans (hb.mono B1.out.size))
    have HB1 := hid hb
    clear hks ho hb
    by_cases hlt : i < E.length
    · have hltI : (i : Int) < (E.length : Int) := by omega
      obtain ⟨ge, hge, ce0⟩ := O1.out.at_lit i hlt
      subst hge
      have c0 := cell_later HB1.out ce0
      have HNX : Hid ((E.take (i + 1)).map (keepF 2 a b) = ks ++ [keepK 2 (hasB a E[i]) (hasB b E[i])]) := hid (by rw [List.take_succ_eq_append_getElem hlt, List.map_append, ← HKS.out]; rfl)
      generalize E[i]'hlt = x at c0 HNX
      have HLK : Hid (ks.length ≤ 10000000) := hid (by rw [HKS.out]; simp; omega)
      have HUA := hid (HU.out.below HB.out)
      have HVA := hid (HV.out.below HB.out)
      clear ce0
      go_wp2_with fail
      refine (rhas_any _ a x wr HUA.out (by omega)).mono ?_
      rintro e w2 ⟨rfl, hb2⟩
      have B2 := hid hb2
      clear hb2
      go_wp2_with fail
      refine (rhas_any _ b x w2 (HVA.out.below B2.out) (by omega)).mono ?_
      rintro e w3 ⟨rfl, hb3⟩
      have B3 := hid (B2.out.trans (hb3.mono B2.out.size))
      clear hb3 B2
      have O3 := hid (HO.out.below B3.out)
      generalize hasB a x = p at HNX ⊢
      generalize hasB b x = q at HNX ⊢
      have hs3 : w1.heap.size ≤ (w3.alloc (.cells #[.bool (keepK 2 p q)] 4)).heap.size := Nat.le_trans HB1.out.size (Nat.le_trans B3.out.size (by simp))
      have OX := hid (O3.out.below ((Below.refl _ _).alloc (Nat.le_refl _) (.cells #[.bool (keepK 2 p q)] 4)))
      have CX : Hid ((w3.alloc (.cells #[.bool (keepK 2 p q)] 4)).cell? ⟨w3.heap.size, 0, none⟩ = some (.bool (keepK 2 p q))) := hid (by rw [cell_of_row _ _ _ _ _ _ (heap_alloc_new _ _)]; rfl)
      have BX := hid (HB1.out.trans ((B3.out.trans ((Below.refl _ _).alloc B3.out.size (.cells #[.bool (keepK 2 p q)] 4))).mono HB1.out.size))
      have hlk : ks.length ≤ 1000000001 := by have := HLK.out; omega
      cases p <;> cases q <;> simp only [show keepK 2 false false = false from rfl, show keepK 2 false true = false from rfl, show keepK 2 true false = true from rfl, show keepK 2 true true = false from rfl] at HNX OX CX BX hs3
      all_goals
        go_wp2_with (at_builtin; refine wpl_appendB rfl (.tmp 29) (.tmp 59) rfl w1.heap.size (.slice va ks.length vc) ks rfl OX.out w3.heap.size _ rfl CX.out hlk hs3 ?_; intro va5 vc5 m5 w5 hm5 ho5 hb5; have O5 := hid ho5; have M5 := hid hm5; have B5 := hid (BX.out.trans hb5); clear ho5 hm5 hb5)
        go_roundw
        case rel => exact ⟨i + 1, va5, vc5, m5, by go_num, rfl, by omega, by rw [M5.out, HNX.out], O5.out, B5.out⟩
        case measure => simp [intOf]; omega
    · have hltI : ¬ (i : Int) < (E.length : Int) := by omega
      obtain rfl : i = E.length := by omega
      rw [List.take_length] at HKS
      have hkl : ks.length = E.length := by rw [HKS.out]; simp
      have HRB := hid (rbuild_any _ _ E ks w.heap.size w1.heap.size wr (O1.out.below HB1.out) HO.out hkl hE)
      have HKL := hid hkl
      rw [hkl] at HRB
      clear hkl
      go_wp2_with fail
      rw [HKL.out]
      refine HRB.out.mono ?_
      rintro e w9 ⟨va9, vc9, rfl, ho9, hb9⟩
      have HEQ : Hid (buildN E ks (E.length - 1) = ofL a b (keepF 2 a b)) := hid (by rw [HKS.out]; exact buildN_all a b (keepF 2 a b) E HEE.out)
      have O9 := hid ho9
      have B9 := hid (HB.out.trans (hb9.mono HB.out.size))
      clear ho9 hb9
      go_wp2_with fail
      go_ret
      rw [HEQ.out] at O9 ⊢
      exact ⟨va9, vc9, rfl, O9.out.lower HB.out.size, B9.out⟩
end Go.Proofs.Ytnkjkaofgninnaa
