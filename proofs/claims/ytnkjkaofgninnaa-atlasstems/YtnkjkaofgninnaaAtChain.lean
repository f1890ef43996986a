/- Shards that stand one behind the other: what a change makes of where blocks are; Find of any block. Conditions: the map lies in memory. -/
import Derived.Test.YtnkjkaofgninnaaAtLives
import Derived.Test.YtnkjkaofgninnaaAtRef
namespace Go.Proofs.Ytnkjkaofgninnaa
open Go.RowKit Go.Maps Go.Shelf
set_option linter.unusedVariables false
set_option linter.unusedSimpArgs false

/-- One behind the other, from a on, up to b. -/
def Chn : Int → List SX → Int → Prop
  | a, [], b => a = b
  | a, x :: l, b => x.s.fr = a ∧ x.s.fr < x.s.to ∧ Chn x.s.to l b
theorem Chn.append : ∀ (P Q : List SX) (a b : Int), Chn a (P ++ Q) b ↔ ∃ m, Chn a P m ∧ Chn m Q b
  | [], Q, a, b => ⟨fun h => ⟨a, rfl, h⟩, fun ⟨m, h1, h2⟩ => by have e : a = m := h1; subst e; exact h2⟩
  | x :: P, Q, a, b => by
    constructor
    · rintro ⟨h1, h2, h3⟩
      obtain ⟨m, h4, h5⟩ := (Chn.append P Q _ b).1 h3
      exact ⟨m, ⟨h1, h2, h4⟩, h5⟩
    · rintro ⟨m, ⟨h1, h2, h4⟩, h5⟩
      exact ⟨h1, h2, (Chn.append P Q _ b).2 ⟨m, h4, h5⟩⟩
theorem Chn.le : ∀ (X : List SX) (a b : Int), Chn a X b → a ≤ b
  | [], a, b, h => by have e : a = b := h; omega
  | x :: l, a, b, ⟨h1, h2, h3⟩ => by have := Chn.le l _ b h3; omega
theorem Chn.mem : ∀ (X : List SX) (a b : Int), Chn a X b → ∀ x ∈ X, a ≤ x.s.fr ∧ x.s.fr < x.s.to ∧ x.s.to ≤ b
  | [], a, b, _, x, hx => by cases hx
  | y :: l, a, b, ⟨h1, h2, h3⟩, x, hx => by
    have hl := Chn.le l _ b h3
    rcases List.mem_cons.1 hx with rfl | hx
    · exact ⟨by omega, h2, hl⟩
    · have := Chn.mem l _ b h3 x hx
      exact ⟨by omega, this.2.1, this.2.2⟩
theorem Chn.cover : ∀ (X : List SX) (a b : Int), Chn a X b → ∀ k, a ≤ k → k < b → ∃ x ∈ X, x.s.fr ≤ k ∧ k < x.s.to
  | [], a, b, h, k, h1, h2 => by have e : a = b := h; omega
  | y :: l, a, b, ⟨h1, h2, h3⟩, k, h4, h5 => by
    by_cases hk : k < y.s.to
    · exact ⟨y, by simp, by omega, hk⟩
    · obtain ⟨x, hx, h6⟩ := Chn.cover l _ b h3 k (by omega) h5
      exact ⟨x, List.mem_cons_of_mem _ hx, h6⟩
theorem Chn.rise : ∀ (X : List SX) (a b : Int), Chn a X b → X.Pairwise fun x y => x.s.to ≤ y.s.fr
  | [], _, _, _ => List.Pairwise.nil
  | y :: l, a, b, ⟨h1, h2, h3⟩ => List.pairwise_cons.2 ⟨fun x hx => (Chn.mem l _ b h3 x hx).1, Chn.rise l _ b h3⟩
theorem Chn.can (X : List SX) (a b : Int) (h : Chn a X b) (hd : X.Pairwise fun x y => x.s.id ≠ y.s.id) : Can (X.map SX.pc) := by
  refine ⟨fun p hp => ?_, ?_⟩
  · obtain ⟨x, hx, rfl⟩ := List.mem_map.1 hp
    exact (Chn.mem X a b h x hx).2.1
  · rw [List.pairwise_map]
    refine (List.Pairwise.and (Chn.rise X a b h) hd).imp fun {x y} hxy => ?_
    by_cases he : x.s.to < y.s.fr
    · exact .inl he
    · exact .inr ⟨by show x.s.to = y.s.fr; have := hxy.1; omega, hxy.2⟩
theorem has_pc (X : List SX) (k v : Int) : HasP (X.map SX.pc) k v ↔ ∃ x ∈ X, x.s.fr ≤ k ∧ k < x.s.to ∧ x.s.id = v := by
  constructor
  · rintro ⟨p, hp, h⟩
    obtain ⟨x, hx, rfl⟩ := List.mem_map.1 hp
    exact ⟨x, hx, h⟩
  · rintro ⟨x, hx, h⟩
    exact ⟨x.pc, List.mem_map.2 ⟨x, hx, rfl⟩, h⟩
/-- Where blocks are, once new shards are put where others were. -/
theorem chn_put (P G Q Z : List SX) (a f t bl : Int) (hP : Chn a P f) (hG : Chn f G t) (hQ : Chn t Q bl) (hZ : Chn f Z t) (hd : (P ++ Z ++ Q).Pairwise fun x y => x.s.id ≠ y.s.id) (W' : List Pc) (hc : Can W') (hch : Chs ((P ++ G ++ Q).map SX.pc) (Z.map SX.pc) W') : W' = (P ++ Z ++ Q).map SX.pc := by
  have hX : Chn a (P ++ Z ++ Q) bl := (Chn.append _ _ _ _).2 ⟨t, (Chn.append _ _ _ _).2 ⟨f, hP, hZ⟩, hQ⟩
  have hpw : (Z.map SX.pc).Pairwise fun a b => a.2.1 ≤ b.1 := by
    rw [List.pairwise_map]
    exact (Chn.rise Z f t hZ).imp fun h => h
  refine can_unique _ _ hc (Chn.can _ a bl hX hd) fun k v => ?_
  obtain ⟨h1, h2⟩ := chs_has _ _ _ hpw hch k v
  have hin : (∃ p ∈ Z.map SX.pc, p.1 ≤ k ∧ k < p.2.1) ↔ f ≤ k ∧ k < t := by
    constructor
    · rintro ⟨p, hp, h3⟩
      obtain ⟨x, hx, rfl⟩ := List.mem_map.1 hp
      have := Chn.mem Z f t hZ x hx
      have h4 : x.s.fr ≤ k ∧ k < x.s.to := h3
      omega
    · rintro ⟨h3, h4⟩
      obtain ⟨x, hx, h5⟩ := Chn.cover Z f t hZ k h3 h4
      exact ⟨x.pc, List.mem_map.2 ⟨x, hx, rfl⟩, h5⟩
  by_cases hi : f ≤ k ∧ k < t
  · rw [h1 (hin.2 hi), has_pc, has_pc]
    constructor
    · rintro ⟨x, hx, h⟩
      exact ⟨x, by simp [hx], h⟩
    · rintro ⟨x, hx, h3, h4, h5⟩
      simp only [List.mem_append] at hx
      rcases hx with (hx | hx) | hx
      · have := Chn.mem P a f hP x hx; omega
      · exact ⟨x, hx, h3, h4, h5⟩
      · have := Chn.mem Q t bl hQ x hx; omega
  · rw [h2 (fun h => hi (hin.1 h)), has_pc, has_pc]
    constructor
    · rintro ⟨x, hx, h3, h4, h5⟩
      simp only [List.mem_append] at hx
      rcases hx with (hx | hx) | hx
      · exact ⟨x, by simp [hx], h3, h4, h5⟩
      · have := Chn.mem G f t hG x hx; omega
      · exact ⟨x, by simp [hx], h3, h4, h5⟩
    · rintro ⟨x, hx, h3, h4, h5⟩
      simp only [List.mem_append] at hx
      rcases hx with (hx | hx) | hx
      · exact ⟨x, by simp [hx], h3, h4, h5⟩
      · have := Chn.mem Z f t hZ x hx; omega
      · exact ⟨x, by simp [hx], h3, h4, h5⟩
/-- Which shards stay. -/
theorem outX_mid (P G Q : List SX) (hd : (P ++ G ++ Q).Pairwise fun x y => x.s.id ≠ y.s.id) (z : SX) : z ∈ outX (P ++ G ++ Q) (G.map (·.s.id)) ↔ z ∈ P ++ Q := by
  rw [mem_outX]
  obtain ⟨h12, h3, hq⟩ := List.pairwise_append.1 hd
  obtain ⟨h1, h2, hg⟩ := List.pairwise_append.1 h12
  simp only [List.mem_append, List.mem_map, not_exists, not_and]
  constructor
  · rintro ⟨(h | h) | h, hn⟩
    · exact .inl h
    · exact absurd rfl (hn z h)
    · exact .inr h
  · rintro (h | h)
    · exact ⟨.inl (.inl h), fun y hy e => hg z h y hy e.symm⟩
    · exact ⟨.inr h, fun y hy e => hq y (by simp [hy]) z h e⟩
/-- The answer of Get of a Map is the same wherever it is asked. -/
theorem getOf_eq {l : List Pc} {k i j : Int} {o p : Bool} (hu : ∀ u v, HasP l k u → HasP l k v → u = v) (h1 : GetOf l k i o) (h2 : GetOf l k j p) : i = j ∧ o = p := by
  cases o with
  | true =>
    cases p with
    | true => exact ⟨hu i j (h1.1 rfl) (h2.1 rfl), rfl⟩
    | false => exact absurd (h1.1 rfl) ((h2.2 rfl).2 i)
  | false =>
    cases p with
    | true => exact absurd (h2.1 rfl) ((h1.2 rfl).2 j)
    | false => exact ⟨by rw [(h1.2 rfl).1, (h2.2 rfl).1], rfl⟩
/-- A block has one shard at most. -/
theorem chn_one (X : List SX) (a t k : Int) (h : Chn a X t) : ∀ u v, HasP (X.map SX.pc) k u → HasP (X.map SX.pc) k v → u = v := by
  induction X generalizing a with
  | nil => intro u v hu; exact absurd hu (HasP_nil _ _)
  | cons y l ih =>
    obtain ⟨h1, h2, h3⟩ := h
    intro u v hu hv
    obtain ⟨x, hx, a1, a2, a3⟩ := (has_pc _ k u).1 hu
    obtain ⟨z, hz, b1, b2, b3⟩ := (has_pc _ k v).1 hv
    rcases List.mem_cons.1 hx with e1 | hx'
    · rcases List.mem_cons.1 hz with e2 | hz'
      · rw [← a3, ← b3, e1, e2]
      · have := Chn.mem l _ t h3 z hz'; rw [e1] at a2; omega
    · rcases List.mem_cons.1 hz with e2 | hz'
      · have := Chn.mem l _ t h3 x hx'; rw [e2] at b2; omega
      · exact ih _ h3 u v ((has_pc l k u).2 ⟨x, hx', a1, a2, a3⟩) ((has_pc l k v).2 ⟨z, hz', b1, b2, b3⟩)
end Go.Proofs.Ytnkjkaofgninnaa
