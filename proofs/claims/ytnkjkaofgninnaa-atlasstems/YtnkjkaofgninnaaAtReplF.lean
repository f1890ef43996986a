/- Plain facts on members: rising rows of nodes, and one exchanged for another. No condition. -/
import Derived.Test.YtnkjkaofgninnaaAtBase
namespace Go.Proofs.Ytnkjkaofgninnaa
open Go.RowKit
set_option linter.unusedVariables false
set_option linter.unusedSimpArgs false

/-- The members once one is exchanged for another. -/
def swD (l : List Int) (out in' : Int) : List Int := ([0, 1, 2, 3, 4, 5, 6] : List Int).filter fun n => (decide (n ∈ l) && decide (n ≠ out)) || decide (n = in')
theorem rise_eq : ∀ a b : List Int, a.Pairwise (· < ·) → b.Pairwise (· < ·) → (∀ x, x ∈ a ↔ x ∈ b) → a = b
  | [], [], _, _, _ => rfl
  | [], y :: b, _, _, h => absurd ((h y).2 (by simp)) (by simp)
  | x :: a, [], _, _, h => absurd ((h x).1 (by simp)) (by simp)
  | x :: a, y :: b, ha, hb, h => by
    obtain ⟨ha1, ha2⟩ := List.pairwise_cons.1 ha
    obtain ⟨hb1, hb2⟩ := List.pairwise_cons.1 hb
    have e : x = y := by
      rcases List.mem_cons.1 ((h x).1 (by simp)) with h1 | h1
      · exact h1
      · rcases List.mem_cons.1 ((h y).2 (by simp)) with h2 | h2
        · exact h2.symm
        · have := ha1 y h2; have := hb1 x h1; omega
    subst e
    rw [rise_eq a b ha2 hb2 fun z => ?_]
    constructor
    · intro hz
      rcases List.mem_cons.1 ((h z).1 (List.mem_cons_of_mem _ hz)) with h1 | h1
      · have := ha1 z hz; omega
      · exact h1
    · intro hz
      rcases List.mem_cons.1 ((h z).2 (List.mem_cons_of_mem _ hz)) with h1 | h1
      · have := hb1 z hz; omega
      · exact h1
theorem mem_swD (l : List Int) (out in' n : Int) (hn : 0 ≤ in' ∧ in' < 7) (hl : ∀ x ∈ l, 0 ≤ x ∧ x < 7) : n ∈ swD l out in' ↔ (n ∈ l ∧ n ≠ out) ∨ n = in' := by
  unfold swD
  rw [List.mem_filter]
  simp only [Bool.or_eq_true, Bool.and_eq_true, decide_eq_true_eq]
  constructor
  · exact fun h => h.2
  · intro h
    refine ⟨?_, h⟩
    have : 0 ≤ n ∧ n < 7 := by
      rcases h with h | h
      · exact hl n h.1
      · rw [h]; exact hn
    have : n = 0 ∨ n = 1 ∨ n = 2 ∨ n = 3 ∨ n = 4 ∨ n = 5 ∨ n = 6 := by omega
    simp only [List.mem_cons, List.not_mem_nil, or_false]
    exact this
theorem swD_rise (l : List Int) (out in' : Int) : (swD l out in').Pairwise (· < ·) := List.Pairwise.filter _ (by decide)
theorem nodup_set (l : List Int) (k : Nat) (hk : k < l.length) (y : Int) (hy : y ∉ l) (hl : l.Pairwise (· ≠ ·)) : (l.set k y).Pairwise (· ≠ ·) := by
  rw [List.set_eq_take_append_cons_drop, if_pos hk]
  rw [← List.take_append_drop k l] at hl
  obtain ⟨h1, h2, h3⟩ := List.pairwise_append.1 hl
  have hd : l.drop k = l[k] :: l.drop (k + 1) := List.drop_eq_getElem_cons hk
  rw [hd] at h2 h3
  obtain ⟨h4, h5⟩ := List.pairwise_cons.1 h2
  refine List.pairwise_append.2 ⟨h1, List.pairwise_cons.2 ⟨fun z hz e => hy (by rw [e]; exact List.mem_of_mem_drop hz), h5⟩, fun a ha b hb => ?_⟩
  rcases List.mem_cons.1 hb with rfl | hb
  · intro e; exact hy (by rw [← e]; exact List.mem_of_mem_take ha)
  · exact h3 a ha b (List.mem_cons_of_mem _ hb)
theorem sort_set (l : List Int) (out in' : Int) (k : Nat) (hk : k < l.length) (ho : l[k] = out) (hr : l.Pairwise (· < ·)) (hl : ∀ x ∈ l, 0 ≤ x ∧ x < 7) (hn : 0 ≤ in' ∧ in' < 7) (hi : in' ∉ l) :
    ((l.set k in').mergeSort fun x y => decide (x ≤ y)) = swD l out in' := by
  have hne : l.Pairwise (· ≠ ·) := hr.imp fun h => by omega
  refine rise_eq _ _ ?_ (swD_rise _ _ _) fun n => ?_
  · have h1 : ((l.set k in').mergeSort fun x y => decide (x ≤ y)).Pairwise (fun x y => (decide (x ≤ y)) = true) := List.pairwise_mergeSort (by intro a b c; simp; omega) (by intro a b; simp; omega) _
    have h2 : ((l.set k in').mergeSort fun x y => decide (x ≤ y)).Pairwise (· ≠ ·) := (List.mergeSort_perm _ _).symm.pairwise (nodup_set l k hk in' hi hne) (fun h e => h e.symm)
    exact (List.Pairwise.and h1 h2).imp fun {a b} h => by have := of_decide_eq_true h.1; have := h.2; omega
  · rw [List.mem_mergeSort, mem_swD l out in' n hn hl]
    rw [List.set_eq_take_append_cons_drop, if_pos hk]
    have hd : l.drop k = l[k] :: l.drop (k + 1) := List.drop_eq_getElem_cons hk
    have hm : ∀ z, z ∈ l ↔ z ∈ l.take k ∨ z = out ∨ z ∈ l.drop (k + 1) := fun z => by
      conv => lhs; rw [← List.take_append_drop k l, hd, ho]
      simp
    rw [← List.take_append_drop k l, hd] at hne
    obtain ⟨-, h2, h3⟩ := List.pairwise_append.1 hne
    obtain ⟨h4, -⟩ := List.pairwise_cons.1 h2
    simp only [List.mem_append, List.mem_cons]
    rw [hm]
    constructor
    · rintro (h | h | h)
      · exact .inl ⟨.inl h, fun e => h3 n h (l[k]) List.mem_cons_self (by rw [ho, e])⟩
      · exact .inr h
      · exact .inl ⟨.inr (.inr h), fun e => h4 n h (by rw [ho, e])⟩
    · rintro (⟨h | h | h, h5⟩ | h)
      · exact .inl h
      · exact absurd h h5
      · exact .inr (.inr h)
      · exact .inr (.inl h)
theorem swD_len (l : List Int) (out in' : Int) (k : Nat) (hk : k < l.length) (ho : l[k] = out) (hr : l.Pairwise (· < ·)) (hl : ∀ x ∈ l, 0 ≤ x ∧ x < 7) (hn : 0 ≤ in' ∧ in' < 7) (hi : in' ∉ l) : (swD l out in').length = l.length := by
  rw [← sort_set l out in' k hk ho hr hl hn hi, List.length_mergeSort, List.length_set]
theorem rise_of {l : List Int} (h : ∀ j, j + 1 < l.length → l.getD j 0 < l.getD (j + 1) 0) : l.Pairwise (· < ·) := by
  induction l with
  | nil => exact List.Pairwise.nil
  | cons x l ih =>
    have hl : l.Pairwise (· < ·) := ih fun j hj => by have := h (j + 1) (by simpa using hj); simpa using this
    refine List.pairwise_cons.2 ⟨fun y hy => ?_, hl⟩
    cases l with
    | nil => cases hy
    | cons z t =>
      have h0 : x < z := by have := h 0 (by simp); simpa using this
      rcases List.mem_cons.1 hy with rfl | hy
      · exact h0
      · have := (List.pairwise_cons.1 hl).1 y hy; omega
theorem mem_rise {l : List Int} (h : memB l = true) : l.Pairwise (· < ·) ∧ (∀ x ∈ l, 0 ≤ x ∧ x < 7) ∧ l.length % 2 = 1 := by
  unfold memB at h
  rw [Bool.and_eq_true, List.all_eq_true] at h
  obtain ⟨h1, h2⟩ := h
  have h3 : ∀ j, j < l.length → votAt l j = true := fun j hj => h1 j (List.mem_range.2 hj)
  refine ⟨rise_of fun j hj => ?_, fun x hx => ?_, by simpa using h2⟩
  · have := h3 (j + 1) hj
    unfold votAt at this
    rw [Bool.and_eq_true] at this
    simpa using this.2
  · obtain ⟨j, hj, rfl⟩ := List.mem_iff_getElem.1 hx
    have := h3 j hj
    unfold votAt at this
    rw [Bool.and_eq_true] at this
    have h4 := this.1
    rw [List.getD_eq_getElem?_getD, List.getElem?_eq_getElem hj] at h4
    simpa [nodeB] using h4
theorem rise_len (l : List Int) (a : Int) (hr : l.Pairwise (· < ·)) (hl : ∀ x ∈ l, a ≤ x ∧ x < 7) : (l.length : Int) ≤ max 0 (7 - a) := by
  induction l generalizing a with
  | nil => simp; omega
  | cons x l ih =>
    obtain ⟨h1, h2⟩ := List.pairwise_cons.1 hr
    have hx := hl x (by simp)
    have := ih (x + 1) h2 fun y hy => ⟨by have := h1 y hy; omega, (hl y (by simp [hy])).2⟩
    rw [List.length_cons]
    omega
theorem mem_of_rise {l : List Int} (hr : l.Pairwise (· < ·)) (hl : ∀ x ∈ l, 0 ≤ x ∧ x < 7) (ho : l.length % 2 = 1) : memB l = true := by
  unfold memB
  rw [Bool.and_eq_true, List.all_eq_true]
  refine ⟨fun j hj => ?_, by simpa using ho⟩
  have hj := List.mem_range.1 hj
  unfold votAt nodeB
  have hg : l.getD j 0 = l[j] := by rw [List.getD_eq_getElem?_getD, List.getElem?_eq_getElem hj]; rfl
  have hn := hl l[j] (List.getElem_mem _)
  rw [hg]
  cases j with
  | zero => simp [hn.1, hn.2]
  | succ j =>
    have hg2 : l.getD j 0 = l[j] := by rw [List.getD_eq_getElem?_getD, List.getElem?_eq_getElem (by omega)]; rfl
    have := List.pairwise_iff_getElem.1 hr j (j + 1) (by omega) hj (by omega)
    rw [show j + 1 - 1 = j from rfl, hg2]
    simp [hn.1, hn.2, this]
/-- May one be exchanged for another? -/
def swB (l : List Int) (out in' : Int) : Bool := decide (out ∈ l) && (decide (in' ∉ l) && nodeB in')
end Go.Proofs.Ytnkjkaofgninnaa
