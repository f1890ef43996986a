/- Plain facts on commands that are put one behind the other with the order that the table tells. No condition. -/
import Derived.Test.YtadjeefigjdkiabInROrder
import Derived.Test.YtadjeefigjdkiabInLives
namespace Go.Proofs.Ytadjeefigjdkiab
open Go.RowKit Go.Maps Go.Shelf
set_option linter.unusedVariables false
set_option linter.unusedSimpArgs false

theorem nodup_len {α : Type} : ∀ (m l : List α), m.Nodup → (∀ x ∈ m, x ∈ l) → m.length ≤ l.length
  | [], l, _, _ => Nat.zero_le _
  | a :: t, l, hn, hm => by
    obtain ⟨s, s', rfl⟩ := List.append_of_mem (hm a (by simp))
    have hn' := List.nodup_cons.1 hn
    have := nodup_len t (s ++ s') hn'.2 fun x hx => by
      rcases List.mem_append.1 (hm x (by simp [hx])) with h | h
      · simp [h]
      · rcases List.mem_cons.1 h with h | h
        · exact absurd (h ▸ hx) hn'.1
        · simp [h]
    simp at this ⊢
    omega
theorem rise_nodup {m : List (Int × Int)} (h : RiseR m) : m.Nodup := h.imp fun hab e => by subst e; rw [refLt_irrefl] at hab; cases hab
theorem depsB_of {m : List (Int × Int)} (hr : RiseR m) (hb : ∀ r ∈ m, refB r = true) (hl : m.length ≤ 4096) : depsB m = true := by
  unfold depsB
  rw [decide_eq_true hl, Bool.true_and]
  refine all_range_yes fun j hj => ?_
  unfold depB
  have e1 : m.getD j (0, 0) = m[j] := by simp [List.getD, List.getElem?_eq_getElem hj]
  rw [e1, hb _ (List.getElem_mem hj), Bool.true_and]
  cases j with
  | zero => rfl
  | succ j =>
    have e2 : m.getD (j + 1 - 1) (0, 0) = m[j] := by simp [List.getD, List.getElem?_eq_getElem (show j < m.length by omega)]
    rw [e2, (List.pairwise_iff_getElem.1 hr) j (j + 1) (by omega) hj (by omega)]
    simp
/-- The instances that were put. -/
structure SeI (X : List EnI) : Prop where
  seq : ∀ y ∈ X, 0 ≤ y.x.seq ∧ y.x.seq ≤ X.length
  idx : ∀ y ∈ X, 0 ≤ y.x.ref.1 ∧ y.x.ref.1 < 3 ∧ 1 ≤ y.x.ref.2 ∧ y.x.ref.2 ≤ X.length
  st : ∀ y ∈ X, y.x.st = 1
  deps : ∀ y ∈ X, ∀ d ∈ y.x.deps, ∃ z ∈ X, z.x.ref = d
  once : X.Pairwise fun a b => a.x.ref ≠ b.x.ref
theorem SeI.nil : SeI [] := ⟨by simp, by simp, by simp, by simp, List.Pairwise.nil⟩
theorem TopOf.le {P : Int → Prop} {m b : Int} (h : TopOf P m) (hb : 0 ≤ b) (hP : ∀ n, P n → n ≤ b) : 0 ≤ m ∧ m ≤ b := by
  obtain ⟨h1, -, h3⟩ := h
  refine ⟨h1, ?_⟩
  rcases h3 with rfl | h3
  · exact hb
  · exact hP m h3
theorem pw_unique {X : List EnI} (h : X.Pairwise fun a b => a.x.ref ≠ b.x.ref) {a b : EnI} (ha : a ∈ X) (hb : b ∈ X) (he : a.x.ref = b.x.ref) : a = b := by
  induction h with
  | nil => simp at ha
  | cons hx hp ih =>
    rcases List.mem_cons.1 ha with ea | ha2
    · rcases List.mem_cons.1 hb with eb | hb2
      · rw [ea, eb]
      · exact absurd (by rw [← ea]; exact he) (hx b hb2)
    · rcases List.mem_cons.1 hb with eb | hb2
      · exact absurd (by rw [← eb]; exact he.symm) (hx a ha2)
      · exact ih ha2 hb2
/-- A new one. -/
structure NewI (X : List EnI) (c : CmdD) (r : Int × Int) (s : Int) (m : List (Int × Int)) : Prop where
  fresh : ∀ y ∈ X, y.x.ref ≠ r
  idx : 0 ≤ r.1 ∧ r.1 < 3 ∧ 1 ≤ r.2 ∧ r.2 ≤ X.length + 1
  seq : 1 ≤ s ∧ s ≤ X.length + 1
  rise : RiseR m
  mem : ∀ d, d ∈ m ↔ ∃ y ∈ X, hitB c r y.x = true ∧ y.x.ref = d
  more : ∀ y ∈ X, hitB c r y.x = true → y.x.seq < s
theorem new_of {X : List EnI} (hS : SeI X) (c : CmdD) {lead : Int} (h0 : 0 ≤ lead) (h3 : lead < 3) {m : List (Int × Int)} (hr : RiseR m) (hm : ∀ d, d ∈ m ↔ d ∈ (orF c (lead, nxF lead X + 1) X).2) : NewI X c (lead, nxF lead X + 1) ((orF c (lead, nxF lead X + 1) X).1 + 1) m := by
  have hn := (nxF_top lead X).le (b := X.length) (by omega) (by rintro n ⟨e, he, -, rfl⟩; exact (hS.idx e he).2.2.2)
  have hs := (orF_top c (lead, nxF lead X + 1) X).le (b := X.length) (by omega) (by rintro n ⟨e, he, -, rfl⟩; exact (hS.seq e he).2)
  refine ⟨?_, ⟨h0, h3, by simp; omega, by simp; omega⟩, ⟨by omega, by omega⟩, hr, fun d => (hm d).trans (orF_mem c _ X d), ?_⟩
  · intro y hy e
    have := (nxF_top lead X).2.1 y.x.ref.2 ⟨y, hy, by rw [e], rfl⟩
    rw [e] at this
    simp at this
    omega
  · intro y hy hh
    have := (orF_top c (lead, nxF lead X + 1) X).2.1 y.x.seq ⟨y, hy, hh, rfl⟩
    omega
theorem NewI.hit {X : List EnI} {c : CmdD} {r : Int × Int} {s : Int} {m : List (Int × Int)} (h : NewI X c r s m) (hS : SeI X) {y : EnI} (hy : y ∈ X) : hitB c r y.x = meddleB c y.x.cmd := by
  unfold hitB
  rw [hS.st y hy, meddle_swap]
  have : (y.x.ref == r) = false := by rw [beq_eq_false_iff_ne]; exact h.fresh y hy
  rw [this]
  rfl
theorem NewI.has {X : List EnI} {c : CmdD} {r : Int × Int} {s : Int} {m : List (Int × Int)} (h : NewI X c r s m) (hS : SeI X) {y : EnI} (hy : y ∈ X) : hasR m y.x.ref = meddleB c y.x.cmd := by
  rw [← h.hit hS hy, Bool.eq_iff_iff, hasR_iff, h.mem]
  constructor
  · rintro ⟨z, hz, h1, h2⟩
    rw [← pw_unique hS.once hz hy h2]; exact h1
  · intro h1; exact ⟨y, hy, h1, rfl⟩
theorem NewI.less {X : List EnI} {c : CmdD} {r : Int × Int} {s : Int} {m : List (Int × Int)} (h : NewI X c r s m) (hS : SeI X) {y : EnI} (hy : y ∈ X) (hmd : meddleB c y.x.cmd = true) : y.x.seq < s := h.more y hy (by rw [h.hit hS hy]; exact hmd)
theorem NewI.not {X : List EnI} {c : CmdD} {r : Int × Int} {s : Int} {m : List (Int × Int)} (h : NewI X c r s m) (hS : SeI X) {y : EnI} (hy : y ∈ X) : hasR y.x.deps r = false := by
  rw [Bool.eq_false_iff]
  intro h1
  obtain ⟨z, hz, e⟩ := hS.deps y hy r (hasR_iff.1 h1)
  exact h.fresh z hz e
theorem NewI.ok {X : List EnI} {c : CmdD} {r : Int × Int} {s : Int} {m : List (Int × Int)} (h : NewI X c r s m) (hS : SeI X) (hX : X.length ≤ 60) (hc : mayB c = true) : m.length ≤ 60 ∧ instB ⟨r, (0, 0), (0, 0), 1, false, c, s, m⟩ = true := by
  have hml : m.length ≤ 60 := by
    have := nodup_len m (X.map fun y => y.x.ref) (rise_nodup h.rise) fun d hd => by
      obtain ⟨y, hy, -, rfl⟩ := (h.mem d).1 hd
      exact List.mem_map.2 ⟨y, hy, rfl⟩
    simp at this; omega
  refine ⟨hml, ?_⟩
  have h1 : refB r = true := by obtain ⟨a, b⟩ := r; have := h.idx; simp at this; unfold refB nodeB; simp; omega
  have h2 : balB (0, 0) = true := by kernel_rfl
  have h5 : depsB m = true := depsB_of h.rise (fun d hd => by
    obtain ⟨y, hy, -, rfl⟩ := (h.mem d).1 hd
    have := hS.idx y hy
    unfold refB nodeB; simp; omega) (by omega)
  have h6 : decide (cmp2 (0, 0) (0, 0) < 0) = false := by kernel_rfl
  have h7 : decide (0 ≤ s) = true := by have := h.seq; simp; omega
  have h8 : decide (s ≤ 1099511627776) = true := by have := h.seq; simp; omega
  unfold instB
  simp only [h1, h2, hc, h5, h6, h7, h8]
  rfl
theorem NewI.step {X : List EnI} {c : CmdD} {r : Int × Int} {s : Int} {m : List (Int × Int)} (h : NewI X c r s m) (hS : SeI X) {e : EnI} (he : e.x = ⟨r, (0, 0), (0, 0), 1, false, c, s, m⟩) : SeI (X ++ [e]) := by
  have hsp : ∀ y, y ∈ X ++ [e] → y ∈ X ∨ y = e := fun y hy => by simpa using hy
  refine ⟨?_, ?_, ?_, ?_, ?_⟩
  · intro y hy
    rcases hsp y hy with hy | rfl
    · have := hS.seq y hy; simp; omega
    · rw [he]; have := h.seq; simp; omega
  · intro y hy
    rcases hsp y hy with hy | rfl
    · have := hS.idx y hy; simp; omega
    · rw [he]; have := h.idx; simp; omega
  · intro y hy
    rcases hsp y hy with hy | rfl
    · exact hS.st y hy
    · rw [he]
  · intro y hy d hd
    rcases hsp y hy with hy | rfl
    · obtain ⟨z, hz, e'⟩ := hS.deps y hy d hd
      exact ⟨z, by simp [hz], e'⟩
    · rw [he] at hd
      obtain ⟨z, hz, -, e'⟩ := (h.mem d).1 hd
      exact ⟨z, by simp [hz], e'⟩
  · refine List.pairwise_append.2 ⟨hS.once, List.pairwise_singleton _ _, ?_⟩
    intro a ha b hb
    obtain rfl := List.mem_singleton.1 hb
    rw [he]
    exact h.fresh a ha
end Go.Proofs.Ytadjeefigjdkiab
