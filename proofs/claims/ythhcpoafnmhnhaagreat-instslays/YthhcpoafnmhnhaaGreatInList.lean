/- A table of instances as a list of its entries. No condition. -/
import Derived.Test.YthhcpoafnmhnhaaGreatInNext
import Derived.Maps.Ext
namespace Go.Proofs.YthhcpoafnmhnhaaGreat
open Go.RowKit Go.Maps Go.Shelf
set_option linter.unusedVariables false
set_option linter.unusedSimpArgs false

def RefI (r : Int × Int) : Prop := I64 r.1 ∧ I64 r.2
theorem refK_key {r : Int × Int} (h : RefI r) : WideAt.IsKeyLit (refK r) := refLaw.key (keyOf_ref r h.1 h.2)
theorem refK_inj {r s : Int × Int} (hr : RefI r) (hs : RefI s) (h : refK r = refK s) : r = s := by
  have e := refLaw.inj (keyOf_ref r hr.1 hr.2) (by rw [h]; exact keyOf_ref s hs.1 hs.2)
  simp at e
  obtain ⟨a, b⟩ := r
  obtain ⟨c, d⟩ := s
  simp at e ⊢
  exact e
def EnI.u (e : EnI) : Value := .slice e.ua e.un e.uc
def EnI.r (e : EnI) : Value := .slice e.va e.vn e.vc
/-- The table D has the entries L. -/
structure TL (D : DataW Value) (L : List EnI) : Prop where
  each : ∀ e ∈ L, ∀ zd, D.atKey (refK e.x.ref) zd = .held e.v
  all : ∀ kl, Maps.has D kl = true → ∃ e ∈ L, kl = refK e.x.ref
  once : L.Pairwise fun a b => a.x.ref ≠ b.x.ref
  refs : ∀ e ∈ L, RefI e.x.ref
  tidy : Tidy D
  size : Maps.size D = L.length
theorem TL.nil : TL (.map []) [] := ⟨by simp, (fun kl h => by cases h), List.Pairwise.nil, by simp, tidy_empty, rfl⟩
/-- An entry in the place of the one of its Ref, or behind all. -/
def putL (L : List EnI) (e : EnI) : List EnI := if L.any (fun y => y.x.ref == e.x.ref) then L.map (fun y => if y.x.ref == e.x.ref then e else y) else L ++ [e]
theorem putL_len (L : List EnI) (e : EnI) : (putL L e).length = if L.any (fun y => y.x.ref == e.x.ref) then L.length else L.length + 1 := by
  unfold putL
  split <;> simp
theorem mem_putL {L : List EnI} {e y : EnI} (h : y ∈ putL L e) : y = e ∨ (y ∈ L ∧ y.x.ref ≠ e.x.ref) := by
  unfold putL at h
  split at h
  · obtain ⟨z, hz, rfl⟩ := List.mem_map.1 h
    split
    · exact .inl rfl
    · rename_i hc; exact .inr ⟨hz, by simpa using hc⟩
  · rename_i hc
    rcases List.mem_append.1 h with h | h
    · refine .inr ⟨h, ?_⟩
      intro e'
      exact hc (List.any_eq_true.2 ⟨y, h, by simp [e']⟩)
    · exact .inl (List.mem_singleton.1 h)
theorem putL_new (L : List EnI) (e : EnI) : e ∈ putL L e := by
  unfold putL
  split
  · rename_i hc
    obtain ⟨y, hy, he⟩ := List.any_eq_true.1 hc
    exact List.mem_map.2 ⟨y, hy, by rw [if_pos he]⟩
  · simp
theorem putL_old {L : List EnI} {e y : EnI} (h : y ∈ L) (hne : y.x.ref ≠ e.x.ref) : y ∈ putL L e := by
  unfold putL
  split
  · exact List.mem_map.2 ⟨y, h, by rw [if_neg (by simpa using hne)]⟩
  · simp [h]
theorem TL.any {D : DataW Value} {L : List EnI} (h : TL D L) {r : Int × Int} (hr : RefI r) : Maps.has D (refK r) = L.any (fun y => y.x.ref == r) := by
  cases hh : Maps.has D (refK r) with
  | true =>
    obtain ⟨e, he, hk⟩ := h.all _ hh
    exact (List.any_eq_true.2 ⟨e, he, by simp [refK_inj hr (h.refs e he) hk]⟩).symm
  | false =>
    symm
    rw [Bool.eq_false_iff]
    intro ha
    obtain ⟨y, hy, he⟩ := List.any_eq_true.1 ha
    have := has_true_of_atKey (h.each y hy)
    rw [show y.x.ref = r by simpa using he, hh] at this
    cases this
theorem TL.put {D : DataW Value} {L : List EnI} (h : TL D L) (e : EnI) (hr : RefI e.x.ref) : TL (D.put (refK e.x.ref) (.held e.v)) (putL L e) := by
  have hm := h.tidy.isMap
  have hk := refK_key hr
  refine ⟨?_, ?_, ?_, ?_, h.tidy.put hk _, ?_⟩
  · intro y hy zd
    rcases mem_putL hy with rfl | ⟨hy, hne⟩
    · exact atKey_put_same hm hk _ _
    · rw [atKey_put_other (fun e' => hne (refK_inj (h.refs y hy) hr e'))]
      exact h.each y hy zd
  · intro kl hh
    by_cases hkl : kl = refK e.x.ref
    · exact ⟨e, putL_new L e, hkl⟩
    · rw [has_put_other hkl] at hh
      obtain ⟨y, hy, hk2⟩ := h.all kl hh
      exact ⟨y, putL_old hy (fun e' => hkl (by rw [hk2, e'])), hk2⟩
  · unfold putL
    split
    · refine (List.pairwise_map.2 (h.once.imp ?_))
      intro a b hab
      split <;> split
      · rename_i h1 h2; simp at h1 h2; exact absurd (h1.trans h2.symm) hab
      · rename_i h1 h2; simp at h2; exact fun e' => h2 e'.symm
      · rename_i h1 h2; simp at h1; exact h1
      · exact hab
    · rename_i hc
      refine List.pairwise_append.2 ⟨h.once, List.pairwise_singleton _ _, ?_⟩
      intro a ha b hb
      obtain rfl := List.mem_singleton.1 hb
      intro e'
      exact hc (List.any_eq_true.2 ⟨a, ha, by simp [e']⟩)
  · intro y hy
    rcases mem_putL hy with rfl | ⟨hy, -⟩
    · exact hr
    · exact h.refs y hy
  · rw [size_put h.tidy, putL_len, h.any hr, h.size]
theorem v_num {e y : EnI} (h : e.v = y.v) : e.x.ref = y.x.ref ∧ e.x.st = y.x.st ∧ e.x.seq = y.x.seq ∧ e.x.cmd.op = y.x.cmd.op ∧ e.x.cmd.client = y.x.cmd.client ∧ e.x.cmd.from' = y.x.cmd.from' ∧ e.x.cmd.to = y.x.cmd.to ∧ e.u = y.u ∧ e.r = y.r ∧ e.x.bal = y.x.bal ∧ e.x.vote = y.x.vote ∧ e.x.same = y.x.same ∧ e.x.cmd.seq = y.x.cmd.seq := by
  unfold EnI.v instV instC at h
  simp only [Value.agg.injEq, Array.mk.injEq, List.cons.injEq, Value.int.injEq, Value.bool.injEq, and_true, true_and] at h
  obtain ⟨h0, h1, h2, h3, h4, h5, h6, h7, h8, h9, h10, h11, h12, h13, h14, h15⟩ := h
  exact ⟨Prod.ext h0 h1, h6, h14, h8, h9, h11, h12, h13, h15, Prod.ext h2 h3, Prod.ext h4 h5, h7, h10⟩
theorem Came.of {D : DataW Value} {L ss : List EnI} (h : Came D (fun _ => false) ss) (hT : TL D L) {e : EnI} (he : e ∈ ss) : ∃ y ∈ L, e.v = y.v ∧ e.kl = refK y.x.ref := by
  have h1 := has_true_of_atKey (h.each e he)
  obtain ⟨y, hy, hk⟩ := hT.all _ h1
  have h2 := h.each e he .nil
  rw [hk, hT.each y hy .nil] at h2
  exact ⟨y, hy, (DataW.held.inj h2).symm, hk⟩
theorem Came.to {D : DataW Value} {L ss : List EnI} (h : Came D (fun _ => false) ss) (hT : TL D L) {y : EnI} (hy : y ∈ L) : ∃ e ∈ ss, e.v = y.v ∧ e.kl = refK y.x.ref := by
  have h1 := has_true_of_atKey (hT.each y hy)
  rcases h.all _ h1 with h2 | ⟨e, he, hk⟩
  · cases h2
  · have hk := WideAt.sameKey_eq hk
    have h2 := h.each e he .nil
    rw [← hk, hT.each y hy .nil] at h2
    exact ⟨e, he, (DataW.held.inj h2).symm, hk.symm⟩
theorem pairwise_mem {α : Type} {R S : α → α → Prop} {l : List α} (h : l.Pairwise R) (hi : ∀ a ∈ l, ∀ b ∈ l, R a b → S a b) : l.Pairwise S := by
  induction h with
  | nil => exact List.Pairwise.nil
  | cons hx _ ih => exact List.Pairwise.cons (fun b hb => hi _ (by simp) _ (by simp [hb]) (hx b hb)) (ih fun a ha b hb => hi a (by simp [ha]) b (by simp [hb]))
theorem Came.refs {D : DataW Value} {L ss : List EnI} (h : Came D (fun _ => false) ss) (hT : TL D L) : ss.Pairwise fun a b => a.x.ref ≠ b.x.ref := by
  refine pairwise_mem h.once ?_
  intro a ha b hb hab e
  obtain ⟨y, hy, hv, hk⟩ := h.of hT ha
  obtain ⟨z, hz, hv2, hk2⟩ := h.of hT hb
  rw [(v_num hv).1, (v_num hv2).1] at e
  rw [hk, hk2, e, WideAt.sameKey_self (refK_key (hT.refs z hz))] at hab
  cases hab
theorem Came.len {D : DataW Value} {L ss : List EnI} (h : Came D (fun _ => false) ss) (hT : TL D L) : ss.length ≤ L.length := by
  have key : ∀ (ss L : List EnI), ss.Pairwise (fun a b => a.x.ref ≠ b.x.ref) → (∀ e ∈ ss, ∃ y ∈ L, e.x.ref = y.x.ref) → ss.length ≤ L.length := by
    intro ss
    induction ss with
    | nil => intro L _ _; simp
    | cons a t ih =>
      intro L hp hm
      obtain ⟨y, hy, he⟩ := hm a (by simp)
      obtain ⟨s, t', rfl⟩ := List.append_of_mem hy
      have hp := List.pairwise_cons.1 hp
      have := ih (s ++ t') hp.2 (fun e hm' => by
        obtain ⟨z, hz, hez⟩ := hm e (by simp [hm'])
        refine ⟨z, ?_, hez⟩
        rcases List.mem_append.1 hz with hz | hz
        · simp [hz]
        · rcases List.mem_cons.1 hz with rfl | hz
          · exact absurd (he.trans hez.symm) (hp.1 e hm')
          · simp [hz])
      simp at this ⊢
      omega
  refine key ss L (h.refs hT) ?_
  intro e he
  obtain ⟨y, hy, hv, -⟩ := h.of hT he
  exact ⟨y, hy, (v_num hv).1⟩
end Go.Proofs.YthhcpoafnmhnhaaGreat
