/- What Order and Next of a table answer, by the list of its entries. Conditions: the table lies in memory, and has at most a hundred thousand instances. -/
import Derived.Test.YthhcpoafnmhnhaaGreatInOrder
namespace Go.Proofs.YthhcpoafnmhnhaaGreat
open Go.RowKit Go.Maps Go.Shelf
set_option linter.unusedVariables false
set_option linter.unusedSimpArgs false

theorem meddle_num {a b c : CmdD} (h0 : a.op = b.op) (h1 : a.client = b.client) (h2 : a.from' = b.from') (h3 : a.to = b.to) : meddleB a c = meddleB b c := by
  unfold meddleB; rw [h0, h1, h2, h3]
theorem hit_num {e y : EnI} (h : e.v = y.v) (c : CmdD) (self : Int × Int) : hitB c self e.x = hitB c self y.x := by
  obtain ⟨h0, h1, h2, h3, h4, h5, h6, -⟩ := v_num h
  unfold hitB
  rw [h0, h1, meddle_num h3 h4 h5 h6]
/-- The greatest of some numbers, and 0. -/
def TopOf (P : Int → Prop) (m : Int) : Prop := 0 ≤ m ∧ (∀ n, P n → n ≤ m) ∧ (m = 0 ∨ P m)
theorem TopOf.unique {P Q : Int → Prop} {m n : Int} (h : TopOf P m) (k : TopOf Q n) (hPQ : ∀ i, P i ↔ Q i) : m = n := by
  obtain ⟨h1, h2, h3⟩ := h
  obtain ⟨k1, k2, k3⟩ := k
  have a : m ≤ n := by
    rcases h3 with rfl | h3
    · exact k1
    · exact k2 m ((hPQ m).1 h3)
  have b : n ≤ m := by
    rcases k3 with rfl | k3
    · exact h1
    · exact h2 n ((hPQ n).2 k3)
  omega
theorem TopOf.step {P Q : Int → Prop} {m s : Int} (h : TopOf P m) (hQ : ∀ i, Q i ↔ P i ∨ i = s) : TopOf Q (max m s) := by
  obtain ⟨h1, h2, h3⟩ := h
  refine ⟨by omega, ?_, ?_⟩
  · intro n hn
    rcases (hQ n).1 hn with h | rfl
    · have := h2 n h; omega
    · omega
  · rcases Int.le_total m s with h | h
    · exact .inr ((hQ _).2 (.inr (by omega)))
    · rw [show max m s = m by omega]
      rcases h3 with h3 | h3
      · exact .inl h3
      · exact .inr ((hQ _).2 (.inl h3))
theorem orF_top (c : CmdD) (self : Int × Int) (ss : List EnI) : TopOf (fun n => ∃ e ∈ ss, hitB c self e.x = true ∧ e.x.seq = n) (orF c self ss).1 := by
  suffices h : ∀ (ss : List EnI) (P : Int → Prop) p, TopOf P p.1 → TopOf (fun n => P n ∨ ∃ e ∈ ss, hitB c self e.x = true ∧ e.x.seq = n) (ss.foldl (orS c self) p).1 by
    have := h ss (fun _ => False) (0, []) ⟨by simp, fun n h => h.elim, .inl rfl⟩
    simpa [orF] using this
  intro ss
  induction ss with
  | nil => intro P p h; simpa using h
  | cons e t ih =>
    intro P p h
    simp only [List.foldl_cons]
    cases hh : hitB c self e.x
    · have e1 : orS c self p e = p := by unfold orS; simp [hh]
      rw [e1]
      have := ih P p h
      simpa [hh] using this
    · have e1 : orS c self p e = (max p.1 e.x.seq, p.2 ++ [e.x.ref]) := by unfold orS; simp [hh]
      rw [e1]
      have := ih (fun n => P n ∨ n = e.x.seq) (max p.1 e.x.seq, p.2 ++ [e.x.ref]) (h.step fun i => Iff.rfl)
      have key : (fun n => P n ∨ ∃ y ∈ e :: t, hitB c self y.x = true ∧ y.x.seq = n) = fun n => (P n ∨ n = e.x.seq) ∨ ∃ y ∈ t, hitB c self y.x = true ∧ y.x.seq = n := by
        funext n
        simp only [List.mem_cons, exists_eq_or_imp, hh, true_and, eq_iff_iff]
        constructor
        · rintro (h | h | h)
          · exact .inl (.inl h)
          · exact .inl (.inr h.symm)
          · exact .inr h
        · rintro ((h | h) | h)
          · exact .inl h
          · exact .inr (.inl h.symm)
          · exact .inr (.inr h)
      rw [key]
      exact this
theorem nxF_top (lead : Int) (ss : List EnI) : TopOf (fun n => ∃ e ∈ ss, e.x.ref.1 = lead ∧ e.x.ref.2 = n) (nxF lead ss) := by
  suffices h : ∀ (ss : List EnI) (P : Int → Prop) p, TopOf P p → TopOf (fun n => P n ∨ ∃ e ∈ ss, e.x.ref.1 = lead ∧ e.x.ref.2 = n) (ss.foldl (nxS lead) p) by
    have := h ss (fun _ => False) 0 ⟨by simp, fun n h => h.elim, .inl rfl⟩
    simpa [nxF] using this
  intro ss
  induction ss with
  | nil => intro P p h; simpa using h
  | cons e t ih =>
    intro P p h
    simp only [List.foldl_cons]
    by_cases hh : e.x.ref.1 = lead
    · have e1 : nxS lead p e = max p e.x.ref.2 := by unfold nxS; simp [hh]
      rw [e1]
      have := ih (fun n => P n ∨ n = e.x.ref.2) (max p e.x.ref.2) (h.step fun i => Iff.rfl)
      have key : (fun n => P n ∨ ∃ y ∈ e :: t, y.x.ref.1 = lead ∧ y.x.ref.2 = n) = fun n => (P n ∨ n = e.x.ref.2) ∨ ∃ y ∈ t, y.x.ref.1 = lead ∧ y.x.ref.2 = n := by
        funext n
        simp only [List.mem_cons, exists_eq_or_imp, hh, true_and, eq_iff_iff]
        constructor
        · rintro (h | h | h)
          · exact .inl (.inl h)
          · exact .inl (.inr h.symm)
          · exact .inr h
        · rintro ((h | h) | h)
          · exact .inl h
          · exact .inr (.inl h.symm)
          · exact .inr (.inr h)
      rw [key]
      exact this
    · have e1 : nxS lead p e = p := by unfold nxS; simp [hh]
      rw [e1]
      have := ih P p h
      simpa [hh] using this
theorem orF_came {D : DataW Value} {L ss : List EnI} (h : Came D (fun _ => false) ss) (hT : TL D L) (c : CmdD) (self : Int × Int) : (orF c self ss).1 = (orF c self L).1 ∧ ∀ r, r ∈ (orF c self ss).2 ↔ r ∈ (orF c self L).2 := by
  refine ⟨(orF_top c self ss).unique (orF_top c self L) ?_, ?_⟩
  · intro n
    constructor
    · rintro ⟨e, he, h1, h2⟩
      obtain ⟨y, hy, hv, -⟩ := h.of hT he
      exact ⟨y, hy, by rw [← hit_num hv]; exact h1, by rw [← (v_num hv).2.2.1]; exact h2⟩
    · rintro ⟨y, hy, h1, h2⟩
      obtain ⟨e, he, hv, -⟩ := h.to hT hy
      exact ⟨e, he, by rw [hit_num hv]; exact h1, by rw [(v_num hv).2.2.1]; exact h2⟩
  · intro r
    rw [orF_refs, orF_refs]
    simp only [List.mem_map, List.mem_filter]
    constructor
    · rintro ⟨e, ⟨he, h1⟩, h2⟩
      obtain ⟨y, hy, hv, -⟩ := h.of hT he
      exact ⟨y, ⟨hy, by rw [← hit_num hv]; exact h1⟩, by rw [← (v_num hv).1]; exact h2⟩
    · rintro ⟨y, ⟨hy, h1⟩, h2⟩
      obtain ⟨e, he, hv, -⟩ := h.to hT hy
      exact ⟨e, ⟨he, by rw [hit_num hv]; exact h1⟩, by rw [(v_num hv).1]; exact h2⟩
theorem nxF_came {D : DataW Value} {L ss : List EnI} (h : Came D (fun _ => false) ss) (hT : TL D L) (lead : Int) : nxF lead ss = nxF lead L := by
  refine (nxF_top lead ss).unique (nxF_top lead L) ?_
  intro n
  constructor
  · rintro ⟨e, he, h1, h2⟩
    obtain ⟨y, hy, hv, -⟩ := h.of hT he
    exact ⟨y, hy, by rw [← (v_num hv).1]; exact h1, by rw [← (v_num hv).1]; exact h2⟩
  · rintro ⟨y, hy, h1, h2⟩
    obtain ⟨e, he, hv, -⟩ := h.to hT hy
    exact ⟨e, he, by rw [(v_num hv).1]; exact h1, by rw [(v_num hv).1]; exact h2⟩
theorem refLt_irrefl (x : Int × Int) : refLt x x = false := by rw [refLt_iff]; simp
theorem refLt_trans {x y z : Int × Int} (h1 : refLt x y = true) (h2 : refLt y z = true) : refLt x z = true := by
  rw [refLt_iff] at *; simp only [decide_eq_true_eq] at *; omega
theorem refLt_total {x y : Int × Int} (h : x ≠ y) : refLt x y = true ∨ refLt y x = true := by
  rw [refLt_iff, refLt_iff]
  obtain ⟨a, b⟩ := x
  obtain ⟨c, d⟩ := y
  simp only [decide_eq_true_eq]
  have h5 : ¬ (a = c ∧ b = d) := fun h' => h (by rw [h'.1, h'.2])
  omega
/-- Rows that rise are told by what they have. -/
theorem rise_unique : ∀ {l m : List (Int × Int)}, RiseR l → RiseR m → (∀ r, r ∈ l ↔ r ∈ m) → l = m
  | [], [], _, _, _ => rfl
  | [], y :: m, _, _, h => by have := (h y).2 (by simp); simp at this
  | x :: l, [], _, _, h => by have := (h x).1 (by simp); simp at this
  | x :: l, y :: m, hl, hm, h => by
    have hl' := List.pairwise_cons.1 hl
    have hm' := List.pairwise_cons.1 hm
    have hxy : x = y := by
      rcases List.mem_cons.1 ((h x).1 (by simp)) with e | e
      · exact e
      · rcases List.mem_cons.1 ((h y).2 (by simp)) with e2 | e2
        · exact e2.symm
        · have h1 := hm'.1 x e
          have h2 := hl'.1 y e2
          have := refLt_trans h1 h2
          rw [refLt_irrefl] at this; cases this
    subst hxy
    have : l = m := rise_unique hl'.2 hm'.2 fun r => by
      constructor
      · intro hr
        rcases List.mem_cons.1 ((h r).1 (by simp [hr])) with e | e
        · subst e; have := hl'.1 r hr; rw [refLt_irrefl] at this; cases this
        · exact e
      · intro hr
        rcases List.mem_cons.1 ((h r).2 (by simp [hr])) with e | e
        · subst e; have := hm'.1 r hr; rw [refLt_irrefl] at this; cases this
        · exact e
    rw [this]
theorem iorderL_any (tb mb nn : Nat) (D : DataW Value) (L : List EnI) (c : CmdD) (ua : Option Addr) (un uc : Nat) (self : Int × Int) (w : World) (hT : Tb w tb mb nn D) (hL : TL D L) (hsz : L.length ≤ 100000) :
    Calls Tryz.prog 16 #[.pointer (some ⟨tb, 0, none⟩), cmdV c (.slice ua un uc), .agg #[.int .i64 self.1, .int .i64 self.2]] w fun e w' => ∃ m va vc, e = .returned (.tuple #[.int .i64 (wrap64 ((orF c self L).1 + 1)), .slice va m.length vc]) ∧ (∀ r, r ∈ m ↔ r ∈ (orF c self L).2) ∧ RiseR m ∧ w'.ownsRow w.heap.size 23 2 (.slice va m.length vc) m.length (rvs m) ∧ Below w.heap.size w w' := by
  refine (iorder_any tb mb nn D L c ua un uc self w hT hL hsz).mono ?_
  rintro e w' ⟨ss, m, va, vc, hC, he, hp, hr, ho, hb⟩
  obtain ⟨h1, h2⟩ := orF_came hC hL c self
  exact ⟨m, va, vc, by rw [he, h1], fun r => (hp.mem_iff).trans (h2 r), hr, ho, hb⟩
theorem inextL_any (tb mb nn : Nat) (D : DataW Value) (L : List EnI) (lead : Int) (w : World) (hT : Tb w tb mb nn D) (hL : TL D L) :
    Calls Tryz.prog 17 #[.pointer (some ⟨tb, 0, none⟩), .int .i64 lead] w fun e w' => e = .returned (.int .i64 (wrap64 (nxF lead L + 1))) ∧ Below w.heap.size w w' := by
  refine (inext_any tb mb nn D lead w hT).mono ?_
  rintro e w' ⟨ss, hC, he, hb⟩
  exact ⟨by rw [he, nxF_came hC hL], hb⟩
end Go.Proofs.YthhcpoafnmhnhaaGreat
