/- What the document's Put answers: a row with an instance in the place of the one of its Ref, or behind all. Conditions: the row lies in memory, of at most a thousand instances. -/
import Derived.Test.YthhcpoafnmhnhaaGreatInOpen
import Derived.Test.YthhcpoafnmhnhaaGreatInConcat
import Derived.Deep.MidRow
import Derived.Great.BuildSlice
namespace Go.Proofs.YthhcpoafnmhnhaaGreat
open Go.RowKit
set_option linter.unusedVariables false
set_option linter.unusedSimpArgs false
set_option maxRecDepth 100000

def ics (l : List EnI) : List Value := l.flatMap fun e => e.c.toList
theorem ics_snoc (l : List EnI) (e : EnI) : ics (l ++ [e]) = ics l ++ e.c.toList := by simp [ics]
theorem ics_len (l : List EnI) : (ics l).length = l.length * 16 := by
  induction l with
  | nil => rfl
  | cons e t ih =>
    have : (ics (e :: t)).length = e.c.toList.length + (ics t).length := by simp [ics]
    rw [this, ih]
    have : e.c.toList.length = 16 := rfl
    simp only [List.length_cons]
    omega
theorem ics_at (l : List EnI) (j k : Nat) (hj : j < l.length) (hk : k < 16) : (ics l)[j * 16 + k]? = l[j].c[k]? := by
  induction l generalizing j with
  | nil => simp at hj
  | cons e t ih =>
    have e1 : ics (e :: t) = e.c.toList ++ ics t := by simp [ics]
    have e2 : e.c.toList.length = 16 := rfl
    rw [e1]
    cases j with
    | zero =>
      rw [List.getElem?_append_left (by omega)]
      simp
    | succ j =>
      rw [List.getElem?_append_right (by omega), e2, show (j + 1) * 16 + k - 16 = j * 16 + k by omega]
      simpa using ih j (by simpa using hj)
theorem EnI.one (e : EnI) : e.c.all (·.oneCell') = true := instC_one _ _ _ rfl rfl
theorem ins_own {w : World} {base : Nat} {v : Value} {l : List EnI} (h : w.ownsRow base 31 16 v l.length (ics l)) (hm : ∀ e ∈ l, InM w e.x e.u e.r) : Ins w v l := by
  have h' := h
  obtain ⟨h1, h2⟩ := h
  rcases h2 with ⟨rfl, h3⟩ | ⟨g, cap, cur, rfl, hbg, hh, hc, hmx, hs, ht⟩
  · have : l = [] := List.length_eq_zero_iff.1 h3
    subst this
    exact ⟨none, 0, 0, rfl, rfl, Nat.le_refl _, by omega, (fun _ => rfl), (fun ad h => by cases h)⟩
  · refine ⟨some ⟨g, 0, none⟩, l.length, cap, rfl, rfl, hc, by unfold maxLen at hmx; omega, (fun h => by cases h), ?_⟩
    intro ad had j hj
    obtain rfl := Option.some.inj had
    refine ⟨fun k u hk hu => ?_, hm _ (List.getElem_mem hj)⟩
    exact World.ownsRow.cells h' (g := g) rfl (j * 16 + k) u (by rw [ics_at l j k hj hk]; exact hu)
theorem Ins.range {w : World} {b o cap : Nat} {l : List EnI} (h : Ins w (.slice (some ⟨b, o, none⟩) l.length cap) l) (j : Nat) (hj : j < l.length) : w.rangeAt b (o + j * 16) l[j].c.toList := by
  intro k v hk
  have hk16 : k < 16 := by
    rcases Nat.lt_or_ge k 16 with h | h
    · exact h
    · rw [List.getElem?_eq_none (by show 16 ≤ k; exact h)] at hk; cases hk
  exact (h.lit j hj).1 k v hk16 (by rw [← Array.getElem?_toList]; exact hk)
theorem Tryz.rowInst : ∃ d, Tryz.prog.underlying 31 = some d ∧ d.isRow = true := by
  obtain ⟨d, hd1, hd2⟩ := Tryz.structInst
  exact ⟨d, hd1, by cases d <;> first | rfl | (simp at hd2)⟩
/-- A load of an instance that lies within a row. -/
theorem wpl_loadE {ops : Array Oper} {rest : List Oper} {o : Oper} {a : Act} {w : World} {Q : Exit → Act → World → Prop} (hgd : o.guard = none) (x : Operand) (ho : o.op = .load 31 x)
    (b f : Nat) (hx : a.eval x = .pointer (some ⟨b, f, none⟩)) (cs : Array Value) (hs : cs.size = 16) (hg : w.rangeAt b f cs.toList)
    (h : wpList Tryz.prog ops Q rest (a.put o.dst (.agg cs)) w) : wpList Tryz.prog ops Q (o :: rest) a w := by
  obtain ⟨d, hd1, hd2⟩ := Tryz.rowInst
  exact wpList_load_mid hgd _ x ho b f hx cs.toList d hg hd1 hd2 (by rw [Array.length_toList, hs]; exact Tryz.sizeInst) h
/-- A load of an instance from its own box. -/
theorem wpl_loadC {ops : Array Oper} {rest : List Oper} {o : Oper} {a : Act} {w : World} {Q : Exit → Act → World → Prop} (hgd : o.guard = none) (x : Operand) (ho : o.op = .load 31 x)
    (g : Nat) (hx : a.eval x = .pointer (some ⟨g, 0, none⟩)) (cs : Array Value) (hs : cs.size = 16) (t : TypeId) (fr : Nat × Nat) (hg : w.heap[g]? = some (.cells cs t fr))
    (h : wpList Tryz.prog ops Q rest (a.put o.dst (.agg cs)) w) : wpList Tryz.prog ops Q (o :: rest) a w := by
  obtain ⟨d, hd1, hd2⟩ := Tryz.structInst
  exact wpList_load_row hgd _ x ho g hx t _ fr d hg hd1 (by cases d <;> first | rfl | (simp at hd2)) (by rw [hs]; exact Tryz.sizeInst) h
def zI : Value := .agg #[.int .i64 0, .int .i64 0, .int .i64 0, .int .i64 0, .int .i64 0, .int .i64 0, .int .i64 0, .bool false, .int .i64 0, .int .i64 0, .int .i64 0, .int .i64 0, .int .i64 0, .slice none 0 0, .int .i64 0, .slice none 0 0]
theorem fill16' (c0 c1 c2 c3 c4 c5 c6 c7 c8 c9 c10 c11 c12 c13 c14 c15 : Value) : Instr.fill (fun i => some (i * 16, 16)) ((Array.range (1 * 16)).map (zI.cells[· % zI.cells.size]!)) [(0, .agg #[c0, c1, c2, c3, c4, c5, c6, c7, c8, c9, c10, c11, c12, c13, c14, c15])] = some #[c0, c1, c2, c3, c4, c5, c6, c7, c8, c9, c10, c11, c12, c13, c14, c15] := by kernel_rfl
theorem fill16 (cs : Array Value) (h : cs.size = 16) : Instr.fill (fun i => some (i * 16, 16)) ((Array.range (1 * 16)).map (zI.cells[· % zI.cells.size]!)) [(0, .agg cs)] = some cs := by
  obtain ⟨l⟩ := cs
  match l, h with
  | [c0, c1, c2, c3, c4, c5, c6, c7, c8, c9, c10, c11, c12, c13, c14, c15], _ => exact fill16' c0 c1 c2 c3 c4 c5 c6 c7 c8 c9 c10 c11 c12 c13 c14 c15
def repL (e y : EnI) : EnI := if y.x.ref == e.x.ref then e else y
theorem putL_eq (l : List EnI) (e : EnI) : putL l e = if l.any (fun y => y.x.ref == e.x.ref) = true then l.map (repL e) else l.map (repL e) ++ [e] := by
  unfold putL
  split
  · rfl
  · rename_i hc
    congr 1
    symm
    refine (List.map_congr_left ?_).trans (List.map_id l)
    intro y hy
    unfold repL
    rw [if_neg]
    · rfl
    · intro h; exact hc (List.any_eq_true.2 ⟨y, hy, h⟩)
end Go.Proofs.YthhcpoafnmhnhaaGreat
