/- Rows of spans in memory, as lists of pairs of numbers; what empty, common, Touch and grow of package span answer. No condition but that the rows lie in memory. -/
import Derived.Test.YtnkjkaofgninnaaRows
import Derived.WalkKit
import Derived.WalkSpells
import Derived.WalkLawsBesides
import Derived.Laws.AppendOwnNone
import Derived.Laws.OwnMore
import Derived.Below
import Derived.RangeFuncCalls
namespace Go.Proofs.Ytnkjkaofgninnaa
open Go.RowKit

theorem hid {p : Prop} (h : p) : Hid p := h
abbrev Sp := Int × Int
/-- A span's cells. -/
def spc (x : Sp) : List Value := [.int .i64 x.1, .int .i64 x.2]
/-- The cells of a row of spans. -/
def flat (l : List Sp) : List Value := l.flatMap spc
theorem flat_nil : flat [] = [] := rfl
theorem flat_cons (x : Sp) (l : List Sp) : flat (x :: l) = .int .i64 x.1 :: .int .i64 x.2 :: flat l := rfl
theorem flat_append (a b : List Sp) : flat (a ++ b) = flat a ++ flat b := List.flatMap_append
theorem flat_len (l : List Sp) : (flat l).length = l.length * 2 := by
  induction l with
  | nil => rfl
  | cons x l ih => rw [flat_cons]; simp [ih]; omega
theorem flat_one (l : List Sp) : ∀ u ∈ flat l, u.oneCell' = true := by
  induction l with
  | nil => intro u hu; cases hu
  | cons x l ih =>
    intro u hu
    rw [flat_cons] at hu
    simp only [List.mem_cons] at hu
    rcases hu with rfl | rfl | hu
    · rfl
    · rfl
    · exact ih u hu
theorem flat_at (l : List Sp) (j : Nat) (h : j < l.length) : (flat l)[j * 2]? = some (.int .i64 l[j].1) ∧ (flat l)[j * 2 + 1]? = some (.int .i64 l[j].2) := by
  induction l generalizing j with
  | nil => cases h
  | cons x l ih =>
    cases j with
    | zero => exact ⟨rfl, rfl⟩
    | succ j =>
      have := ih j (by simpa using h)
      rw [flat_cons, show (j + 1) * 2 = j * 2 + 1 + 1 from by omega]
      simpa using this
theorem flat_set (l : List Sp) (j : Nat) (h : j < l.length) (b : Int) : (flat l).set (j * 2 + 1) (.int .i64 b) = flat (l.set j (l[j].1, b)) := by
  induction l generalizing j with
  | nil => cases h
  | cons x l ih =>
    cases j with
    | zero => rfl
    | succ j =>
      have := ih j (by simpa using h)
      rw [flat_cons, show (j + 1) * 2 + 1 = j * 2 + 1 + 1 + 1 from by omega]
      simp only [List.set_cons_succ, this]
      rfl

theorem Try.underlyingSs : Try.prog.underlying 50 = some (.slice 43) := by kernel_rfl
theorem Try.infoSp : (Try.prog.info? 43).map (fun i => (i.zero, i.size, i.bytes)) = some (some (.agg #[.int .i64 0, .int .i64 0]), 2, 16) := by kernel_rfl

/-- The value v is a slice whose elements are the spans l. -/
def Sps (w : World) (v : Value) (l : List Sp) : Prop :=
  ∃ ao n cap, v = .slice ao n cap ∧ n = l.length ∧ n ≤ cap ∧ cap ≤ 9223372036854775807 ∧ (ao = none → cap = 0) ∧
    ∀ ad, ao = some ad → ∀ j, (h : j < l.length) → w.cell? (ad.add (j * 2)) = some (.int .i64 l[j].1) ∧ w.cell? (ad.add (j * 2 + 1)) = some (.int .i64 l[j].2)
theorem Sps.kept {w w' : World} {v : Value} {l : List Sp} (h : Sps w v l) (hb : ∀ k u, w.cell? k = some u → w'.cell? k = some u) : Sps w' v l := by
  obtain ⟨ao, n, cap, rfl, h1, h2, h3, h4, h5⟩ := h
  exact ⟨ao, n, cap, rfl, h1, h2, h3, h4, fun ad had j hj => ⟨hb _ _ (h5 ad had j hj).1, hb _ _ (h5 ad had j hj).2⟩⟩
theorem Sps.below {w w' : World} {v : Value} {l : List Sp} (h : Sps w v l) (hb : Below w.heap.size w w') : Sps w' v l := h.kept fun _ _ hk => cell_later hb hk
theorem Sps.alloc {w : World} {v : Value} {l : List Sp} (h : Sps w v l) (o : Obj) : Sps (w.alloc o) v l := h.below ((Below.refl _ _).alloc (Nat.le_refl _) _)
theorem Sps.shape {w : World} {v : Value} {l : List Sp} (h : Sps w v l) : ∃ va vc, v = .slice va l.length vc := by
  obtain ⟨ao, n, cap, rfl, rfl, -⟩ := h; exact ⟨_, _, rfl⟩

/-- The value v is a row of the call's own, its spans are l. -/
def OwnS (w : World) (base : Nat) (v : Value) (l : List Sp) : Prop := w.ownsRow base 43 2 v l.length (flat l)
theorem OwnS.nil (w : World) (base : Nat) : OwnS w base (.slice none 0 0) [] := World.ownsRow_nil _ _ _ _
theorem OwnS.shape {w : World} {base : Nat} {v : Value} {l : List Sp} (h : OwnS w base v l) : ∃ va vc, v = .slice va l.length vc := by
  obtain ⟨h1, h2⟩ := h
  rcases h2 with ⟨rfl, h0⟩ | ⟨g, cap, cur, rfl, -⟩
  · exact ⟨none, 0, by rw [h0]⟩
  · exact ⟨_, _, rfl⟩
theorem OwnS.kept {w w' : World} {base : Nat} {v : Value} {l : List Sp} (h : OwnS w base v l) (hb : ∀ k, base ≤ k → k < w.heap.size → w'.heap[k]? = w.heap[k]?) : OwnS w' base v l := by
  obtain ⟨h1, h2⟩ := h
  refine ⟨h1, ?_⟩
  rcases h2 with h2 | ⟨g, cap, cur, hv, hg, hh, r⟩
  · exact Or.inl h2
  · exact Or.inr ⟨g, cap, cur, hv, hg, by rw [hb g hg (lt_of_block hh)]; exact hh, r⟩
theorem OwnS.below {w w' : World} {base : Nat} {v : Value} {l : List Sp} (h : OwnS w base v l) (hb : Below w.heap.size w w') : OwnS w' base v l := h.kept fun k _ hk => hb.block k hk
theorem OwnS.lower {w : World} {base base' : Nat} {v : Value} {l : List Sp} (h : OwnS w base v l) (hb : base' ≤ base) : OwnS w base' v l := by
  obtain ⟨h1, h2⟩ := h
  refine ⟨h1, ?_⟩
  rcases h2 with h2 | ⟨g, cap, cur, hv, hg, r⟩
  · exact Or.inl h2
  · exact Or.inr ⟨g, cap, cur, hv, by omega, r⟩
theorem OwnS.sps {w : World} {base : Nat} {v : Value} {l : List Sp} (h : OwnS w base v l) : Sps w v l := by
  have h' : w.ownsRow base 43 2 v l.length (flat l) := h
  obtain ⟨h1, h2⟩ := h
  rcases h2 with ⟨rfl, h0⟩ | ⟨g, cap, cur, rfl, hg, hh, hc, hm, hs, ht⟩
  · exact ⟨none, 0, 0, rfl, h0.symm, Nat.le_refl _, by omega, (fun _ => rfl), (fun ad h => by cases h)⟩
  · refine ⟨some ⟨g, 0, none⟩, l.length, cap, rfl, rfl, hc, by unfold maxLen at hm; omega, (fun h => by cases h), ?_⟩
    intro ad had j hj
    obtain rfl := Option.some.inj had
    have e := flat_at l j hj
    exact ⟨h'.cells rfl _ _ e.1, h'.cells rfl _ _ e.2⟩
theorem belowS_grown {B : Nat} {w w1 : World} {v : Value} {l : List Sp} (ho : OwnS w B v l) (hg : w.grownBy w1 v.ownBlock) (hB : B ≤ w.heap.size) : Below B w w1 :=
  (Below.refl _ _).grown hg hB fun k hk => (World.ownsRow.lt ho k hk).1

theorem keepsS_grown {B : Nat} {w w1 : World} {v : Value} {l : List Sp} (ho : OwnS w B v l) (hg : w.grownBy w1 v.ownBlock) : KeepsOthers w w1 := by
  refine KeepsOthers.of_grownBy hg fun j o hj hoj => ?_
  obtain ⟨h1, h2⟩ := ho
  rcases h2 with ⟨rfl, _⟩ | ⟨g, cap, cur, rfl, _, hh, -⟩
  · cases hj
  · cases hj
    rw [hh] at hoj
    cases hoj; rfl

/-- 'append(s, x...)', s of the call's own, x any slice of spans. -/
theorem wpl_appendS {w : World} {ops : Array Oper} {rest : List Oper} {o : Oper} {a : Act} {Q : Exit → Act → World → Prop} (hgd : o.guard = none) (s x : Operand)
    (ho : o.op = .call { callee := .builtin .append, args := #[s, x], argTypes := #[50, 50] })
    (base : Nat) (v : Value) (l : List Sp) (hs : a.eval s = v) (hown : OwnS w base v l) (u : Value) (m : List Sp) (hx : a.eval x = u) (hu : Sps w u m)
    (hsz : (l.length + m.length) * 16 ≤ 140737488355328) (hbase : base ≤ w.heap.size)
    (h : ∀ va vc w', OwnS w' base (.slice va (l.length + m.length) vc) (l ++ m) → w.grownBy w' v.ownBlock → wpList Try.prog ops Q rest (a.put o.dst (.slice va (l.length + m.length) vc)) w') :
    wpList Try.prog ops Q (o :: rest) a w := by
  obtain ⟨i, hi, hz0, hz1, hz2⟩ := info_parts Try.infoSp
  obtain ⟨ao, n, cap, rfl, rfl, hc, hm, hnone, hcell⟩ := hu
  cases ao with
  | none =>
    have h0 := hnone rfl
    subst h0
    have hm0 : m = [] := List.eq_nil_of_length_eq_zero (by omega)
    subst hm0
    obtain ⟨va, vc, rfl⟩ := hown.shape
    refine wpList_append_own_none hgd s x 50 ho base 43 i 2 Try.underlyingSs hi _ _ _ hs hown hx ?_
    exact h va vc w (by simpa using hown) (World.grownBy.refl _ _)
  | some ad =>
    refine wpList_append_own w hgd s x 50 ho base 43 i (.agg #[.int .i64 0, .int .i64 0]) 2 16 Try.underlyingSs hi hz0 hz1 hz2 rfl (by decide) v l.length (flat l) hs hown ad m.length cap (flat m) hx (flat_len m) ?_ (flat_one m) (by unfold maxLen; omega) (by omega) hbase ?_
    · intro j u hj
      have hlt : j < m.length * 2 := by
        rcases Nat.lt_or_ge j (m.length * 2) with h | h
        · exact h
        · rw [List.getElem?_eq_none (by rw [flat_len]; exact h)] at hj; cases hj
      have e := hcell ad rfl (j / 2) (by omega)
      have f := flat_at m (j / 2) (by omega)
      rcases Nat.mod_two_eq_zero_or_one j with hp | hp
      · rw [show j / 2 * 2 = j from by omega] at e f
        rw [f.1] at hj; cases hj; exact e.1
      · rw [show j / 2 * 2 + 1 = j from by omega] at e f
        rw [f.2] at hj; cases hj; exact e.2
    · intro v' w' ho' hg _
      have ho2 : OwnS w' base v' (l ++ m) := by
        show w'.ownsRow _ _ _ _ (l ++ m).length (flat (l ++ m))
        rw [List.length_append, flat_append]; exact ho'
      obtain ⟨va, vc, rfl⟩ := ho2.shape
      have e : (l ++ m).length = l.length + m.length := List.length_append
      rw [e] at ho2 ⊢
      exact h va vc w' ho2 hg

/-- A block of one span, as a slice. -/
theorem sps_one {W : World} {k : Nat} {a b : Int} {t : TypeId} {fr : Nat × Nat} (h : W.heap[k]? = some (.cells #[.int .i64 a, .int .i64 b] t fr)) : Sps W (.slice (some ⟨k, 0, none⟩) 1 1) [(a, b)] := by
  refine ⟨_, _, _, rfl, rfl, Nat.le_refl _, by omega, (fun h => by cases h), ?_⟩
  intro ad had j hj
  obtain rfl := Option.some.inj had
  obtain rfl : j = 0 := by simpa using hj
  exact ⟨by rw [Addr.add_lit, cell_of_row W k _ _ _ _ h]; rfl, by rw [Addr.add_lit, cell_of_row W k _ _ _ _ h]; rfl⟩

set_option maxHeartbeats 400000 in
theorem empty_any (x : Sp) (w : World) :
    Calls Try.prog 79 #[.agg #[.int .i64 x.1, .int .i64 x.2]] w fun e w' => e = .returned (.bool (decide (x.2 ≤ x.1))) ∧ w' = w.alloc (.cells #[.int .i64 x.1, .int .i64 x.2] 43) := by
  obtain ⟨a, b⟩ := x
  go_enter Try.func79, Try.ntmps79
  go_wp2
  go_ret
  exact ⟨rfl, rfl⟩
theorem heap3 (w : World) (A B C : Obj) : (((w.alloc A).alloc B).alloc C).heap[w.heap.size]? = some A ∧ (((w.alloc A).alloc B).alloc C).heap[w.heap.size + 1]? = some B ∧ (((w.alloc A).alloc B).alloc C).heap[w.heap.size + 1 + 1]? = some C := by
  have e1 : (w.alloc A).heap.size = w.heap.size + 1 := by simp
  have e2 : ((w.alloc A).alloc B).heap.size = w.heap.size + 1 + 1 := by simp
  refine ⟨?_, ?_, ?_⟩
  · rw [Below.heap_alloc _ C _ (by omega), Below.heap_alloc _ B _ (by omega)]; exact heap_alloc_new w A
  · rw [Below.heap_alloc _ C _ (by omega)]; have := heap_alloc_new (w.alloc A) B; rwa [e1] at this
  · have := heap_alloc_new ((w.alloc A).alloc B) C; rwa [e2] at this
theorem Try.structSp0 : (Try.prog.underlying 43).map (fun d => match d with | .struct _ | .array _ _ => true | _ => false) = some true := by kernel_rfl
theorem Try.structSp : ∃ d, Try.prog.underlying 43 = some d ∧ (match d with | .struct _ | .array _ _ => true | _ => false) = true := by
  have h := Try.structSp0
  cases hd : Try.prog.underlying 43 with
  | none => rw [hd] at h; cases h
  | some d => rw [hd] at h; exact ⟨d, rfl, by simpa using h⟩
theorem Try.sizeSp : (Try.prog.info? 43).map (·.size) = some 2 := by kernel_rfl
/-- A function's one result, a span that lies in a block. -/
theorem results_span {fn : Func} {p : Tmp} (h : fn.results = #[.cell p 43]) (tmps : Array Value) (w : World) (g : Nat) (t : TypeId) (u v : Value) (fr : Nat × Nat)
    (hp : tmps.getD p undef = .pointer (some ⟨g, 0, none⟩)) (hg : w.heap[g]? = some (.cells #[u, v] t fr)) : (results fn tmps).run Try.prog w = .ok (.agg #[u, v]) w := by
  obtain ⟨d, hd1, hd2⟩ := Try.structSp
  refine results_cell_row h tmps w g t _ fr d hp hg hd1 ?_ Try.sizeSp
  cases d <;> first | rfl | (simp at hd2)
theorem ret_sp {a b c d : Int} (h1 : a = c) (h2 : b = d) : Ending.returned (.agg #[.int .i64 a, .int .i64 b]) = .returned (.agg #[.int .i64 c, .int .i64 d]) := by rw [h1, h2]

set_option maxHeartbeats 400000 in
theorem common_any (x y : Sp) (w : World) :
    Calls Try.prog 94 #[.agg #[.int .i64 x.1, .int .i64 x.2], .agg #[.int .i64 y.1, .int .i64 y.2]] w fun e w' => e = .returned (.agg #[.int .i64 (max x.1 y.1), .int .i64 (min x.2 y.2)]) ∧ Below w.heap.size w w' := by
  obtain ⟨a, b⟩ := x
  obtain ⟨c, d⟩ := y
  go_enter Try.func94, Try.ntmps94
  go_wp2
  all_goals
    (try simp only [Exit.inBlock, Exit.then])
    refine bodyPost_ret (results_span rfl _ _ (w.heap.size + 1 + 1) _ _ _ _ rfl (heap3 _ _ _ _).2.2) rfl ?_
    exact ⟨ret_sp (by omega) (by omega), (((Below.refl _ _).alloc (Nat.le_refl _) _).alloc (by simp) _).alloc (by simp; omega) _⟩

/-- plain with s behind it. -/
def growL (p : List Sp) (x : Sp) : List Sp :=
  match p.getLast? with
  | none => [x]
  | some y => if y.2 < x.1 then p ++ [x] else p.dropLast ++ [(y.1, max y.2 x.2)]

theorem growL_nil (x : Sp) : growL [] x = [x] := rfl
theorem growL_snoc (q : List Sp) (y x : Sp) : growL (q ++ [y]) x = if y.2 < x.1 then (q ++ [y]) ++ [x] else q ++ [(y.1, max y.2 x.2)] := by
  simp [growL]
theorem growL_len (p : List Sp) (x : Sp) : (growL p x).length ≤ p.length + 1 := by
  rcases List.eq_nil_or_concat p with rfl | ⟨q, y, rfl⟩
  · simp [growL_nil]
  · rw [List.concat_eq_append, growL_snoc]; split <;> simp

end Go.Proofs.Ytnkjkaofgninnaa
