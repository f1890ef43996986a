/- What the document's Build answers. Conditions: the rows lie in memory, one truth for each end, at most ten million ends. -/
import Derived.Test.YtbfmanhbbancmaaSpBuildS
import Derived.Test.YtbfmanhbbancmaaSpLay
import Derived.Deep.RegionHeld3
namespace Go.Proofs.Ytbfmanhbbancmaa
open Go.RowKit

/-- 'append(s, x)' of one span within a statement that draws its order. -/
theorem step_appendS {ops : Array Oper} {o : Oper} {a : Act} {w : World} {K : Act → World → Prop} {Q : Exit → Act → World → Prop} {E : Prop} (hgd : o.guard = none) (s x : Operand)
    (ho : o.op = .call { callee := .builtin .append, args := #[s, x], argTypes := #[28, 28] })
    (base : Nat) (v : Value) (l : List Sp) (hs : a.eval s = v) (hown : OwnS w base v l) (g : Nat) (y : Sp) (hx : a.eval x = .slice (some ⟨g, 0, none⟩) 1 1) (hg : w.heap[g]? = some (.cells #[.int .i64 y.1, .int .i64 y.2] 33 (0, 0)))
    (hl : l.length ≤ 1000000001) (hbase : base ≤ w.heap.size)
    (h : ∀ va vc m w', m = l ++ [y] → OwnS w' base (.slice va m.length vc) m → w.grownBy w' v.ownBlock → K (a.put o.dst (.slice va m.length vc)) w') :
    if Region.wanted o (yielded ops a.tmps) = true then Oper.wp Try.prog o a w K Q else E := by
  have hw : Region.wanted o (yielded ops a.tmps) = true := by simp [Region.wanted, hgd]
  rw [if_pos hw]
  obtain ⟨i, hi, hz0, hz1, hz2⟩ := info_parts Try.infoSp
  refine wp_append_own w s x 28 ho base 33 i (.agg #[.int .i64 0, .int .i64 0]) 2 16 Try.underlyingSs hi hz0 hz1 hz2 rfl (by decide) v l.length (flat l) hs hown ⟨g, 0, none⟩ 1 1 [.int .i64 y.1, .int .i64 y.2] hx rfl ?_ (flat_one [y]) (by unfold maxLen; omega) (by omega) hbase ?_
  · intro j u hj
    match j with
    | 0 => simp at hj; subst hj; rw [Addr.add_lit, cell_of_row w g _ _ _ _ hg]; rfl
    | 1 => simp at hj; subst hj; rw [Addr.add_lit, cell_of_row w g _ _ _ _ hg]; rfl
    | j + 2 => simp at hj
  · intro v' w' ho' hg' _
    have ho2 : OwnS w' base v' (l ++ [y]) := by
      show w'.ownsRow _ _ _ _ (l ++ [y]).length (flat (l ++ [y]))
      rw [List.length_append, flat_append]; exact ho'
    obtain ⟨va, vc, rfl⟩ := ho2.shape
    exact h va vc _ w' rfl ho2 hg'
def bvs (l : List Bool) : List Value := l.map fun x => .bool x
/-- The value v is a row of truths. -/
def OwnB (w : World) (base : Nat) (v : Value) (l : List Bool) : Prop := w.ownsRow base 4 1 v l.length (bvs l)
theorem OwnB.shape {w : World} {base : Nat} {v : Value} {l : List Bool} (h : OwnB w base v l) : ∃ va vc, v = .slice va l.length vc := by
  obtain ⟨h1, h2⟩ := h
  rcases h2 with ⟨rfl, h0⟩ | ⟨g, cap, cur, rfl, -⟩
  · exact ⟨none, 0, by rw [h0]⟩
  · exact ⟨_, _, rfl⟩
theorem OwnB.below {w w' : World} {base : Nat} {v : Value} {l : List Bool} (h : OwnB w base v l) (hb : Below w.heap.size w w') : OwnB w' base v l := by
  obtain ⟨h1, h2⟩ := h
  refine ⟨h1, ?_⟩
  rcases h2 with h2 | ⟨g, cap, cur, hv, hg, hh, r⟩
  · exact Or.inl h2
  · exact Or.inr ⟨g, cap, cur, hv, hg, by rw [hb.block g (lt_of_block hh)]; exact hh, r⟩
theorem OwnB.at_lit {w : World} {base : Nat} {va : Option Addr} {vc : Nat} {l : List Bool} (h : OwnB w base (.slice va l.length vc) l) (j : Nat) (hj : j < l.length) : ∃ g, va = some ⟨g, 0, none⟩ ∧ w.cell? ⟨g, j, none⟩ = some (.bool l[j]) := by
  have h' : w.ownsRow base 4 1 (.slice va l.length vc) l.length (bvs l) := h
  obtain ⟨h1, h2⟩ := h
  rcases h2 with ⟨_, h0⟩ | ⟨g, cap, cur, e, -⟩
  · omega
  · cases e
    refine ⟨g, rfl, ?_⟩
    have := h'.cells (g := g) rfl j (.bool l[j]) (by simp [bvs, hj])
    rw [Addr.add_lit] at this
    simpa using this
theorem buildN_len (E : List Int) (ks : List Bool) (i : Nat) : (buildN E ks i).length ≤ i := by
  induction i with
  | zero => simp [buildN, parts2]
  | succ i ih =>
    rw [buildN_next]
    split
    · have : ∀ (p : List Sp) (x : Sp), (putL p x).length ≤ p.length + 1 := by
        intro p x
        rcases List.eq_nil_or_concat p with rfl | ⟨q, y, rfl⟩
        · simp [putL]
        · rw [List.concat_eq_append, putL_snoc]; split <;> simp
      have := this (buildN E ks i) (E.getD i 0, E.getD (i + 1) 0)
      omega
    · omega
end Go.Proofs.Ytbfmanhbbancmaa
