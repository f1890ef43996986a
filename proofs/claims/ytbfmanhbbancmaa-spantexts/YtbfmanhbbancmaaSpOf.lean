/- What the document's Of answers: the plain row of the blocks that it asks for. Conditions: the rows lie in memory and have at most a million spans each. -/
import Derived.Test.YtbfmanhbbancmaaSpBuild
namespace Go.Proofs.Ytbfmanhbbancmaa
open Go.RowKit

theorem Try.underlyingBs : Try.prog.underlying 29 = some (.slice 4) := by kernel_rfl
theorem Try.infoBo : (Try.prog.info? 4).map (fun i => (i.zero, i.size, i.bytes)) = some (some (.bool false), 1, 1) := by kernel_rfl
theorem OwnB.nil (w : World) (base : Nat) : OwnB w base (.slice none 0 0) [] := World.ownsRow_nil _ _ _ _
theorem one_cellB {w : World} {g : Nat} {u : Value} (h : w.cell? ⟨g, 0, none⟩ = some u) : ∀ j x, [u][j]? = some x → w.cell? ((⟨g, 0, none⟩ : Addr).add j) = some x := by
  intro j x hj
  match j with
  | 0 => simp at hj; subst hj; rw [Addr.add_lit]; exact h
  | j + 1 => simp at hj
theorem wpl_appendB {w : World} {ops : Array Oper} {rest : List Oper} {o : Oper} {a : Act} {Q : Exit → Act → World → Prop} (hgd : o.guard = none) (s x : Operand)
    (ho : o.op = .call { callee := .builtin .append, args := #[s, x], argTypes := #[29, 29] })
    (base : Nat) (v : Value) (l : List Bool) (hs : a.eval s = v) (hown : OwnB w base v l) (g : Nat) (y : Bool) (hx : a.eval x = .slice (some ⟨g, 0, none⟩) 1 1) (hg : w.cell? ⟨g, 0, none⟩ = some (.bool y))
    (hl : l.length ≤ 1000000001) (hbase : base ≤ w.heap.size)
    (h : ∀ va vc m w', m = l ++ [y] → OwnB w' base (.slice va m.length vc) m → Below base w w' → wpList Try.prog ops Q rest (a.put o.dst (.slice va m.length vc)) w') :
    wpList Try.prog ops Q (o :: rest) a w := by
  obtain ⟨i, hi, hz0, hz1, hz2⟩ := info_parts Try.infoBo
  refine wpList_append_own w hgd s x 29 ho base 4 i (.bool false) 1 1 Try.underlyingBs hi hz0 hz1 hz2 rfl (by decide) v l.length (bvs l) hs hown ⟨g, 0, none⟩ 1 1 [.bool y] hx rfl (one_cellB hg) (by intro u hu; simp at hu; subst hu; rfl) (by unfold maxLen; omega) (by omega) hbase ?_
  intro v' w' ho' hg' _
  have ho2 : OwnB w' base v' (l ++ [y]) := by
    show w'.ownsRow _ _ _ _ (l ++ [y]).length (bvs (l ++ [y]))
    rw [List.length_append]
    have e : bvs (l ++ [y]) = bvs l ++ [.bool y] := by simp [bvs]
    rw [e]; exact ho'
  obtain ⟨va, vc, rfl⟩ := ho2.shape
  refine h va vc _ w' rfl ho2 ⟨hg'.os, hg'.tape, hg'.output, hg'.size, fun k hk => hg'.block k (by omega) fun e => ?_⟩
  have := (World.ownsRow.lt hown k e.symm).1
  omega
/-- What is kept, by kind. -/
def keepK (kind : Nat) (one two : Bool) : Bool := if kind = 0 then one || two else if kind = 1 then one && two else one && !two
def keepF (kind : Nat) (a b : List Sp) (x : Int) : Bool := keepK kind (hasB a x) (hasB b x)
end Go.Proofs.Ytbfmanhbbancmaa
