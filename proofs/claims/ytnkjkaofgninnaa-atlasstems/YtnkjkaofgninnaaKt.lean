/- Rows of the call's own, of any element type: what an append leaves; which blocks are kept, told by their types. -/
import Derived.Test.YtnkjkaofgninnaaRows
import Derived.WalkKit
import Derived.WalkSpells
import Derived.WalkLawsBesides
import Derived.Laws.AppendOwnNone
import Derived.Laws.OwnMore
import Derived.Laws.AppendOwn
import Derived.Below
import Derived.Deep.RegionHeld3
namespace Go.Proofs.Ytnkjkaofgninnaa
open Go.RowKit
theorem putS {α : Type} : (∀ (l : List α) (i : Nat) (v : α), l.toArray.setIfInBounds i v = (l.set i v).toArray) ∧ (∀ (a : α) (l : List α) (v : α), (a :: l).set 0 v = v :: l) ∧ (∀ (a : α) (l : List α) (n : Nat) (v : α), (a :: l).set (n + 1) v = a :: l.set n v) ∧ (∀ (l : List α) (i : Nat) (h : i < l.toArray.size), l.toArray[i]'h = l[i]'(by simpa using h)) ∧ (∀ (a : α) (l : List α) (h : 0 < (a :: l).length), (a :: l)[0]'h = a) ∧ (∀ (a : α) (l : List α) (i : Nat) (h : i + 1 < (a :: l).length), (a :: l)[i + 1]'h = l[i]'(by simpa using h)) :=
  ⟨fun _ _ _ => List.setIfInBounds_toArray .., fun _ _ _ => rfl, fun _ _ _ _ => rfl, fun _ _ _ => rfl, fun _ _ _ => rfl, fun _ _ _ _ => rfl⟩
set_option linter.unusedVariables false
set_option linter.unusedSimpArgs false

/-- The type T of slices has elements of type E, of sz cells. -/
structure RowT (T E : TypeId) (z : Value) (sz bytes : Nat) : Prop where
  u : Try.prog.underlying T = some (.slice E)
  i : (Try.prog.info? E).map (fun i => (i.zero, i.size, i.bytes)) = some (some z, sz, bytes)
  z : z.cells.size = sz
  p : 0 < sz
  b : bytes ≤ 1000
theorem own_shape {w : World} {base : Nat} {E : TypeId} {sz n : Nat} {v : Value} {xs : List Value} (h : w.ownsRow base E sz v n xs) : ∃ va vc, v = .slice va n vc := by
  obtain ⟨_, h2⟩ := h
  rcases h2 with ⟨rfl, rfl⟩ | ⟨g, cap, cur, rfl, -⟩
  · exact ⟨none, 0, rfl⟩
  · exact ⟨_, _, rfl⟩
theorem own_below {B : Nat} {e : TypeId} {k n : Nat} {v : Value} {xs : List Value} {w w' : World} (h : w.ownsRow B e k v n xs) (hb : Below w.heap.size w w') : w'.ownsRow B e k v n xs := by
  obtain ⟨h1, h2⟩ := h
  refine ⟨h1, ?_⟩
  rcases h2 with h2 | ⟨g, cap, cur, hv, hg, hh, r⟩
  · exact Or.inl h2
  · exact Or.inr ⟨g, cap, cur, hv, hg, (hb.block g (lt_of_block hh)).trans hh, r⟩
theorem own_lower {B B' : Nat} {e : TypeId} {k n : Nat} {v : Value} {xs : List Value} {w : World} (h : w.ownsRow B e k v n xs) (hb : B' ≤ B) : w.ownsRow B' e k v n xs := by
  obtain ⟨h1, h2⟩ := h
  refine ⟨h1, ?_⟩
  rcases h2 with h2 | ⟨g, cap, cur, hv, hg, hh, r⟩
  · exact Or.inl h2
  · exact Or.inr ⟨g, cap, cur, hv, Nat.le_trans hb hg, hh, r⟩
/-- A row stays, if its block does. -/
theorem own_kept {B : Nat} {e : TypeId} {k n : Nat} {v : Value} {xs : List Value} {w w' : World} (h : w.ownsRow B e k v n xs) (hk : ∀ q cs, v.ownBlock = some q → w.heap[q]? = some (.cells cs e (0, 0)) → w'.heap[q]? = w.heap[q]?) : w'.ownsRow B e k v n xs := by
  obtain ⟨h1, h2⟩ := h
  refine ⟨h1, ?_⟩
  rcases h2 with h2 | ⟨g, cap, cur, hv, hg, hh, r⟩
  · exact Or.inl h2
  · exact Or.inr ⟨g, cap, cur, hv, hg, (hk g cur (by rw [hv]; rfl) hh).trans hh, r⟩
theorem wp_app {T E : TypeId} {z : Value} {sz bytes : Nat} (R : RowT T E z sz bytes) {o : Oper} {a : Act} {w : World} {K : Act → World → Prop} {Q : Exit → Act → World → Prop} (s x : Operand)
    (ho : o.op = .call { callee := .builtin .append, args := #[s, x], argTypes := #[T, T] })
    (base : Nat) (v : Value) (n : Nat) (xs : List Value) (hs : a.eval s = v) (hown : w.ownsRow base E sz v n xs)
    (g m cap : Nat) (ys : List Value) (hx : a.eval x = .slice (some ⟨g, 0, none⟩) m cap) (hl : ys.length = m * sz) (hys : ∀ j u, ys[j]? = some u → w.cell? ⟨g, j, none⟩ = some u) (hone : ∀ u ∈ ys, u.oneCell' = true)
    (hn : n + m ≤ 1000000) (hbase : base ≤ w.heap.size)
    (h : ∀ va vc w', w'.ownsRow base E sz (.slice va (n + m) vc) (n + m) (xs ++ ys) → w.grownBy w' v.ownBlock → K (a.put o.dst (.slice va (n + m) vc)) w') : o.wp Try.prog a w K Q := by
  obtain ⟨i, hi, hz0, hz1, hz2⟩ := info_parts R.i
  have hb := R.b
  have hb2 : (n + m) * bytes ≤ 1000000 * 1000 := Nat.mul_le_mul hn hb
  refine wp_append_own w s x T ho base E i z sz bytes R.u hi hz0 hz1 hz2 R.z R.p v n xs hs hown ⟨g, 0, none⟩ m cap ys hx hl ?_ hone (by unfold maxLen; omega) (by omega) hbase ?_
  · intro j u hj
    rw [Addr.add_lit, Nat.zero_add]
    exact hys j u hj
  · intro v' w' ho' hg' _
    obtain ⟨va, vc, rfl⟩ := own_shape ho'
    exact h va vc w' ho' hg'
theorem wpl_app {T E : TypeId} {z : Value} {sz bytes : Nat} (R : RowT T E z sz bytes) {ops : Array Oper} {rest : List Oper} {o : Oper} {a : Act} {w : World} {Q : Exit → Act → World → Prop} (hgd : o.guard = none) (s x : Operand)
    (ho : o.op = .call { callee := .builtin .append, args := #[s, x], argTypes := #[T, T] })
    (base : Nat) (v : Value) (n : Nat) (xs : List Value) (hs : a.eval s = v) (hown : w.ownsRow base E sz v n xs)
    (g m cap : Nat) (ys : List Value) (hx : a.eval x = .slice (some ⟨g, 0, none⟩) m cap) (hl : ys.length = m * sz) (hys : ∀ j u, ys[j]? = some u → w.cell? ⟨g, j, none⟩ = some u) (hone : ∀ u ∈ ys, u.oneCell' = true)
    (hn : n + m ≤ 1000000) (hbase : base ≤ w.heap.size)
    (h : ∀ va vc w', w'.ownsRow base E sz (.slice va (n + m) vc) (n + m) (xs ++ ys) → w.grownBy w' v.ownBlock → wpList Try.prog ops Q rest (a.put o.dst (.slice va (n + m) vc)) w') :
    wpList Try.prog ops Q (o :: rest) a w :=
  wpList_plain hgd fun _ hK => wp_app R s x ho base v n xs hs hown g m cap ys hx hl hys hone hn hbase fun va vc w' h2 h3 => hK _ _ (h va vc w' h2 h3)
/-- All blocks of cells whose types are not among ts are as they were. -/
def Kt (ts : List TypeId) (w w' : World) : Prop := ∀ (q : Nat) (cs : Array Value) (t : TypeId) (fr : Nat × Nat), w.heap[q]? = some (.cells cs t fr) → t ∉ ts → w'.heap[q]? = w.heap[q]?
theorem Kt.refl (ts : List TypeId) (w : World) : Kt ts w w := fun _ _ _ _ _ _ => rfl
theorem Kt.trans {ts us : List TypeId} {w w1 w2 : World} (h : Kt ts w w1) (k : Kt us w1 w2) : Kt (ts ++ us) w w2 := fun q cs t fr hq ht => by
  have h1 := h q cs t fr hq fun e => ht (List.mem_append_left _ e)
  exact (k q cs t fr (h1.trans hq) fun e => ht (List.mem_append_right _ e)).trans h1
theorem Kt.sub {ts us : List TypeId} {w w1 : World} (h : Kt ts w w1) (hs : ∀ t ∈ ts, t ∈ us) : Kt us w w1 := fun q cs t fr hq ht => h q cs t fr hq fun e => ht (hs t e)
theorem Kt.same {ts : List TypeId} {w w1 w2 : World} (h : Kt ts w w1) (k : Kt ts w1 w2) : Kt ts w w2 := (h.trans k).sub fun t ht => by rcases List.mem_append.1 ht with h | h <;> exact h
theorem Kt.below {w w' : World} (ts : List TypeId) (h : Below w.heap.size w w') : Kt ts w w' := fun q _ _ _ hq _ => h.block q (lt_of_block hq)
theorem Kt.alloc {w w' : World} {ts : List TypeId} (h : Kt ts w w') (o : Obj) : Kt ts w (w'.alloc o) := h.same fun q _ _ _ hq _ => Below.heap_alloc w' o q (lt_of_block hq)
theorem Kt.set {w w' : World} {ts : List TypeId} (h : Kt ts w w') (X i : Nat) (v : Value) {cX : Array Value} {tX : TypeId} {fX : Nat × Nat} (hX : w'.heap[X]? = some (.cells cX tX fX)) (ht : tX ∈ ts) : Kt ts w (w'.setCell ⟨X, i, none⟩ v) := h.same fun q cs t fr hq hn => Below.heap_setCell w' ⟨X, i, none⟩ v q fun e => by
  obtain rfl : q = X := e
  rw [hq] at hX; cases hX; exact hn ht
theorem own_typed {w : World} {base : Nat} {E : TypeId} {sz n : Nat} {v : Value} {xs : List Value} (h : w.ownsRow base E sz v n xs) {q : Nat} (hq : v.ownBlock = some q) : ∃ cur, w.heap[q]? = some (.cells cur E (0, 0)) := by
  obtain ⟨_, h2⟩ := h
  rcases h2 with ⟨rfl, _⟩ | ⟨g, cap, cur, rfl, -, hh, -⟩
  · cases hq
  · cases hq; exact ⟨_, hh⟩
theorem Kt.grown {w w' w2 : World} {ts : List TypeId} (h : Kt ts w w') {base : Nat} {E : TypeId} {sz n : Nat} {v : Value} {xs : List Value} (ho : w'.ownsRow base E sz v n xs) (hg : w'.grownBy w2 v.ownBlock) (ht : E ∈ ts) : Kt ts w w2 := h.same fun q cs t fr hq hn => hg.block q (lt_of_block hq) fun e => by
  obtain ⟨cur, hc⟩ := own_typed ho e.symm
  rw [hq] at hc; cases hc; exact hn ht
theorem own_kt {B : Nat} {e : TypeId} {k n : Nat} {v : Value} {xs : List Value} {w w' : World} {ts : List TypeId} (h : w.ownsRow B e k v n xs) (hk : Kt ts w w') (ht : e ∉ ts) : w'.ownsRow B e k v n xs := own_kept h fun q cs _ hh => hk q cs e _ hh ht
theorem Kt.cell {w w' : World} {ts : List TypeId} (h : Kt ts w w') {q i : Nat} {cs : Array Value} {t : TypeId} {fr : Nat × Nat} {v : Value} (hq : w.heap[q]? = some (.cells cs t fr)) (ht : t ∉ ts) (hc : w.cell? ⟨q, i, none⟩ = some v) : w'.cell? ⟨q, i, none⟩ = some v :=
  (World.cell?_of_block (a := ⟨q, i, none⟩) (h q cs t fr hq ht)).trans hc
end Go.Proofs.Ytnkjkaofgninnaa
