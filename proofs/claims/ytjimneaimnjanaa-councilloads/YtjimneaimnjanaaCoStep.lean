/- A council and a Word in memory, and what a call that writes leaves: which blocks it may have turned. -/
import Derived.Test.YtjimneaimnjanaaCoMaj
import Derived.Maps.AppendAt
namespace Go.Proofs.Ytjimneaimnjanaa
open Go.RowKit
set_option linter.unusedVariables false
set_option linter.unusedSimpArgs false

/-- Only blocks of R may have turned. -/
structure Bt (R : Nat → Prop) (w w' : World) : Prop where
  os : w'.os = w.os
  tape : w'.tape = w.tape
  output : w'.output = w.output
  size : w.heap.size ≤ w'.heap.size
  block : ∀ q, q < w.heap.size → ¬ R q → w'.heap[q]? = w.heap[q]?
theorem Bt.refl (R : Nat → Prop) (w : World) : Bt R w w := ⟨rfl, rfl, rfl, Nat.le_refl _, fun _ _ _ => rfl⟩
theorem Bt.of_below {R : Nat → Prop} {w w' : World} (h : Below w.heap.size w w') : Bt R w w' := ⟨h.os, h.tape, h.output, h.size, fun q hq _ => h.block q hq⟩
/-- One behind the other: what turned in the second was of R, or new. -/
theorem Bt.trans {R R' : Nat → Prop} {w w1 w2 : World} (h : Bt R w w1) (k : Bt R' w1 w2) (hr : ∀ q, R' q → R q ∨ w.heap.size ≤ q) : Bt R w w2 :=
  ⟨k.os.trans h.os, k.tape.trans h.tape, k.output.trans h.output, Nat.le_trans h.size k.size, fun q hq hn => (k.block q (Nat.lt_of_lt_of_le hq h.size) fun hr' => (hr q hr').elim hn (fun h1 => by omega)).trans (h.block q hq hn)⟩
theorem Bt.set {R : Nat → Prop} {w w1 : World} (h : Bt R w w1) {X i : Nat} {v : Value} (hX : R X ∨ w.heap.size ≤ X) : Bt R w (w1.setCell ⟨X, i, none⟩ v) :=
  ⟨h.os, h.tape, h.output, by simp; exact h.size, fun q hq hn => (Below.heap_setCell w1 ⟨X, i, none⟩ v q fun e => by
    obtain rfl : q = X := e
    rcases hX with h1 | h1
    · exact hn h1
    · omega).trans (h.block q hq hn)⟩
theorem Bt.grown {R : Nat → Prop} {w w1 w2 : World} (h : Bt R w w1) {r : Option Nat} (hg : w1.grownBy w2 r) (hr : ∀ q, r = some q → R q ∨ w.heap.size ≤ q) : Bt R w w2 :=
  ⟨hg.os.trans h.os, hg.tape.trans h.tape, hg.output.trans h.output, Nat.le_trans h.size hg.size, fun q hq hn => (hg.block q (Nat.lt_of_lt_of_le hq h.size) fun e => by
    rcases hr q e.symm with h1 | h1
    · exact hn h1
    · omega).trans (h.block q hq hn)⟩
/-- The row v' is at v's block, or at one that is new. -/
def Nw (w : World) (v v' : Value) : Prop := ∀ q, v'.ownBlock = some q → v.ownBlock = some q ∨ w.heap.size ≤ q
theorem Nw.refl (w : World) (v : Value) : Nw w v v := fun _ h => .inl h
theorem Nw.trans {w w1 : World} {v v1 v2 : Value} (h : Nw w v v1) (k : Nw w1 v1 v2) (hs : w.heap.size ≤ w1.heap.size) : Nw w v v2 := fun q hq => by
  rcases k q hq with h1 | h1
  · exact h q h1
  · exact .inr (by omega)
/-- 'append(s, x...)', told where the row lies behind it. -/
theorem wp_appN {T E : TypeId} {z : Value} {sz bytes : Nat} (R : RowT T E z sz bytes) {o : Oper} {a : Act} {w : World} {K : Act → World → Prop} {Q : Exit → Act → World → Prop} (s x : Operand)
    (ho : o.op = .call { callee := .builtin .append, args := #[s, x], argTypes := #[T, T] })
    (v : Value) (n : Nat) (xs : List Value) (hs : a.eval s = v) (hown : w.ownsRow 0 E sz v n xs)
    (g m cap : Nat) (ys : List Value) (hx : a.eval x = .slice (some ⟨g, 0, none⟩) m cap) (hl : ys.length = m * sz) (hys : ∀ j u, ys[j]? = some u → w.cell? ⟨g, j, none⟩ = some u) (hone : ∀ u ∈ ys, u.oneCell' = true)
    (hn : n + m ≤ 1000000)
    (h : ∀ va vc w', w'.ownsRow 0 E sz (.slice va (n + m) vc) (n + m) (xs ++ ys) → w.grownBy w' v.ownBlock → Nw w v (.slice va (n + m) vc) → K (a.put o.dst (.slice va (n + m) vc)) w') : o.wp Try.prog a w K Q := by
  obtain ⟨i, hi, hz0, hz1, hz2⟩ := info_parts R.i
  have hb := R.b
  have hb2 : (n + m) * bytes ≤ 1000000 * 1000 := Nat.mul_le_mul hn hb
  obtain ⟨v', w', hr, h2, h3, h4, h5⟩ := run_append_own_at (P := Try.prog) w 0 T o.type E i z sz bytes R.u hi hz0 hz1 hz2 R.z R.p v n xs hown ⟨g, 0, none⟩ m cap ys hl (fun j u hj => by rw [Addr.add_lit, Nat.zero_add]; exact hys j u hj) hone (by unfold maxLen; omega) (by omega) (Nat.zero_le _)
  obtain ⟨va, vc, rfl⟩ := own_shape h2
  unfold Oper.wp execOp
  simp only [ho, resolve, invoke, builtin, Sem.run_bind, Sem.run_pure, Result.andThen_ok, List.map_toArray, List.map_cons, List.map_nil, hs, hx, hr]
  refine h va vc w' h2 h3 fun q hq => ?_
  rcases h5 with h5 | h5
  · exact .inl (h5 ▸ hq)
  · rw [h5] at hq; cases hq; exact .inr (Nat.le_refl _)
theorem rowEn : RowT 27 73 (.agg #[.int .i64 0, .int .i64 0, .string ⟨#[]⟩]) 3 32 := ⟨by kernel_rfl, by kernel_rfl, rfl, by decide, by decide⟩
theorem evs_snoc (l : List En) (x : En) : evs (l ++ [x]) = evs l ++ [.int .i64 x.term, .int .i64 x.kind, .string x.text] := by simp [evs]

/-- News. -/
structure Nz where
  index : Int
  e : En
  snap : Bool
def nzs (l : List Nz) : List Value := l.flatMap fun x => [.int .i64 x.index, .int .i64 x.e.term, .int .i64 x.e.kind, .string x.e.text, .bool x.snap]
/-- What a Word has: whether it says Keep, its mails (their cells), its news. -/
structure WdD where
  keep : Bool
  mails : List (List Value)
  news : List Nz
/-- The Word W lies at the block b. -/
structure Wd (w : World) (b : Nat) (ms ns : Value) (W : WdD) : Prop where
  head : w.heap[b]? = some (.cells #[.bool W.keep, ms, ns] 61 (0, 0))
  mails : w.ownsRow 0 55 28 ms W.mails.length W.mails.flatten
  news : w.ownsRow 0 75 5 ns W.news.length (nzs W.news)
/-- The blocks of a council and a Word. -/
def Blk (b wb : Nat) (lv ms ns : Value) (q : Nat) : Prop := q = b ∨ q = wb ∨ lv.ownBlock = some q ∨ ms.ownBlock = some q ∨ ns.ownBlock = some q
/-- What a call that writes leaves. -/
def CStep (w : World) (b wb : Nat) (lv ms ns : Value) (w' : World) (D' : CoD) (W' : WdD) : Prop :=
  ∃ lv' ms' ns', Co w' 0 b lv' D' ∧ Wd w' wb ms' ns' W' ∧ Bt (Blk b wb lv ms ns) w w' ∧ Nw w lv lv' ∧ Nw w ms ms' ∧ Nw w ns ns'
theorem CStep.of_below {w w' : World} {b wb : Nat} {lv ms ns : Value} {D : CoD} {W : WdD} (h : Co w 0 b lv D) (k : Wd w wb ms ns W) (hb : Below w.heap.size w w') : CStep w b wb lv ms ns w' D W :=
  ⟨lv, ms, ns, h.below hb, ⟨(hb.block wb (lt_of_block k.head)).trans k.head, own_below k.mails hb, own_below k.news hb⟩, .of_below hb, .refl _ _, .refl _ _, .refl _ _⟩
theorem Blk.new {w : World} {b wb : Nat} {lv ms ns lv' ms' ns' : Value} (h1 : Nw w lv lv') (h2 : Nw w ms ms') (h3 : Nw w ns ns') : ∀ q, Blk b wb lv' ms' ns' q → Blk b wb lv ms ns q ∨ w.heap.size ≤ q := by
  rintro q (h | h | h | h | h)
  · exact .inl (.inl h)
  · exact .inl (.inr (.inl h))
  · rcases h1 q h with k | k
    · exact .inl (.inr (.inr (.inl k)))
    · exact .inr k
  · rcases h2 q h with k | k
    · exact .inl (.inr (.inr (.inr (.inl k))))
    · exact .inr k
  · rcases h3 q h with k | k
    · exact .inl (.inr (.inr (.inr (.inr k))))
    · exact .inr k
theorem CStep.trans {w w1 w2 : World} {b wb : Nat} {lv ms ns : Value} {D1 D2 : CoD} {W1 W2 : WdD} (h : CStep w b wb lv ms ns w1 D1 W1)
    (k : ∀ lv1 ms1 ns1, Co w1 0 b lv1 D1 → Wd w1 wb ms1 ns1 W1 → CStep w1 b wb lv1 ms1 ns1 w2 D2 W2) : CStep w b wb lv ms ns w2 D2 W2 := by
  obtain ⟨lv1, ms1, ns1, hc, hw, hb, n1, n2, n3⟩ := h
  obtain ⟨lv2, ms2, ns2, hc2, hw2, hb2, m1, m2, m3⟩ := k lv1 ms1 ns1 hc hw
  exact ⟨lv2, ms2, ns2, hc2, hw2, hb.trans hb2 (Blk.new n1 n2 n3), n1.trans m1 hb.size, n2.trans m2 hb.size, n3.trans m3 hb.size⟩
end Go.Proofs.Ytjimneaimnjanaa
