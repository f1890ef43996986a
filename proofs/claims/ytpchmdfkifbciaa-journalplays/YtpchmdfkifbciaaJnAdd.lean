/- What Add, Sync, Save and Format of a journal answer and leave. Conditions: the journal and its device lie in memory; its records' frames are not longer than the log. -/
import Derived.Test.YtpchmdfkifbciaaJnLay
namespace Go.Proofs.Ytpchmdfkifbciaa
open Go.RowKit

theorem Try.underlyingBB : Try.prog.underlying 35 = some (.slice 34) := by kernel_rfl
theorem Try.infoBB : (Try.prog.info? 34).map (fun i => (i.zero, i.size, i.bytes)) = some (some (.slice none 0 0), 1, 24) := by kernel_rfl
/-- An append of one row to a row of rows. -/
theorem run_append_row (w : World) (ty : TypeId) (v : Value) (n : Nat) (vs : List Value) (hown : w.ownsRow 0 34 1 v n vs) (g : Nat) (c : Nat) (u : Value) (hu : w.cell? ⟨g, 0, none⟩ = some u) (h1 : u.oneCell' = true) (hn : n ≤ 1000000000) :
    ∃ v' w', (Builtin.append_ #[35, 35] ty #[v, .slice (some ⟨g, 0, none⟩) 1 c]).run Try.prog w = .ok v' w' ∧ w'.ownsRow 0 34 1 v' (n + 1) (vs ++ [u]) ∧ w.grownBy w' v.ownBlock ∧ (v'.ownBlock = v.ownBlock ∨ v'.ownBlock = some w.heap.size) := by
  obtain ⟨i, hi, hz0, hz1, hz2⟩ := info_parts Try.infoBB
  obtain ⟨v', w', hr, h2, h3, -, h5⟩ := run_append_own_at (P := Try.prog) w 0 35 ty 34 i (.slice none 0 0) 1 24 Try.underlyingBB hi hz0 hz1 hz2 rfl (by decide) v n vs hown ⟨g, 0, none⟩ 1 c [u] rfl (by
    intro j x hj
    match j with
    | 0 => simp at hj; subst hj; exact hu
    | j + 1 => simp at hj) (by intro x hx; simp at hx; subst hx; exact h1) (by unfold maxLen; omega) (by omega) (Nat.zero_le _)
  exact ⟨v', w', hr, h2, h3, h5⟩
theorem step_append_row {ops : Array Oper} {o : Oper} {a : Act} {w : World} {K : Act → World → Prop} {Q : Exit → Act → World → Prop} {E : Prop} (hg : o.guard = none) (s x : Operand)
    (hop : o.op = Op.call { callee := Callee.builtin Builtin.append, args := #[s, x], argTypes := #[35, 35] })
    (v : Value) (n : Nat) (vs : List Value) (hs : a.eval s = v) (hown : w.ownsRow 0 34 1 v n vs) (g c : Nat) (u : Value) (hx : a.eval x = .slice (some ⟨g, 0, none⟩) 1 c) (hu : w.cell? ⟨g, 0, none⟩ = some u) (h1 : u.oneCell' = true) (hn : n ≤ 1000000000)
    (hK : ∀ va vc w', w'.ownsRow 0 34 1 (.slice va (n + 1) vc) (n + 1) (vs ++ [u]) → w.grownBy w' v.ownBlock → ((Value.slice va (n + 1) vc).ownBlock = v.ownBlock ∨ (Value.slice va (n + 1) vc).ownBlock = some w.heap.size) → K (a.put o.dst (.slice va (n + 1) vc)) w') :
    if Region.wanted o (yielded ops a.tmps) = true then Oper.wp Try.prog o a w K Q else E := by
  have hw : Region.wanted o (yielded ops a.tmps) = true := by simp [Region.wanted, hg]
  rw [if_pos hw]
  obtain ⟨v', w', hr, h2, h3, h4⟩ := run_append_row w o.type v n vs hown g c u hu h1 hn
  obtain ⟨va, vc, rfl⟩ := ownsRow_shape h2
  unfold Oper.wp
  simp [execOp, hop, resolve, invoke, builtin, hs, hx, hr, Result.andThen]
  exact hK va vc w' h2 h3 h4
theorem slice_one (va : Option Addr) (n c : Nat) : (Value.slice va n c).oneCell' = true := rfl
/-- A record more: what the journal is, where its row has grown by a row of its own. w: ahead of all; w1: ahead of the append; w2: behind it. -/
theorem JDV.added {w w1 w2 : World} {jb db : Nat} {R RJ RD : Nat → Prop} {S : DS} {J : JS} {iv rv u v' : Value} {vs : List Value} {r : List UInt8} (h : JDV w jb db RJ RD S J) (e : ∀ k, R k ↔ RJ k ∨ RD k) (hj : JnV w jb db RJ J iv rv vs)
    (hb : Below w.heap.size w w1) (hu : Own w1 w.heap.size u r) (hg : w1.grownBy w2 rv.ownBlock) (ho : w2.ownsRow 0 34 1 v' (J.recs.length + 1) (vs ++ [u])) (hat : v'.ownBlock = rv.ownBlock ∨ v'.ownBlock = some w1.heap.size) (z : Int) (hz : z = (sizeJ J + r.length + 8 : Nat)) :
    JStep w jb db R ((w2.setCell ⟨jb, 2, none⟩ v').setCell ⟨jb, 3, none⟩ (.int .i64 z)) S { J with recs := J.recs ++ [r] } := by
  subst hz
  have hs1 := hb.size
  have hs2 := hg.size
  have hjlt := hj.lt
  -- blocks of the journal that are not the row's
  have keep : ∀ k, RJ k → rv.ownBlock ≠ some k → w2.heap[k]? = w.heap[k]? := fun k hk hn => (hg.block k (by have := hj.rlt k hk; omega) (fun e => hn e.symm)).trans (hb.block k (hj.rlt k hk))
  have h1 : w1.heap[jb]? = some (.cells #[.pointer (some ⟨db, 0, none⟩), iv, rv, .int .i64 (sizeJ J : Nat), .bool J.down] 69 (0, 0)) := (hb.block jb hjlt).trans hj.head
  have hjr : rv.ownBlock ≠ some jb := fun e => ownsRow_ne hj.rr.own hj.head typeJ.2 jb e rfl
  have h2 : w2.heap[jb]? = some (.cells #[.pointer (some ⟨db, 0, none⟩), iv, rv, .int .i64 (sizeJ J : Nat), .bool J.down] 69 (0, 0)) := (keep jb hj.rb hjr).trans hj.head
  have hw3 : ∀ k, k ≠ jb → ((w2.setCell ⟨jb, 2, none⟩ v').setCell ⟨jb, 3, none⟩ (.int .i64 (sizeJ J + r.length + 8 : Nat))).heap[k]? = w2.heap[k]? := fun k hk => by
    rw [Below.heap_setCell _ _ _ _ (by simpa using hk), Below.heap_setCell _ _ _ _ (by simpa using hk)]
  have hs3 : ((w2.setCell ⟨jb, 2, none⟩ v').setCell ⟨jb, 3, none⟩ (.int .i64 (sizeJ J + r.length + 8 : Nat))).heap.size = w2.heap.size := by simp [World.setCell]
  have hu2 : Own w2 0 u r := (hu.lower (Nat.zero_le _)).blk fun k hk => hg.block k (hu.lt k hk).2 (fun e => by have := (hu.lt k hk).1; have := hj.rlt k (hj.rr.at' k e.symm); omega)
  have hv'R : ∀ k, v'.ownBlock = some k → RJ k ∨ w.heap.size ≤ k := fun k hk => by
    rcases hat with e | e
    · rw [e] at hk; exact .inl (hj.rr.at' k hk)
    · rw [e] at hk; cases hk; exact .inr hs1
  have hsz : sizeJ { J with recs := J.recs ++ [r] } = sizeJ J + r.length + 8 := by simp [sizeJ, framesB, frameB_len]; omega
  refine h.turn (RJ' := fun k => RJ k ∨ u.ownBlock = some k ∨ v'.ownBlock = some k) e ?_ (JnV.jn (iv := iv) (rv := v') (vs := vs ++ [u]) ⟨.inl hj.rb, ?_, ?_, ?_, fun k hk => .inl (hj.ii k hk), ?_, fun k hk => .inr (.inr hk), ?_⟩) ?_
  · refine ((But.of_below hb).trans (R1 := RJ) (But.grown hg hj.rr.at') (fun _ h => .inl h) |>.set (.inl hj.rb)).set (.inl hj.rb)
  · intro k hk
    rw [hs3]
    rcases hk with hk | hk | hk
    · have := hj.rlt k hk; omega
    · have := (hu2.lt k hk).2; omega
    · exact (ownsRow_lt ho k hk).2
  · rw [hsz]
    exact heap_setCell_same _ jb 3 _ _ _ (heap_setCell_same w2 jb 2 _ _ _ h2)
  · refine hj.oi.blk fun k hk => ?_
    have hne := ownsRow_ne hj.oi hj.head typeJ.1 k hk
    rw [hw3 k hne]
    refine keep k (hj.ii k hk) fun e => ?_
    obtain ⟨va, vc, rfl⟩ := ownsRow_shape hj.rr.own
    obtain ⟨-, hh | ⟨g, cap, cur, e1, -, e2, -⟩⟩ := hj.rr.own
    · rw [hh.1] at e; cases e
    · rw [e1] at e
      cases e
      exact ownsRow_ne hj.oi e2 (by decide) _ hk rfl
  · rw [List.length_append]
    refine ownsRow_blk ho fun k hk => hw3 k ?_
    exact ownsRow_ne ho h2 typeJ.2 k hk
  · intro i hi
    have hl : (J.recs ++ [r]).length = J.recs.length + 1 := by simp
    have hvl : vs.length = J.recs.length := by have := hj.rr.own.1; omega
    by_cases hlt : i < J.recs.length
    · obtain ⟨x, g1, g2, g3⟩ := hj.rr.rows i hlt
      refine ⟨x, by rw [List.getElem?_append_left (by omega)]; exact g1, ?_, fun k hk => .inl (g3 k hk)⟩
      have er : (J.recs ++ [r])[i] = J.recs[i] := List.getElem_append_left hlt
      rw [er]
      refine g2.blk fun k hk => ?_
      rw [hw3 k (ownsRow_ne g2 hj.head typeJ.1 k hk)]
      refine keep k (g3 k hk) fun e => ?_
      obtain ⟨-, hh | ⟨g, cap, cur, e1, -, e2, -⟩⟩ := hj.rr.own
      · rw [hh.1] at e; cases e
      · rw [e1] at e
        cases e
        exact ownsRow_ne g2 e2 (by decide) _ hk rfl
    · obtain rfl : i = J.recs.length := by simp only at hi; omega
      refine ⟨u, by rw [List.getElem?_append_right (by omega), hvl]; simp, ?_, fun k hk => .inr (.inl hk)⟩
      have er : (J.recs ++ [r])[J.recs.length] = r := by simp
      rw [er]
      exact hu2.blk fun k hk => hw3 k (ownsRow_ne hu2 h2 typeJ.1 k hk)
  · intro k hk
    rcases hk with hk | hk | hk
    · exact .inl hk
    · exact .inr (hu.lt k hk).1
    · exact hv'R k hk
end Go.Proofs.Ytpchmdfkifbciaa
