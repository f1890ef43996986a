/- Rows of bytes that a call makes for itself, as lists: what an append leaves, how such a row is read, and a Writer in memory. No condition. -/
import Derived.Test.YtabmnelenfghhaaCrc
import Derived.Laws.AppendOwnNone
namespace Go.Proofs.Ytabmnelenfghhaa
open Go.RowKit

def bv (c : UInt8) : Value := .int .u8 (c.toNat : Int)
theorem bv_one (l : List UInt8) : ∀ u ∈ l.map bv, u.oneCell' = true := by
  intro u hu
  obtain ⟨c, -, rfl⟩ := List.mem_map.1 hu
  rfl
theorem Try.underlyingB : Try.prog.underlying 25 = some (.slice 5) := by kernel_rfl
theorem Try.infoB : (Try.prog.info? 5).map (fun i => (i.zero, i.size, i.bytes)) = some (some (.int .u8 0), 1, 1) := by kernel_rfl

/-- The value v is a row of the call's own, its bytes are l. -/
def Own (w : World) (base : Nat) (v : Value) (l : List UInt8) : Prop := w.ownsRow base 5 1 v l.length (l.map bv)

theorem Own.nil (w : World) (base : Nat) : Own w base (.slice none 0 0) [] := World.ownsRow_nil _ _ _ _
theorem Own.shape {w : World} {base : Nat} {v : Value} {l : List UInt8} (h : Own w base v l) : ∃ va vc, v = .slice va l.length vc := by
  obtain ⟨h1, h2⟩ := h
  rcases h2 with ⟨rfl, h0⟩ | ⟨g, cap, cur, rfl, -⟩
  · exact ⟨none, 0, by rw [h0]⟩
  · exact ⟨_, _, rfl⟩
theorem Own.kept {w w' : World} {base : Nat} {v : Value} {l : List UInt8} (h : Own w base v l) (hb : ∀ k, base ≤ k → k < w.heap.size → w'.heap[k]? = w.heap[k]?) : Own w' base v l := by
  obtain ⟨h1, h2⟩ := h
  refine ⟨h1, ?_⟩
  rcases h2 with h2 | ⟨g, cap, cur, hv, hg, hh, r⟩
  · exact Or.inl h2
  · exact Or.inr ⟨g, cap, cur, hv, hg, by rw [hb g hg (lt_of_block hh)]; exact hh, r⟩
theorem Own.below {w w' : World} {base : Nat} {v : Value} {l : List UInt8} (h : Own w base v l) (hb : Below w.heap.size w w') : Own w' base v l :=
  h.kept fun k _ hk => hb.block k hk
theorem Own.lower {w : World} {base base' : Nat} {v : Value} {l : List UInt8} (h : Own w base v l) (hb : base' ≤ base) : Own w base' v l := by
  obtain ⟨h1, h2⟩ := h
  refine ⟨h1, ?_⟩
  rcases h2 with h2 | ⟨g, cap, cur, hv, hg, r⟩
  · exact Or.inl h2
  · exact Or.inr ⟨g, cap, cur, hv, by omega, r⟩
/-- A row of the call's own, read as any slice of bytes is. -/
theorem Own.bts {w : World} {base : Nat} {v : Value} {l : List UInt8} (h : Own w base v l) : Bts w v l := by
  have h' : w.ownsRow base 5 1 v l.length (l.map bv) := h
  obtain ⟨h1, h2⟩ := h
  rcases h2 with ⟨rfl, h0⟩ | ⟨g, cap, cur, rfl, hg, hh, hc, hm, hs, ht⟩
  · exact ⟨none, 0, 0, rfl, h0.symm, Nat.le_refl _, by omega, (fun _ => rfl), (fun ad h => by cases h)⟩
  · refine ⟨some ⟨g, 0, none⟩, l.length, cap, rfl, rfl, hc, hm, (fun h => by cases h), ?_⟩
    intro ad had j hj
    obtain rfl := Option.some.inj had
    have e := h'.cells rfl j (bv l[j]) (by simp [hj])
    exact e

/-- A slice of bytes stays what it is where its cells stay. -/
theorem Bts.kept {w w' : World} {v : Value} {l : List UInt8} (h : Bts w v l) (hb : ∀ k u, w.cell? k = some u → w'.cell? k = some u) : Bts w' v l := by
  obtain ⟨ao, n, cap, rfl, h1, h2, h3, h4, h5⟩ := h
  exact ⟨ao, n, cap, rfl, h1, h2, h3, h4, fun ad had j hj => hb _ _ (h5 ad had j hj)⟩
theorem Bts.below {w w' : World} {v : Value} {l : List UInt8} (h : Bts w v l) (hb : Below w.heap.size w w') : Bts w' v l :=
  h.kept fun _ _ hk => cell_later hb hk
theorem Bts.alloc {w : World} {v : Value} {l : List UInt8} (h : Bts w v l) (o : Obj) : Bts (w.alloc o) v l := h.below ((Below.refl _ _).alloc (Nat.le_refl _) _)
theorem Bts.shape {w : World} {v : Value} {l : List UInt8} (h : Bts w v l) : ∃ va vc, v = .slice va l.length vc := by
  obtain ⟨ao, n, cap, rfl, rfl, -⟩ := h; exact ⟨_, _, rfl⟩

/-- 'append(s, x...)', s of the call's own, x any slice of bytes. -/
theorem wpl_append {w : World} {ops : Array Oper} {rest : List Oper} {o : Oper} {a : Act} {Q : Exit → Act → World → Prop} (hgd : o.guard = none) (s x : Operand)
    (ho : o.op = .call { callee := .builtin .append, args := #[s, x], argTypes := #[25, 25] })
    (base : Nat) (v : Value) (l : List UInt8) (hs : a.eval s = v) (hown : Own w base v l) (u : Value) (m : List UInt8) (hx : a.eval x = u) (hu : Bts w u m)
    (hsz : l.length + m.length ≤ 140737488355328) (hbase : base ≤ w.heap.size)
    (h : ∀ va vc w', Own w' base (.slice va (l.length + m.length) vc) (l ++ m) → w.grownBy w' v.ownBlock → wpList Try.prog ops Q rest (a.put o.dst (.slice va (l.length + m.length) vc)) w') :
    wpList Try.prog ops Q (o :: rest) a w := by
  obtain ⟨i, hi, hz0, hz1, hz2⟩ := info_parts Try.infoB
  obtain ⟨ao, n, cap, rfl, rfl, hc, hm, hnone, hcell⟩ := hu
  cases ao with
  | none =>
    have h0 := hnone rfl
    subst h0
    have hm0 : m = [] := List.eq_nil_of_length_eq_zero (by omega)
    subst hm0
    obtain ⟨va, vc, rfl⟩ := hown.shape
    refine wpList_append_own_none hgd s x 25 ho base 5 i 1 Try.underlyingB hi _ _ _ hs hown hx ?_
    exact h va vc w (by simpa using hown) (World.grownBy.refl _ _)
  | some ad =>
    refine wpList_append_own w hgd s x 25 ho base 5 i (.int .u8 0) 1 1 Try.underlyingB hi hz0 hz1 hz2 rfl (by decide) v l.length (l.map bv) hs hown ad m.length cap (m.map bv) hx (by simp) ?_ (bv_one m) (by unfold maxLen; omega) (by omega) hbase ?_
    · intro j u hj
      have hlt : j < m.length := by
        rcases Nat.lt_or_ge j m.length with h | h
        · exact h
        · simp [List.getElem?_eq_none (l := m.map bv) (by simpa using h)] at hj
      have e := hcell ad rfl j hlt
      have : u = bv m[j] := by simpa [hlt] using hj.symm
      rw [this]; exact e
    · intro v' w' ho' hg _
      have ho2 : Own w' base v' (l ++ m) := by
        show w'.ownsRow _ _ _ _ (l ++ m).length ((l ++ m).map bv)
        rw [List.length_append, List.map_append]; exact ho'
      obtain ⟨va, vc, rfl⟩ := ho2.shape
      have e : (l ++ m).length = l.length + m.length := List.length_append
      rw [e] at ho2 ⊢
      exact h va vc w' ho2 hg

/-- A Writer lies at block b, what it has laid is l. -/
def Wr (w : World) (b : Nat) (l : List UInt8) : Prop := ∃ va vc, w.heap[b]? = some (.cells #[.slice va l.length vc] 30 (0, 0)) ∧ Own w (b + 1) (.slice va l.length vc) l

theorem Wr.kept {w w' : World} {b : Nat} {l : List UInt8} (h : Wr w b l) (hb : ∀ k, b ≤ k → k < w.heap.size → w'.heap[k]? = w.heap[k]?) : Wr w' b l := by
  obtain ⟨va, vc, h1, h2⟩ := h
  exact ⟨va, vc, by rw [hb b (Nat.le_refl _) (lt_of_block h1)]; exact h1, h2.kept fun k hk => hb k (by omega)⟩
theorem Wr.below {w w' : World} {b : Nat} {l : List UInt8} (h : Wr w b l) (hb : Below w.heap.size w w') : Wr w' b l := h.kept fun k _ hk => hb.block k hk
theorem Wr.lt {w : World} {b : Nat} {l : List UInt8} (h : Wr w b l) : b < w.heap.size := by
  obtain ⟨va, vc, h1, h2⟩ := h; exact lt_of_block h1
theorem Wr.new (w : World) : Wr (w.alloc (.cells #[.slice none 0 0] 30)) w.heap.size [] :=
  ⟨none, 0, heap_alloc_new _ _, Own.nil _ _⟩

/-- Behind an append to a row from b + 1 on block b is as it was; nothing below it has turned. -/
theorem grown_block {w w1 : World} {b : Nat} {v : Value} {l : List UInt8} (ho : Own w (b + 1) v l) (hg : w.grownBy w1 v.ownBlock) (hb : b < w.heap.size) : ∀ k, k ≤ b → w1.heap[k]? = w.heap[k]? := by
  intro k hk
  refine hg.block k (by omega) ?_
  intro e
  have := (World.ownsRow.lt ho k e.symm).1
  omega
theorem Wr.stored {w w1 : World} {b : Nat} {l m : List UInt8} {v va : Value} {vb : Option Addr} {vc : Nat} (ho : Own w (b + 1) v l) (h1 : w.heap[b]? = some (.cells #[va] 30 (0, 0))) (hg : w.grownBy w1 v.ownBlock)
    (ho1 : Own w1 (b + 1) (.slice vb m.length vc) m) : Wr (w1.setCell ⟨b, 0, none⟩ (.slice vb m.length vc)) b m ∧ Below b w (w1.setCell ⟨b, 0, none⟩ (.slice vb m.length vc)) := by
  have hlt := lt_of_block h1
  have hb := grown_block ho hg hlt
  refine ⟨⟨vb, vc, one_setCell (v := va) (by rw [hb b (Nat.le_refl _)]; exact h1), ?_⟩, ?_⟩
  · exact ho1.kept fun k hk _ => Below.heap_setCell w1 ⟨b, 0, none⟩ _ k (by simp; omega)
  · have hbel : Below b w w1 := ⟨hg.os, hg.tape, hg.output, hg.size, fun k hk => hb k (by omega)⟩
    exact hbel.setCell (p := ⟨b, 0, none⟩) (Nat.le_refl _) _

set_option maxHeartbeats 400000 in
theorem lay_any (b : Nat) (l : List UInt8) (u : Value) (m : List UInt8) (w : World) (hw : Wr w b l) (hu : Bts w u m) (hsz : l.length + m.length ≤ 140737488355328) :
    Calls Try.prog 66 #[.pointer (some ⟨b, 0, none⟩), u] w fun e w' => e = .returned (.tuple #[]) ∧ Wr w' b (l ++ m) ∧ Below b w w' := by
  have hlt := hw.lt
  have HU : Hid (Bts w u m) := hu
  obtain ⟨ua, uc, rfl⟩ := hu.shape
  clear hu
  obtain ⟨va, vc, h1, h2⟩ := hw
  have hc := cell_of_one h1
  have hf := free_of_one h1
  have H1 : Hid (w.heap[b]? = some (.cells #[.slice va l.length vc] 30 (0, 0))) := h1
  have H2 : Hid (Own w (b + 1) (.slice va l.length vc) l) := h2
  clear h1 h2
  go_enter Try.func66, Try.ntmps66
  go_wp2_with (at_builtin; refine wpl_append rfl _ _ rfl (b + 1) (.slice va l.length vc) l rfl H2.out _ m rfl HU.out hsz (by omega) ?_; intro va' vc' w1 ho1 hg1; have hk1 := grown_block H2.out hg1 hlt b (Nat.le_refl _); have hc1 : w1.cell? ⟨b, 0, none⟩ = some (.slice va l.length vc) := (World.cell?_of_block hk1).trans hc; have hf1 : w1.frozen? ⟨b, 0, none⟩ = false := (World.frozen?_of_block hk1).trans hf)
  go_end0
  have e : (l ++ m).length = l.length + m.length := List.length_append
  rw [← e] at ho1 ⊢
  exact ⟨rfl, Wr.stored H2.out H1.out hg1 ho1⟩
/-- '[]byte{}' is a row of the call's own. -/
theorem Own.empty (w : World) : Own (w.alloc (.cells #[] 5)) w.heap.size (.slice (some ⟨w.heap.size, 0, none⟩) 0 0) [] :=
  ⟨rfl, .inr ⟨w.heap.size, 0, #[], rfl, Nat.le_refl _, heap_alloc_new _ _, Nat.le_refl _, Nat.zero_le _, rfl, rfl⟩⟩
/-- A literal is a row of the call's own. -/
theorem Own.lit (w : World) (base : Nat) (l : List UInt8) (cs : Array Value) (hc : cs = (l.map bv).toArray) (hb : base ≤ w.heap.size) (n : Nat) (hn : n = l.length) (hl : n ≤ 9223372036854775807) :
    Own (w.alloc (.cells cs 5)) base (.slice (some ⟨w.heap.size, 0, none⟩) n n) l := by
  subst hc; subst hn
  exact ⟨by simp, .inr ⟨w.heap.size, l.length, _, rfl, hb, heap_alloc_new _ _, Nat.le_refl _, by unfold maxLen; omega, by simp, by simp [List.take_of_length_le]⟩⟩
theorem below_grown {B : Nat} {w w1 : World} {v : Value} {l : List UInt8} (ho : Own w B v l) (hg : w.grownBy w1 v.ownBlock) (hB : B ≤ w.heap.size) : Below B w w1 :=
  (Below.refl _ _).grown hg hB fun k hk => (World.ownsRow.lt ho k hk).1
/-- A block of bytes, as a slice. -/
theorem bts_block {W : World} {k : Nat} {cs : Array Value} {t : TypeId} {fr : Nat × Nat} (l : List UInt8) (h : W.heap[k]? = some (.cells cs t fr)) (hc : cs = (l.map bv).toArray) (n : Nat) (hn : n = l.length) (hl : n ≤ 9223372036854775807) :
    Bts W (.slice (some ⟨k, 0, none⟩) n n) l := by
  subst hc
  refine ⟨_, _, _, rfl, hn, Nat.le_refl _, hl, (fun h => by cases h), ?_⟩
  intro ad had j hj
  obtain rfl := Option.some.inj had
  rw [Addr.add_lit, cell_of_row W k _ _ _ _ h]
  simp [bv, hj]
theorem btss_nil (W : World) : Btss W (.slice none 0 0) [] := ⟨none, 0, 0, rfl, rfl, Nat.le_refl _, by omega, (fun _ => rfl), (fun ad h => by cases h)⟩
theorem btss_one {W : World} {k : Nat} {u : Value} {t : TypeId} {fr : Nat × Nat} {l : List UInt8} (h : W.heap[k]? = some (.cells #[u] t fr)) (hu : Bts W u l) : Btss W (.slice (some ⟨k, 0, none⟩) 1 1) [l] := by
  refine ⟨_, _, _, rfl, rfl, Nat.le_refl _, by omega, (fun h => by cases h), ?_⟩
  intro ad had j hj
  obtain rfl := Option.some.inj had
  obtain rfl : j = 0 := by simpa using hj
  exact ⟨u, by rw [Addr.add_lit, cell_of_row W k _ _ _ _ h]; rfl, hu⟩
theorem btss_two {W : World} {k : Nat} {u v : Value} {t : TypeId} {fr : Nat × Nat} {l m : List UInt8} (h : W.heap[k]? = some (.cells #[u, v] t fr)) (hu : Bts W u l) (hv : Bts W v m) : Btss W (.slice (some ⟨k, 0, none⟩) 2 2) [l, m] := by
  refine ⟨_, _, _, rfl, rfl, Nat.le_refl _, by omega, (fun h => by cases h), ?_⟩
  intro ad had j hj
  obtain rfl := Option.some.inj had
  match j, hj with
  | 0, _ => exact ⟨u, by rw [Addr.add_lit, cell_of_row W k _ _ _ _ h]; rfl, hu⟩
  | 1, _ => exact ⟨v, by rw [Addr.add_lit, cell_of_row W k _ _ _ _ h]; rfl, hv⟩
theorem heap3o (w : World) (A B C : Obj) : (((w.alloc A).alloc B).alloc C).heap[w.heap.size]? = some A ∧ (((w.alloc A).alloc B).alloc C).heap[w.heap.size + 1]? = some B ∧ (((w.alloc A).alloc B).alloc C).heap[w.heap.size + 1 + 1]? = some C := by
  have e1 : (w.alloc A).heap.size = w.heap.size + 1 := by simp
  have e2 : ((w.alloc A).alloc B).heap.size = w.heap.size + 1 + 1 := by simp
  refine ⟨?_, ?_, ?_⟩
  · rw [Below.heap_alloc _ C _ (by omega), Below.heap_alloc _ B _ (by omega)]; exact heap_alloc_new w A
  · rw [Below.heap_alloc _ C _ (by omega)]; have := heap_alloc_new (w.alloc A) B; rwa [e1] at this
  · have := heap_alloc_new ((w.alloc A).alloc B) C; rwa [e2] at this
end Go.Proofs.Ytabmnelenfghhaa
