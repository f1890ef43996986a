/- Rows of bytes that a call makes for itself, rows of such rows, parts of a row. No condition. -/
import Derived.Test.YtpchmdfkifbciaaJnCrc
namespace Go.Proofs.Ytpchmdfkifbciaa
open Go.RowKit

theorem bv_num (n : Nat) (h : n < 256) : bv (UInt8.ofNat n) = .int .u8 (n : Int) := by
  unfold bv; rw [UInt8.toNat_ofNat', Nat.mod_eq_of_lt (by simpa using h)]
/-- A literal is a row of the call's own. -/
theorem Own.lit (w : World) (base : Nat) (l : List UInt8) (cs : Array Value) (hc : cs = (l.map bv).toArray) (hb : base ≤ w.heap.size) (n : Nat) (hn : n = l.length) (hl : n ≤ 9223372036854775807) :
    Own (w.alloc (.cells cs 5)) base (.slice (some ⟨w.heap.size, 0, none⟩) n n) l := by
  subst hc; subst hn
  exact ⟨by simp, .inr ⟨w.heap.size, l.length, _, rfl, hb, heap_alloc_new _ _, Nat.le_refl _, by unfold maxLen; omega, by simp, by simp [List.take_of_length_le]⟩⟩
theorem below_grown {B : Nat} {w w1 : World} {v : Value} {l : List UInt8} (ho : Own w B v l) (hg : w.grownBy w1 v.ownBlock) (hB : B ≤ w.heap.size) : Below B w w1 :=
  (Below.refl _ _).grown hg hB fun k hk => (World.ownsRow.lt ho k hk).1
theorem btss_nil (W : World) : Btss W (.slice none 0 0) [] := ⟨none, 0, 0, rfl, rfl, Nat.le_refl _, by omega, (fun _ => rfl), (fun ad h => by cases h)⟩
theorem btss_one {W : World} {k : Nat} {u : Value} {t : TypeId} {fr : Nat × Nat} {l : List UInt8} (h : W.heap[k]? = some (.cells #[u] t fr)) (hu : Bts W u l) : Btss W (.slice (some ⟨k, 0, none⟩) 1 1) [l] := by
  refine ⟨_, _, _, rfl, rfl, Nat.le_refl _, by omega, (fun h => by cases h), ?_⟩
  intro ad had j hj
  obtain rfl := Option.some.inj had
  obtain rfl : j = 0 := by simpa using hj
  exact ⟨u, by rw [Addr.add_lit, cell_of_row W k _ _ _ _ h]; rfl, hu⟩
theorem btss_two {W : World} {k : Nat} {u v : Value} {t : TypeId} {fr : Nat × Nat} {l m : List UInt8} (h : W.heap[k]? = some (.cells #[u, v] t fr)) (hu : Bts W u l) (hv : Bts W v m) : Btss W (.slice (some ⟨k, 0, none⟩) 2 2) [l, m] := by
  refine ⟨_, _, _, rfl, rfl, Nat.le_refl _, by omega, (fun h => by cases h), ?_⟩
  intro ad had j hj
  obtain rfl := Option.some.inj had
  match j, hj with
  | 0, _ => exact ⟨u, by rw [Addr.add_lit, cell_of_row W k _ _ _ _ h]; rfl, hu⟩
  | 1, _ => exact ⟨v, by rw [Addr.add_lit, cell_of_row W k _ _ _ _ h]; rfl, hv⟩
theorem heap3 (w : World) (A B C : Obj) : (((w.alloc A).alloc B).alloc C).heap[w.heap.size]? = some A ∧ (((w.alloc A).alloc B).alloc C).heap[w.heap.size + 1]? = some B ∧ (((w.alloc A).alloc B).alloc C).heap[w.heap.size + 1 + 1]? = some C := by
  have e1 : (w.alloc A).heap.size = w.heap.size + 1 := by simp
  have e2 : ((w.alloc A).alloc B).heap.size = w.heap.size + 1 + 1 := by simp
  refine ⟨?_, ?_, ?_⟩
  · rw [Below.heap_alloc _ C _ (by omega), Below.heap_alloc _ B _ (by omega)]; exact heap_alloc_new w A
  · rw [Below.heap_alloc _ C _ (by omega)]; have := heap_alloc_new (w.alloc A) B; rwa [e1] at this
  · have := heap_alloc_new ((w.alloc A).alloc B) C; rwa [e2] at this
theorem Bts.take {w : World} {n m cap : Nat} {l : List UInt8} {ao : Option Addr} (hb : Bts w (.slice ao m cap) l) (hn : n ≤ l.length) : Bts w (.slice ao n cap) (l.take n) := by
  obtain ⟨ao1, n1, cap1, e, h1, h2, h3, h4, h5⟩ := hb
  cases e
  refine ⟨_, _, _, rfl, by simp; omega, by omega, h3, h4, fun ad had j hj => ?_⟩
  rw [h5 ad had j (by simp at hj; omega)]
  simp
theorem Bts.sub {w : World} {m cap k n : Nat} {l : List UInt8} {ao ao' : Option Addr} (hb : Bts w (.slice ao m cap) l) (hk : k + n ≤ l.length) (hd : cap ≠ k → ao' = ao.map (·.add k)) (hd1 : cap = k → ao' = ao) : Bts w (.slice ao' n (cap - k)) ((l.drop k).take n) := by
  obtain ⟨ao1, n1, cap1, e, h1, h2, h3, h4, h5⟩ := hb
  cases e
  refine ⟨_, _, _, rfl, by simp; omega, by omega, by omega, ?_, fun ad had j hj => ?_⟩
  · intro h
    by_cases hc : cap = k
    · omega
    · rw [hd hc] at h
      cases ao with
      | none => have := h4 rfl; omega
      | some a => cases h
  · have hj' : j < n := by simp at hj; omega
    have hc : cap ≠ k := by omega
    rw [hd hc] at had
    cases ao with
    | none => cases had
    | some a =>
      obtain rfl := Option.some.inj had
      rw [Addr.add_add, h5 a rfl (k + j) (by omega)]
      simp
theorem wpl_appendO {w : World} {ops : Array Oper} {rest : List Oper} {o : Oper} {a : Act} {Q : Exit → Act → World → Prop} (hgd : o.guard = none) (s x : Operand)
    (ho : o.op = .call { callee := .builtin .append, args := #[s, x], argTypes := #[34, 34] })
    (base : Nat) (v : Value) (l : List UInt8) (hs : a.eval s = v) (hown : Own w base v l) (u : Value) (m : List UInt8) (hx : a.eval x = u) (hu : Bts w u m)
    (hsz : l.length + m.length ≤ 140737488355328) (hbase : base ≤ w.heap.size)
    (h : ∀ va vc w', Own w' base (.slice va (l.length + m.length) vc) (l ++ m) → w.grownBy w' v.ownBlock → wpList Try.prog ops Q rest (a.put o.dst (.slice va (l.length + m.length) vc)) w') :
    wpList Try.prog ops Q (o :: rest) a w :=
  wpl_append hgd s x ho base v l hs hown u m hx hu hsz hbase fun va vc w' h1 h2 _ => h va vc w' h1 h2
end Go.Proofs.Ytpchmdfkifbciaa
