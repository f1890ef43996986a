/- A journal in memory: its image, its records, and the device that it lies on. No condition. -/
import Derived.Test.YtpchmdfkifbciaaJnChain
namespace Go.Proofs.Ytpchmdfkifbciaa
open Go.RowKit

/-- A row of the program's own stays where its block stays. -/
theorem ownsRow_blk {w w' : World} {base : Nat} {e : TypeId} {size : Nat} {v : Value} {n : Nat} {xs : List Value} (h : w.ownsRow base e size v n xs) (hb : ∀ k, v.ownBlock = some k → w'.heap[k]? = w.heap[k]?) : w'.ownsRow base e size v n xs := by
  obtain ⟨h1, h2⟩ := h
  refine ⟨h1, ?_⟩
  rcases h2 with h2 | ⟨g, cap, cur, hv, hg, hh, r⟩
  · exact Or.inl h2
  · exact Or.inr ⟨g, cap, cur, hv, hg, by rw [hb g (by rw [hv]; rfl)]; exact hh, r⟩
/-- Its block is of its elements' type: it is no other's. -/
theorem ownsRow_ne {w : World} {base : Nat} {e t : TypeId} {size b : Nat} {v : Value} {n : Nat} {xs : List Value} {cs : Array Value} {fr : Nat × Nat} (h : w.ownsRow base e size v n xs) (hb : w.heap[b]? = some (.cells cs t fr)) (ht : t ≠ e) : ∀ k, v.ownBlock = some k → k ≠ b := by
  obtain ⟨h1, h2⟩ := h
  intro k hk hkb
  subst hkb
  rcases h2 with ⟨rfl, -⟩ | ⟨g, cap, cur, rfl, hg, hh, r⟩
  · cases hk
  · cases hk
    simp only at hb
    rw [hh] at hb
    simp at hb
    exact ht hb.2.1.symm
theorem ownsRow_shape {w : World} {base : Nat} {e : TypeId} {size : Nat} {v : Value} {n : Nat} {xs : List Value} (h : w.ownsRow base e size v n xs) : ∃ va vc, v = .slice va n vc := by
  obtain ⟨h1, h2⟩ := h
  rcases h2 with ⟨rfl, h0⟩ | ⟨g, cap, cur, rfl, -⟩
  · exact ⟨none, 0, by rw [h0]⟩
  · exact ⟨_, _, rfl⟩
theorem ownsRow_lt {w : World} {base : Nat} {e : TypeId} {size : Nat} {v : Value} {n : Nat} {xs : List Value} (h : w.ownsRow base e size v n xs) : ∀ k, v.ownBlock = some k → base ≤ k ∧ k < w.heap.size := fun k hk => World.ownsRow.lt h k hk
/-- v is a row of rows of bytes of the program's own, all in R. -/
structure Rws (w : World) (R : Nat → Prop) (v : Value) (ls : List (List UInt8)) (vs : List Value) : Prop where
  own : w.ownsRow 0 34 1 v ls.length vs
  at' : ∀ k, v.ownBlock = some k → R k
  rows : ∀ i (h : i < ls.length), ∃ u, vs[i]? = some u ∧ Own w 0 u ls[i] ∧ ∀ k, u.ownBlock = some k → R k
theorem Rws.nil (w : World) (R : Nat → Prop) : Rws w R (.slice none 0 0) [] [] := ⟨World.ownsRow_nil _ _ _ _, (fun k hk => by cases hk), (fun i h => by simp at h)⟩
theorem Rws.same {w w' : World} {R R' : Nat → Prop} {v : Value} {ls : List (List UInt8)} {vs : List Value} (h : Rws w R v ls vs) (hb : ∀ k, R k → w'.heap[k]? = w.heap[k]?) (hR : ∀ k, R k → R' k) : Rws w' R' v ls vs :=
  ⟨ownsRow_blk h.own fun k hk => hb k (h.at' k hk), fun k hk => hR k (h.at' k hk), fun i hi => by
    obtain ⟨u, h1, h2, h3⟩ := h.rows i hi
    exact ⟨u, h1, h2.blk fun k hk => hb k (h3 k hk), fun k hk => hR k (h3 k hk)⟩⟩
/-- What a journal has. -/
structure JS where
  image : List UInt8
  recs : List (List UInt8)
  down : Bool
/-- How many bytes its records' frames have. -/
def sizeJ (J : JS) : Nat := (framesB J.recs).length
/-- A journal lies at block jb, its device at db; all that is its own in R. -/
structure JnV (w : World) (jb db : Nat) (R : Nat → Prop) (J : JS) (iv rv : Value) (vs : List Value) : Prop where
  rb : R jb
  rlt : ∀ k, R k → k < w.heap.size
  head : w.heap[jb]? = some (.cells #[.pointer (some ⟨db, 0, none⟩), iv, rv, .int .i64 (sizeJ J : Nat), .bool J.down] 69 (0, 0))
  oi : Own w 0 iv J.image
  ii : ∀ k, iv.ownBlock = some k → R k
  rr : Rws w R rv J.recs vs
def Jn (w : World) (jb db : Nat) (R : Nat → Prop) (J : JS) : Prop := ∃ iv rv vs, JnV w jb db R J iv rv vs
theorem JnV.jn {w : World} {jb db : Nat} {R : Nat → Prop} {J : JS} {iv rv : Value} {vs : List Value} (h : JnV w jb db R J iv rv vs) : Jn w jb db R J := ⟨iv, rv, vs, h⟩
theorem JnV.lt {w : World} {jb db : Nat} {R : Nat → Prop} {J : JS} {iv rv : Value} {vs : List Value} (h : JnV w jb db R J iv rv vs) : jb < w.heap.size := lt_of_block h.head
theorem JnV.same {w w' : World} {jb db : Nat} {R R' : Nat → Prop} {J : JS} {iv rv : Value} {vs : List Value} (h : JnV w jb db R J iv rv vs) (hb : ∀ k, R k → w'.heap[k]? = w.heap[k]?) (hR : ∀ k, R k → R' k) (hR' : ∀ k, R' k → k < w'.heap.size) : JnV w' jb db R' J iv rv vs :=
  ⟨hR _ h.rb, hR', by rw [hb jb h.rb]; exact h.head, h.oi.blk fun k hk => hb k (h.ii k hk), fun k hk => hR k (h.ii k hk), h.rr.same hb hR⟩
theorem Jn.but {w w' : World} {jb db : Nat} {R R2 : Nat → Prop} {J : JS} (h : Jn w jb db R J) (hb : But R2 w w') (hd : ∀ k, R k → ¬ R2 k) : Jn w' jb db R J := by
  obtain ⟨_, _, _, h⟩ := h
  exact (h.same (fun k hk => hb.block k (h.rlt k hk) (hd k hk)) (fun _ h => h) (fun k hk => Nat.lt_of_lt_of_le (h.rlt k hk) hb.size)).jn
theorem Jn.rlt {w : World} {jb db : Nat} {R : Nat → Prop} {J : JS} (h : Jn w jb db R J) : ∀ k, R k → k < w.heap.size := by obtain ⟨_, _, _, h⟩ := h; exact h.rlt
theorem Jn.rb {w : World} {jb db : Nat} {R : Nat → Prop} {J : JS} (h : Jn w jb db R J) : R jb := by obtain ⟨_, _, _, h⟩ := h; exact h.rb
/-- The cells of a journal. -/
theorem cell_five {w : World} {b : Nat} {c0 c1 c2 c3 c4 : Value} {t : TypeId} (h : w.heap[b]? = some (.cells #[c0, c1, c2, c3, c4] t (0, 0))) :
    w.cell? ⟨b, 0, none⟩ = some c0 ∧ w.cell? ⟨b, 1, none⟩ = some c1 ∧ w.cell? ⟨b, 2, none⟩ = some c2 ∧ w.cell? ⟨b, 3, none⟩ = some c3 ∧ w.cell? ⟨b, 4, none⟩ = some c4 ∧ ∀ i, w.frozen? ⟨b, i, none⟩ = false := by
  refine ⟨?_, ?_, ?_, ?_, ?_, fun i => frozen_of_row w b _ _ _ h⟩ <;> (rw [cell_of_row w b _ _ _ _ h]; rfl)
/-- A journal and its device. -/
structure JDV (w : World) (jb db : Nat) (RJ RD : Nat → Prop) (S : DS) (J : JS) : Prop where
  j : Jn w jb db RJ J
  d : Dk w db RD S
  dis : ∀ k, RJ k → ¬ RD k
def Jd (w : World) (jb db : Nat) (R : Nat → Prop) (S : DS) (J : JS) : Prop := ∃ RJ RD, JDV w jb db RJ RD S J ∧ ∀ k, R k ↔ RJ k ∨ RD k
def JStep (w : World) (jb db : Nat) (R : Nat → Prop) (w' : World) (S' : DS) (J' : JS) : Prop := ∃ R', Jd w' jb db R' S' J' ∧ But R w w' ∧ ∀ k, R' k → R k ∨ w.heap.size ≤ k
theorem Jd.rlt {w : World} {jb db : Nat} {R : Nat → Prop} {S : DS} {J : JS} (h : Jd w jb db R S J) : ∀ k, R k → k < w.heap.size := by
  obtain ⟨RJ, RD, h, e⟩ := h
  intro k hk
  rcases (e k).1 hk with h' | h'
  · exact h.j.rlt k h'
  · exact h.d.rlt k h'
theorem Jd.ok {w : World} {jb db : Nat} {R : Nat → Prop} {S : DS} {J : JS} (h : Jd w jb db R S J) : Ok S := by obtain ⟨_, _, h, _⟩ := h; exact h.d.ok
theorem Jd.jlt {w : World} {jb db : Nat} {R : Nat → Prop} {S : DS} {J : JS} (h : Jd w jb db R S J) : jb < w.heap.size := by
  obtain ⟨RJ, RD, h, e⟩ := h; exact h.j.rlt _ h.j.rb
theorem Jd.dlt {w : World} {jb db : Nat} {R : Nat → Prop} {S : DS} {J : JS} (h : Jd w jb db R S J) : db < w.heap.size := by
  obtain ⟨RJ, RD, h, e⟩ := h; exact h.d.lt
theorem Jd.but {w w' : World} {jb db : Nat} {R R2 : Nat → Prop} {S : DS} {J : JS} (h : Jd w jb db R S J) (hb : But R2 w w') (hd : ∀ k, R k → ¬ R2 k) : Jd w' jb db R S J := by
  obtain ⟨RJ, RD, h, e⟩ := h
  exact ⟨RJ, RD, ⟨h.j.but hb fun k hk => hd k ((e k).2 (.inl hk)), h.d.but hb fun k hk => hd k ((e k).2 (.inr hk)), h.dis⟩, e⟩
theorem Jd.below {w w' : World} {jb db : Nat} {R : Nat → Prop} {S : DS} {J : JS} (h : Jd w jb db R S J) (hb : Below w.heap.size w w') : Jd w' jb db R S J :=
  h.but (But.of_below (R := fun _ => False) hb) fun _ _ h => h
theorem JStep.refl {w : World} {jb db : Nat} {R : Nat → Prop} {S : DS} {J : JS} (h : Jd w jb db R S J) : JStep w jb db R w S J := ⟨R, h, But.refl _ _, fun _ h => .inl h⟩
theorem JStep.of_below {w w' : World} {jb db : Nat} {R : Nat → Prop} {S : DS} {J : JS} (h : Jd w jb db R S J) (hb : Below w.heap.size w w') : JStep w jb db R w' S J := ⟨R, h.below hb, But.of_below hb, fun _ h => .inl h⟩
theorem jstep_trans {w w1 w2 : World} {jb db : Nat} {R R1 : Nat → Prop} {S2 : DS} {J2 : JS} (h : But R w w1) (hr : ∀ k, R1 k → R k ∨ w.heap.size ≤ k) (h2 : JStep w1 jb db R1 w2 S2 J2) : JStep w jb db R w2 S2 J2 := by
  obtain ⟨R2, d2, t2, r2⟩ := h2
  have hs := h.size
  exact ⟨R2, d2, h.trans t2 hr, fun k hk => by rcases r2 k hk with h | h <;> first | exact hr k h | exact .inr (by omega)⟩
theorem jstep_below {w w1 w2 : World} {jb db : Nat} {R : Nat → Prop} {S2 : DS} {J2 : JS} (h : Below w.heap.size w w1) (h2 : JStep w1 jb db R w2 S2 J2) : JStep w jb db R w2 S2 J2 := jstep_trans (But.of_below h) (fun _ h => .inl h) h2
theorem JStep.then {w w1 w2 : World} {jb db : Nat} {R : Nat → Prop} {S1 S2 : DS} {J1 J2 : JS} (h : JStep w jb db R w1 S1 J1) (h2 : ∀ R1, Jd w1 jb db R1 S1 J1 → JStep w1 jb db R1 w2 S2 J2) : JStep w jb db R w2 S2 J2 := by
  obtain ⟨R1, d1, t1, r1⟩ := h
  exact jstep_trans t1 r1 (h2 R1 d1)
theorem JStep.after {w w1 w2 : World} {jb db : Nat} {R : Nat → Prop} {S1 : DS} {J1 : JS} (h : JStep w jb db R w1 S1 J1) (h2 : Below w1.heap.size w1 w2) : JStep w jb db R w2 S1 J1 := h.then fun _ d => JStep.of_below d h2
/-- A call on the device alone. -/
theorem Jd.disk {w : World} {jb db : Nat} {R : Nat → Prop} {S S1 : DS} {J : JS} {f : FuncId} {args : Array Value} {v : Value} (h : Jd w jb db R S J)
    (hc : ∀ RD, Dk w db RD S → Calls Try.prog f args w fun e w' => e = .returned v ∧ Step w db RD w' S1) :
    Calls Try.prog f args w fun e w' => e = .returned v ∧ JStep w jb db R w' S1 J := by
  obtain ⟨RJ, RD, h, e⟩ := h
  refine (hc RD h.d).mono fun en w' hs => ⟨hs.1, ?_⟩
  obtain ⟨RD', d', t', r'⟩ := hs.2
  refine ⟨fun k => RJ k ∨ RD' k, ⟨RJ, RD', ⟨h.j.but t' h.dis, d', ?_⟩, fun _ => Iff.rfl⟩, ?_, ?_⟩
  · intro k hk hk'
    rcases r' k hk' with h' | h'
    · exact h.dis k hk h'
    · have := h.j.rlt k hk; omega
  · exact ⟨t'.os, t'.tape, t'.output, t'.size, fun k hk hn => t'.block k hk fun h' => hn ((e k).2 (.inr h'))⟩
  · intro k hk
    rcases hk with hk | hk
    · exact .inl ((e k).2 (.inl hk))
    · rcases r' k hk with h' | h'
      · exact .inl ((e k).2 (.inr h'))
      · exact .inr h'
/-- The journal's own blocks have turned, or new ones were made. -/
theorem JDV.turn {w w' : World} {jb db : Nat} {R RJ RD RJ' : Nat → Prop} {S : DS} {J J' : JS} (h : JDV w jb db RJ RD S J) (e : ∀ k, R k ↔ RJ k ∨ RD k) (t : But RJ w w') (j' : Jn w' jb db RJ' J') (r' : ∀ k, RJ' k → RJ k ∨ w.heap.size ≤ k) : JStep w jb db R w' S J' := by
  refine ⟨fun k => RJ' k ∨ RD k, ⟨RJ', RD, ⟨j', h.d.but t fun k hk hk' => h.dis k hk' hk, ?_⟩, fun _ => Iff.rfl⟩, ?_, ?_⟩
  · intro k hk hk'
    rcases r' k hk with h' | h'
    · exact h.dis k h' hk'
    · have := h.d.rlt k hk'; omega
  · exact ⟨t.os, t.tape, t.output, t.size, fun k hk hn => t.block k hk fun h' => hn ((e k).2 (.inl h'))⟩
  · intro k hk
    rcases hk with hk | hk
    · rcases r' k hk with h' | h'
      · exact .inl ((e k).2 (.inl h'))
      · exact .inr h'
    · exact .inl ((e k).2 (.inr hk))
theorem typeJ : 69 ≠ 5 ∧ 69 ≠ 34 := by decide
/-- The journal's own block has turned, no other. -/
theorem JnV.head' {w w' : World} {jb db : Nat} {R : Nat → Prop} {J J' : JS} {iv rv : Value} {vs : List Value} (h : JnV w jb db R J iv rv vs) (t : But (fun k => k = jb) w w') (hi : J'.image = J.image) (hr : J'.recs = J.recs)
    (head' : w'.heap[jb]? = some (.cells #[.pointer (some ⟨db, 0, none⟩), iv, rv, .int .i64 (sizeJ J' : Nat), .bool J'.down] 69 (0, 0))) : JnV w' jb db R J' iv rv vs := by
  have hb : ∀ (v : Value), (∀ k, v.ownBlock = some k → k ≠ jb) → (∀ k, v.ownBlock = some k → R k) → ∀ k, v.ownBlock = some k → w'.heap[k]? = w.heap[k]? := fun v h1 h2 k hk => t.block k (h.rlt k (h2 k hk)) (h1 k hk)
  refine ⟨h.rb, fun k hk => Nat.lt_of_lt_of_le (h.rlt k hk) t.size, head', ?_, h.ii, ?_⟩
  · rw [hi]; exact h.oi.blk (hb iv (ownsRow_ne h.oi h.head typeJ.1) h.ii)
  · rw [hr]
    refine ⟨ownsRow_blk h.rr.own (hb rv (ownsRow_ne h.rr.own h.head typeJ.2) h.rr.at'), h.rr.at', fun i hi => ?_⟩
    obtain ⟨u, h1, h2, h3⟩ := h.rr.rows i hi
    exact ⟨u, h1, h2.blk (hb u (ownsRow_ne h2 h.head typeJ.1) h3), h3⟩
def dn (J : JS) (er : Int) : JS := if er = 6 then { J with down := true } else J
theorem dn_size (J : JS) (er : Int) : sizeJ (dn J er) = sizeJ J := by unfold dn; split <;> rfl
end Go.Proofs.Ytpchmdfkifbciaa
