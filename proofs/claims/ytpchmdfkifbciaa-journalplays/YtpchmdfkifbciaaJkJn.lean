/- The document's journal in memory, and its device: what Sync, Add and Save of it answer and leave. Conditions: they lie in memory; what is laid has at most MaxText bytes and lies below the bound B, or in blocks of the journal's own. -/
import Derived.Test.YtpchmdfkifbciaaJkRefD
import Derived.Test.YtpchmdfkifbciaaJnRefFrame
import Derived.Test.YtpchmdfkifbciaaJnCalm
namespace Go.Proofs.Ytpchmdfkifbciaa
open Go.RowKit

/-- The row v of the bytes l lies below B, or in a block of bytes of Y. -/
def InB (B : Nat) (Y : Nat → Prop) (w : World) (v : Value) (l : List UInt8) : Prop := l ≠ [] → ∀ k, v.ownBlock = some k → k < B ∨ (Y k ∧ ∃ cs fr, w.heap[k]? = some (.cells cs 5 fr))
theorem Bts.stays {B : Nat} {Y : Nat → Prop} {w w' : World} {v : Value} {l : List UInt8} (h : Bts w v l) (hi : InB B Y w v l) (hb : ∀ k, k < B ∨ Y k → w'.heap[k]? = w.heap[k]?) : Bts w' v l := by
  by_cases hl : l = []
  · subst hl; exact h.nil_any
  · exact h.blk fun k hk => hb k ((hi hl k hk).imp id And.left)
theorem InB.stays {B : Nat} {Y Y' : Nat → Prop} {w w' : World} {v : Value} {l : List UInt8} (hi : InB B Y w v l) (hy : ∀ k, Y k → Y' k) (hb : ∀ k cs fr, Y k → w.heap[k]? = some (.cells cs 5 fr) → w'.heap[k]? = w.heap[k]?) : InB B Y' w' v l := fun hl k hk => (hi hl k hk).imp id fun ⟨h1, cs, fr, h2⟩ => ⟨hy k h1, cs, fr, (hb k cs fr h1 h2).trans h2⟩
/-- The document's journal at xb, its device at xd. -/
structure XjV (B : Nat) (w : World) (xb xd : Nat) (Y : Nat → Prop) (J : JS) (iv rv : Value) (us : List Value) : Prop where
  yb : Y xb
  ylt : ∀ k, Y k → k < w.heap.size
  head : w.heap[xb]? = some (.cells #[.pointer (some ⟨xd, 0, none⟩), iv, rv, .bool J.down] 37 (0, 0))
  im : Bts w iv J.image
  imo : InB B Y w iv J.image
  ro : w.ownsRow 0 34 1 rv J.recs.length us
  ra : ∀ k, rv.ownBlock = some k → Y k
  rows : ∀ i (_ : i < J.recs.length), ∃ u, us[i]? = some u ∧ Bts w u J.recs[i] ∧ InB B Y w u J.recs[i]
def Xj (B : Nat) (w : World) (xb xd : Nat) (Y : Nat → Prop) (J : JS) : Prop := ∃ iv rv us, XjV B w xb xd Y J iv rv us
theorem XjV.same {B : Nat} {w w' : World} {xb xd : Nat} {Y : Nat → Prop} {J : JS} {iv rv : Value} {us : List Value} (h : XjV B w xb xd Y J iv rv us) (hs : w.heap.size ≤ w'.heap.size) (hb : ∀ k, k < B ∨ Y k → w'.heap[k]? = w.heap[k]?) : XjV B w' xb xd Y J iv rv us :=
  ⟨h.yb, fun k hk => Nat.lt_of_lt_of_le (h.ylt k hk) hs, by rw [hb xb (.inr h.yb)]; exact h.head, h.im.stays h.imo hb, h.imo.stays (fun _ h => h) (fun k _ _ hk _ => hb k (.inr hk)), ownsRow_blk h.ro fun k hk => hb k (.inr (h.ra k hk)), h.ra, fun i hi => by
    obtain ⟨u, g1, g2, g3⟩ := h.rows i hi
    exact ⟨u, g1, g2.stays g3 hb, g3.stays (fun _ h => h) (fun k _ _ hk _ => hb k (.inr hk))⟩⟩
/-- The document's journal and its device. -/
structure XDV (B : Nat) (w : World) (xb xd : Nat) (X Y : Nat → Prop) (S : DS) (J : JS) : Prop where
  j : Xj B w xb xd Y J
  d : Rk w xd X S
  dis : ∀ k, Y k → ¬ X k
  ax : ∀ k, X k → B ≤ k
  ay : ∀ k, Y k → B ≤ k
  bl : B ≤ w.heap.size
def Xd (B : Nat) (w : World) (xb xd : Nat) (Q : Nat → Prop) (S : DS) (J : JS) : Prop := ∃ X Y, XDV B w xb xd X Y S J ∧ ∀ k, Q k ↔ X k ∨ Y k
def XStep (B : Nat) (w : World) (xb xd : Nat) (Q : Nat → Prop) (w' : World) (S' : DS) (J' : JS) : Prop := ∃ Q', Xd B w' xb xd Q' S' J' ∧ But Q w w' ∧ ∀ k, Q' k → Q k ∨ w.heap.size ≤ k
theorem Xj.ylt {B : Nat} {w : World} {xb xd : Nat} {Y : Nat → Prop} {J : JS} (h : Xj B w xb xd Y J) : ∀ k, Y k → k < w.heap.size := by obtain ⟨_, _, _, h⟩ := h; exact h.ylt
theorem Xj.but {B : Nat} {w w' : World} {xb xd : Nat} {Y R : Nat → Prop} {J : JS} (h : Xj B w xb xd Y J) (hb : But R w w') (hd : ∀ k, Y k → ¬ R k) (hB : ∀ k, R k → B ≤ k) (hl : B ≤ w.heap.size) : Xj B w' xb xd Y J := by
  obtain ⟨_, _, _, h⟩ := h
  refine ⟨_, _, _, h.same hb.size fun k hk => ?_⟩
  rcases hk with hk | hk
  · exact hb.block k (by omega) fun h' => by have := hB k h'; omega
  · exact hb.block k (h.ylt k hk) (hd k hk)
theorem Xd.lt {B : Nat} {w : World} {xb xd : Nat} {Q : Nat → Prop} {S : DS} {J : JS} (h : Xd B w xb xd Q S J) : ∀ k, Q k → B ≤ k ∧ k < w.heap.size := by
  obtain ⟨X, Y, h, e⟩ := h
  intro k hk
  rcases (e k).1 hk with h' | h'
  · exact ⟨h.ax k h', h.d.rlt k h'⟩
  · exact ⟨h.ay k h', h.j.ylt k h'⟩
theorem Xd.but {B : Nat} {w w' : World} {xb xd : Nat} {Q R : Nat → Prop} {S : DS} {J : JS} (h : Xd B w xb xd Q S J) (hb : But R w w') (hd : ∀ k, Q k → ¬ R k) (hB : ∀ k, R k → B ≤ k) : Xd B w' xb xd Q S J := by
  obtain ⟨X, Y, h, e⟩ := h
  exact ⟨X, Y, ⟨h.j.but hb (fun k hk => hd k ((e k).2 (.inr hk))) hB h.bl, h.d.but hb fun k hk => hd k ((e k).2 (.inl hk)), h.dis, h.ax, h.ay, Nat.le_trans h.bl hb.size⟩, e⟩
theorem Xd.below {B : Nat} {w w' : World} {xb xd : Nat} {Q : Nat → Prop} {S : DS} {J : JS} (h : Xd B w xb xd Q S J) (hb : Below w.heap.size w w') : Xd B w' xb xd Q S J :=
  h.but (But.of_below (R := fun _ => False) hb) (fun _ _ h => h) (fun _ h => h.elim)
theorem XStep.refl {B : Nat} {w : World} {xb xd : Nat} {Q : Nat → Prop} {S : DS} {J : JS} (h : Xd B w xb xd Q S J) : XStep B w xb xd Q w S J := ⟨Q, h, But.refl _ _, fun _ h => .inl h⟩
theorem xstep_trans {B : Nat} {w w1 w2 : World} {xb xd : Nat} {Q Q1 : Nat → Prop} {S2 : DS} {J2 : JS} (h : But Q w w1) (hr : ∀ k, Q1 k → Q k ∨ w.heap.size ≤ k) (h2 : XStep B w1 xb xd Q1 w2 S2 J2) : XStep B w xb xd Q w2 S2 J2 := by
  obtain ⟨R2, d2, t2, r2⟩ := h2
  have hs := h.size
  exact ⟨R2, d2, h.trans t2 hr, fun k hk => by rcases r2 k hk with h | h <;> first | exact hr k h | exact .inr (by omega)⟩
theorem xstep_below {B : Nat} {w w1 w2 : World} {xb xd : Nat} {Q : Nat → Prop} {S2 : DS} {J2 : JS} (h : Below w.heap.size w w1) (h2 : XStep B w1 xb xd Q w2 S2 J2) : XStep B w xb xd Q w2 S2 J2 := xstep_trans (But.of_below h) (fun _ h => .inl h) h2
/-- A call on the document's device alone. -/
theorem Xd.disk {B : Nat} {w : World} {xb xd : Nat} {Q : Nat → Prop} {S S1 : DS} {J : JS} {f : FuncId} {args : Array Value} {v : Value} (h : Xd B w xb xd Q S J)
    (hc : ∀ X, (∀ k, X k → Q k) → Rk w xd X S → Calls Try.prog f args w fun e w' => e = .returned v ∧ RStep w xd X w' S1) :
    Calls Try.prog f args w fun e w' => e = .returned v ∧ XStep B w xb xd Q w' S1 J := by
  obtain ⟨X, Y, h, e⟩ := h
  refine (hc X (fun k hk => (e k).2 (.inl hk)) h.d).mono fun en w' hs => ⟨hs.1, ?_⟩
  obtain ⟨X', d', t', r'⟩ := hs.2
  have hbl := h.bl
  refine ⟨fun k => X' k ∨ Y k, ⟨X', Y, ⟨h.j.but t' h.dis h.ax h.bl, d', ?_, ?_, h.ay, Nat.le_trans h.bl t'.size⟩, fun _ => Iff.rfl⟩, ?_, ?_⟩
  · intro k hk hk'
    rcases r' k hk' with h' | h'
    · exact h.dis k hk h'
    · have := h.j.ylt k hk; omega
  · intro k hk
    rcases r' k hk with h' | h'
    · exact h.ax k h'
    · omega
  · exact ⟨t'.os, t'.tape, t'.output, t'.size, fun k hk hn => t'.block k hk fun h' => hn ((e k).2 (.inl h'))⟩
  · intro k hk
    rcases hk with hk | hk
    · rcases r' k hk with h' | h'
      · exact .inl ((e k).2 (.inl h'))
      · exact .inr h'
    · exact .inl ((e k).2 (.inr hk))
/-- The journal's own blocks have turned, or new ones were made. -/
theorem XDV.turn {B : Nat} {w w' : World} {xb xd : Nat} {Q X Y Y' : Nat → Prop} {S : DS} {J J' : JS} (h : XDV B w xb xd X Y S J) (e : ∀ k, Q k ↔ X k ∨ Y k) (t : But Y w w') (j' : Xj B w' xb xd Y' J') (r' : ∀ k, Y' k → Y k ∨ w.heap.size ≤ k) : XStep B w xb xd Q w' S J' := by
  have hbl := h.bl
  refine ⟨fun k => X k ∨ Y' k, ⟨X, Y', ⟨j', h.d.but t fun k hk hk' => h.dis k hk' hk, ?_, h.ax, ?_, Nat.le_trans h.bl t.size⟩, fun _ => Iff.rfl⟩, ?_, ?_⟩
  · intro k hk hk'
    rcases r' k hk with h' | h'
    · exact h.dis k h' hk'
    · have := h.d.rlt k hk'; omega
  · intro k hk
    rcases r' k hk with h' | h'
    · exact h.ay k h'
    · omega
  · exact ⟨t.os, t.tape, t.output, t.size, fun k hk hn => t.block k hk fun h' => hn ((e k).2 (.inr h'))⟩
  · intro k hk
    rcases hk with hk | hk
    · exact .inl ((e k).2 (.inl hk))
    · rcases r' k hk with h' | h'
      · exact .inl ((e k).2 (.inr h'))
      · exact .inr h'
theorem typeX : 37 ≠ 34 := by decide
/-- The journal's own block has turned; its image, records and mark are as they are said. -/
theorem XjV.headed {B : Nat} {w w' : World} {xb xd : Nat} {Y : Nat → Prop} {J J' : JS} {iv rv iv' rv' : Value} {us us' : List Value} (h : XjV B w xb xd Y J iv rv us) (t : But (fun k => k = xb) w w') (hB : B ≤ xb) (hlt : B ≤ w.heap.size)
    (head' : w'.heap[xb]? = some (.cells #[.pointer (some ⟨xd, 0, none⟩), iv', rv', .bool J'.down] 37 (0, 0)))
    (im' : Bts w iv' J'.image) (imo' : InB B Y w iv' J'.image) (ro' : w.ownsRow 0 34 1 rv' J'.recs.length us') (ra' : ∀ k, rv'.ownBlock = some k → Y k)
    (rows' : ∀ i (_ : i < J'.recs.length), ∃ u, us'[i]? = some u ∧ Bts w u J'.recs[i] ∧ InB B Y w u J'.recs[i]) : XjV B w' xb xd Y J' iv' rv' us' := by
  have ne : ∀ k, (∃ cs fr, w.heap[k]? = some (.cells cs 5 fr)) → k ≠ xb := by
    rintro k ⟨cs, fr, hk⟩ e
    subst e
    rw [h.head] at hk
    simp at hk
  have bk : ∀ k, k < B → w'.heap[k]? = w.heap[k]? := fun k hk => t.block k (by omega) (by omega)
  have kp : ∀ {v : Value} {l : List UInt8}, Bts w v l → InB B Y w v l → Bts w' v l := by
    intro v l hb hk
    by_cases hl : l = []
    · subst hl; exact hb.nil_any
    · refine hb.blk fun k hv => ?_
      rcases hk hl k hv with h1 | ⟨h1, h2⟩
      · exact bk k h1
      · exact t.block k (h.ylt k h1) (ne k h2)
  have ki : ∀ {v : Value} {l : List UInt8}, InB B Y w v l → InB B Y w' v l := fun hk => hk.stays (fun _ h => h) (fun k cs fr hy hh => t.block k (h.ylt k hy) (ne k ⟨cs, fr, hh⟩))
  refine ⟨h.yb, fun k hk => Nat.lt_of_lt_of_le (h.ylt k hk) t.size, head', kp im' imo', ki imo', ownsRow_blk ro' fun k hk => t.block k (ownsRow_lt ro' k hk).2 fun e => ownsRow_ne ro' h.head typeX k hk e, ra', fun i hi => ?_⟩
  obtain ⟨u, g1, g2, g3⟩ := rows' i hi
  exact ⟨u, g1, kp g2 g3, ki g3⟩
theorem cell_four {w : World} {b : Nat} {c0 c1 c2 c3 : Value} {t : TypeId} (h : w.heap[b]? = some (.cells #[c0, c1, c2, c3] t (0, 0))) :
    w.cell? ⟨b, 0, none⟩ = some c0 ∧ w.cell? ⟨b, 1, none⟩ = some c1 ∧ w.cell? ⟨b, 2, none⟩ = some c2 ∧ w.cell? ⟨b, 3, none⟩ = some c3 ∧ ∀ i, w.frozen? ⟨b, i, none⟩ = false := by
  refine ⟨?_, ?_, ?_, ?_, fun i => frozen_of_row w b _ _ _ h⟩ <;> (rw [cell_of_row w b _ _ _ _ h]; rfl)
theorem Xd.cells {B : Nat} {w : World} {xb xd : Nat} {Q : Nat → Prop} {S : DS} {J : JS} (h : Xd B w xb xd Q S J) : ∃ iv rv us, w.cell? ⟨xb, 0, none⟩ = some (.pointer (some ⟨xd, 0, none⟩)) ∧ w.cell? ⟨xb, 1, none⟩ = some iv ∧ w.cell? ⟨xb, 2, none⟩ = some rv ∧ w.cell? ⟨xb, 3, none⟩ = some (.bool J.down) ∧ (∀ i, w.frozen? ⟨xb, i, none⟩ = false) ∧ Bts w iv J.image ∧ w.ownsRow 0 34 1 rv J.recs.length us ∧ xb < w.heap.size := by
  obtain ⟨X, Y, h, -⟩ := h
  obtain ⟨iv, rv, us, hj⟩ := h.j
  obtain ⟨c0, c1, c2, c3, cf⟩ := cell_four hj.head
  exact ⟨iv, rv, us, c0, c1, c2, c3, cf, hj.im, hj.ro, lt_of_block hj.head⟩
/-- The power has gone at a call: the journal is down. -/
theorem Xd.downed {B : Nat} {w : World} {xb xd : Nat} {Q : Nat → Prop} {S : DS} {J : JS} (h : Xd B w xb xd Q S J) : XStep B w xb xd Q (w.setCell ⟨xb, 3, none⟩ (.bool true)) S { J with down := true } := by
  obtain ⟨X, Y, h, e⟩ := h
  obtain ⟨iv, rv, us, hj⟩ := h.j
  exact h.turn e ((But.refl _ _).set (.inl hj.yb)) ⟨iv, rv, us, hj.headed ((But.refl (fun k => k = xb) _).set (.inl rfl)) (h.ay _ hj.yb) h.bl (heap_setCell_same w xb 3 _ _ _ hj.head) hj.im hj.imo hj.ro hj.ra hj.rows⟩ (fun _ h => .inl h)
/-- An image of the law's own, and no records. -/
theorem Xd.saved {B : Nat} {w : World} {xb xd : Nat} {Q : Nat → Prop} {S : DS} {J : JS} {v : Value} {m : List UInt8} (h : Xd B w xb xd Q S J) (hv : Bts w v m) (ho : Old B v m) : XStep B w xb xd Q ((w.setCell ⟨xb, 1, none⟩ v).setCell ⟨xb, 2, none⟩ (.slice none 0 0)) S { image := m, recs := [], down := J.down } := by
  obtain ⟨X, Y, h, e⟩ := h
  obtain ⟨iv, rv, us, hj⟩ := h.j
  refine h.turn e (((But.refl _ _).set (.inl hj.yb)).set (.inl hj.yb)) ⟨v, .slice none 0 0, [], hj.headed (((But.refl (fun k => k = xb) _).set (.inl rfl)).set (.inl rfl)) (h.ay _ hj.yb) h.bl (heap_setCell_same _ xb 2 _ _ _ (heap_setCell_same w xb 1 _ _ _ hj.head)) hv (fun hl k hk => .inl (ho hl k hk)) (World.ownsRow_nil _ _ _ _) (fun k hk => by cases hk) (fun i hi => by simp at hi)⟩ (fun _ h => .inl h)
end Go.Proofs.Ytpchmdfkifbciaa
