/- Rows of bytes in memory, as lists, and a device in memory: what its smallest parts answer. No condition but that the rows and the device lie in memory. -/
import Derived.Test.YtpchmdfkifbciaaRows
import Derived.WalkKit
import Derived.WalkSpells
import Derived.WalkLawsBesides
import Derived.Laws.AppendOwnNone
import Derived.Laws.OwnMore
import Derived.Maps.AppendAt
import Derived.Below
import Derived.Defers
import Derived.Lib.SliceRun
namespace Go.Proofs.Ytpchmdfkifbciaa
open Go.RowKit

theorem hid {p : Prop} (h : p) : Hid p := h
/-- The value v is a slice whose elements are the bytes l. -/
def Bts (w : World) (v : Value) (l : List UInt8) : Prop :=
  ∃ ao n cap, v = .slice ao n cap ∧ n = l.length ∧ n ≤ cap ∧ cap ≤ 9223372036854775807 ∧ (ao = none → cap = 0) ∧
    ∀ ad, ao = some ad → ∀ j, (h : j < l.length) → w.cell? (ad.add j) = some (.int .u8 (l[j].toNat : Int))
def bv (c : UInt8) : Value := .int .u8 (c.toNat : Int)
theorem bv_one (l : List UInt8) : ∀ u ∈ l.map bv, u.oneCell' = true := by
  intro u hu
  obtain ⟨c, -, rfl⟩ := List.mem_map.1 hu
  rfl
theorem Try.underlyingB : Try.prog.underlying 34 = some (.slice 5) := by kernel_rfl
theorem Try.underlyingU : Try.prog.underlying 5 = some (.int .u8) := by kernel_rfl
theorem Try.infoB : (Try.prog.info? 5).map (fun i => (i.zero, i.size, i.bytes)) = some (some (.int .u8 0), 1, 1) := by kernel_rfl

/-- The value v is a row of the program's own, from block base on; its bytes are l. -/
def Own (w : World) (base : Nat) (v : Value) (l : List UInt8) : Prop := w.ownsRow base 5 1 v l.length (l.map bv)

theorem Own.nil (w : World) (base : Nat) : Own w base (.slice none 0 0) [] := World.ownsRow_nil _ _ _ _
theorem Own.shape {w : World} {base : Nat} {v : Value} {l : List UInt8} (h : Own w base v l) : ∃ va vc, v = .slice va l.length vc := by
  obtain ⟨h1, h2⟩ := h
  rcases h2 with ⟨rfl, h0⟩ | ⟨g, cap, cur, rfl, -⟩
  · exact ⟨none, 0, by rw [h0]⟩
  · exact ⟨_, _, rfl⟩
theorem Own.blk {w w' : World} {base : Nat} {v : Value} {l : List UInt8} (h : Own w base v l) (hb : ∀ k, v.ownBlock = some k → w'.heap[k]? = w.heap[k]?) : Own w' base v l := by
  obtain ⟨h1, h2⟩ := h
  refine ⟨h1, ?_⟩
  rcases h2 with h2 | ⟨g, cap, cur, hv, hg, hh, r⟩
  · exact Or.inl h2
  · exact Or.inr ⟨g, cap, cur, hv, hg, by rw [hb g (by rw [hv]; rfl)]; exact hh, r⟩
theorem Own.lt {w : World} {base : Nat} {v : Value} {l : List UInt8} (h : Own w base v l) : ∀ k, v.ownBlock = some k → base ≤ k ∧ k < w.heap.size := fun k hk => World.ownsRow.lt h k hk
theorem Own.below {w w' : World} {base : Nat} {v : Value} {l : List UInt8} (h : Own w base v l) (hb : Below w.heap.size w w') : Own w' base v l :=
  h.blk fun k hk => hb.block k (h.lt k hk).2
theorem Own.lower {w : World} {base base' : Nat} {v : Value} {l : List UInt8} (h : Own w base v l) (hb : base' ≤ base) : Own w base' v l := by
  obtain ⟨h1, h2⟩ := h
  refine ⟨h1, ?_⟩
  rcases h2 with h2 | ⟨g, cap, cur, hv, hg, r⟩
  · exact Or.inl h2
  · exact Or.inr ⟨g, cap, cur, hv, by omega, r⟩
/-- A row of the program's own, read as any slice of bytes is. -/
theorem Own.bts {w : World} {base : Nat} {v : Value} {l : List UInt8} (h : Own w base v l) : Bts w v l := by
  have h' : w.ownsRow base 5 1 v l.length (l.map bv) := h
  obtain ⟨h1, h2⟩ := h
  rcases h2 with ⟨rfl, h0⟩ | ⟨g, cap, cur, rfl, hg, hh, hc, hm, hs, ht⟩
  · exact ⟨none, 0, 0, rfl, h0.symm, Nat.le_refl _, by omega, (fun _ => rfl), (fun ad h => by cases h)⟩
  · refine ⟨some ⟨g, 0, none⟩, l.length, cap, rfl, rfl, hc, hm, (fun h => by cases h), ?_⟩
    intro ad had j hj
    obtain rfl := Option.some.inj had
    have e := h'.cells rfl j (bv l[j]) (by simp [hj])
    exact e
/-- The first bytes of such a row. -/
theorem Own.take {w : World} {base n cap : Nat} {ao : Option Addr} {l : List UInt8} (h : Own w base (.slice ao l.length cap) l) (hn : n ≤ l.length) : Own w base (.slice ao n cap) (l.take n) := by
  have hl : (l.take n).length = n := by simp; omega
  obtain ⟨h1, h2⟩ := h
  refine ⟨by simp, ?_⟩
  rcases h2 with ⟨hv, h0⟩ | ⟨g, cap', cur, hv, hg, hh, hc, hm, hs, ht⟩
  · injection hv with e1 e2 e3
    subst e1; subst e3
    exact Or.inl ⟨by rw [show n = 0 from by omega], by rw [hl]; omega⟩
  · injection hv with e1 e2 e3
    subst e1; subst e3
    refine Or.inr ⟨g, cap, cur, by rw [hl], hg, hh, by rw [hl]; omega, hm, hs, ?_⟩
    rw [hl, List.map_take, ← ht, List.take_take]
    congr 1; omega
theorem Bts.kept {w w' : World} {v : Value} {l : List UInt8} (h : Bts w v l) (hb : ∀ k u, w.cell? k = some u → w'.cell? k = some u) : Bts w' v l := by
  obtain ⟨ao, n, cap, rfl, h1, h2, h3, h4, h5⟩ := h
  exact ⟨ao, n, cap, rfl, h1, h2, h3, h4, fun ad had j hj => hb _ _ (h5 ad had j hj)⟩
theorem Bts.below {w w' : World} {v : Value} {l : List UInt8} (h : Bts w v l) (hb : Below w.heap.size w w') : Bts w' v l :=
  h.kept fun _ _ hk => cell_later hb hk
theorem Bts.alloc {w : World} {v : Value} {l : List UInt8} (h : Bts w v l) (o : Obj) : Bts (w.alloc o) v l := h.below ((Below.refl _ _).alloc (Nat.le_refl _) _)
theorem Bts.shape {w : World} {v : Value} {l : List UInt8} (h : Bts w v l) : ∃ va vc, v = .slice va l.length vc := by
  obtain ⟨ao, n, cap, rfl, rfl, -⟩ := h; exact ⟨_, _, rfl⟩
theorem Bts.blk {w w' : World} {v : Value} {l : List UInt8} (h : Bts w v l) (hb : ∀ k, v.ownBlock = some k → w'.heap[k]? = w.heap[k]?) : Bts w' v l := by
  obtain ⟨ao, n, cap, rfl, h1, h2, h3, h4, h5⟩ := h
  refine ⟨ao, n, cap, rfl, h1, h2, h3, h4, fun ad had j hj => ?_⟩
  subst had
  have e : (ad.add j).block = ad.block := by simp [Addr.add]; split <;> rfl
  rw [World.cell?_of_block (w := w) (by rw [e]; exact hb _ rfl)]
  exact h5 ad rfl j hj

/-- 'append(s, x...)', s of the program's own, x any slice of bytes. -/
theorem wpl_append {w : World} {ops : Array Oper} {rest : List Oper} {o : Oper} {a : Act} {Q : Exit → Act → World → Prop} (hgd : o.guard = none) (s x : Operand)
    (ho : o.op = .call { callee := .builtin .append, args := #[s, x], argTypes := #[34, 34] })
    (base : Nat) (v : Value) (l : List UInt8) (hs : a.eval s = v) (hown : Own w base v l) (u : Value) (m : List UInt8) (hx : a.eval x = u) (hu : Bts w u m)
    (hsz : l.length + m.length ≤ 140737488355328) (hbase : base ≤ w.heap.size)
    (h : ∀ va vc w', Own w' base (.slice va (l.length + m.length) vc) (l ++ m) → w.grownBy w' v.ownBlock → ((Value.slice va (l.length + m.length) vc).ownBlock = v.ownBlock ∨ (Value.slice va (l.length + m.length) vc).ownBlock = some w.heap.size) → wpList Try.prog ops Q rest (a.put o.dst (.slice va (l.length + m.length) vc)) w') :
    wpList Try.prog ops Q (o :: rest) a w := by
  obtain ⟨i, hi, hz0, hz1, hz2⟩ := info_parts Try.infoB
  obtain ⟨ao, n, cap, rfl, rfl, hc, hm, hnone, hcell⟩ := hu
  cases ao with
  | none =>
    have h0 := hnone rfl
    subst h0
    have hm0 : m = [] := List.eq_nil_of_length_eq_zero (by omega)
    subst hm0
    obtain ⟨va, vc, rfl⟩ := hown.shape
    refine wpList_append_own_none hgd s x 34 ho base 5 i 1 Try.underlyingB hi _ _ _ hs hown hx ?_
    exact h va vc w (by simpa using hown) (World.grownBy.refl _ _) (.inl (by simp [Value.ownBlock]))
  | some ad =>
    refine wpList_append_own_at w hgd s x 34 ho base 5 i (.int .u8 0) 1 1 Try.underlyingB hi hz0 hz1 hz2 rfl (by decide) v l.length (l.map bv) hs hown ad m.length cap (m.map bv) hx (by simp) ?_ (bv_one m) (by unfold maxLen; omega) (by omega) hbase ?_
    · intro j u hj
      have hlt : j < m.length := by
        rcases Nat.lt_or_ge j m.length with h | h
        · exact h
        · simp [List.getElem?_eq_none (l := m.map bv) (by simpa using h)] at hj
      have e := hcell ad rfl j hlt
      have : u = bv m[j] := by simpa [hlt] using hj.symm
      rw [this]; exact e
    · intro v' w' ho' hg _ hnew
      have ho2 : Own w' base v' (l ++ m) := by
        show w'.ownsRow _ _ _ _ (l ++ m).length ((l ++ m).map bv)
        rw [List.length_append, List.map_append]; exact ho'
      obtain ⟨va, vc, rfl⟩ := ho2.shape
      have e : (l ++ m).length = l.length + m.length := List.length_append
      rw [e] at ho2 hnew ⊢
      exact h va vc w' ho2 hg hnew

/-- What there is behind a call that changes only blocks of R. -/
structure But (R : Nat → Prop) (w w' : World) : Prop where
  os : w'.os = w.os
  tape : w'.tape = w.tape
  output : w'.output = w.output
  size : w.heap.size ≤ w'.heap.size
  block : ∀ k, k < w.heap.size → ¬ R k → w'.heap[k]? = w.heap[k]?
theorem But.refl (R : Nat → Prop) (w : World) : But R w w := ⟨rfl, rfl, rfl, Nat.le_refl _, fun _ _ _ => rfl⟩
theorem But.trans {R R1 : Nat → Prop} {w w1 w2 : World} (h : But R w w1) (h1 : But R1 w1 w2) (hr : ∀ k, R1 k → R k ∨ w.heap.size ≤ k) : But R w w2 :=
  ⟨h1.os.trans h.os, h1.tape.trans h.tape, h1.output.trans h.output, Nat.le_trans h.size h1.size, fun k hk hn =>
    (h1.block k (Nat.lt_of_lt_of_le hk h.size) (fun h' => by rcases hr k h' with h' | h' <;> first | exact hn h' | omega)).trans (h.block k hk hn)⟩
theorem But.below {R : Nat → Prop} {w w' : World} {B : Nat} (h : But R w w') (hB : B ≤ w.heap.size) (hr : ∀ k, R k → B ≤ k) : Below B w w' :=
  ⟨h.os, h.tape, h.output, h.size, fun k hk => h.block k (by omega) (fun h' => by have := hr k h'; omega)⟩
theorem But.of_below {R : Nat → Prop} {w w' : World} (h : Below w.heap.size w w') : But R w w' := ⟨h.os, h.tape, h.output, h.size, fun k hk _ => h.block k hk⟩
theorem But.grown {R : Nat → Prop} {w w' : World} {r : Option Nat} (h : w.grownBy w' r) (hr : ∀ k, r = some k → R k) : But R w w' :=
  ⟨h.os, h.tape, h.output, h.size, fun k hk hn => h.block k hk (fun e => hn (hr k e.symm))⟩
theorem But.set {R : Nat → Prop} {w w' : World} {b i : Nat} {v : Value} (h : But R w w') (hb : R b ∨ w.heap.size ≤ b) : But R w (w'.setCell ⟨b, i, none⟩ v) :=
  ⟨h.os, h.tape, h.output, by simpa [World.setCell] using h.size, fun k hk hn => (Below.heap_setCell w' ⟨b, i, none⟩ v k (fun e => by subst e; rcases hb with hb | hb <;> first | exact hn hb | exact absurd hk (Nat.not_lt.2 hb))).trans (h.block k hk hn)⟩
theorem But.alloc {R : Nat → Prop} {w w' : World} (h : But R w w') (o : Obj) : But R w (w'.alloc o) :=
  ⟨h.os, h.tape, h.output, by simp; have := h.size; omega, fun k hk hn => (Below.heap_alloc w' o k (by have := h.size; omega)).trans (h.block k hk hn)⟩
theorem But.drew {R : Nat → Prop} {w w' : World} (h : But R w w') : But R w w'.drew := ⟨h.os, h.tape, h.output, h.size, h.block⟩
/-- No block of R holds v. -/
def Out (R : Nat → Prop) (v : Value) : Prop := ∀ k, v.ownBlock = some k → ¬ R k
theorem Bts.lt {w : World} {v : Value} {l : List UInt8} (h : Bts w v l) (hl : l ≠ []) : ∀ k, v.ownBlock = some k → k < w.heap.size := by
  obtain ⟨ao, n, cap, rfl, h1, h2, h3, h4, h5⟩ := h
  intro k hk
  cases ao with
  | none => cases hk
  | some ad =>
    cases hk
    have := h5 ad rfl 0 (by cases l with | nil => exact absurd rfl hl | cons a l => simp)
    rw [Addr.add_zero'] at this
    rcases Nat.lt_or_ge ad.block w.heap.size with h | h
    · exact h
    · simp [World.cell?, Array.getElem?_eq_none h] at this
theorem Bts.but {R : Nat → Prop} {w w' : World} {v : Value} {l : List UInt8} (h : Bts w v l) (ht : But R w w') (ho : Out R v) : Bts w' v l := by
  by_cases hl : l = []
  · subst hl
    obtain ⟨ao, n, cap, rfl, h1, h2, h3, h4, h5⟩ := h
    exact ⟨ao, n, cap, rfl, h1, h2, h3, h4, fun ad had j hj => by simp at hj⟩
  · exact h.blk fun k hk => ht.block k (h.lt hl k hk) (ho k hk)
theorem Own.but {R : Nat → Prop} {w w' : World} {B : Nat} {v : Value} {l : List UInt8} (h : Own w B v l) (ht : But R w w') (ho : Out R v) : Own w' B v l :=
  h.blk fun k hk => ht.block k (h.lt k hk).2 (ho k hk)

/-- How many sectors n bytes need. -/
def sec (n : Nat) : Nat := (n + 511) / 512
/-- What a device has. -/
structure DS where
  room : Nat
  image : List UInt8
  stage : List UInt8
  staged : Bool
  log : List UInt8
  sure : Nat
  off : Bool
  left : Int
structure Ok (S : DS) : Prop where
  room : S.room ≤ 65536
  fits : sec S.image.length + sec S.stage.length + sec S.log.length ≤ S.room
  sure : S.sure ≤ S.log.length
  left : -1 ≤ S.left
  left2 : S.left ≤ 9223372036854775807
theorem Ok.log {S : DS} (h : Ok S) : S.log.length ≤ 33554432 := by have := h.room; have := h.fits; unfold sec at this; omega
theorem Ok.image {S : DS} (h : Ok S) : S.image.length ≤ 33554432 := by have := h.room; have := h.fits; unfold sec at this; omega
theorem Ok.stage {S : DS} (h : Ok S) : S.stage.length ≤ 33554432 := by have := h.room; have := h.fits; unfold sec at this; omega

/-- The row v lies in R, not in block b. -/
def InR (R : Nat → Prop) (b : Nat) (v : Value) : Prop := ∀ k, v.ownBlock = some k → R k ∧ k ≠ b
def Apart (u v : Value) : Prop := ∀ k, u.ownBlock = some k → v.ownBlock ≠ some k
theorem InR.nil (R : Nat → Prop) (b : Nat) : InR R b (.slice none 0 0) := fun k hk => by cases hk
theorem Apart.nil (v : Value) : Apart (.slice none 0 0) v := fun k hk => by cases hk
theorem Apart.nil' (v : Value) : Apart v (.slice none 0 0) := fun k _ h => by cases h
/-- The cells of a device. -/
def dcells (S : DS) (iv sv lv : Value) : Array Value := #[.int .i64 S.room, iv, sv, .bool S.staged, lv, .int .i64 S.sure, .bool S.off, .int .i64 S.left]
/-- A device lies at block b, with rows iv, sv, lv; all of it in R. -/
structure DkV (w : World) (b : Nat) (R : Nat → Prop) (S : DS) (iv sv lv : Value) : Prop where
  ok : Ok S
  rb : R b
  rlt : ∀ k, R k → k < w.heap.size
  head : w.heap[b]? = some (.cells #[.int .i64 S.room, iv, sv, .bool S.staged, lv, .int .i64 S.sure, .bool S.off, .int .i64 S.left] 67 (0, 0))
  oi : Own w 0 iv S.image
  os : Own w 0 sv S.stage
  ol : Own w 0 lv S.log
  ii : InR R b iv
  is : InR R b sv
  il : InR R b lv
  ai : Apart iv lv
  asl : Apart sv lv
def Dk (w : World) (b : Nat) (R : Nat → Prop) (S : DS) : Prop := ∃ iv sv lv, DkV w b R S iv sv lv
theorem DkV.dk {w : World} {b : Nat} {R : Nat → Prop} {S : DS} {iv sv lv : Value} (h : DkV w b R S iv sv lv) : Dk w b R S := ⟨iv, sv, lv, h⟩
theorem DkV.lt {w : World} {b : Nat} {R : Nat → Prop} {S : DS} {iv sv lv : Value} (h : DkV w b R S iv sv lv) : b < w.heap.size := lt_of_block h.head
theorem Dk.lt {w : World} {b : Nat} {R : Nat → Prop} {S : DS} (h : Dk w b R S) : b < w.heap.size := by obtain ⟨_, _, _, h⟩ := h; exact h.lt
theorem Dk.ok {w : World} {b : Nat} {R : Nat → Prop} {S : DS} (h : Dk w b R S) : Ok S := by obtain ⟨_, _, _, h⟩ := h; exact h.ok
theorem Dk.rlt {w : World} {b : Nat} {R : Nat → Prop} {S : DS} (h : Dk w b R S) : ∀ k, R k → k < w.heap.size := by obtain ⟨_, _, _, h⟩ := h; exact h.rlt
/-- A device is as it was where all of R is. -/
theorem DkV.same {w w' : World} {b : Nat} {R R' : Nat → Prop} {S : DS} {iv sv lv : Value} (h : DkV w b R S iv sv lv) (hb : ∀ k, R k → w'.heap[k]? = w.heap[k]?) (hR : ∀ k, R k → R' k) (hR' : ∀ k, R' k → k < w'.heap.size) : DkV w' b R' S iv sv lv :=
  ⟨h.ok, hR _ h.rb, hR', by rw [hb b h.rb]; exact h.head, h.oi.blk fun k hk => hb k (h.ii k hk).1, h.os.blk fun k hk => hb k (h.is k hk).1, h.ol.blk fun k hk => hb k (h.il k hk).1,
    fun k hk => ⟨hR _ (h.ii k hk).1, (h.ii k hk).2⟩, fun k hk => ⟨hR _ (h.is k hk).1, (h.is k hk).2⟩, fun k hk => ⟨hR _ (h.il k hk).1, (h.il k hk).2⟩, h.ai, h.asl⟩
theorem DkV.below {w w' : World} {b : Nat} {R : Nat → Prop} {S : DS} {iv sv lv : Value} (h : DkV w b R S iv sv lv) (hb : Below w.heap.size w w') : DkV w' b R S iv sv lv :=
  h.same (fun k hk => hb.block k (h.rlt k hk)) (fun _ h => h) (fun k hk => Nat.lt_of_lt_of_le (h.rlt k hk) hb.size)
theorem Dk.below {w w' : World} {b : Nat} {R : Nat → Prop} {S : DS} (h : Dk w b R S) (hb : Below w.heap.size w w') : Dk w' b R S := by obtain ⟨_, _, _, h⟩ := h; exact (h.below hb).dk
theorem Dk.but {w w' : World} {b : Nat} {R R2 : Nat → Prop} {S : DS} (h : Dk w b R S) (hb : But R2 w w') (hd : ∀ k, R k → ¬ R2 k) : Dk w' b R S := by
  obtain ⟨_, _, _, h⟩ := h
  exact (h.same (fun k hk => hb.block k (h.rlt k hk) (hd k hk)) (fun _ h => h) (fun k hk => Nat.lt_of_lt_of_le (h.rlt k hk) hb.size)).dk
/-- A call on the device at b, which lay in R: it has S' behind it. -/
def Step (w : World) (b : Nat) (R : Nat → Prop) (w' : World) (S' : DS) : Prop := ∃ R', Dk w' b R' S' ∧ But R w w' ∧ ∀ k, R' k → R k ∨ w.heap.size ≤ k
theorem Step.refl {w : World} {b : Nat} {R : Nat → Prop} {S : DS} (h : Dk w b R S) : Step w b R w S := ⟨R, h, But.refl _ _, fun _ h => .inl h⟩
theorem Step.of_below {w w' : World} {b : Nat} {R : Nat → Prop} {S : DS} (h : Dk w b R S) (hb : Below w.heap.size w w') : Step w b R w' S := ⟨R, h.below hb, But.of_below hb, fun _ h => .inl h⟩
theorem step_trans {w w1 w2 : World} {b : Nat} {R R1 : Nat → Prop} {S2 : DS} (h : But R w w1) (hr : ∀ k, R1 k → R k ∨ w.heap.size ≤ k) (h2 : Step w1 b R1 w2 S2) : Step w b R w2 S2 := by
  obtain ⟨R2, d2, t2, r2⟩ := h2
  have hs := h.size
  exact ⟨R2, d2, h.trans t2 hr, fun k hk => by rcases r2 k hk with h | h <;> first | exact hr k h | exact .inr (by omega)⟩
theorem step_below {w w1 w2 : World} {b : Nat} {R : Nat → Prop} {S2 : DS} (h : Below w.heap.size w w1) (h2 : Step w1 b R w2 S2) : Step w b R w2 S2 := step_trans (But.of_below h) (fun _ h => .inl h) h2
theorem Step.then {w w1 w2 : World} {b : Nat} {R : Nat → Prop} {S1 S2 : DS} (h : Step w b R w1 S1) (h2 : ∀ R1, Dk w1 b R1 S1 → Step w1 b R1 w2 S2) : Step w b R w2 S2 := by
  obtain ⟨R1, d1, t1, r1⟩ := h
  exact step_trans t1 r1 (h2 R1 d1)
theorem Step.after {w w1 w2 : World} {b : Nat} {R : Nat → Prop} {S1 : DS} (h : Step w b R w1 S1) (h2 : Below w1.heap.size w1 w2) : Step w b R w2 S1 := h.then fun _ d => Step.of_below d h2

theorem cell_eight {w : World} {b : Nat} {c0 c1 c2 c3 c4 c5 c6 c7 : Value} {t : TypeId} (h : w.heap[b]? = some (.cells #[c0, c1, c2, c3, c4, c5, c6, c7] t (0, 0))) :
    w.cell? ⟨b, 0, none⟩ = some c0 ∧ w.cell? ⟨b, 1, none⟩ = some c1 ∧ w.cell? ⟨b, 2, none⟩ = some c2 ∧ w.cell? ⟨b, 3, none⟩ = some c3 ∧ w.cell? ⟨b, 4, none⟩ = some c4 ∧ w.cell? ⟨b, 5, none⟩ = some c5 ∧ w.cell? ⟨b, 6, none⟩ = some c6 ∧ w.cell? ⟨b, 7, none⟩ = some c7 ∧ ∀ i, w.frozen? ⟨b, i, none⟩ = false := by
  refine ⟨?_, ?_, ?_, ?_, ?_, ?_, ?_, ?_, fun i => frozen_of_row w b _ _ _ h⟩ <;> (rw [cell_of_row w b _ _ _ _ h]; rfl)

set_option maxHeartbeats 400000 in
theorem sectors_any (n : Nat) (w : World) (hn : n ≤ 1000000000000) :
    Calls Try.prog 57 #[.int .i64 n] w fun e w' => e = .returned (.int .i64 (sec n)) ∧ w' = w := by
  have hn' : (n : Int) ≤ 1000000000000 := by omega
  clear hn
  have hn0 : (0 : Int) ≤ n := by omega
  have e1 : IntKind.i64.wrap ((n : Int) + 512) = (n : Int) + 512 := IntWalk.i64_in _ ⟨by omega, by omega⟩
  have e2 : IntKind.i64.wrap ((n : Int) + 512 - 1) = (n : Int) + 512 - 1 := IntWalk.i64_in _ ⟨by omega, by omega⟩
  have e3 : Int.tdiv ((n : Int) + 512 - 1) 512 = (sec n : Nat) := by rw [Int.tdiv_eq_ediv_of_nonneg (by omega)]; unfold sec; omega
  have e4 : IntKind.i64.wrap ((sec n : Nat) : Int) = (sec n : Nat) := IntWalk.i64_in _ ⟨by omega, by unfold sec; omega⟩
  go_enter Try.func57, Try.ntmps57
  go_wp2
  go_ret
  exact ⟨rfl, rfl⟩
set_option maxHeartbeats 400000 in
theorem new_bad (n : Int) (w : World) (h : n < 1 ∨ 65536 < n) :
    Calls Try.prog 9 #[.int .i64 n] w fun e w' => e = .returned (.tuple #[.pointer none, .int .i64 1]) ∧ w' = w := by
  by_cases h1 : n < 1
  · go_enter Try.func9, Try.ntmps9
    go_wp2
    go_ret2
    exact ⟨rfl, rfl⟩
  · have h2 : 65536 < n := by omega
    go_enter Try.func9, Try.ntmps9
    go_wp2
    go_ret2
    exact ⟨rfl, rfl⟩
end Go.Proofs.Ytpchmdfkifbciaa
