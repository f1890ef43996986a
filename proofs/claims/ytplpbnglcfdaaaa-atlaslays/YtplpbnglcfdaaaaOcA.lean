/- Package octet: bytes, Writers and Readers in memory, what their calls lay and answer, and that what is laid is read. Conditions stand with each theorem. -/
import Derived.WalkKit
import Derived.Laws.BitsAllLaws
import Derived.Test.YtplpbnglcfdaaaaRows
import Derived.WalkSpells
import Derived.WalkLawsBesides
import Derived.Laws.AppendOwnNone
import Derived.LaidEql
import Derived.Laws.EntriesVeiled
namespace Go.Proofs.Ytplpbnglcfdaaaa
open Go.RowKit

/-- One bit of the register. -/
def crcStep (x : Nat) : Nat := if x % 2 = 1 then (x / 2) ^^^ 3988292384 else x / 2
def crcSteps : Nat → Nat → Nat
  | 0, x => x
  | n + 1, x => crcSteps n (crcStep x)
/-- A byte. -/
def crcByte (x : Nat) : Nat := crcSteps 8 x
/-- A row of bytes. -/
def crcRow (x : Nat) (l : List UInt8) : Nat := l.foldl (fun r c => crcByte (r ^^^ c.toNat)) x
def crcAll (l : List UInt8) : Nat := 4294967295 - crcRow 4294967295 l

theorem crcStep_lt {x : Nat} (h : x < 4294967296) : crcStep x < 4294967296 := by
  unfold crcStep
  split
  · exact Nat.xor_lt_two_pow (n := 32) (by omega) (by omega)
  · omega
theorem crcSteps_lt (n : Nat) {x : Nat} (h : x < 4294967296) : crcSteps n x < 4294967296 := by
  induction n generalizing x with
  | zero => exact h
  | succ n ih => exact ih (crcStep_lt h)
theorem crcSteps_snoc (n x : Nat) : crcSteps (n + 1) x = crcStep (crcSteps n x) := by
  induction n generalizing x with
  | zero => rfl
  | succ n ih => exact ih (crcStep x)
theorem crcByte_lt {x : Nat} (h : x < 4294967296) : crcByte x < 4294967296 := crcSteps_lt 8 h
theorem xor_byte_lt {x : Nat} (h : x < 4294967296) (c : UInt8) : x ^^^ c.toNat < 4294967296 :=
  Nat.xor_lt_two_pow (n := 32) h (by have := c.toNat_lt; omega)
theorem crcRow_lt (l : List UInt8) {x : Nat} (h : x < 4294967296) : crcRow x l < 4294967296 := by
  induction l generalizing x with
  | nil => exact h
  | cons c l ih => exact ih (crcByte_lt (xor_byte_lt h c))
theorem crcRow_append (x : Nat) (a b : List UInt8) : crcRow x (a ++ b) = crcRow (crcRow x a) b := by simp [crcRow]
theorem crcRow_take (x : Nat) (l : List UInt8) (k : Nat) (h : k < l.length) : crcRow x (l.take (k + 1)) = crcByte (crcRow x (l.take k) ^^^ l[k].toNat) := by
  rw [List.take_succ_eq_append_getElem h, crcRow_append]; rfl
theorem crcAll_lt (l : List UInt8) : crcAll l < 4294967296 := by unfold crcAll; omega

theorem crcAll_append (a b : List UInt8) : crcAll (a ++ b) = 4294967295 - crcRow (4294967295 - crcAll a) b := by
  have := crcRow_lt a (x := 4294967295) (by omega)
  unfold crcAll
  rw [crcRow_append, show 4294967295 - (4294967295 - crcRow 4294967295 a) = crcRow 4294967295 a from by omega]
theorem crcAll_take (ls : List (List UInt8)) (k : Nat) (h : k < ls.length) (y : Nat) (hy : y = crcAll (ls.take k).flatten) :
    crcAll (ls.take (k + 1)).flatten = 4294967295 - crcRow (4294967295 - y) ls[k] := by
  rw [List.take_succ_eq_append_getElem h, List.flatten_append, crcAll_append, hy]; simp

/-- The walk's words for the register's step. -/
theorem and_one (y : Int) (h0 : 0 ≤ y) (h1 : y < 4294967296) : bits .and .u32 y 1 = y % 2 := by
  rw [u32_and y 1 h0 h1 (by omega) (by omega)]
  have : y.toNat &&& (1 : Int).toNat = y.toNat % 2 := Nat.and_one_is_mod _
  rw [this]; omega
theorem xor_poly (y : Int) (h0 : 0 ≤ y) (h1 : y < 4294967296) : bits .xor .u32 y 3988292384 = ((y.toNat ^^^ 3988292384 : Nat) : Int) := by
  rw [u32_xor y _ h0 h1 (by omega) (by omega)]; rfl

theorem nat_not32 (x : Nat) (h : x < 4294967296) : 4294967295 ^^^ x = 4294967295 - x := by
  apply Nat.eq_of_testBit_eq
  intro i
  have e : (4294967295 - x : Nat) = 2 ^ 32 - (x + 1) := by omega
  rw [e, Nat.testBit_two_pow_sub_succ (by omega), Nat.testBit_xor, show (4294967295 : Nat) = 2 ^ 32 - 1 from rfl, Nat.testBit_two_pow_sub_one]
  by_cases hi : i < 32
  · simp [hi]
  · have : x.testBit i = false := Nat.testBit_lt_two_pow (Nat.lt_of_lt_of_le h (Nat.pow_le_pow_right (n := 2) (by omega) (by omega) : 2 ^ 32 ≤ 2 ^ i))
    simp [hi, this]
/-- '^x' of a uint32. -/
theorem not_u32 (x : Int) (h0 : 0 ≤ x) (h1 : x < 4294967296) : bits .xor .u32 IntKind.u32.max x = ((4294967295 - x.toNat : Nat) : Int) := by
  have e : IntKind.u32.max = 4294967295 := by decide
  rw [e, u32_xor _ _ (by omega) (by omega) h0 h1, ← nat_not32 x.toNat (by omega)]; rfl
theorem xor_reg (y : Nat) (c : UInt8) (h : y < 4294967296) : bits .xor .u32 (y : Int) (c.toNat : Int) = ((y ^^^ c.toNat : Nat) : Int) :=
  u32_xor_nat y c.toNat h (by have := c.toNat_lt; omega)

end Go.Proofs.Ytplpbnglcfdaaaa
namespace Go.Proofs.Ytplpbnglcfdaaaa
open Go.RowKit

theorem hio {p : Prop} (h : p) : Hid p := h
/-- The value v is a slice whose elements are the bytes l. -/
def Bts (w : World) (v : Value) (l : List UInt8) : Prop :=
  ∃ ao n cap, v = .slice ao n cap ∧ n = l.length ∧ n ≤ cap ∧ cap ≤ 9223372036854775807 ∧ (ao = none → cap = 0) ∧
    ∀ ad, ao = some ad → ∀ j, (h : j < l.length) → w.cell? (ad.add j) = some (.int .u8 (l[j].toNat : Int))

theorem ret_u32 {a b : Int} (h : a = b) : Ending.returned (.int .u32 a) = .returned (.int .u32 b) := by rw [h]

/-- The value v is a slice of slices of bytes. -/
def Btss (w : World) (v : Value) (ls : List (List UInt8)) : Prop :=
  ∃ ao n cap, v = .slice ao n cap ∧ n = ls.length ∧ n ≤ cap ∧ cap ≤ 9223372036854775807 ∧ (ao = none → cap = 0) ∧
    ∀ ad, ao = some ad → ∀ j, (h : j < ls.length) → ∃ u, w.cell? (ad.add j) = some u ∧ Bts w u ls[j]

/-- The sum of several parts, one behind another. -/
def sumAll (ls : List (List UInt8)) : Nat := ls.foldl (fun s l => 4294967295 - crcRow (4294967295 - s) l) 0

end Go.Proofs.Ytplpbnglcfdaaaa
namespace Go.Proofs.Ytplpbnglcfdaaaa
open Go.RowKit

def bv (c : UInt8) : Value := .int .u8 (c.toNat : Int)
theorem bv_one (l : List UInt8) : ∀ u ∈ l.map bv, u.oneCell' = true := by
  intro u hu
  obtain ⟨c, -, rfl⟩ := List.mem_map.1 hu
  rfl
theorem Try.underlyingB : Try.prog.underlying 80 = some (.slice 5) := by kernel_rfl
theorem Try.infoB : (Try.prog.info? 5).map (fun i => (i.zero, i.size, i.bytes)) = some (some (.int .u8 0), 1, 1) := by kernel_rfl

/-- The value v is a row of the call's own, its bytes are l. -/
def Own (w : World) (base : Nat) (v : Value) (l : List UInt8) : Prop := w.ownsRow base 5 1 v l.length (l.map bv)

theorem Own.nil (w : World) (base : Nat) : Own w base (.slice none 0 0) [] := World.ownsRow_nil _ _ _ _
theorem Own.shape {w : World} {base : Nat} {v : Value} {l : List UInt8} (h : Own w base v l) : ∃ va vc, v = .slice va l.length vc := by
  obtain ⟨h1, h2⟩ := h
  rcases h2 with ⟨rfl, h0⟩ | ⟨g, cap, cur, rfl, -⟩
  · exact ⟨none, 0, by rw [h0]⟩
  · exact ⟨_, _, rfl⟩
theorem Own.kept {w w' : World} {base : Nat} {v : Value} {l : List UInt8} (h : Own w base v l) (hb : ∀ k, base ≤ k → k < w.heap.size → w'.heap[k]? = w.heap[k]?) : Own w' base v l := by
  obtain ⟨h1, h2⟩ := h
  refine ⟨h1, ?_⟩
  rcases h2 with h2 | ⟨g, cap, cur, hv, hg, hh, r⟩
  · exact Or.inl h2
  · exact Or.inr ⟨g, cap, cur, hv, hg, by rw [hb g hg (lt_of_block hh)]; exact hh, r⟩
theorem Own.below {w w' : World} {base : Nat} {v : Value} {l : List UInt8} (h : Own w base v l) (hb : Below w.heap.size w w') : Own w' base v l :=
  h.kept fun k _ hk => hb.block k hk
theorem Own.lower {w : World} {base base' : Nat} {v : Value} {l : List UInt8} (h : Own w base v l) (hb : base' ≤ base) : Own w base' v l := by
  obtain ⟨h1, h2⟩ := h
  refine ⟨h1, ?_⟩
  rcases h2 with h2 | ⟨g, cap, cur, hv, hg, r⟩
  · exact Or.inl h2
  · exact Or.inr ⟨g, cap, cur, hv, by omega, r⟩
/-- A row of the call's own, read as any slice of bytes is. -/
theorem Own.bts {w : World} {base : Nat} {v : Value} {l : List UInt8} (h : Own w base v l) : Bts w v l := by
  have h' : w.ownsRow base 5 1 v l.length (l.map bv) := h
  obtain ⟨h1, h2⟩ := h
  rcases h2 with ⟨rfl, h0⟩ | ⟨g, cap, cur, rfl, hg, hh, hc, hm, hs, ht⟩
  · exact ⟨none, 0, 0, rfl, h0.symm, Nat.le_refl _, by omega, (fun _ => rfl), (fun ad h => by cases h)⟩
  · refine ⟨some ⟨g, 0, none⟩, l.length, cap, rfl, rfl, hc, hm, (fun h => by cases h), ?_⟩
    intro ad had j hj
    obtain rfl := Option.some.inj had
    have e := h'.cells rfl j (bv l[j]) (by simp [hj])
    exact e

/-- A slice of bytes stays what it is where its cells stay. -/
theorem Bts.kept {w w' : World} {v : Value} {l : List UInt8} (h : Bts w v l) (hb : ∀ k u, w.cell? k = some u → w'.cell? k = some u) : Bts w' v l := by
  obtain ⟨ao, n, cap, rfl, h1, h2, h3, h4, h5⟩ := h
  exact ⟨ao, n, cap, rfl, h1, h2, h3, h4, fun ad had j hj => hb _ _ (h5 ad had j hj)⟩
theorem Bts.below {w w' : World} {v : Value} {l : List UInt8} (h : Bts w v l) (hb : Below w.heap.size w w') : Bts w' v l :=
  h.kept fun _ _ hk => cell_later hb hk
theorem Bts.alloc {w : World} {v : Value} {l : List UInt8} (h : Bts w v l) (o : Obj) : Bts (w.alloc o) v l := h.below ((Below.refl _ _).alloc (Nat.le_refl _) _)
theorem Bts.shape {w : World} {v : Value} {l : List UInt8} (h : Bts w v l) : ∃ va vc, v = .slice va l.length vc := by
  obtain ⟨ao, n, cap, rfl, rfl, -⟩ := h; exact ⟨_, _, rfl⟩

/-- 'append(s, x...)', s of the call's own, x any slice of bytes. -/
theorem wpl_append {w : World} {ops : Array Oper} {rest : List Oper} {o : Oper} {a : Act} {Q : Exit → Act → World → Prop} (hgd : o.guard = none) (s x : Operand)
    (ho : o.op = .call { callee := .builtin .append, args := #[s, x], argTypes := #[80, 80] })
    (base : Nat) (v : Value) (l : List UInt8) (hs : a.eval s = v) (hown : Own w base v l) (u : Value) (m : List UInt8) (hx : a.eval x = u) (hu : Bts w u m)
    (hsz : l.length + m.length ≤ 140737488355328) (hbase : base ≤ w.heap.size)
    (h : ∀ va vc w', Own w' base (.slice va (l.length + m.length) vc) (l ++ m) → w.grownBy w' v.ownBlock → wpList Try.prog ops Q rest (a.put o.dst (.slice va (l.length + m.length) vc)) w') :
    wpList Try.prog ops Q (o :: rest) a w := by
  obtain ⟨i, hi, hz0, hz1, hz2⟩ := info_parts Try.infoB
  obtain ⟨ao, n, cap, rfl, rfl, hc, hm, hnone, hcell⟩ := hu
  cases ao with
  | none =>
    have h0 := hnone rfl
    subst h0
    have hm0 : m = [] := List.eq_nil_of_length_eq_zero (by omega)
    subst hm0
    obtain ⟨va, vc, rfl⟩ := hown.shape
    refine wpList_append_own_none hgd s x 80 ho base 5 i 1 Try.underlyingB hi _ _ _ hs hown hx ?_
    exact h va vc w (by simpa using hown) (World.grownBy.refl _ _)
  | some ad =>
    refine wpList_append_own w hgd s x 80 ho base 5 i (.int .u8 0) 1 1 Try.underlyingB hi hz0 hz1 hz2 rfl (by decide) v l.length (l.map bv) hs hown ad m.length cap (m.map bv) hx (by simp) ?_ (bv_one m) (by unfold maxLen; omega) (by omega) hbase ?_
    · intro j u hj
      have hlt : j < m.length := by
        rcases Nat.lt_or_ge j m.length with h | h
        · exact h
        · simp [List.getElem?_eq_none (l := m.map bv) (by simpa using h)] at hj
      have e := hcell ad rfl j hlt
      have : u = bv m[j] := by simpa [hlt] using hj.symm
      rw [this]; exact e
    · intro v' w' ho' hg _
      have ho2 : Own w' base v' (l ++ m) := by
        show w'.ownsRow _ _ _ _ (l ++ m).length ((l ++ m).map bv)
        rw [List.length_append, List.map_append]; exact ho'
      obtain ⟨va, vc, rfl⟩ := ho2.shape
      have e : (l ++ m).length = l.length + m.length := List.length_append
      rw [e] at ho2 ⊢
      exact h va vc w' ho2 hg

/-- A Writer lies at block b, what it has laid is l. -/
def Wr (w : World) (b : Nat) (l : List UInt8) : Prop := ∃ va vc, w.heap[b]? = some (.cells #[.slice va l.length vc] 86 (0, 0)) ∧ Own w (b + 1) (.slice va l.length vc) l

theorem Wr.kept {w w' : World} {b : Nat} {l : List UInt8} (h : Wr w b l) (hb : ∀ k, b ≤ k → k < w.heap.size → w'.heap[k]? = w.heap[k]?) : Wr w' b l := by
  obtain ⟨va, vc, h1, h2⟩ := h
  exact ⟨va, vc, by rw [hb b (Nat.le_refl _) (lt_of_block h1)]; exact h1, h2.kept fun k hk => hb k (by omega)⟩
theorem Wr.below {w w' : World} {b : Nat} {l : List UInt8} (h : Wr w b l) (hb : Below w.heap.size w w') : Wr w' b l := h.kept fun k _ hk => hb.block k hk
theorem Wr.lt {w : World} {b : Nat} {l : List UInt8} (h : Wr w b l) : b < w.heap.size := by
  obtain ⟨va, vc, h1, h2⟩ := h; exact lt_of_block h1
theorem Wr.new (w : World) : Wr (w.alloc (.cells #[.slice none 0 0] 86)) w.heap.size [] :=
  ⟨none, 0, heap_alloc_new _ _, Own.nil _ _⟩

/-- Behind an append to a row from b + 1 on block b is as it was; nothing below it has turned. -/
theorem grown_block {w w1 : World} {b : Nat} {v : Value} {l : List UInt8} (ho : Own w (b + 1) v l) (hg : w.grownBy w1 v.ownBlock) (hb : b < w.heap.size) : ∀ k, k ≤ b → w1.heap[k]? = w.heap[k]? := by
  intro k hk
  refine hg.block k (by omega) ?_
  intro e
  have := (World.ownsRow.lt ho k e.symm).1
  omega
theorem Wr.stored {w w1 : World} {b : Nat} {l m : List UInt8} {v va : Value} {vb : Option Addr} {vc : Nat} (ho : Own w (b + 1) v l) (h1 : w.heap[b]? = some (.cells #[va] 86 (0, 0))) (hg : w.grownBy w1 v.ownBlock)
    (ho1 : Own w1 (b + 1) (.slice vb m.length vc) m) : Wr (w1.setCell ⟨b, 0, none⟩ (.slice vb m.length vc)) b m ∧ Below b w (w1.setCell ⟨b, 0, none⟩ (.slice vb m.length vc)) := by
  have hlt := lt_of_block h1
  have hb := grown_block ho hg hlt
  refine ⟨⟨vb, vc, one_setCell (v := va) (by rw [hb b (Nat.le_refl _)]; exact h1), ?_⟩, ?_⟩
  · exact ho1.kept fun k hk _ => Below.heap_setCell w1 ⟨b, 0, none⟩ _ k (by simp; omega)
  · have hbel : Below b w w1 := ⟨hg.os, hg.tape, hg.output, hg.size, fun k hk => hb k (by omega)⟩
    exact hbel.setCell (p := ⟨b, 0, none⟩) (Nat.le_refl _) _

set_option maxHeartbeats 400000 in
theorem lay_anyQ (b : Nat) (l : List UInt8) (u : Value) (m : List UInt8) (w : World) (hw : Wr w b l) (hu : Bts w u m) (hsz : l.length + m.length ≤ 140737488355328) :
    Calls Try.prog 67 #[.pointer (some ⟨b, 0, none⟩), u] w fun e w' => e = .returned (.tuple #[]) ∧ Wr w' b (l ++ m) ∧ Below b w w' := by
  have hlt := hw.lt
  have HU : Hid (Bts w u m) := hu
  obtain ⟨ua, uc, rfl⟩ := hu.shape
  clear hu
  obtain ⟨va, vc, h1, h2⟩ := hw
  have hc := cell_of_one h1
  have hf := free_of_one h1
  have H1 : Hid (w.heap[b]? = some (.cells #[.slice va l.length vc] 86 (0, 0))) := h1
  have H2 : Hid (Own w (b + 1) (.slice va l.length vc) l) := h2
  clear h1 h2
  go_enter Try.func67, Try.ntmps67
  go_wp2_with (at_builtin; refine wpl_append rfl _ _ rfl (b + 1) (.slice va l.length vc) l rfl H2.out _ m rfl HU.out hsz (by omega) ?_; intro va' vc' w1 ho1 hg1; have hk1 := grown_block H2.out hg1 hlt b (Nat.le_refl _); have hc1 : w1.cell? ⟨b, 0, none⟩ = some (.slice va l.length vc) := (World.cell?_of_block hk1).trans hc; have hf1 : w1.frozen? ⟨b, 0, none⟩ = false := (World.frozen?_of_block hk1).trans hf)
  go_end0
  have e : (l ++ m).length = l.length + m.length := List.length_append
  rw [← e] at ho1 ⊢
  exact ⟨rfl, Wr.stored H2.out H1.out hg1 ho1⟩
/-- '[]byte{}' is a row of the call's own. -/
theorem Own.empty (w : World) : Own (w.alloc (.cells #[] 5)) w.heap.size (.slice (some ⟨w.heap.size, 0, none⟩) 0 0) [] :=
  ⟨rfl, .inr ⟨w.heap.size, 0, #[], rfl, Nat.le_refl _, heap_alloc_new _ _, Nat.le_refl _, Nat.zero_le _, rfl, rfl⟩⟩
/-- A literal is a row of the call's own. -/
theorem Own.lit (w : World) (base : Nat) (l : List UInt8) (cs : Array Value) (hc : cs = (l.map bv).toArray) (hb : base ≤ w.heap.size) (n : Nat) (hn : n = l.length) (hl : n ≤ 9223372036854775807) :
    Own (w.alloc (.cells cs 5)) base (.slice (some ⟨w.heap.size, 0, none⟩) n n) l := by
  subst hc; subst hn
  exact ⟨by simp, .inr ⟨w.heap.size, l.length, _, rfl, hb, heap_alloc_new _ _, Nat.le_refl _, by unfold maxLen; omega, by simp, by simp [List.take_of_length_le]⟩⟩
theorem below_grown {B : Nat} {w w1 : World} {v : Value} {l : List UInt8} (ho : Own w B v l) (hg : w.grownBy w1 v.ownBlock) (hB : B ≤ w.heap.size) : Below B w w1 :=
  (Below.refl _ _).grown hg hB fun k hk => (World.ownsRow.lt ho k hk).1
/-- A block of bytes, as a slice. -/
theorem bts_block {W : World} {k : Nat} {cs : Array Value} {t : TypeId} {fr : Nat × Nat} (l : List UInt8) (h : W.heap[k]? = some (.cells cs t fr)) (hc : cs = (l.map bv).toArray) (n : Nat) (hn : n = l.length) (hl : n ≤ 9223372036854775807) :
    Bts W (.slice (some ⟨k, 0, none⟩) n n) l := by
  subst hc
  refine ⟨_, _, _, rfl, hn, Nat.le_refl _, hl, (fun h => by cases h), ?_⟩
  intro ad had j hj
  obtain rfl := Option.some.inj had
  rw [Addr.add_lit, cell_of_row W k _ _ _ _ h]
  simp [bv, hj]
theorem btss_nil (W : World) : Btss W (.slice none 0 0) [] := ⟨none, 0, 0, rfl, rfl, Nat.le_refl _, by omega, (fun _ => rfl), (fun ad h => by cases h)⟩
theorem btss_one {W : World} {k : Nat} {u : Value} {t : TypeId} {fr : Nat × Nat} {l : List UInt8} (h : W.heap[k]? = some (.cells #[u] t fr)) (hu : Bts W u l) : Btss W (.slice (some ⟨k, 0, none⟩) 1 1) [l] := by
  refine ⟨_, _, _, rfl, rfl, Nat.le_refl _, by omega, (fun h => by cases h), ?_⟩
  intro ad had j hj
  obtain rfl := Option.some.inj had
  obtain rfl : j = 0 := by simpa using hj
  exact ⟨u, by rw [Addr.add_lit, cell_of_row W k _ _ _ _ h]; rfl, hu⟩
theorem btss_two {W : World} {k : Nat} {u v : Value} {t : TypeId} {fr : Nat × Nat} {l m : List UInt8} (h : W.heap[k]? = some (.cells #[u, v] t fr)) (hu : Bts W u l) (hv : Bts W v m) : Btss W (.slice (some ⟨k, 0, none⟩) 2 2) [l, m] := by
  refine ⟨_, _, _, rfl, rfl, Nat.le_refl _, by omega, (fun h => by cases h), ?_⟩
  intro ad had j hj
  obtain rfl := Option.some.inj had
  match j, hj with
  | 0, _ => exact ⟨u, by rw [Addr.add_lit, cell_of_row W k _ _ _ _ h]; rfl, hu⟩
  | 1, _ => exact ⟨v, by rw [Addr.add_lit, cell_of_row W k _ _ _ _ h]; rfl, hv⟩
theorem heap3o (w : World) (A B C : Obj) : (((w.alloc A).alloc B).alloc C).heap[w.heap.size]? = some A ∧ (((w.alloc A).alloc B).alloc C).heap[w.heap.size + 1]? = some B ∧ (((w.alloc A).alloc B).alloc C).heap[w.heap.size + 1 + 1]? = some C := by
  have e1 : (w.alloc A).heap.size = w.heap.size + 1 := by simp
  have e2 : ((w.alloc A).alloc B).heap.size = w.heap.size + 1 + 1 := by simp
  refine ⟨?_, ?_, ?_⟩
  · rw [Below.heap_alloc _ C _ (by omega), Below.heap_alloc _ B _ (by omega)]; exact heap_alloc_new w A
  · rw [Below.heap_alloc _ C _ (by omega)]; have := heap_alloc_new (w.alloc A) B; rwa [e1] at this
  · have := heap_alloc_new ((w.alloc A).alloc B) C; rwa [e2] at this
end Go.Proofs.Ytplpbnglcfdaaaa
namespace Go.Proofs.Ytplpbnglcfdaaaa
open Go.RowKit

/-- The groups above the lowest, laid ahead of what stands already; f: at most so many. -/
def numHiF : Nat → Nat → List UInt8 → List UInt8
  | 0, _, acc => acc
  | f + 1, n, acc => if n = 0 then acc else numHiF f (n / 128) (UInt8.ofNat (n % 128 + 128) :: acc)
def numHi (n : Nat) (acc : List UInt8) : List UInt8 := numHiF n n acc
/-- A number's bytes. -/
def numB (n : Nat) : List UInt8 := numHi (n / 128) [UInt8.ofNat (n % 128)]

theorem numHiF_zero (f : Nat) (acc : List UInt8) : numHiF f 0 acc = acc := by cases f <;> simp [numHiF]
theorem numHiF_fuel (f g n : Nat) (acc : List UInt8) (hf : n ≤ f) (hg : n ≤ g) : numHiF f n acc = numHiF g n acc := by
  induction f generalizing g n acc with
  | zero =>
    obtain rfl : n = 0 := by omega
    rw [numHiF_zero, numHiF_zero]
  | succ f ih =>
    rcases Nat.eq_zero_or_pos n with rfl | hp
    · rw [numHiF_zero, numHiF_zero]
    · obtain ⟨g', rfl⟩ : ∃ g', g = g' + 1 := ⟨g - 1, by omega⟩
      simp only [numHiF]
      rw [if_neg (by omega), if_neg (by omega)]
      exact ih g' _ _ (by omega) (by omega)
theorem numHi_zero (acc : List UInt8) : numHi 0 acc = acc := rfl
theorem numHi_pos (n : Nat) (acc : List UInt8) (h : 0 < n) : numHi n acc = numHi (n / 128) (UInt8.ofNat (n % 128 + 128) :: acc) := by
  unfold numHi
  obtain ⟨m, rfl⟩ : ∃ m, n = m + 1 := ⟨n - 1, by omega⟩
  rw [numHiF, if_neg (by omega)]
  exact numHiF_fuel _ _ _ _ (by omega) (by omega)
theorem u64_and127 (n : Int) (h0 : 0 ≤ n) (h1 : n < 18446744073709551616) : bits .and .u64 n 127 = n % 128 := by
  rw [u64_and n 127 h0 h1 (by omega) (by omega)]
  have : n.toNat &&& (127 : Int).toNat = n.toNat % 128 := Nat.and_two_pow_sub_one_eq_mod _ 7
  rw [this]; omega
theorem u64_or128 (n : Int) (h0 : 0 ≤ n) (h1 : n < 128) : bits .or .u64 n 128 = n + 128 := by
  rw [u64_or n 128 h0 (by omega) (by omega) (by omega)]
  have e : (128 : Int).toNat = 2 ^ 7 * 1 := rfl
  rw [e, Nat.or_comm, ← Nat.two_pow_add_eq_or_of_lt (by omega)]; omega
theorem bv_num (n : Nat) (h : n < 256) : bv (UInt8.ofNat n) = .int .u8 (n : Int) := by
  unfold bv; rw [UInt8.toNat_ofNat', Nat.mod_eq_of_lt (by simpa using h)]

/-- The rounds of the loop: q is what is left, from place a on the bytes stand. -/
def NumAt (n0 q a : Nat) (acc : List UInt8) : Prop := a ≤ 9 ∧ acc.length = 10 - a ∧ q * 128 ^ (10 - a) ≤ n0 ∧ numHi q acc = numB n0
theorem NumAt.start (n0 : Nat) : NumAt n0 (n0 / 128) 9 [UInt8.ofNat (n0 % 128)] := ⟨by omega, by simp, by simp; omega, rfl⟩
theorem NumAt.room {n0 q a : Nat} {acc : List UInt8} (h : NumAt n0 q a acc) (hn : n0 < 18446744073709551616) (hq : 0 < q) : 1 ≤ a := by
  obtain ⟨h1, h2, h3, h4⟩ := h
  rcases Nat.eq_zero_or_pos a with rfl | h
  · simp at h3; omega
  · exact h
theorem NumAt.step {n0 q a : Nat} {acc : List UInt8} (h : NumAt n0 q a acc) (hn : n0 < 18446744073709551616) (hq : 0 < q) : NumAt n0 (q / 128) (a - 1) (UInt8.ofNat (q % 128 + 128) :: acc) := by
  have hr := h.room hn hq
  obtain ⟨h1, h2, h3, h4⟩ := h
  refine ⟨by omega, by simp [h2]; omega, ?_, by rw [← numHi_pos _ _ hq]; exact h4⟩
  rw [show 10 - (a - 1) = (10 - a) + 1 from by omega, Nat.pow_succ, Nat.mul_comm (128 ^ (10 - a)) 128, ← Nat.mul_assoc]
  exact Nat.le_trans (Nat.mul_le_mul_right _ (by omega)) h3
theorem NumAt.done {n0 a : Nat} {acc : List UInt8} (h : NumAt n0 0 a acc) : acc = numB n0 := by rw [← h.2.2.2, numHi_zero]
theorem numHi_len (n : Nat) (acc : List UInt8) (j : Nat) (h : n < 128 ^ j) : (numHi n acc).length ≤ acc.length + j := by
  induction j generalizing n acc with
  | zero =>
    have : n = 0 := by simpa using h
    subst this; rw [numHi_zero]; simp
  | succ j ih =>
    rcases Nat.eq_zero_or_pos n with rfl | hp
    · rw [numHi_zero]; omega
    · rw [numHi_pos _ _ hp]
      have := ih (n / 128) (UInt8.ofNat (n % 128 + 128) :: acc) (Nat.div_lt_of_lt_mul (by rw [Nat.pow_succ] at h; omega))
      simp only [List.length_cons] at this; omega
theorem numB_len (n : Nat) (h : n < 18446744073709551616) : (numB n).length ≤ 10 := by
  have := numHi_len (n / 128) [UInt8.ofNat (n % 128)] 9 (by simp; omega)
  simpa [numB] using this
/-- A cell of the row is written. -/
theorem drop_set {cs : Array Value} {a : Nat} {acc : List UInt8} {v : Value} {c : UInt8} (hs : cs.size = 10) (ha : 1 ≤ a) (ha9 : a ≤ 9) (hd : cs.toList.drop a = acc.map bv) (hv : v = bv c) :
    (cs.setIfInBounds (a - 1) v).size = 10 ∧ (cs.setIfInBounds (a - 1) v).toList.drop (a - 1) = (c :: acc).map bv := by
  refine ⟨by simp [hs], ?_⟩
  rw [Array.toList_setIfInBounds, List.drop_eq_getElem_cons (by simp [hs]; omega)]
  simp only [List.getElem_set_self, List.map_cons, hv]
  congr 1
  rw [show a - 1 + 1 = a from by omega, ← hd, List.drop_set_of_lt (by omega)]
end Go.Proofs.Ytplpbnglcfdaaaa
namespace Go.Proofs.Ytplpbnglcfdaaaa
open Go.RowKit

theorem Try.underlyingA : Try.prog.underlying 125 = some (.array 10 5) := by kernel_rfl
theorem Try.arrA : Try.prog.arrayLen 125 = 10 := by kernel_rfl
theorem Try.elemA : Try.prog.elem 125 = 5 := by kernel_rfl
theorem slice_arr (w : World) (a : Addr) (k : Nat) (hk : k ≤ 9) :
    (Instr.sliceAt 125 (.pointer (some a)) (some (.int .i64 k)) none none).run Try.prog w = .ok (.slice (some (a.add k)) (10 - k) (10 - k)) w := by
  obtain ⟨i, hi, hz0, hz1, hz2⟩ := info_parts Try.infoB
  rw [run_sliceAt_array_l w _ a (by rw [Try.arrA, Try.elemA]; exact Try.underlyingA) .i64 k (by omega) (by rw [Try.arrA]; omega), Try.elemA, Try.arrA]
  simp [sizeOf, typeInfo, hi, hz1, slicedAt, show ¬ 10 = k from by omega]

theorem bts_arr (w : World) (cs : Array Value) (a : Nat) (l : List UInt8) (t : TypeId) (hs : cs.size = 10) (ha : a ≤ 9) (hd : cs.toList.drop a = l.map bv) :
    Bts (w.alloc (.cells cs t)) (.slice (some ⟨w.heap.size, a, none⟩) (10 - a) (10 - a)) l := by
  have hl : 10 - a = l.length := by have := congrArg List.length hd; simpa [hs] using this
  refine ⟨_, _, _, rfl, hl, Nat.le_refl _, by omega, (fun h => by cases h), ?_⟩
  intro ad had j hj
  obtain rfl := Option.some.inj had
  rw [Addr.add_lit, World.cell?_alloc_at _ _ _ _ rfl]
  have e := congrArg (fun x => x[j]?) hd
  simp only [List.getElem?_drop, List.getElem?_map] at e
  rw [List.getElem?_eq_getElem hj] at e
  simpa [bv] using e

set_option maxHeartbeats 400000 in
theorem num_any (b : Nat) (l : List UInt8) (n : Int) (w : World) (h0 : 0 ≤ n) (h1 : n < 18446744073709551616) (hw : Wr w b l) (hsz : l.length ≤ 140737488350000) :
    Calls Try.prog 61 #[.pointer (some ⟨b, 0, none⟩), .int .u64 n] w fun e w' => e = .returned (.tuple #[]) ∧ Wr w' b (l ++ numB n.toNat) ∧ Below b w w' := by
  have hlt := hw.lt
  have HW : Hid (Wr w b l) := hw
  clear hw
  obtain ⟨n0, rfl⟩ := Int.eq_ofNat_of_zero_le h0
  rw [Int.toNat_natCast]
  have e1 := u64_and127 n0 h0 h1
  go_enter Try.func61, Try.ntmps61
  go_wp2
  clear e1
  go_loopw [1, 5] (fun nv av wr => ∃ (q a : Nat) (acc : List UInt8) (cs : Array Value), nv = .int .u64 q ∧ av = .int .i64 a ∧ q < 18446744073709551616 ∧ NumAt n0 q a acc ∧ cs.size = 10 ∧ cs.toList.drop a = acc.map bv ∧ wr = w.alloc (.cells cs 125)) (fun nv _ _ => (intOf nv).toNat)
  case atStart =>
    exact ⟨n0 / 128, 9, _, _, by simp, rfl, by omega, NumAt.start n0, rfl, by rw [List.map_cons, bv_num _ (by omega)]; simp, rfl⟩
  case round =>
    obtain ⟨q, a, acc, cs, rfl, rfl, hq, hN, hs, hd, rfl⟩ := hrel
    have ha := hN.1
    have HN : Hid (NumAt n0 q a acc) := hN
    clear hN
    have HD : Hid (cs.toList.drop a = acc.map bv) := hd
    clear hd
    by_cases hp : 0 < q
    · have hr := HN.out.room (by omega) hp
      have e2 := u64_and127 q (by omega) (by omega)
      have e3 := u64_or128 ((q : Int) % 128) (by omega) (by omega)
      have HQ : Hid (q < 18446744073709551616) := hq
      have H1 : Hid ((n0 : Int) < 18446744073709551616) := h1
      clear hq h1
      obtain ⟨old, hold⟩ : ∃ old, cs[a - 1]? = some old := ⟨cs[a - 1]'(by omega), by simp [show a - 1 < cs.size from by omega]⟩
      go_wp2
      go_roundw
      case rel =>
        have hst := HN.out.step (by have := H1.out; omega) hp
        have hds := drop_set (c := UInt8.ofNat (q % 128 + 128)) hs hr ha HD.out (v := .int .u8 ((q : Int) % 128 + 128)) (by rw [bv_num _ (by omega)]; simp)
        exact ⟨q / 128, a - 1, _, _, by go_num, by go_num, by have := HQ.out; omega, hst, hds.1, hds.2, rfl⟩
      case measure => simp [intOf]; omega
    · have hsl := fun (w' : World) => slice_arr w' ⟨w.heap.size, 0, none⟩ a ha
      obtain rfl : q = 0 := by omega
      have hdone := HN.out.done
      have hlen := HN.out.2.1
      have hW1 := HW.out.below ((Below.refl _ _).alloc (Nat.le_refl _) (.cells cs 125))
      have hbts := bts_arr w cs a (numB n0) 125 hs ha (by rw [← hdone]; exact HD.out)
      have HW1 := hio hW1
      have HB := hio hbts
      have hnl := numB_len n0 (by omega)
      clear hW1 hbts hq h1
      go_wp2_with (go_at_call 67; refine (lay_anyQ _ _ _ _ _ HW1.out HB.out (by omega)).mono ?_; rintro e w' ⟨rfl, hw', hb'⟩)
      go_end0
      exact ⟨rfl, hw', ((Below.refl _ _).alloc (by omega) _).trans hb'⟩

/-- A new block of bytes, as a slice. -/
theorem bts_lit (w : World) (l : List UInt8) (t : TypeId) (cs : Array Value) (hc : cs = (l.map bv).toArray) (hl : l.length ≤ 9223372036854775807) : Bts (w.alloc (.cells cs t)) (.slice (some ⟨w.heap.size, 0, none⟩) l.length l.length) l := by
  subst hc
  refine ⟨_, _, _, rfl, rfl, Nat.le_refl _, hl, (fun h => by cases h), ?_⟩
  intro ad had j hj
  obtain rfl := Option.some.inj had
  rw [Addr.add_lit, World.cell?_alloc_at _ _ _ _ rfl]
  simp [bv, hj]

/-- The byte of a number. -/
theorem u8_of (c : Int) (h0 : 0 ≤ c) (h1 : c < 256) : ∃ u : UInt8, c = (u.toNat : Int) := ⟨UInt8.ofNat c.toNat, by rw [UInt8.toNat_ofNat', Nat.mod_eq_of_lt (by omega)]; omega⟩

set_option maxHeartbeats 400000 in
theorem byte_any (b : Nat) (l : List UInt8) (c : UInt8) (w : World) (hw : Wr w b l) (hsz : l.length ≤ 140737488350000) :
    Calls Try.prog 60 #[.pointer (some ⟨b, 0, none⟩), .int .u8 (c.toNat : Int)] w fun e w' => e = .returned (.tuple #[]) ∧ Wr w' b (l ++ [c]) ∧ Below b w w' := by
  have hlt := hw.lt
  have HW1 := hio (hw.below ((Below.refl _ _).alloc (Nat.le_refl _) (.cells #[.int .u8 (c.toNat : Int)] 5)))
  have HB := hio (bts_lit w [c] 5 #[.int .u8 (c.toNat : Int)] rfl (by simp))
  clear hw
  go_enter Try.func60, Try.ntmps60
  go_wp2_with (go_at_call 67; refine (lay_anyQ _ _ _ _ _ HW1.out HB.out (by simp; omega)).mono ?_; rintro e w' ⟨rfl, hw', hb'⟩)
  go_end0
  exact ⟨rfl, hw', ((Below.refl _ _).alloc (by omega) _).trans hb'⟩

/-- An int's bytes. -/
def intB (n : Int) : List UInt8 := if 0 ≤ n then 0 :: numB n.toNat else 1 :: numB (-1 - n).toNat

set_option maxHeartbeats 400000 in
theorem int_any (b : Nat) (l : List UInt8) (n : Int) (w : World) (h0 : -9223372036854775808 ≤ n) (h1 : n < 9223372036854775808) (hw : Wr w b l) (hsz : l.length ≤ 140737488340000) :
    Calls Try.prog 38 #[.pointer (some ⟨b, 0, none⟩), .int .i64 n] w fun e w' => e = .returned (.tuple #[]) ∧ Wr w' b (l ++ intB n) ∧ Below b w w' := by
  have hlt := hw.lt
  have HW := hio hw
  clear hw
  by_cases hn : 0 ≤ n
  · have HI : Hid (intB n = 0 :: numB n.toNat) := hio (by unfold intB; rw [if_pos hn])
    have h2 : n ≤ 9223372036854775807 := by omega
    clear h0 h1
    go_enter Try.func38, Try.ntmps38
    go_wp2_with fail
    refine (byte_any _ _ 0 _ HW.out (by omega)).mono ?_
    rintro e w1 ⟨rfl, hw1, hb1⟩
    have HW1 := hio hw1
    clear hw1
    go_wp2_with fail
    refine (num_any _ _ _ _ hn (by omega) HW1.out (by simp; omega)).mono ?_
    rintro e w2 ⟨rfl, hw2, hb2⟩
    have HW2 := hio hw2
    clear hw2
    go_wp2
    first | go_end0 | refine bodyPost_ret (results_none rfl _ _ _) rfl ?_
    exact ⟨rfl, by rw [HI.out]; simpa using HW2.out, hb1.trans hb2⟩
  · have HI : Hid (intB n = 1 :: numB (-1 - n).toNat) := hio (by unfold intB; rw [if_neg hn])
    have e1 : wrap64 (-1 - n) = -1 - n := by rw [← IntWalk.i64_left]; exact IntWalk.i64_in _ ⟨by omega, by omega⟩
    have e2 : IntKind.u64.wrap (-1 - n) = -1 - n := IntWalk.u64_in _ ⟨by omega, by omega⟩
    have hm : 0 ≤ -1 - n := by omega
    have hM : Hid (-1 - n < 18446744073709551616) := hio (by omega)
    clear h0 h1
    go_enter Try.func38, Try.ntmps38
    go_wp2_with fail
    refine (byte_any _ _ 1 _ HW.out (by omega)).mono ?_
    rintro e w1 ⟨rfl, hw1, hb1⟩
    have HW1 := hio hw1
    clear hw1
    go_wp2_with fail
    refine (num_any _ _ _ _ hm hM.out HW1.out (by simp; omega)).mono ?_
    rintro e w2 ⟨rfl, hw2, hb2⟩
    have HW2 := hio hw2
    clear hw2
    go_wp2
    first | go_end0 | refine bodyPost_ret (results_none rfl _ _ _) rfl ?_
    exact ⟨rfl, by rw [HI.out]; simpa using HW2.out, hb1.trans hb2⟩

/-- A text's bytes. -/
def textB (s : ByteArray) : List UInt8 := numB s.size ++ s.data.toList

theorem Try.underlyingS : Try.prog.underlying 9 = some .string := by kernel_rfl
theorem Try.underlyingU : Try.prog.underlying 5 = some (.int .u8) := by kernel_rfl
/-- '[]byte(s)'. -/
theorem conv_bytes (w : World) (s : ByteArray) (hs : s.size ≤ 9223372036854775807) :
    ∃ cap W1, (convert 9 80 (.string s)).run Try.prog w = .ok (.slice (some ⟨w.heap.size, 0, none⟩) s.size cap) W1 ∧ Bts W1 (.slice (some ⟨w.heap.size, 0, none⟩) s.size cap) s.data.toList ∧ Below w.heap.size w W1 := by
  refine ⟨_, _, run_bytes_of_string w _ _ _ s Try.underlyingS Try.underlyingB Try.underlyingU, ?_, ?_⟩
  · refine ⟨_, _, _, rfl, by simp, grownCap_ge _ _ _ _, grownCap_le_maxLen _ _ _ _ (by unfold maxLen; omega), (fun h => by cases h), ?_⟩
    intro ad had j hj
    obtain rfl := Option.some.inj had
    rw [Addr.add_lit]
    refine (World.cell?_alloc_mark w.drew _ _ _ _).trans ?_
    have hj' : j < s.data.size := by simpa using hj
    simp [bytesRow, Array.getElem?_append, show j < s.size from hj']
  · exact ((Below.refl _ _).drew).alloc (Nat.le_refl _) _

/-- 'string(b)'. -/
theorem conv_string (w : World) (v : Value) (l : List UInt8) (hv : Bts w v l) : (convert 80 9 v).run Try.prog w = .ok (.string ⟨l.toArray⟩) w := by
  obtain ⟨ao, n, cap, rfl, rfl, hc, hm, hnone, hcell⟩ := hv
  cases ao with
  | some ad => exact run_convert_bytes_back w _ _ _ ad cap l Try.underlyingB Try.underlyingU Try.underlyingS (hcell ad rfl)
  | none =>
    have h0 := hnone rfl
    subst h0
    have hl : l = [] := List.eq_nil_of_length_eq_zero (by omega)
    subst hl
    rw [run_convert_bytes_string w _ _ _ none _ 0 Try.underlyingB Try.underlyingU Try.underlyingS]
    simp [Conv.bytesToString]
    rfl

set_option maxHeartbeats 400000 in
theorem bytes_any (b : Nat) (l : List UInt8) (w : World) (hw : Wr w b l) (hsz : l.length ≤ 140737488340000) :
    Calls Try.prog 39 #[.pointer (some ⟨b, 0, none⟩)] w fun e w' => ∃ va vc, e = .returned (.slice va l.length vc) ∧ Own w' w.heap.size (.slice va l.length vc) l ∧ Below w.heap.size w w' := by
  have hlt := hw.lt
  obtain ⟨va, vc, h1, h2⟩ := hw
  have hc := cell_of_one h1
  have HB := hio h2.bts
  clear h1 h2
  go_enter Try.func39, Try.ntmps39
  go_wp2_with (at_builtin; refine wpl_append rfl _ _ rfl w.heap.size (.slice none 0 0) [] rfl (Own.nil _ _) _ l rfl HB.out (by simp; omega) (by omega) ?_; intro va' vc' w1 ho1 hg1)
  go_ret
  simp only [List.length_nil, Nat.zero_add, List.nil_append] at ho1 ⊢
  refine ⟨va', vc', by simp, ho1, ?_⟩
  exact ⟨hg1.os, hg1.tape, hg1.output, hg1.size, fun k hk => hg1.block k hk (by simp [Value.ownBlock])⟩
end Go.Proofs.Ytplpbnglcfdaaaa
namespace Go.Proofs.Ytplpbnglcfdaaaa
open Go.RowKit

end Go.Proofs.Ytplpbnglcfdaaaa
namespace Go.Proofs.Ytplpbnglcfdaaaa
open Go.RowKit

theorem Bts.take {w : World} {n m cap : Nat} {l : List UInt8} {ao : Option Addr} (hb : Bts w (.slice ao m cap) l) (hn : n ≤ l.length) : Bts w (.slice ao n cap) (l.take n) := by
  obtain ⟨ao1, n1, cap1, e, h1, h2, h3, h4, h5⟩ := hb
  cases e
  refine ⟨_, _, _, rfl, by simp; omega, by omega, h3, h4, fun ad had j hj => ?_⟩
  rw [h5 ad had j (by simp at hj; omega)]
  simp
theorem Bts.sub {w : World} {m cap k n : Nat} {l : List UInt8} {ao ao' : Option Addr} (hb : Bts w (.slice ao m cap) l) (hk : k + n ≤ l.length) (hd : cap ≠ k → ao' = ao.map (·.add k)) (hd1 : cap = k → ao' = ao) : Bts w (.slice ao' n (cap - k)) ((l.drop k).take n) := by
  obtain ⟨ao1, n1, cap1, e, h1, h2, h3, h4, h5⟩ := hb
  cases e
  refine ⟨_, _, _, rfl, by simp; omega, by omega, by omega, ?_, fun ad had j hj => ?_⟩
  · intro h
    by_cases hc : cap = k
    · omega
    · rw [hd hc] at h
      cases ao with
      | none => have := h4 rfl; omega
      | some a => cases h
  · have hj' : j < n := by simp at hj; omega
    have hc : cap ≠ k := by omega
    rw [hd hc] at had
    cases ao with
    | none => cases had
    | some a =>
      obtain rfl := Option.some.inj had
      rw [Addr.add_add, h5 a rfl (k + j) (by omega)]
      simp
end Go.Proofs.Ytplpbnglcfdaaaa
namespace Go.Proofs.Ytplpbnglcfdaaaa
open Go.RowKit

/-- A Reader lies at block b: bad, or with the rest l. -/
def Rd (w : World) (b : Nat) : Option (List UInt8) → Prop
  | none => w.heap[b]? = some (.cells #[.slice none 0 0, .bool true] 113 (0, 0))
  | some l => ∃ ao cap, w.heap[b]? = some (.cells #[.slice ao l.length cap, .bool false] 113 (0, 0)) ∧ Bts w (.slice ao l.length cap) l ∧ ∀ ad, ao = some ad → ad.block < b
def leftN : Option (List UInt8) → Nat
  | none => 0
  | some l => l.length
def badO : Option (List UInt8) → Bool
  | none => true
  | some _ => false
def endB : Option (List UInt8) → Bool
  | some [] => true
  | _ => false

theorem cell_two {w : World} {b : Nat} {u v : Value} {t : TypeId} (h : w.heap[b]? = some (.cells #[u, v] t (0, 0))) :
    w.cell? ⟨b, 0, none⟩ = some u ∧ w.cell? ⟨b, 1, none⟩ = some v ∧ w.frozen? ⟨b, 0, none⟩ = false ∧ w.frozen? ⟨b, 1, none⟩ = false :=
  ⟨by rw [cell_of_row w b _ _ _ _ h]; rfl, by rw [cell_of_row w b _ _ _ _ h]; rfl, frozen_of_row w b _ _ _ h, frozen_of_row w b _ _ _ h⟩
theorem Rd.cells {w : World} {b : Nat} {s : Option (List UInt8)} (h : Rd w b s) :
    ∃ ao cap, w.heap[b]? = some (.cells #[.slice ao (leftN s) cap, .bool (badO s)] 113 (0, 0)) := by
  cases s with
  | none => exact ⟨none, 0, h⟩
  | some l => obtain ⟨ao, cap, h, -⟩ := h; exact ⟨ao, cap, h⟩
theorem Rd.lt {w : World} {b : Nat} {s : Option (List UInt8)} (h : Rd w b s) : b < w.heap.size := by obtain ⟨_, _, h⟩ := h.cells; exact lt_of_block h
theorem Rd.len {w : World} {b : Nat} {s : Option (List UInt8)} (h : Rd w b s) : leftN s ≤ 9223372036854775807 := by
  cases s with
  | none => exact Nat.zero_le _
  | some l => obtain ⟨ao, cap, -, ⟨_, n, c, e, e2, h1, h2, -⟩, -⟩ := h; cases e; show l.length ≤ _; omega
theorem grown_trans {w w1 w2 : World} {r : Option Nat} (h1 : w.grownBy w1 r) (h2 : w1.grownBy w2 r) : w.grownBy w2 r :=
  ⟨h2.os.trans h1.os, h2.tape.trans h1.tape, h2.output.trans h1.output, Nat.le_trans h1.size h2.size, fun k hk hr => (h2.block k (Nat.lt_of_lt_of_le hk h1.size) hr).trans (h1.block k hk hr)⟩
theorem grown_set (w : World) (b i : Nat) (v : Value) : w.grownBy (w.setCell ⟨b, i, none⟩ v) (some b) :=
  ⟨rfl, rfl, rfl, by simp [World.setCell], fun k _ hr => Below.heap_setCell _ _ _ _ (fun e => hr (by rw [e]))⟩
theorem grown_below {B b : Nat} {w0 w w1 : World} (h : Below B w0 w) (hg : w.grownBy w1 (some b)) (hB : B ≤ w.heap.size) (hb : B ≤ b) : Below B w0 w1 :=
  h.grown hg hB fun k hk => by obtain rfl := Option.some.inj hk; exact hb
theorem Bts.other {w w' : World} {b n cap : Nat} {ao : Option Addr} {l : List UInt8} (h : Bts w (.slice ao n cap) l) (hg : w.grownBy w' (some b)) (hne : ∀ ad, ao = some ad → ad.block ≠ b) : Bts w' (.slice ao n cap) l := by
  obtain ⟨ao', n', cap', e, h1, h2, h3, h4, h5⟩ := h
  cases e
  refine ⟨ao, n, cap, rfl, h1, h2, h3, h4, fun ad had j hj => ?_⟩
  have hne' := hne ad had
  refine hg.cell (h5 ad had j hj) ?_
  intro e
  apply hne'
  have : (ad.add j).block = ad.block := by simp [Addr.add]; split <;> rfl
  rw [this] at e
  exact Option.some.inj e
/-- A Reader is as it was where its block and its row are. -/
theorem Rd.kept {w w' : World} {b : Nat} {s : Option (List UInt8)} (h : Rd w b s) (hb : Below w.heap.size w w') : Rd w' b s := by
  have hlt := h.lt
  cases s with
  | none => show w'.heap[b]? = _; rw [hb.block b hlt]; exact h
  | some l =>
    obtain ⟨ao, cap, h1, h2, h3⟩ := h
    exact ⟨ao, cap, by rw [hb.block b hlt]; exact h1, h2.below hb, h3⟩

/-- What lies behind a Reader's own block does not touch it. -/
theorem Rd.beyond {w w' : World} {b : Nat} {s : Option (List UInt8)} (h : Rd w b s) (hb : ∀ k, k ≤ b → w'.heap[k]? = w.heap[k]?) : Rd w' b s := by
  cases s with
  | none => show w'.heap[b]? = _; rw [hb b (Nat.le_refl _)]; exact h
  | some l =>
    obtain ⟨ao, cap, h1, h2, h3⟩ := h
    refine ⟨ao, cap, by rw [hb b (Nat.le_refl _)]; exact h1, ?_, h3⟩
    obtain ⟨ao', n', cap', e, g1, g2, g3, g4, g5⟩ := h2
    cases e
    refine ⟨ao, l.length, cap, rfl, g1, g2, g3, g4, fun ad had j hj => ?_⟩
    have e : (ad.add j).block = ad.block := by simp [Addr.add]; split <;> rfl
    rw [World.cell?_of_block (w := w) (by rw [e]; exact hb _ (Nat.le_of_lt (h3 ad had)))]
    exact g5 ad had j hj
set_option maxHeartbeats 400000 in
theorem left_any (b : Nat) (s : Option (List UInt8)) (w : World) (hr : Rd w b s) :
    Calls Try.prog 59 #[.pointer (some ⟨b, 0, none⟩)] w fun e w' => e = .returned (.int .i64 (leftN s)) ∧ w' = w := by
  have hlen := hr.len
  obtain ⟨ao, cap, h⟩ := hr.cells
  obtain ⟨hc0, hc1, hf0, hf1⟩ := cell_two h
  clear h hr hc1 hf0 hf1
  generalize leftN s = n at *
  go_enter Try.func59, Try.ntmps59
  go_wp2
  go_ret
  exact ⟨rfl, rfl⟩
set_option maxHeartbeats 400000 in
theorem bad_any (b : Nat) (s : Option (List UInt8)) (w : World) (hr : Rd w b s) :
    Calls Try.prog 58 #[.pointer (some ⟨b, 0, none⟩)] w fun e w' => e = .returned (.bool (badO s)) ∧ w' = w := by
  obtain ⟨ao, cap, h⟩ := hr.cells
  obtain ⟨hc0, hc1, hf0, hf1⟩ := cell_two h
  clear h hr hc0 hf0 hf1
  generalize badO s = t at *
  go_enter Try.func58, Try.ntmps58
  go_wp2
  go_ret
  exact ⟨rfl, rfl⟩
set_option maxHeartbeats 400000 in
theorem end_any (b : Nat) (s : Option (List UInt8)) (w : World) (hr : Rd w b s) :
    Calls Try.prog 37 #[.pointer (some ⟨b, 0, none⟩)] w fun e w' => e = .returned (.bool (endB s)) ∧ w' = w := by
  have HR := hio hr
  clear hr
  cases s with
  | none =>
    go_enter Try.func37, Try.ntmps37
    go_wp2_with (first | (go_at_call 58; refine (bad_any _ _ _ HR.out).mono ?_; rintro e w' ⟨rfl, rfl⟩; simp only [badO]) | (go_at_call 59; refine (left_any _ _ _ HR.out).mono ?_; rintro e w' ⟨rfl, rfl⟩))
    go_ret
    exact ⟨rfl, rfl⟩
  | some l =>
    cases l with
    | nil =>
      go_enter Try.func37, Try.ntmps37
      go_wp2_with (first | (go_at_call 58; refine (bad_any _ _ _ HR.out).mono ?_; rintro e w' ⟨rfl, rfl⟩; simp only [badO]) | (go_at_call 59; refine (left_any _ _ _ HR.out).mono ?_; rintro e w' ⟨rfl, rfl⟩; simp only [leftN, List.length_nil]))
      go_ret
      exact ⟨rfl, rfl⟩
    | cons c l =>
      have hn : (((l.length + 1 : Nat) : Int) == 0) = false := by simp; omega
      go_enter Try.func37, Try.ntmps37
      go_wp2_with (first | (go_at_call 58; refine (bad_any _ _ _ HR.out).mono ?_; rintro e w' ⟨rfl, rfl⟩; simp only [badO]) | (go_at_call 59; refine (left_any _ _ _ HR.out).mono ?_; rintro e w' ⟨rfl, rfl⟩; simp only [leftN, List.length_cons]))
      go_ret
      exact ⟨rfl, rfl⟩

set_option maxHeartbeats 400000 in
theorem spoil_any (b : Nat) (s : Option (List UInt8)) (w : World) (hr : Rd w b s) :
    Calls Try.prog 57 #[.pointer (some ⟨b, 0, none⟩)] w fun e w' => e = .returned (.tuple #[]) ∧ Rd w' b none ∧ w.grownBy w' (some b) := by
  obtain ⟨ao, cap, h⟩ := hr.cells
  obtain ⟨hc0, hc1, hf0, hf1⟩ := cell_two h
  have H := hio h
  clear h hr
  generalize leftN s = n at *
  generalize badO s = t at *
  have hc2 : (w.setCell ⟨b, 0, none⟩ (.slice none 0 0)).cell? ⟨b, 1, none⟩ = some (.bool t) := by
    rw [cell_of_row _ b _ _ _ _ (heap_setCell_same w b 0 _ _ _ H.out)]; rfl
  have hf2 : (w.setCell ⟨b, 0, none⟩ (.slice none 0 0)).frozen? ⟨b, 1, none⟩ = false := frozen_of_row _ b _ _ _ (heap_setCell_same w b 0 _ _ _ H.out)
  go_enter Try.func57, Try.ntmps57
  go_wp2
  go_end0
  refine ⟨rfl, ?_, grown_trans (grown_set _ _ _ _) (grown_set _ _ _ _)⟩
  exact heap_setCell_same _ b 1 _ _ _ (heap_setCell_same w b 0 _ _ _ H.out)

def byteR : Option (List UInt8) → UInt8
  | some (c :: _) => c
  | _ => 0
def byteS : Option (List UInt8) → Option (List UInt8)
  | some (_ :: l) => some l
  | _ => none
theorem Rd.byte {w : World} {b : Nat} {l : List UInt8} {c : UInt8} {ad : Addr} {cap : Nat} (h : w.heap[b]? = some (.cells #[.slice (some ad) (l.length + 1) cap, .bool false] 113 (0, 0)))
    (hb : Bts w (.slice (some ad) (l.length + 1) cap) (c :: l)) (hne : ad.block < b) (ad' : Addr) (hd : cap ≠ 1 → ad' = ad.add 1) (hd1 : cap = 1 → ad' = ad) :
    Rd (w.setCell ⟨b, 0, none⟩ (.slice (some ad') l.length (cap - 1))) b (some l) := by
  have hbl : ad'.block = ad.block := by
    by_cases h1 : cap = 1
    · rw [hd1 h1]
    · rw [hd h1]; simp [Addr.add]
  obtain ⟨ao', n', cap', e, h1, h2, h3, h4, h5⟩ := hb
  cases e
  have hB : Bts w (.slice (some ad') l.length (cap - 1)) l := by
    refine ⟨_, _, _, rfl, rfl, by omega, by omega, (fun h => by cases h), fun ad2 h2' j hj => ?_⟩
    obtain rfl := Option.some.inj h2'
    have := h5 ad rfl (j + 1) (by simp; omega)
    rw [hd (by omega)]
    rw [show (ad.add 1).add j = ad.add (j + 1) from by rw [Addr.add_add]; rw [Nat.add_comm]]
    simpa using this
  refine ⟨some ad', cap - 1, heap_setCell_same w b 0 _ _ _ h, ?_, fun ad2 h2' => by obtain rfl := Option.some.inj h2'; rw [hbl]; exact hne⟩
  exact hB.other (grown_set w b 0 _) fun ad2 h2' => by obtain rfl := Option.some.inj h2'; rw [hbl]; omega

set_option maxHeartbeats 800000 in
theorem rbyte_any (b : Nat) (s : Option (List UInt8)) (w : World) (hr : Rd w b s) :
    Calls Try.prog 55 #[.pointer (some ⟨b, 0, none⟩)] w fun e w' => e = .returned (.int .u8 (byteR s).toNat) ∧ Rd w' b (byteS s) ∧ w.grownBy w' (some b) := by
  have HR := hio hr
  match s, hr, HR with
  | none, _, HR =>
    go_enter Try.func55, Try.ntmps55
    go_wp2_with (first | (go_at_call 59; refine (left_any _ _ _ HR.out).mono ?_; rintro e w' ⟨rfl, rfl⟩; simp only [leftN]) | (go_at_call 57; refine (spoil_any _ _ _ HR.out).mono ?_; rintro e w1 ⟨rfl, hr1, hg1⟩; have HR1 := hio hr1; clear hr1))
    go_ret
    exact ⟨rfl, HR1.out, hg1⟩
  | some [], _, HR =>
    go_enter Try.func55, Try.ntmps55
    go_wp2_with (first | (go_at_call 59; refine (left_any _ _ _ HR.out).mono ?_; rintro e w' ⟨rfl, rfl⟩; simp only [leftN, List.length_nil]) | (go_at_call 57; refine (spoil_any _ _ _ HR.out).mono ?_; rintro e w1 ⟨rfl, hr1, hg1⟩; have HR1 := hio hr1; clear hr1))
    go_ret
    exact ⟨rfl, HR1.out, hg1⟩
  | some (c :: l), hr, HR =>
    obtain ⟨ao, cap, h, hb, hne⟩ := hr
    have HB := hio hb
    obtain ⟨ao', n', cap', e, h1, h2, h3, h4, h5⟩ := hb
    cases e
    have hao : ∃ ad, ao = some ad := by cases ao with | none => exact absurd (h4 rfl) (by rw [List.length_cons] at h2; omega) | some ad => exact ⟨ad, rfl⟩
    obtain ⟨ad, rfl⟩ := hao
    have hcell : w.cell? ad = some (.int .u8 (c.toNat : Int)) := by have := h5 ad rfl 0 (by simp); rw [Addr.add_zero'] at this; exact this
    obtain ⟨hc0, hc1, hf0, hf1⟩ := cell_two h
    have H := hio h
    have hnb := hio (hne ad rfl)
    have hn : (((l.length + 1 : Nat) : Int) == 0) = false := by simp; omega
    clear h hne h5 h4 h1
    rw [List.length_cons] at hc0 h2
    go_enter Try.func55, Try.ntmps55
    go_wp2_with (first | (go_at_call 59; refine (left_any _ _ _ HR.out).mono ?_; rintro e w' ⟨rfl, rfl⟩; simp only [leftN, List.length_cons]))
    · have hc1' : cap = 1 := by assumption
      subst hc1'
      go_ret
      exact ⟨rfl, Rd.byte H.out HB.out hnb.out ad (fun h => absurd rfl h) (fun _ => rfl), grown_set _ _ _ _⟩
    · have hc1' : ¬ cap = 1 := by assumption
      go_ret
      exact ⟨rfl, Rd.byte H.out HB.out hnb.out _ (fun _ => by rw [Addr.add_succ']) (fun h => absurd h hc1'), grown_set _ _ _ _⟩

set_option maxHeartbeats 400000 in
theorem newReader_any (v : Value) (l : List UInt8) (w : World) (hv : Bts w v l) (hl : l.length ≤ 140737488355328) :
    Calls Try.prog 35 #[v] w fun e w' => ∃ b, e = .returned (.pointer (some ⟨b, 0, none⟩)) ∧ w.heap.size ≤ b ∧ Rd w' b (some l) ∧ Below w.heap.size w w' := by
  have HV := hio hv
  obtain ⟨va, vc, rfl⟩ := hv.shape
  clear hv
  go_enter Try.func35, Try.ntmps35
  go_wp2_with (at_builtin; refine wpl_append rfl _ _ rfl w.heap.size (.slice none 0 0) [] rfl (Own.nil _ _) _ l rfl HV.out (by simp; omega) (Nat.le_refl _) ?_; intro va' vc' w1 ho1 hg1)
  simp only [List.length_nil, Nat.zero_add, List.nil_append] at ho1
  have hB : Below w.heap.size w w1 := ⟨hg1.os, hg1.tape, hg1.output, hg1.size, fun k hk => hg1.block k hk (by simp [Value.ownBlock])⟩
  have HB := hio hB
  have hsz := hB.size
  go_ret
  refine ⟨w1.heap.size, rfl, hsz, ⟨va', vc', heap_alloc_new _ _, ho1.bts.alloc _, fun ad had => ?_⟩, HB.out.alloc hsz _⟩
  subst had
  exact (World.ownsRow.lt ho1 ad.block rfl).2
end Go.Proofs.Ytplpbnglcfdaaaa
namespace Go.Proofs.Ytplpbnglcfdaaaa
open Go.RowKit

/-- The rounds: c the byte that was taken last, n what has been read, l what is left. -/
def numGo : List UInt8 → Nat → Nat → Nat × Option (List UInt8)
  | [], c, n => if c < 128 then (n, some []) else (0, none)
  | d :: l, c, n => if c < 128 then (n, some (d :: l)) else if 144115188075855871 < n then (0, none) else numGo l d.toNat (n * 128 + d.toNat % 128)
def numR : Option (List UInt8) → Nat × Option (List UInt8)
  | none => (0, none)
  | some [] => (0, none)
  | some (c :: l) => if c.toNat = 128 then (0, none) else numGo l c.toNat (c.toNat % 128)
theorem numGo_low (l : List UInt8) (c n : Nat) (h : c < 128) : numGo l c n = (n, some l) := by cases l <;> simp [numGo, h]
theorem numGo_big (l : List UInt8) (c n : Nat) (h : ¬ c < 128) (hn : 144115188075855871 < n) : numGo l c n = (0, none) := by cases l <;> simp [numGo, h, hn]
theorem numGo_end (c n : Nat) (h : ¬ c < 128) : numGo [] c n = (0, none) := by simp [numGo, h]
theorem numGo_cons (l : List UInt8) (d : UInt8) (c n : Nat) (h : ¬ c < 128) (hn : ¬ 144115188075855871 < n) : numGo (d :: l) c n = numGo l d.toNat (n * 128 + d.toNat % 128) := by simp [numGo, h, hn]
theorem numGo_lt (l : List UInt8) (c n : Nat) (hn : n < 18446744073709551616) : (numGo l c n).1 < 18446744073709551616 := by
  induction l generalizing c n with
  | nil =>
    unfold numGo
    split
    · exact hn
    · simp
  | cons d l ih =>
    unfold numGo
    split
    · exact hn
    · split
      · simp
      · exact ih _ _ (by omega)
theorem numR_lt (s : Option (List UInt8)) : (numR s).1 < 18446744073709551616 := by
  match s with
  | none => simp [numR]
  | some [] => simp [numR]
  | some (c :: l) =>
    by_cases h : c.toNat = 128
    · simp [numR, h]
    · have := numGo_lt l c.toNat (c.toNat % 128) (by omega)
      simpa [numR, h] using this
/-- What is known at a round's head. -/
def NumSt (s : Option (List UInt8)) (c n : Nat) : Option (List UInt8) → Prop
  | some l => numR s = numGo l c n
  | none => c = 0 ∧ numR s = (0, none)
theorem NumSt.start (s : Option (List UInt8)) (h : (byteR s).toNat ≠ 128) : NumSt s (byteR s).toNat ((byteR s).toNat % 128) (byteS s) := by
  match s, h with
  | none, _ => exact ⟨rfl, rfl⟩
  | some [], _ => exact ⟨rfl, rfl⟩
  | some (c :: l), h => simp only [byteR] at h; simp [NumSt, numR, byteR, byteS, h]
theorem NumSt.low {s : Option (List UInt8)} {c n : Nat} {st : Option (List UInt8)} (h : NumSt s c n st) (hc : c < 128) : numR s = if badO st then (0, none) else (n, st) := by
  cases st with
  | none => exact h.2
  | some l => rw [show numR s = numGo l c n from h, numGo_low _ _ _ hc]; rfl
theorem NumSt.high {s : Option (List UInt8)} {c n : Nat} {st : Option (List UInt8)} (h : NumSt s c n st) (hc : ¬ c < 128) : ∃ l, st = some l ∧ numR s = numGo l c n := by
  cases st with
  | none => exact absurd h.1 (by omega)
  | some l => exact ⟨l, rfl, h⟩
theorem NumSt.next {s : Option (List UInt8)} {c n : Nat} {l : List UInt8} (h : numR s = numGo l c n) (hc : ¬ c < 128) (hn : ¬ 144115188075855871 < n) :
    NumSt s (byteR (some l)).toNat (n * 128 + (byteR (some l)).toNat % 128) (byteS (some l)) := by
  cases l with
  | nil => exact ⟨rfl, by rw [h, numGo_end _ _ hc]⟩
  | cons d l => show numR s = _; rw [h, numGo_cons _ _ _ _ hc hn]; rfl
theorem u8_and127 (c : Nat) (h : c < 256) : bits .and .u8 (c : Int) 127 = (c : Int) % 128 := by
  rw [u8_and _ 127 (by omega) (by omega) (by omega) (by omega)]
  have : (c : Int).toNat &&& (127 : Int).toNat = c % 128 := Nat.and_two_pow_sub_one_eq_mod _ 7
  rw [this]; omega
theorem u64_or_low (n m : Nat) (hn : n ≤ 144115188075855871) : bits .or .u64 ((n : Int) * 128) ((m : Int) % 128) = (n : Int) * 128 + (m : Int) % 128 := by
  rw [u64_or _ _ (by omega) (by omega) (by omega) (by omega)]
  have e : ((n : Int) * 128).toNat = 2 ^ 7 * n := by omega
  rw [e, ← Nat.two_pow_add_eq_or_of_lt (by omega)]; omega
/-- What is left, and whether the loop goes on: falls with each round. -/
def msr (b : Nat) (c : Value) (w : World) : Nat := 2 * (match w.cell? ⟨b, 0, none⟩ with | some (.slice _ n _) => n | _ => 0) + (if intOf c < 128 then 0 else 1)
theorem msr_of {w : World} {b : Nat} {s : Option (List UInt8)} (h : Rd w b s) (k : IntKind) (c : Int) : msr b (.int k c) w = 2 * leftN s + (if c < 128 then 0 else 1) := by
  obtain ⟨ao, cap, h⟩ := h.cells
  have := (cell_two h).1
  unfold msr
  rw [this]
  rfl

def Fits (c n : Nat) : Prop := c < 256 ∧ n ≤ 18446744073709551615
set_option maxHeartbeats 1600000 in
theorem rnum_any (b : Nat) (s : Option (List UInt8)) (w : World) (hr : Rd w b s) :
    Calls Try.prog 56 #[.pointer (some ⟨b, 0, none⟩)] w fun e w' => e = .returned (.int .u64 (numR s).1) ∧ Rd w' b (numR s).2 ∧ w.grownBy w' (some b) := by
  have HR := hio hr
  clear hr
  by_cases h128 : (byteR s).toNat = 128
  · have HN : Hid (numR s = (0, none)) := hio (by
      match s, h128 with
      | none, h => simp [byteR] at h
      | some [], h => simp [byteR] at h
      | some (c :: l), h => simp only [byteR] at h; simp [numR, h])
    go_enter Try.func56, Try.ntmps56
    go_wp2_with fail
    refine (rbyte_any _ _ _ HR.out).mono ?_
    rintro e w1 ⟨rfl, hr1, hg1⟩
    have HR1 := hio hr1
    clear hr1
    rw [h128]
    go_wp2_with fail
    refine (spoil_any _ _ _ HR1.out).mono ?_
    rintro e w2 ⟨rfl, hr2, hg2⟩
    have HR2 := hio hr2
    clear hr2
    go_wp2
    go_ret
    rw [HN.out]
    exact ⟨rfl, HR2.out, grown_trans hg1 hg2⟩
  · have hlt := (byteR s).toNat_lt
    have hst := NumSt.start s h128
    obtain ⟨c0, hc0⟩ : ∃ c0 : Nat, c0 = (byteR s).toNat := ⟨_, rfl⟩
    have HC := hio hc0
    rw [← hc0] at h128 hlt hst
    have HST := hio hst
    clear hc0 hst
    have e1 := u8_and127 c0 (by omega)
    have hb128 : ((c0 : Int) == 128) = false := by simp; omega
    have hlt2 : (c0 : Int) ≤ 255 := by omega
    clear hlt
    go_enter Try.func56, Try.ntmps56
    go_wp2_with fail
    refine (rbyte_any _ _ _ HR.out).mono ?_
    rintro e w1 ⟨rfl, hr1, hg1⟩
    rw [← HC.out]
    have HR1 := hio hr1
    have HG1 := hio hg1
    clear hr1 hg1 HR
    go_wp2
    clear e1 hb128
    go_loopw [3, 4] (fun cv nv wr => ∃ (c n : Nat) (st : Option (List UInt8)), cv = .int .u8 (c : Int) ∧ nv = .int .u64 (n : Int) ∧ Fits c n ∧ Rd wr b st ∧ w.grownBy wr (some b) ∧ NumSt s c n st) (fun cv _ wr => msr b cv wr)
    case atStart => exact ⟨c0, c0 % 128, byteS s, rfl, by simp, ⟨by omega, by omega⟩, HR1.out, HG1.out, HST.out⟩
    case round =>
      obtain ⟨c, n, st, rfl, rfl, hn, hrd, hg, hN⟩ := hrel
      clear HR1 HST HG1
      have HRD := hio hrd
      have HG := hio hg
      have HN := hio hN
      have hcl : (c : Int) ≤ 255 := by have := hn.1; omega
      have hn2 : (n : Int) ≤ 18446744073709551615 := by have := hn.2; omega
      clear hrd hg hN hn h128
      by_cases hc : (128 : Int) ≤ (c : Int)
      · obtain ⟨l, rfl, hl⟩ := HN.out.high (by omega)
        by_cases hbig : (144115188075855871 : Int) < (n : Int)
        · have HE := hio (hl.trans (numGo_big l c n (by omega) (by omega)))
          clear hl
          go_wp2_with (go_at_call 57; refine (spoil_any _ _ _ HRD.out).mono ?_; rintro e w2 ⟨rfl, hr2, hg2⟩; have HR2 := hio hr2; clear hr2)
          go_ret
          rw [HE.out]
          exact ⟨rfl, HR2.out, grown_trans HG.out hg2⟩
        · have HE := hio (NumSt.next hl (by omega) (by omega))
          clear hl
          have hbl := (byteR (some l)).toNat_lt
          have hm0 := msr_of HRD.out .u8 (c : Int)
          have HM0 := hio hm0
          clear hm0
          obtain ⟨d, hd⟩ : ∃ d : Nat, d = (byteR (some l)).toNat := ⟨_, rfl⟩
          rw [← hd] at HE hbl
          have HD := hio hd
          clear hd
          have e2 := u8_and127 d (by omega)
          have e3 := u64_or_low n d (by omega)
          have hdl : (d : Int) ≤ 255 := by omega
          clear hbl
          go_wp2_with (go_at_call 55; refine (rbyte_any _ _ _ HRD.out).mono ?_; rintro e w2 ⟨rfl, hr2, hg2⟩; rw [← HD.out]; have HR2 := hio hr2; clear hr2)
          go_roundw
          case rel => exact ⟨d, n * 128 + d % 128, _, rfl, by go_num, ⟨by omega, by omega⟩, HR2.out, grown_trans HG.out hg2, HE.out⟩
          case measure =>
            have h1 := msr_of HR2.out .u8 (d : Int)
            have h2 := HM0.out
            rw [if_neg (by omega)] at h2
            rw [h1, h2]
            have h3 := HD.out
            clear h1 h2
            cases l with
            | nil =>
              have : d = 0 := h3
              rw [if_pos (by omega)]; simp [leftN, byteS]
            | cons x l => simp only [leftN, byteS, List.length_cons]; split <;> omega
      · have HE := hio (HN.out.low (by omega))
        cases st with
        | none =>
          go_wp2_with (go_at_call 58; refine (bad_any _ _ _ HRD.out).mono ?_; rintro e w2 ⟨rfl, rfl⟩; simp only [badO])
          go_ret
          rw [HE.out]
          exact ⟨rfl, HRD.out, HG.out⟩
        | some l =>
          go_wp2_with (go_at_call 58; refine (bad_any _ _ _ HRD.out).mono ?_; rintro e w2 ⟨rfl, rfl⟩; simp only [badO])
          go_ret
          rw [HE.out]
          exact ⟨rfl, HRD.out, HG.out⟩
end Go.Proofs.Ytplpbnglcfdaaaa
namespace Go.Proofs.Ytplpbnglcfdaaaa
open Go.RowKit

def boolV (s : Option (List UInt8)) : Bool := (byteR s).toNat == 1
def boolS (s : Option (List UInt8)) : Option (List UInt8) := if 1 < (byteR s).toNat then none else byteS s
theorem boolV_of (s : Option (List UInt8)) : boolV s = ((byteR s).toNat == 1) := rfl

def intS (s : Option (List UInt8)) : Option (List UInt8) := if 1 < (byteR s).toNat ∨ 9223372036854775807 < (numR (byteS s)).1 then none else (numR (byteS s)).2
def intV (s : Option (List UInt8)) : Int := if badO (intS s) then 0 else if (byteR s).toNat = 1 then -1 - ((numR (byteS s)).1 : Int) else ((numR (byteS s)).1 : Int)

set_option maxHeartbeats 1600000 in
theorem rint_any (b : Nat) (s : Option (List UInt8)) (w : World) (hr : Rd w b s) :
    Calls Try.prog 36 #[.pointer (some ⟨b, 0, none⟩)] w fun e w' => e = .returned (.int .i64 (intV s)) ∧ Rd w' b (intS s) ∧ w.grownBy w' (some b) := by
  have HR := hio hr
  have hlt := (byteR s).toNat_lt
  have hnl := numR_lt (byteS s)
  have HS : Hid (intS s = if 1 < (byteR s).toNat ∨ 9223372036854775807 < (numR (byteS s)).1 then none else (numR (byteS s)).2) := hio rfl
  have HV : Hid (intV s = if badO (intS s) then 0 else if (byteR s).toNat = 1 then -1 - ((numR (byteS s)).1 : Int) else ((numR (byteS s)).1 : Int)) := hio rfl
  obtain ⟨c, hc⟩ : ∃ c : Nat, c = (byteR s).toNat := ⟨_, rfl⟩
  obtain ⟨n, hn⟩ : ∃ n : Nat, n = (numR (byteS s)).1 := ⟨_, rfl⟩
  obtain ⟨s2, hs2⟩ : ∃ s2, s2 = (numR (byteS s)).2 := ⟨_, rfl⟩
  rw [← hc] at hlt HV HS
  rw [← hn] at hnl HV HS
  rw [← hs2] at HS
  have HC := hio hc
  have HN := hio hn
  have HS2 := hio hs2
  clear hr hc hn hs2
  have hc2 : (c : Int) ≤ 255 := by omega
  have hn2 : (n : Int) ≤ 18446744073709551615 := by omega
  clear hlt hnl
  by_cases hbad : (1 : Int) < (c : Int) ∨ (9223372036854775807 : Int) < (n : Int)
  · have hS : intS s = none := by rw [HS.out, if_pos (by omega)]
    have hV : intV s = 0 := by rw [HV.out, hS]; rfl
    rw [hS, hV]
    clear hS hV HS HV
    rcases hbad with h | h
    · go_enter Try.func36, Try.ntmps36
      go_wp2_with (first
        | (go_at_call 55; refine (rbyte_any _ _ _ HR.out).mono ?_; rintro e w1 ⟨rfl, hr1, hg1⟩; rw [← HC.out]; have HR1 := hio hr1; clear hr1)
        | (go_at_call 56; refine (rnum_any _ _ _ HR1.out).mono ?_; rintro e w2 ⟨rfl, hr2, hg2⟩; rw [← HN.out]; have HR2 := hio hr2; clear hr2)
        | (go_at_call 57; refine (spoil_any _ _ _ HR2.out).mono ?_; rintro e w3 ⟨rfl, hr3, hg3⟩; have HR3 := hio hr3; clear hr3)
        | (go_at_call 58; refine (bad_any _ _ _ HR3.out).mono ?_; rintro e w4 ⟨rfl, rfl⟩; simp only [badO]))
      go_ret
      exact ⟨rfl, HR3.out, grown_trans (grown_trans hg1 hg2) hg3⟩
    · by_cases h' : (1 : Int) < (c : Int)
      all_goals
        go_enter Try.func36, Try.ntmps36
        go_wp2_with (first
          | (go_at_call 55; refine (rbyte_any _ _ _ HR.out).mono ?_; rintro e w1 ⟨rfl, hr1, hg1⟩; rw [← HC.out]; have HR1 := hio hr1; clear hr1)
          | (go_at_call 56; refine (rnum_any _ _ _ HR1.out).mono ?_; rintro e w2 ⟨rfl, hr2, hg2⟩; rw [← HN.out]; have HR2 := hio hr2; clear hr2)
          | (go_at_call 57; refine (spoil_any _ _ _ HR2.out).mono ?_; rintro e w3 ⟨rfl, hr3, hg3⟩; have HR3 := hio hr3; clear hr3)
          | (go_at_call 58; refine (bad_any _ _ _ HR3.out).mono ?_; rintro e w4 ⟨rfl, rfl⟩; simp only [badO]))
        go_ret
        exact ⟨rfl, HR3.out, grown_trans (grown_trans hg1 hg2) hg3⟩
  · have hS : intS s = s2 := by rw [HS.out, if_neg (by omega)]
    have hV : intV s = if badO s2 then 0 else if c = 1 then -1 - (n : Int) else (n : Int) := by rw [HV.out, hS]
    rw [hS, hV]
    clear hS hV HS HV
    have h1 : ¬ (1 : Int) < (c : Int) := by omega
    have h2 : ¬ (9223372036854775807 : Int) < (n : Int) := by omega
    clear hbad
    cases s2 with
    | none =>
      go_enter Try.func36, Try.ntmps36
      go_wp2_with (first
        | (go_at_call 55; refine (rbyte_any _ _ _ HR.out).mono ?_; rintro e w1 ⟨rfl, hr1, hg1⟩; rw [← HC.out]; have HR1 := hio hr1; clear hr1)
        | (go_at_call 56; refine (rnum_any _ _ _ HR1.out).mono ?_; rintro e w2 ⟨rfl, hr2, hg2⟩; rw [← HN.out]; rw [← HS2.out] at hr2; have HR2 := hio hr2; clear hr2)
        | (go_at_call 58; refine (bad_any _ _ _ HR2.out).mono ?_; rintro e w4 ⟨rfl, rfl⟩; simp only [badO]))
      go_ret
      exact ⟨rfl, HR2.out, grown_trans hg1 hg2⟩
    | some l =>
      by_cases h3 : c = 1
      · have h4 : ((c : Int) == 1) = true := by simp; omega
        rw [if_neg (by simp [badO]), if_pos h3]
        clear h3
        go_enter Try.func36, Try.ntmps36
        go_wp2_with (first
          | (go_at_call 55; refine (rbyte_any _ _ _ HR.out).mono ?_; rintro e w1 ⟨rfl, hr1, hg1⟩; rw [← HC.out]; have HR1 := hio hr1; clear hr1)
          | (go_at_call 56; refine (rnum_any _ _ _ HR1.out).mono ?_; rintro e w2 ⟨rfl, hr2, hg2⟩; rw [← HN.out]; rw [← HS2.out] at hr2; have HR2 := hio hr2; clear hr2)
          | (go_at_call 58; refine (bad_any _ _ _ HR2.out).mono ?_; rintro e w4 ⟨rfl, rfl⟩; simp only [badO]))
        go_ret
        exact ⟨rfl, HR2.out, grown_trans hg1 hg2⟩
      · have h4 : ((c : Int) == 1) = false := by simp; omega
        rw [if_neg (by simp [badO]), if_neg h3]
        clear h3
        go_enter Try.func36, Try.ntmps36
        go_wp2_with (first
          | (go_at_call 55; refine (rbyte_any _ _ _ HR.out).mono ?_; rintro e w1 ⟨rfl, hr1, hg1⟩; rw [← HC.out]; have HR1 := hio hr1; clear hr1)
          | (go_at_call 56; refine (rnum_any _ _ _ HR1.out).mono ?_; rintro e w2 ⟨rfl, hr2, hg2⟩; rw [← HN.out]; rw [← HS2.out] at hr2; have HR2 := hio hr2; clear hr2)
          | (go_at_call 58; refine (bad_any _ _ _ HR2.out).mono ?_; rintro e w4 ⟨rfl, rfl⟩; simp only [badO]))
        go_ret
        exact ⟨rfl, HR2.out, grown_trans hg1 hg2⟩

def lenR (most : Nat) (s : Option (List UInt8)) : Nat × Option (List UInt8) := if most < (numR s).1 ∨ leftN (numR s).2 < (numR s).1 then (0, none) else numR s
theorem lenR_le (most : Nat) (s : Option (List UInt8)) : (lenR most s).1 ≤ most ∧ (lenR most s).1 ≤ leftN (lenR most s).2 := by
  unfold lenR
  split
  · simp
  · omega

def textV (s : Option (List UInt8)) : List UInt8 :=
  match (lenR 1048576 s).2 with
  | none => []
  | some l => l.take (lenR 1048576 s).1
def textS (s : Option (List UInt8)) : Option (List UInt8) :=
  match (lenR 1048576 s).2 with
  | none => none
  | some l => some (l.drop (lenR 1048576 s).1)

theorem Rd.drop {w : World} {b n : Nat} {l : List UInt8} {ao : Option Addr} {cap : Nat} (h : w.heap[b]? = some (.cells #[.slice ao l.length cap, .bool false] 113 (0, 0)))
    (hb : Bts w (.slice ao l.length cap) l) (hne : ∀ ad, ao = some ad → ad.block < b) (hn : n ≤ l.length) (ao' : Option Addr) (hd : cap ≠ n → ao' = ao.map (·.add n)) (hd1 : cap = n → ao' = ao) (m : Nat) (hm : m = l.length - n) :
    Rd (w.setCell ⟨b, 0, none⟩ (.slice ao' m (cap - n))) b (some (l.drop n)) := by
  have hl : (l.drop n).length = m := by simp [hm]
  obtain ⟨ao1, n1, cap1, e, h1, h2, h3, h4, h5⟩ := hb
  cases e
  have hbl : ∀ ad, ao' = some ad → ad.block < b := by
    intro ad had
    by_cases hc : cap = n
    · rw [hd1 hc] at had; exact hne ad had
    · rw [hd hc] at had
      cases ao with
      | none => cases had
      | some a =>
        obtain rfl := Option.some.inj had
        have := hne a rfl
        have e : (a.add n).block = a.block := by simp [Addr.add]; split <;> rfl
        rw [e]; exact this
  have hB : Bts w (.slice ao' m (cap - n)) (l.drop n) := by
    refine ⟨_, _, _, rfl, hl.symm, by omega, by omega, ?_, fun ad had j hj => ?_⟩
    · intro h
      by_cases hc : cap = n
      · omega
      · rw [hd hc] at h
        cases ao with
        | none => have := h4 rfl; omega
        | some a => cases h
    · have hc : cap ≠ n := by rw [hl] at hj; omega
      rw [hd hc] at had
      cases ao with
      | none => cases had
      | some a =>
        obtain rfl := Option.some.inj had
        have := h5 a rfl (n + j) (by simp at hj; omega)
        rw [Addr.add_add, this]
        simp
  refine ⟨ao', cap - n, ?_, ?_, hbl⟩
  · rw [hl]; exact heap_setCell_same w b 0 _ _ _ h
  · rw [hl]; exact hB.other (grown_set w b 0 _) fun ad had => Nat.ne_of_lt (hbl ad had)
end Go.Proofs.Ytplpbnglcfdaaaa
namespace Go.Proofs.Ytplpbnglcfdaaaa
open Go.RowKit

/-- What a row of groups is worth behind n. -/
def gval : List UInt8 → Nat → Nat
  | [], n => n
  | c :: p, n => gval p (n * 128 + c.toNat % 128)
def High (p : List UInt8) : Prop := ∀ c ∈ p, 128 ≤ c.toNat
theorem ofNat_toNat {n : Nat} (h : n < 256) : (UInt8.ofNat n).toNat = n := by rw [UInt8.toNat_ofNat', Nat.mod_eq_of_lt (by simpa using h)]

theorem numHiF_app (f n : Nat) (a b : List UInt8) : numHiF f n (a ++ b) = numHiF f n a ++ b := by
  induction f generalizing n a with
  | zero => rfl
  | succ f ih =>
    simp only [numHiF]
    split
    · rfl
    · rw [← List.cons_append]; exact ih _ _
theorem numHi_app (n : Nat) (a b : List UInt8) : numHi n (a ++ b) = numHi n a ++ b := numHiF_app _ _ _ _
theorem numB_eq (n : Nat) : numB n = numHi (n / 128) [] ++ [UInt8.ofNat (n % 128)] := by
  unfold numB; rw [← numHi_app]; rfl
theorem numHiF_gval (f n : Nat) (a : List UInt8) (h : n ≤ f) : gval (numHiF f n a) 0 = gval a n := by
  induction f generalizing n a with
  | zero =>
    obtain rfl : n = 0 := by omega
    rfl
  | succ f ih =>
    simp only [numHiF]
    split
    · subst_vars; rfl
    · rw [ih _ _ (by omega)]
      show gval a (n / 128 * 128 + (UInt8.ofNat (n % 128 + 128)).toNat % 128) = _
      rw [ofNat_toNat (by omega)]
      congr 1; omega
theorem numHi_gval (n : Nat) : gval (numHi n []) 0 = n := numHiF_gval _ _ _ (Nat.le_refl _)
theorem numHiF_high (f n : Nat) (a : List UInt8) (h : High a) : High (numHiF f n a) := by
  induction f generalizing n a with
  | zero => exact h
  | succ f ih =>
    simp only [numHiF]
    split
    · exact h
    · refine ih _ _ ?_
      intro c hc
      rcases List.mem_cons.1 hc with rfl | hc
      · rw [ofNat_toNat (by omega)]; omega
      · exact h c hc
theorem numHi_high (n : Nat) : High (numHi n []) := numHiF_high _ _ _ (fun c hc => by simp at hc)
/-- The first group above the lowest is never nought. -/
theorem numHiF_head (f n : Nat) (a : List UInt8) (h : n ≤ f) (hp : 0 < n) : ∃ c t, numHiF f n a = c :: t ∧ c.toNat ≠ 128 := by
  induction f generalizing n a with
  | zero => omega
  | succ f ih =>
    simp only [numHiF]
    rw [if_neg (by omega)]
    rcases Nat.eq_zero_or_pos (n / 128) with h0 | h0
    · rw [h0, numHiF_zero]
      exact ⟨_, _, rfl, by rw [ofNat_toNat (by omega)]; omega⟩
    · exact ih _ _ (by omega) h0
theorem gval_numHi (p : List UInt8) (n : Nat) (a : List UInt8) (hp : High p) (hn : 0 < n) : numHi (gval p n) a = numHi n (p ++ a) := by
  induction p generalizing n with
  | nil => rfl
  | cons c p ih =>
    have hc := hp c (List.mem_cons_self ..)
    have hl := c.toNat_lt
    show numHi (gval p (n * 128 + c.toNat % 128)) a = _
    rw [ih _ (fun d hd => hp d (List.mem_cons_of_mem _ hd)) (by omega), numHi_pos _ _ (by omega), show (n * 128 + c.toNat % 128) / 128 = n from by omega]
    congr 2
    apply UInt8.toNat_inj.1
    rw [ofNat_toNat (by omega)]; omega
/-- Groups without a first one of nought have one form. -/
theorem groups_back (p : List UInt8) (hp : High p) (h0 : ∀ c t, p = c :: t → c.toNat ≠ 128) : numHi (gval p 0) [] = p := by
  cases p with
  | nil => rfl
  | cons c p =>
    have hc := hp c (List.mem_cons_self ..)
    have hl := c.toNat_lt
    have hne := h0 c p rfl
    show numHi (gval p (0 * 128 + c.toNat % 128)) [] = _
    rw [gval_numHi p _ [] (fun d hd => hp d (List.mem_cons_of_mem _ hd)) (by omega), numHi_pos _ _ (by omega), show (0 * 128 + c.toNat % 128) / 128 = 0 from by omega, numHi_zero, List.append_nil]
    congr 1
    apply UInt8.toNat_inj.1
    rw [ofNat_toNat (by omega)]; omega
theorem gval_mono (p : List UInt8) (n : Nat) : n ≤ gval p n := by
  induction p generalizing n with
  | nil => exact Nat.le_refl _
  | cons c p ih => exact Nat.le_trans (by omega) (ih _)

/-- A reading group by group. -/
def scan : List UInt8 → Nat → Option (Nat × List UInt8)
  | [], _ => none
  | c :: l, n => if 144115188075855871 < n then none else if c.toNat < 128 then some (n * 128 + c.toNat, l) else scan l (n * 128 + c.toNat % 128)
def toR : Option (Nat × List UInt8) → Nat × Option (List UInt8)
  | none => (0, none)
  | some (n, l) => (n, some l)
theorem numGo_scan (l : List UInt8) (c n : Nat) (hc : ¬ c < 128) : numGo l c n = toR (scan l n) := by
  induction l generalizing c n with
  | nil => rw [numGo_end _ _ hc]; rfl
  | cons d l ih =>
    by_cases hn : 144115188075855871 < n
    · rw [numGo_big _ _ _ hc hn]; simp [scan, hn, toR]
    · rw [numGo_cons _ _ _ _ hc hn]
      by_cases hd : d.toNat < 128
      · rw [numGo_low _ _ _ hd]; simp only [scan, if_neg hn, if_pos hd, toR]; rw [Nat.mod_eq_of_lt hd]
      · rw [ih _ _ hd]; simp only [scan, if_neg hn, if_neg hd]
theorem numR_scan (c : UInt8) (l : List UInt8) (h : c.toNat ≠ 128) : numR (some (c :: l)) = toR (scan (c :: l) 0) := by
  show (if c.toNat = 128 then _ else _) = _
  rw [if_neg h]
  by_cases hc : c.toNat < 128
  · rw [numGo_low _ _ _ hc]; simp only [scan, if_pos hc]; rw [if_neg (by omega), Nat.mod_eq_of_lt hc]; simp [toR]
  · rw [numGo_scan _ _ _ hc]; simp only [scan, if_neg hc]; rw [if_neg (by omega)]; simp
theorem scan_of (p : List UInt8) (c : UInt8) (r : List UInt8) (n : Nat) (hp : High p) (hc : c.toNat < 128) (hv : gval p n ≤ 144115188075855871) : scan (p ++ c :: r) n = some (gval p n * 128 + c.toNat, r) := by
  induction p generalizing n with
  | nil =>
    have : n ≤ 144115188075855871 := hv
    simp only [List.nil_append, scan, gval]
    rw [if_neg (by omega), if_pos hc]
  | cons d p ih =>
    have hd := hp d (List.mem_cons_self ..)
    have hm : n ≤ gval (d :: p) n := gval_mono _ _
    simp only [List.cons_append, scan]
    rw [if_neg (by omega), if_neg (by omega)]
    exact ih _ (fun x hx => hp x (List.mem_cons_of_mem _ hx)) hv
theorem scan_some (l : List UInt8) (n m : Nat) (r : List UInt8) (h : scan l n = some (m, r)) : ∃ p c, l = p ++ c :: r ∧ High p ∧ c.toNat < 128 ∧ m = gval p n * 128 + c.toNat ∧ gval p n ≤ 144115188075855871 := by
  induction l generalizing n with
  | nil => simp [scan] at h
  | cons d l ih =>
    simp only [scan] at h
    split at h
    · cases h
    · split at h
      · rename_i hn hd
        obtain ⟨rfl, rfl⟩ := Prod.mk.inj (Option.some.inj h)
        exact ⟨[], d, rfl, (fun c hc => by simp at hc), hd, rfl, by show n ≤ _; omega⟩
      · rename_i hn hd
        obtain ⟨p, c, rfl, h1, h2, h3, h4⟩ := ih _ h
        refine ⟨d :: p, c, rfl, ?_, h2, h3, h4⟩
        intro x hx
        rcases List.mem_cons.1 hx with rfl | hx
        · omega
        · exact h1 x hx
/-- What is laid is read back. -/
theorem numR_numB (n : Nat) (l : List UInt8) (hn : n < 18446744073709551616) : numR (some (numB n ++ l)) = (n, some l) := by
  have hs : scan (numB n ++ l) 0 = some (n, l) := by
    rw [numB_eq, List.append_assoc]
    have := scan_of (numHi (n / 128) []) (UInt8.ofNat (n % 128)) l 0 (numHi_high _) (by rw [ofNat_toNat (by omega)]; omega) (by rw [numHi_gval]; omega)
    rw [numHi_gval, ofNat_toNat (by omega)] at this
    rw [show n / 128 * 128 + n % 128 = n from by omega] at this
    exact this
  obtain ⟨c, t, hct, hne⟩ : ∃ c t, numB n ++ l = c :: t ∧ c.toNat ≠ 128 := by
    rw [numB_eq]
    rcases Nat.eq_zero_or_pos (n / 128) with h0 | h0
    · rw [h0, numHi_zero]
      exact ⟨_, _, rfl, by rw [ofNat_toNat (by omega)]; omega⟩
    · obtain ⟨c, t, h, hc⟩ := numHiF_head (n / 128) (n / 128) [] (Nat.le_refl _) h0
      have h' : numHi (n / 128) [] = c :: t := h
      rw [h']
      exact ⟨c, _, rfl, hc⟩
  rw [hct] at hs ⊢
  rw [numR_scan _ _ hne, hs]; rfl
/-- What is read as a number has one form. -/
theorem numR_only (l : List UInt8) (n : Nat) (r : List UInt8) (h : numR (some l) = (n, some r)) : l = numB n ++ r ∧ n < 18446744073709551616 := by
  cases l with
  | nil => simp [numR] at h
  | cons d l =>
    by_cases hd : d.toNat = 128
    · simp [numR, hd] at h
    · rw [numR_scan _ _ hd] at h
      cases hs : scan (d :: l) 0 with
      | none => rw [hs] at h; simp [toR] at h
      | some x =>
        obtain ⟨m, r'⟩ := x
        rw [hs] at h
        obtain ⟨rfl, h2⟩ := Prod.mk.inj h
        obtain rfl := Option.some.inj h2
        obtain ⟨p, c, e, h1, h2, h3, h4⟩ := scan_some _ _ _ _ hs
        refine ⟨?_, by omega⟩
        rw [numB_eq, h3, show (gval p 0 * 128 + c.toNat) / 128 = gval p 0 from by omega, show (gval p 0 * 128 + c.toNat) % 128 = c.toNat from by omega, groups_back p h1, e]
        · have : UInt8.ofNat c.toNat = c := by apply UInt8.toNat_inj.1; rw [ofNat_toNat (by have := c.toNat_lt; omega)]
          rw [this]; simp
        · intro x t ht
          rw [ht] at e
          obtain ⟨rfl, -⟩ := List.cons.inj e
          exact hd

/-- The document's own reading. -/
def refGo (b : List UInt8) : List UInt8 → Nat → Nat → Option (Nat × Nat)
  | [], _, _ => none
  | c :: l, i, n => if 10 ≤ i then none else if 144115188075855871 < n then none else
      if c.toNat < 128 then (if numB (n * 128 + c.toNat % 128) = b.take (i + 1) then some (n * 128 + c.toNat % 128, i + 1) else none) else refGo b l (i + 1) (n * 128 + c.toNat % 128)
theorem refGo_some (b l : List UInt8) (i n m k : Nat) (h : refGo b l i n = some (m, k)) : numB m = b.take k ∧ m < 18446744073709551616 ∧ 1 ≤ k ∧ k ≤ i + l.length := by
  induction l generalizing i n with
  | nil => simp [refGo] at h
  | cons c l ih =>
    simp only [refGo] at h
    split at h
    · cases h
    · split at h
      · cases h
      · split at h
        · split at h
          · rename_i e
            obtain ⟨rfl, rfl⟩ := Prod.mk.inj (Option.some.inj h)
            refine ⟨e, by omega, by omega, by simp⟩
          · cases h
        · have := ih _ _ h
          simp only [List.length_cons]
          exact ⟨this.1, this.2.1, this.2.2.1, by omega⟩
theorem refGo_of (b p : List UInt8) (c : UInt8) (r : List UInt8) (i n : Nat) (hp : High p) (hc : c.toNat < 128) (hi : i + p.length < 10) (hv : gval p n ≤ 144115188075855871) :
    refGo b (p ++ c :: r) i n = if numB (gval p n * 128 + c.toNat) = b.take (i + p.length + 1) then some (gval p n * 128 + c.toNat, i + p.length + 1) else none := by
  induction p generalizing i n with
  | nil =>
    have : n ≤ 144115188075855871 := hv
    simp only [List.nil_append, refGo, gval, List.length_nil, Nat.add_zero] at hi ⊢
    rw [if_neg (by omega), if_neg (by omega), if_pos hc, Nat.mod_eq_of_lt hc]
    rfl
  | cons d p ih =>
    have hd := hp d (List.mem_cons_self ..)
    have hm : n ≤ gval (d :: p) n := gval_mono _ _
    simp only [List.length_cons] at hi ⊢
    simp only [List.cons_append, refGo]
    rw [if_neg (by omega), if_neg (by omega), if_neg (by omega), ih _ _ (fun x hx => hp x (List.mem_cons_of_mem _ hx)) (by omega) hv]
    rw [show i + 1 + p.length = i + (p.length + 1) from by omega]
    rfl
/-- The document's reading comes to the Reader's. -/
theorem refGo_numR (b : List UInt8) : (∀ n r, numR (some b) = (n, some r) → refGo b b 0 0 = some (n, b.length - r.length) ∧ r = b.drop (b.length - r.length) ∧ r.length < b.length) ∧ (numR (some b) = (0, none) → refGo b b 0 0 = none) := by
  constructor
  · intro n r h
    obtain ⟨hb, hn⟩ := numR_only b n r h
    have hl := numB_len n hn
    have e := numB_eq n
    have hlen : (numB n).length = (numHi (n / 128) []).length + 1 := by rw [e]; simp
    have hb' : b = numHi (n / 128) [] ++ UInt8.ofNat (n % 128) :: r := by rw [hb, e]; simp
    have h1 := refGo_of b (numHi (n / 128) []) (UInt8.ofNat (n % 128)) r 0 0 (numHi_high _) (by rw [ofNat_toNat (by omega)]; omega) (by omega) (by rw [numHi_gval]; omega)
    rw [← hb', numHi_gval, ofNat_toNat (by omega), show n / 128 * 128 + n % 128 = n from by omega, if_pos] at h1
    · have hbl : b.length = (numB n).length + r.length := by rw [hb]; simp
      refine ⟨by rw [h1]; congr 2; omega, ?_, by omega⟩
      rw [show b.length - r.length = (numB n).length from by omega, hb]; simp
    · rw [hb, show 0 + (numHi (n / 128) []).length + 1 = (numB n).length from by omega]; simp
  · intro h
    cases hr : refGo b b 0 0 with
    | none => rfl
    | some x =>
      obtain ⟨m, k⟩ := x
      obtain ⟨h1, h2, h3, h4⟩ := refGo_some _ _ _ _ _ _ hr
      have := numR_numB m (b.drop k) h2
      rw [h1, List.take_append_drop] at this
      rw [h] at this
      simp at this
end Go.Proofs.Ytplpbnglcfdaaaa
namespace Go.Proofs.Ytplpbnglcfdaaaa
open Go.RowKit

theorem numHi_ge (j n : Nat) (acc : List UInt8) (h : n < 128 ^ j) : acc.length ≤ (numHi n acc).length := by
  induction j generalizing n acc with
  | zero =>
    obtain rfl : n = 0 := by simpa using h
    rw [numHi_zero]; exact Nat.le_refl _
  | succ j ih =>
    rcases Nat.eq_zero_or_pos n with rfl | hp
    · rw [numHi_zero]; exact Nat.le_refl _
    · rw [numHi_pos _ _ hp]
      have := ih (n / 128) (UInt8.ofNat (n % 128 + 128) :: acc) (Nat.div_lt_of_lt_mul (by rw [Nat.pow_succ] at h; omega))
      simp only [List.length_cons] at this; omega

theorem intB_pos (n : Int) (h : 0 ≤ n) : intB n = 0 :: numB n.toNat := by unfold intB; rw [if_pos h]
theorem intB_neg (n : Int) (h : ¬ 0 ≤ n) : intB n = 1 :: numB (-1 - n).toNat := by unfold intB; rw [if_neg h]

end Go.Proofs.Ytplpbnglcfdaaaa
namespace Go.Proofs.Ytplpbnglcfdaaaa
open Go.RowKit

/-- A function value is not nil. -/
theorem run_eql_fn {P : Program} {t : TypeId} {a b : Array TypeId} {v : Bool} (w : World) (fn : Fn) (x y : Array Value) (h : P.underlying t = some (.func a b v)) : (binOp .eql t (.func fn x y) .nilFunc).run P w = .ok (.bool false) w := by
  have h : ∀ d : Nat, (Op.equalIn (d + 1) t (.func fn x y) .nilFunc).run P w = .ok false w := fun d => by simp [Op.equalIn, run_underlying h]
  simp only [binOp]
  simp [Op.equal, Op.maxDepth, h 9999]
def numV (s : Option (List UInt8)) : Nat := (numR s).1
def numS (s : Option (List UInt8)) : Option (List UInt8) := (numR s).2
/-- n elements, each read by rv and rs. -/
def getGo {α : Type} (rv : Option (List UInt8) → α) (rs : Option (List UInt8) → Option (List UInt8)) : Nat → Option (List UInt8) → List α → Option (List α) × Option (List UInt8)
  | 0, s, acc => (some acc, s)
  | n + 1, s, acc => if badO (rs s) then (none, none) else getGo rv rs n (rs s) (acc ++ [rv s])
def getR {α : Type} (rv : Option (List UInt8) → α) (rs : Option (List UInt8) → Option (List UInt8)) (s : Option (List UInt8)) : Option (List α) × Option (List UInt8) :=
  if badO (lenR 4096 s).2 then (none, none) else getGo rv rs (lenR 4096 s).1 (lenR 4096 s).2 []
/-- What an answer is: nothing, or a row of the call's own. -/
def GetV {α : Type} (ev : α → Value) (te : TypeId) (w : World) (base : Nat) (v : Value) : Option (List α) → Prop
  | none => v = .slice none 0 0
  | some acc => w.ownsRow base te 1 v acc.length (acc.map ev)
theorem rest_of_bad {w : World} {b : Nat} {s : Option (List UInt8)} (h : Rd w b s) (hb : badO s = true) : Rd w b none := by
  cases s with
  | none => exact h
  | some l => cases hb
theorem grown_any {w w' : World} {r : Option Nat} (h : w.grownBy w' none) : w.grownBy w' r := ⟨h.os, h.tape, h.output, h.size, fun k hk _ => h.block k hk (by simp)⟩
/-- A change to a row of the call's own, seen from the world in which the call began. -/
theorem grown_own {w w1 w2 : World} {b base : Nat} {te : TypeId} {v : Value} {n : Nat} {xs : List Value} (h : w.grownBy w1 (some b)) (ho : w1.ownsRow base te 1 v n xs) (hb : w.heap.size ≤ base) (hg : w1.grownBy w2 v.ownBlock) : w.grownBy w2 (some b) :=
  ⟨hg.os.trans h.os, hg.tape.trans h.tape, hg.output.trans h.output, Nat.le_trans h.size hg.size, fun k hk hr => (hg.block k (Nat.lt_of_lt_of_le hk h.size) (fun e => by have := (World.ownsRow.lt ho k e.symm).1; omega)).trans (h.block k hk hr)⟩
theorem Rd.own {w1 w2 : World} {b base : Nat} {s : Option (List UInt8)} {te : TypeId} {v : Value} {n : Nat} {xs : List Value} (h : Rd w1 b s) (ho : w1.ownsRow base te 1 v n xs) (hb : b < base) (hg : w1.grownBy w2 v.ownBlock) : Rd w2 b s :=
  h.beyond fun k hk => hg.block k (Nat.lt_of_le_of_lt hk h.lt) (fun e => by have := (World.ownsRow.lt ho k e.symm).1; omega)
theorem owns_shape {w : World} {base : Nat} {te : TypeId} {v : Value} {n : Nat} {xs : List Value} (h : w.ownsRow base te 1 v n xs) : ∃ va vc, v = .slice va n vc := by
  obtain ⟨h1, h2⟩ := h
  rcases h2 with ⟨rfl, h0⟩ | ⟨g, cap, cur, rfl, -⟩
  · exact ⟨none, 0, by rw [h0]⟩
  · exact ⟨_, _, rfl⟩
theorem owns_kept {w w' : World} {base b : Nat} {te : TypeId} {v : Value} {n : Nat} {xs : List Value} (h : w.ownsRow base te 1 v n xs) (hb : b < base) (hg : w.grownBy w' (some b)) : w'.ownsRow base te 1 v n xs := by
  refine h.kept hg (Or.inr fun e => ?_)
  have := (World.ownsRow.lt h b e).1
  omega

/-- 'append(l, x)', l of the call's own, x one cell in a new block. -/
theorem wpl_push {W : World} {ops : Array Oper} {rest : List Oper} {o : Oper} {a : Act} {Q : Exit → Act → World → Prop} (hgd : o.guard = none) (s y : Operand) (t : TypeId)
    (ho : o.op = .call { callee := .builtin .append, args := #[s, y], argTypes := #[t, t] })
    (base : Nat) (e : TypeId) (i : TypeInfo) (z : Value) (bytes : Nat) (ht : Try.prog.underlying t = some (.slice e)) (hi : Try.prog.info? e = some i) (hz : i.zero = some z) (hsize : i.size = 1) (hby : i.bytes = bytes) (hzs : z.cells.size = 1)
    (va : Option Addr) (vc n : Nat) (xs : List Value) (hs : a.eval s = .slice va n vc) (hown : W.ownsRow base e 1 (.slice va n vc) n xs) (x : Value) (hx : a.eval y = .slice (some ⟨W.heap.size, 0, none⟩) 1 1) (h1 : x.oneCell' = true)
    (hsz : (n + 1) * bytes ≤ 140737488355328) (hn : n + 1 ≤ 9223372036854775807) (hbase : base ≤ W.heap.size)
    (h : ∀ va' vc' w', w'.ownsRow base e 1 (.slice va' (n + 1) vc') (n + 1) (xs ++ [x]) → W.grownBy w' (Value.slice va n vc).ownBlock → wpList Try.prog ops Q rest (a.put o.dst (.slice va' (n + 1) vc')) w') :
    wpList Try.prog ops Q (o :: rest) a (W.alloc (.cells #[x] e)) := by
  refine wpList_append_own (W.alloc (.cells #[x] e)) hgd s y t ho base e i z 1 bytes ht hi hz hsize hby hzs (by decide) (.slice va n vc) n xs hs (hown.alloc _) ⟨W.heap.size, 0, none⟩ 1 1 [x] hx rfl ?_ ?_ (by unfold maxLen; omega) hsz (by simp; omega) ?_
  · intro j u hj
    match j, hj with
    | 0, hj =>
      simp at hj
      subst hj
      rw [Addr.add_lit, World.cell?_alloc_at _ _ _ _ rfl]; rfl
  · intro u hu
    simp at hu
    subst hu
    exact h1
  · intro v' w' ho' hg _
    obtain ⟨va', vc', rfl⟩ := owns_shape ho'
    refine h va' vc' w' ho' ⟨hg.os, hg.tape, hg.output, Nat.le_trans (by simp) hg.size, fun k hk hr => ?_⟩
    rw [hg.block k (by simp; omega) hr]
    exact Below.heap_alloc _ _ _ hk
/-- What holds at a round's head. -/
def GetSt {α : Type} (ev : α → Value) (te : TypeId) (rv : Option (List UInt8) → α) (rs : Option (List UInt8) → Option (List UInt8)) (w0 : World) (b : Nat) (R : Option (List α) × Option (List UInt8)) (n i : Nat) (va : Option Addr) (vc : Nat) (wr : World) : Prop :=
  ∃ l acc, acc.length = i ∧ i ≤ n ∧ wr.ownsRow w0.heap.size te 1 (.slice va i vc) i (acc.map ev) ∧ Rd wr b (some l) ∧ w0.grownBy wr (some b) ∧ R = getGo rv rs (n - i) (some l) acc
theorem getGo_succ {α : Type} (rv : Option (List UInt8) → α) (rs : Option (List UInt8) → Option (List UInt8)) (n i : Nat) (h : i < n) (s : Option (List UInt8)) (acc : List α) :
    getGo rv rs (n - i) s acc = if badO (rs s) then (none, none) else getGo rv rs (n - (i + 1)) (rs s) (acc ++ [rv s]) := by
  rw [show n - i = (n - (i + 1)) + 1 from by omega]; rfl
end Go.Proofs.Ytplpbnglcfdaaaa
namespace Go.Proofs.Ytplpbnglcfdaaaa
open Go.RowKit

/-- The value v is a slice whose elements are xs, in blocks below B. -/
def RowB {α : Type} (ev : α → Value) (B : Nat) (w : World) (v : Value) (xs : List α) : Prop :=
  ∃ ao n cap, v = .slice ao n cap ∧ n = xs.length ∧ n ≤ cap ∧ cap ≤ 9223372036854775807 ∧ (ao = none → cap = 0) ∧
    ∀ ad, ao = some ad → ∀ j, (h : j < xs.length) → w.cell? (ad.add j) = some (ev xs[j]) ∧ ad.block < B
theorem RowB.below {α : Type} {ev : α → Value} {B B' : Nat} {w w' : World} {v : Value} {xs : List α} (h : RowB ev B w v xs) (hb : Below B' w w') (hB : B ≤ B') : RowB ev B w' v xs := by
  obtain ⟨ao, n, cap, rfl, h1, h2, h3, h4, h5⟩ := h
  refine ⟨ao, n, cap, rfl, h1, h2, h3, h4, fun ad had j hj => ?_⟩
  have := h5 ad had j hj
  refine ⟨?_, this.2⟩
  have e : (ad.add j).block = ad.block := by simp [Addr.add]; split <;> rfl
  rw [hb.cell (p := ad.add j) (by rw [e]; omega)]
  exact this.1
theorem RowB.shape {α : Type} {ev : α → Value} {B : Nat} {w : World} {v : Value} {xs : List α} (h : RowB ev B w v xs) : ∃ va vc, v = .slice va xs.length vc := by
  obtain ⟨ao, n, cap, rfl, rfl, -⟩ := h; exact ⟨_, _, rfl⟩
/-- A row of the call's own, read as one that came in. -/
theorem owns_row {α : Type} {ev : α → Value} {w : World} {base : Nat} {te : TypeId} {v : Value} {xs : List α} (h : w.ownsRow base te 1 v xs.length (xs.map ev)) : RowB ev w.heap.size w v xs := by
  have h' := h
  obtain ⟨h1, h2⟩ := h
  rcases h2 with ⟨rfl, h0⟩ | ⟨g, cap, cur, rfl, hg, hh, hc, hm, hs, ht⟩
  · exact ⟨none, 0, 0, rfl, h0.symm, Nat.le_refl _, by omega, (fun _ => rfl), (fun ad h => by cases h)⟩
  · refine ⟨some ⟨g, 0, none⟩, xs.length, cap, rfl, rfl, hc, hm, (fun h => by cases h), ?_⟩
    intro ad had j hj
    obtain rfl := Option.some.inj had
    exact ⟨h'.cells rfl j (ev xs[j]) (by simp [hj]), lt_of_block hh⟩
theorem RowB.at {α : Type} {ev : α → Value} {B : Nat} {w : World} {va : Option Addr} {n vc : Nat} {xs : List α} (h : RowB ev B w (.slice va n vc) xs) (i : Nat) (hi : i < xs.length) : ∃ ad, va = some ad ∧ w.cell? (ad.add i) = some (ev xs[i]) := by
  obtain ⟨ao, _, _, e, h1, h2, h3, h4, h5⟩ := h
  cases e
  cases va with
  | none => exact absurd (h4 rfl) (by omega)
  | some ad => exact ⟨ad, rfl, (h5 ad rfl i hi).1⟩
/-- What is laid of a list. -/
def listB {α : Type} (enc : α → List UInt8) (xs : List α) : List UInt8 := numB xs.length ++ xs.flatMap enc
theorem flat_take {α : Type} (enc : α → List UInt8) (xs : List α) (i : Nat) (h : i < xs.length) : (xs.take (i + 1)).flatMap enc = (xs.take i).flatMap enc ++ enc xs[i] := by
  rw [List.take_succ_eq_append_getElem h, List.flatMap_append]; simp
theorem flat_lenQ {α : Type} (enc : α → List UInt8) (xs : List α) (h : ∀ x ∈ xs, (enc x).length ≤ 2000) : (xs.flatMap enc).length ≤ 2000 * xs.length := by
  induction xs with
  | nil => simp
  | cons x xs ih =>
    have h1 := h x (List.mem_cons_self ..)
    have h2 := ih fun y hy => h y (List.mem_cons_of_mem _ hy)
    rw [List.flatMap_cons, List.length_append, List.length_cons]; omega
theorem flat_take_len {α : Type} (enc : α → List UInt8) (xs : List α) (i : Nat) (h : ∀ x ∈ xs, (enc x).length ≤ 2000) : ((xs.take i).flatMap enc).length ≤ 2000 * xs.length := by
  have := flat_lenQ enc (xs.take i) fun x hx => h x (List.mem_of_mem_take hx)
  have h2 : (xs.take i).length ≤ xs.length := List.length_take_le' _ _
  exact Nat.le_trans this (Nat.mul_le_mul_left _ h2)
theorem num_nat (b : Nat) (l : List UInt8) (x : Nat) (w : World) (hx : (x : Int) ≤ 18446744073709551615) (hw : Wr w b l) (hsz : l.length ≤ 140737488350000) :
    Calls Try.prog 61 #[.pointer (some ⟨b, 0, none⟩), .int .u64 (x : Int)] w fun e w' => e = .returned (.tuple #[]) ∧ Wr w' b (l ++ numB x) ∧ Below b w w' := by
  have := num_any b l (x : Int) w (by omega) (by omega) hw hsz
  rw [Int.toNat_natCast] at this
  exact this
end Go.Proofs.Ytplpbnglcfdaaaa
namespace Go.Proofs.Ytplpbnglcfdaaaa
open Go.RowKit
set_option maxRecDepth 100000

theorem Try.infoTEStr : (Try.prog.info? 9).map (fun i => (i.zero, i.size, i.bytes)) = some (some (.string ByteArray.empty), 1, 16) := by kernel_rfl
def evStr (x : List UInt8) : Value := .string ⟨x.toArray⟩

end Go.Proofs.Ytplpbnglcfdaaaa
namespace Go.Proofs.Ytplpbnglcfdaaaa
open Go.RowKit

theorem flat_ge {α : Type} (enc : α → List UInt8) (xs : List α) (h : ∀ x ∈ xs, 1 ≤ (enc x).length) : xs.length ≤ (xs.flatMap enc).length := by
  induction xs with
  | nil => simp
  | cons x xs ih =>
    have h1 := h x (List.mem_cons_self ..)
    have h2 := ih fun y hy => h y (List.mem_cons_of_mem _ hy)
    rw [List.flatMap_cons, List.length_append, List.length_cons]; omega
theorem getGo_back {α β : Type} (enc : α → List UInt8) (dec : α → β) (rv : Option (List UInt8) → β) (rs : Option (List UInt8) → Option (List UInt8)) (xs : List α) (rest : List UInt8) (acc : List β)
    (h : ∀ x ∈ xs, ∀ t, rv (some (enc x ++ t)) = dec x ∧ rs (some (enc x ++ t)) = some t) :
    getGo rv rs xs.length (some (xs.flatMap enc ++ rest)) acc = (some (acc ++ xs.map dec), some rest) := by
  induction xs generalizing acc with
  | nil => simp [getGo]
  | cons x xs ih =>
    have h1 := h x (List.mem_cons_self ..) (xs.flatMap enc ++ rest)
    rw [List.flatMap_cons, List.append_assoc, List.length_cons]
    show (if badO (rs (some (enc x ++ (xs.flatMap enc ++ rest)))) then _ else getGo rv rs xs.length (rs (some (enc x ++ (xs.flatMap enc ++ rest)))) (acc ++ [rv (some (enc x ++ (xs.flatMap enc ++ rest)))])) = _
    rw [h1.2, h1.1, if_neg (by simp [badO]), ih _ fun y hy => h y (List.mem_cons_of_mem _ hy)]
    simp
theorem getR_back {α β : Type} (enc : α → List UInt8) (dec : α → β) (rv : Option (List UInt8) → β) (rs : Option (List UInt8) → Option (List UInt8)) (xs : List α) (rest : List UInt8) (hn : xs.length ≤ 4096)
    (h1 : ∀ x ∈ xs, 1 ≤ (enc x).length) (h : ∀ x ∈ xs, ∀ t, rv (some (enc x ++ t)) = dec x ∧ rs (some (enc x ++ t)) = some t) :
    getR rv rs (some (listB enc xs ++ rest)) = (some (xs.map dec), some rest) := by
  have e : lenR 4096 (some (listB enc xs ++ rest)) = (xs.length, some (xs.flatMap enc ++ rest)) := by
    unfold lenR listB
    rw [List.append_assoc, numR_numB _ _ (by omega), if_neg]
    have := flat_ge enc xs h1
    simp only [leftN, List.length_append]; omega
  unfold getR
  rw [e, if_neg (by simp [badO]), getGo_back enc dec rv rs xs rest [] h]; simp
theorem numB_pos (n : Nat) : 1 ≤ (numB n).length := by rw [numB_eq]; simp
theorem num_back (n : Nat) (h : n < 18446744073709551616) (t : List UInt8) : numV (some (numB n ++ t)) = n ∧ numS (some (numB n ++ t)) = some t := by
  unfold numV numS; rw [numR_numB _ _ h]; exact ⟨rfl, rfl⟩
theorem int_back (n : Int) (h0 : -9223372036854775808 ≤ n) (h1 : n < 9223372036854775808) (t : List UInt8) : intV (some (intB n ++ t)) = n ∧ intS (some (intB n ++ t)) = some t := by
  by_cases hn : 0 ≤ n
  · have e : intB n = 0 :: numB n.toNat := by unfold intB; rw [if_pos hn]
    have e2 : numR (some (numB n.toNat ++ t)) = (n.toNat, some t) := numR_numB _ _ (by omega)
    have hS : intS (some (intB n ++ t)) = some t := by
      rw [e]
      show (if 1 < (0 : UInt8).toNat ∨ 9223372036854775807 < (numR (some (numB n.toNat ++ t))).1 then none else (numR (some (numB n.toNat ++ t))).2) = _
      rw [e2, if_neg]
      simp; omega
    refine ⟨?_, hS⟩
    unfold intV
    rw [hS, if_neg (by simp [badO]), e]
    show (if (0 : UInt8).toNat = 1 then _ else ((numR (some (numB n.toNat ++ t))).1 : Int)) = _
    rw [e2, if_neg (by decide)]
    simp; omega
  · have e : intB n = 1 :: numB (-1 - n).toNat := by unfold intB; rw [if_neg hn]
    have e2 : numR (some (numB (-1 - n).toNat ++ t)) = ((-1 - n).toNat, some t) := numR_numB _ _ (by omega)
    have hS : intS (some (intB n ++ t)) = some t := by
      rw [e]
      show (if 1 < (1 : UInt8).toNat ∨ 9223372036854775807 < (numR (some (numB (-1 - n).toNat ++ t))).1 then none else (numR (some (numB (-1 - n).toNat ++ t))).2) = _
      rw [e2, if_neg]
      simp; omega
    refine ⟨?_, hS⟩
    unfold intV
    rw [hS, if_neg (by simp [badO]), e]
    show (if (1 : UInt8).toNat = 1 then -1 - ((numR (some (numB (-1 - n).toNat ++ t))).1 : Int) else _) = _
    rw [e2, if_pos (by decide)]
    simp; omega
theorem text_back (s : ByteArray) (h : s.size ≤ 1048576) (t : List UInt8) : textV (some (textB s ++ t)) = s.data.toList ∧ textS (some (textB s ++ t)) = some t := by
  have hl : s.data.toList.length = s.size := by simp
  have e : lenR 1048576 (some (textB s ++ t)) = (s.size, some (s.data.toList ++ t)) := by
    unfold lenR textB
    rw [List.append_assoc, numR_numB _ _ (by omega), if_neg]
    simp only [leftN, List.length_append, hl]; omega
  unfold textV textS
  rw [e]
  refine ⟨?_, ?_⟩
  · show (s.data.toList ++ t).take s.size = _
    rw [← hl, List.take_left]
  · show some ((s.data.toList ++ t).drop s.size) = _
    rw [← hl, List.drop_left]
end Go.Proofs.Ytplpbnglcfdaaaa
namespace Go.Proofs.Ytplpbnglcfdaaaa
open Go.RowKit

theorem num_ext (r r' Q : List UInt8) (n : Nat) (h : numR (some r) = (n, some r')) : numR (some (r ++ Q)) = (n, some (r' ++ Q)) := by
  obtain ⟨h1, h2⟩ := numR_only r n r' h
  rw [h1, List.append_assoc]; exact numR_numB _ _ h2
theorem text_ext (r t Q : List UInt8) (h : textS (some r) = some t) : textS (some (r ++ Q)) = some (t ++ Q) := by
  unfold textS at h
  split at h
  · cases h
  · rename_i r' h'
    obtain rfl := Option.some.inj h
    have h2 : ¬ (1048576 < (numR (some r)).1 ∨ leftN (numR (some r)).2 < (numR (some r)).1) ∧ lenR 1048576 (some r) = numR (some r) := by
      unfold lenR at h' ⊢
      split at h'
      · cases h'
      · rename_i hn
        exact ⟨hn, if_neg hn⟩
    obtain ⟨hn, he⟩ := h2
    rw [he] at h' ⊢
    have h3 : numR (some r) = ((numR (some r)).1, some r') := by rw [← h']
    have h4 := num_ext r r' Q _ h3
    rw [h'] at hn
    simp only [leftN] at hn
    have h5 : lenR 1048576 (some (r ++ Q)) = ((numR (some r)).1, some (r' ++ Q)) := by
      unfold lenR
      rw [h4, if_neg]
      simp only [leftN, List.length_append]; omega
    unfold textS
    rw [h5]
    show some ((r' ++ Q).drop _) = _
    rw [List.drop_append_of_le_length (by omega)]
theorem getGo_cut (xs : List ByteArray) (r Q : List UInt8) (acc : List (List UInt8)) (hx : ∀ x ∈ xs, x.size ≤ 1048576) (hQ : Q ≠ []) (h : r ++ Q = xs.flatMap textB) : getGo textV textS xs.length (some r) acc = (none, none) := by
  induction xs generalizing r acc with
  | nil => simp at h; exact absurd h.2 hQ
  | cons x xs ih =>
    rw [List.length_cons]
    show (if badO (textS (some r)) then (none, none) else getGo textV textS xs.length (textS (some r)) (acc ++ [textV (some r)])) = _
    cases ht : textS (some r) with
    | none => rfl
    | some t =>
      have h1 := text_ext r t Q ht
      rw [h, List.flatMap_cons, (text_back x (hx x (List.mem_cons_self ..)) _).2] at h1
      have h2 := Option.some.inj h1
      exact ih t _ (fun y hy => hx y (List.mem_cons_of_mem _ hy)) h2.symm
theorem getR_cut (xs : List ByteArray) (k : Nat) (hx : ∀ x ∈ xs, x.size ≤ 1048576) (hn : xs.length ≤ 4096) (hk : k < (listB textB xs).length) : getR textV textS (some ((listB textB xs).take k)) = (none, none) := by
  have hQ : (listB textB xs).drop k ≠ [] := by
    intro h
    have := congrArg List.length h
    simp at this; omega
  have hB : (listB textB xs).take k ++ (listB textB xs).drop k = listB textB xs := List.take_append_drop _ _
  generalize (listB textB xs).take k = P at *
  generalize (listB textB xs).drop k = Q at *
  unfold getR
  cases hl : (lenR 4096 (some P)).2 with
  | none => rfl
  | some r =>
    have h2 : lenR 4096 (some P) = numR (some P) := by
      unfold lenR at hl ⊢
      split at hl
      · cases hl
      · rename_i h; exact if_neg h
    rw [h2] at hl ⊢
    have h3 : numR (some P) = ((numR (some P)).1, some r) := by rw [← hl]
    have h4 := num_ext P r Q _ h3
    rw [hB] at h4
    unfold listB at h4
    rw [numR_numB _ _ (by omega)] at h4
    obtain ⟨e1, e2⟩ := Prod.mk.inj h4
    have e3 := Option.some.inj e2
    rw [← e1, if_neg (by simp [badO])]
    exact getGo_cut xs r Q [] hx hQ e3.symm

theorem bytes_eta (s : ByteArray) : (⟨s.data.toList.toArray⟩ : ByteArray) = s := by cases s; simp
theorem map_eta (l : List ByteArray) : (l.map fun s => s.data.toList).map (fun x => (⟨x.toArray⟩ : ByteArray)) = l := by
  rw [List.map_map]
  refine (List.map_congr_left (g := id) fun s _ => bytes_eta s).trans (List.map_id _)
end Go.Proofs.Ytplpbnglcfdaaaa
namespace Go.Proofs.Ytplpbnglcfdaaaa
open Go.RowKit
set_option linter.unusedVariables false

theorem wpl_append_both {w : World} {ops : Array Oper} {rest : List Oper} {o : Oper} {a : Act} {Q : Exit → Act → World → Prop} (hgd : o.guard = none) (s x : Operand)
    (ho : o.op = .call { callee := .builtin .append, args := #[s, x], argTypes := #[80, 80] })
    (base : Nat) (v : Value) (l : List UInt8) (hs : a.eval s = v) (hown : Own w base v l) (u : Value) (m : List UInt8) (hx : a.eval x = u) (hu : Bts w u m)
    (hsz : l.length + m.length ≤ 140737488355328) (hbase : base ≤ w.heap.size)
    (h : ∀ va vc w', Own w' base (.slice va (l.length + m.length) vc) (l ++ m) → Own w' base v l → w.grownBy w' v.ownBlock → wpList Try.prog ops Q rest (a.put o.dst (.slice va (l.length + m.length) vc)) w') :
    wpList Try.prog ops Q (o :: rest) a w := by
  obtain ⟨i, hi, hz0, hz1, hz2⟩ := info_parts Try.infoB
  obtain ⟨ao, n, cap, rfl, rfl, hc, hm, hnone, hcell⟩ := hu
  cases ao with
  | none =>
    have h0 := hnone rfl
    subst h0
    have hm0 : m = [] := List.eq_nil_of_length_eq_zero (by omega)
    subst hm0
    obtain ⟨va, vc, rfl⟩ := hown.shape
    refine wpList_append_own_none hgd s x 80 ho base 5 i 1 Try.underlyingB hi _ _ _ hs hown hx ?_
    exact h va vc w (by simpa using hown) hown (World.grownBy.refl _ _)
  | some ad =>
    have hnews : ∀ j u, (m.map bv)[j]? = some u → w.cell? (ad.add j) = some u := by
      intro j u hj
      have hlt : j < m.length := by
        rcases Nat.lt_or_ge j m.length with h | h
        · exact h
        · simp [List.getElem?_eq_none (l := m.map bv) (by simpa using h)] at hj
      have e := hcell ad rfl j hlt
      have : u = bv m[j] := by simpa [hlt] using hj.symm
      rw [this]; exact e
    have hml : (m.map bv).length = m.length * i.size := by rw [hz1]; simp
    refine wpList_plain hgd fun K hK => ?_
    obtain ⟨v', w', hr, ho2, hg2, -⟩ := run_append_own (P := Try.prog) w base 80 o.type 5 i (.int .u8 0) 1 1 Try.underlyingB hi hz0 hz1 hz2 rfl (by decide) v l.length (l.map bv) hown ad m.length cap (m.map bv) (by simp) hnews (bv_one m) (by unfold maxLen; omega) (by omega) hbase
    have hold : Own w' base v l := by
      have hown' := hown
      obtain ⟨h1, h2⟩ := hown
      rcases h2 with ⟨rfl, h0⟩ | ⟨g, cp, cur, rfl, hbg, hg, hnc, hcm, hcs, htake⟩
      · have hl0 : l = [] := List.eq_nil_of_length_eq_zero h0
        subst hl0
        exact Own.nil _ _
      · by_cases hroom : l.length + m.length ≤ cp
        · have hfit : l.length * i.size + (m.map bv).length ≤ cur.size := by rw [hcs, hz1]; simp; omega
          have hr2 := run_append_room (P := Try.prog) w 80 o.type 5 i Try.underlyingB hi g l.length cp cur hg ad m.length cap (m.map bv) hml hnews (bv_one m) hroom hfit
          rw [hr] at hr2
          obtain ⟨-, rfl⟩ := Result.ok.inj hr2
          refine ⟨h1, .inr ⟨g, cp, _, rfl, hbg, setRow_heap w g cur _ _ _ hg, hnc, hcm, ?_, ?_⟩⟩
          · have hcs' : cur.size = cp := by rw [hcs]; simp
            simp only [List.size_toArray, List.length_append, List.length_take, List.length_drop, Array.length_toList, hz1, List.length_map]
            omega
          · have hcs' : cur.size = cp := by rw [hcs]; simp
            rw [hz1]
            simp only [Nat.mul_one, List.append_assoc]
            rw [List.take_append_of_le_length (by simp; omega), List.take_take, Nat.min_self]
            simpa using htake
        · have holds : ∀ j u, (l.map bv)[j]? = some u → w.cell? ((⟨g, 0, none⟩ : Addr).add j) = some u := hown'.cells (g := g) rfl
          have hr2 := run_append_grow (P := Try.prog) w 80 o.type 5 i (.int .u8 0) Try.underlyingB hi hz0 ⟨g, 0, none⟩ l.length cp (l.map bv) (by rw [hz1]; simp) holds ad m.length cap (m.map bv) hml hnews (by omega) (by omega) (growslice_fits (by omega) (by rw [hz2]; omega))
          rw [hr] at hr2
          obtain ⟨-, rfl⟩ := Result.ok.inj hr2
          exact hown'.kept fun k _ hk => Below.heap_alloc w.drew _ k hk
    have ho3 : Own w' base v' (l ++ m) := by
      show w'.ownsRow _ _ _ _ (l ++ m).length ((l ++ m).map bv)
      rw [List.length_append, List.map_append]; exact ho2
    obtain ⟨va, vc, rfl⟩ := ho3.shape
    have e : (l ++ m).length = l.length + m.length := List.length_append
    rw [e] at ho3 hr
    unfold Oper.wp execOp
    simp only [ho, resolve, invoke, builtin, Sem.run_bind, Sem.run_pure, Result.andThen_ok, List.map_toArray, List.map_cons, List.map_nil, hs, hx, hr]
    exact hK _ _ (h va vc w' ho3 hold hg2)
end Go.Proofs.Ytplpbnglcfdaaaa
