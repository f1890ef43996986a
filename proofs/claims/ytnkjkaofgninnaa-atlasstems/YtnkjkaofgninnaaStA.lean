/- OcA WkA AtEnc AtEnc2 AtEnc3 AtEnc4: joined. No condition. -/
import Derived.WalkKit
import Derived.Laws.BitsAllLaws
import Derived.Test.YtnkjkaofgninnaaRows
import Derived.WalkSpells
import Derived.WalkLawsBesides
import Derived.Laws.AppendOwnNone
import Derived.LaidEql
import Derived.Laws.EntriesVeiled
import Derived.Test.YtnkjkaofgninnaaKt
import Derived.RangeFuncOwn
import Derived.Test.YtnkjkaofgninnaaAtShards
import Derived.Test.YtnkjkaofgninnaaAtSpans
import Derived.Test.YtnkjkaofgninnaaAtFits
import Derived.Test.YtnkjkaofgninnaaAtAlike
namespace Go.Proofs.Ytnkjkaofgninnaa
open Go.RowKit

end Go.Proofs.Ytnkjkaofgninnaa
namespace Go.Proofs.Ytnkjkaofgninnaa
open Go.RowKit

theorem hio {p : Prop} (h : p) : Hid p := h
/-- The value v is a slice whose elements are the bytes l. -/
def Bts (w : World) (v : Value) (l : List UInt8) : Prop :=
  ∃ ao n cap, v = .slice ao n cap ∧ n = l.length ∧ n ≤ cap ∧ cap ≤ 9223372036854775807 ∧ (ao = none → cap = 0) ∧
    ∀ ad, ao = some ad → ∀ j, (h : j < l.length) → w.cell? (ad.add j) = some (.int .u8 (l[j].toNat : Int))

end Go.Proofs.Ytnkjkaofgninnaa
namespace Go.Proofs.Ytnkjkaofgninnaa
open Go.RowKit

def bv (c : UInt8) : Value := .int .u8 (c.toNat : Int)
theorem bv_one (l : List UInt8) : ∀ u ∈ l.map bv, u.oneCell' = true := by
  intro u hu
  obtain ⟨c, -, rfl⟩ := List.mem_map.1 hu
  rfl
theorem Try.underlyingB : Try.prog.underlying 80 = some (.slice 5) := by kernel_rfl
theorem Try.infoB : (Try.prog.info? 5).map (fun i => (i.zero, i.size, i.bytes)) = some (some (.int .u8 0), 1, 1) := by kernel_rfl

/-- The value v is a row of the call's own, its bytes are l. -/
def Own (w : World) (base : Nat) (v : Value) (l : List UInt8) : Prop := w.ownsRow base 5 1 v l.length (l.map bv)

theorem Own.nil (w : World) (base : Nat) : Own w base (.slice none 0 0) [] := World.ownsRow_nil _ _ _ _
theorem Own.shape {w : World} {base : Nat} {v : Value} {l : List UInt8} (h : Own w base v l) : ∃ va vc, v = .slice va l.length vc := by
  obtain ⟨h1, h2⟩ := h
  rcases h2 with ⟨rfl, h0⟩ | ⟨g, cap, cur, rfl, -⟩
  · exact ⟨none, 0, by rw [h0]⟩
  · exact ⟨_, _, rfl⟩
theorem Own.kept {w w' : World} {base : Nat} {v : Value} {l : List UInt8} (h : Own w base v l) (hb : ∀ k, base ≤ k → k < w.heap.size → w'.heap[k]? = w.heap[k]?) : Own w' base v l := by
  obtain ⟨h1, h2⟩ := h
  refine ⟨h1, ?_⟩
  rcases h2 with h2 | ⟨g, cap, cur, hv, hg, hh, r⟩
  · exact Or.inl h2
  · exact Or.inr ⟨g, cap, cur, hv, hg, by rw [hb g hg (lt_of_block hh)]; exact hh, r⟩
theorem Own.below {w w' : World} {base : Nat} {v : Value} {l : List UInt8} (h : Own w base v l) (hb : Below w.heap.size w w') : Own w' base v l :=
  h.kept fun k _ hk => hb.block k hk
/-- A row of the call's own, read as any slice of bytes is. -/
theorem Own.bts {w : World} {base : Nat} {v : Value} {l : List UInt8} (h : Own w base v l) : Bts w v l := by
  have h' : w.ownsRow base 5 1 v l.length (l.map bv) := h
  obtain ⟨h1, h2⟩ := h
  rcases h2 with ⟨rfl, h0⟩ | ⟨g, cap, cur, rfl, hg, hh, hc, hm, hs, ht⟩
  · exact ⟨none, 0, 0, rfl, h0.symm, Nat.le_refl _, by omega, (fun _ => rfl), (fun ad h => by cases h)⟩
  · refine ⟨some ⟨g, 0, none⟩, l.length, cap, rfl, rfl, hc, hm, (fun h => by cases h), ?_⟩
    intro ad had j hj
    obtain rfl := Option.some.inj had
    have e := h'.cells rfl j (bv l[j]) (by simp [hj])
    exact e

/-- A slice of bytes stays what it is where its cells stay. -/
theorem Bts.kept {w w' : World} {v : Value} {l : List UInt8} (h : Bts w v l) (hb : ∀ k u, w.cell? k = some u → w'.cell? k = some u) : Bts w' v l := by
  obtain ⟨ao, n, cap, rfl, h1, h2, h3, h4, h5⟩ := h
  exact ⟨ao, n, cap, rfl, h1, h2, h3, h4, fun ad had j hj => hb _ _ (h5 ad had j hj)⟩
theorem Bts.below {w w' : World} {v : Value} {l : List UInt8} (h : Bts w v l) (hb : Below w.heap.size w w') : Bts w' v l :=
  h.kept fun _ _ hk => cell_later hb hk
theorem Bts.alloc {w : World} {v : Value} {l : List UInt8} (h : Bts w v l) (o : Obj) : Bts (w.alloc o) v l := h.below ((Below.refl _ _).alloc (Nat.le_refl _) _)
theorem Bts.shape {w : World} {v : Value} {l : List UInt8} (h : Bts w v l) : ∃ va vc, v = .slice va l.length vc := by
  obtain ⟨ao, n, cap, rfl, rfl, -⟩ := h; exact ⟨_, _, rfl⟩

/-- 'append(s, x...)', s of the call's own, x any slice of bytes. -/
theorem wpl_append {w : World} {ops : Array Oper} {rest : List Oper} {o : Oper} {a : Act} {Q : Exit → Act → World → Prop} (hgd : o.guard = none) (s x : Operand)
    (ho : o.op = .call { callee := .builtin .append, args := #[s, x], argTypes := #[80, 80] })
    (base : Nat) (v : Value) (l : List UInt8) (hs : a.eval s = v) (hown : Own w base v l) (u : Value) (m : List UInt8) (hx : a.eval x = u) (hu : Bts w u m)
    (hsz : l.length + m.length ≤ 140737488355328) (hbase : base ≤ w.heap.size)
    (h : ∀ va vc w', Own w' base (.slice va (l.length + m.length) vc) (l ++ m) → w.grownBy w' v.ownBlock → wpList Try.prog ops Q rest (a.put o.dst (.slice va (l.length + m.length) vc)) w') :
    wpList Try.prog ops Q (o :: rest) a w := by
  obtain ⟨i, hi, hz0, hz1, hz2⟩ := info_parts Try.infoB
  obtain ⟨ao, n, cap, rfl, rfl, hc, hm, hnone, hcell⟩ := hu
  cases ao with
  | none =>
    have h0 := hnone rfl
    subst h0
    have hm0 : m = [] := List.eq_nil_of_length_eq_zero (by omega)
    subst hm0
    obtain ⟨va, vc, rfl⟩ := hown.shape
    refine wpList_append_own_none hgd s x 80 ho base 5 i 1 Try.underlyingB hi _ _ _ hs hown hx ?_
    exact h va vc w (by simpa using hown) (World.grownBy.refl _ _)
  | some ad =>
    refine wpList_append_own w hgd s x 80 ho base 5 i (.int .u8 0) 1 1 Try.underlyingB hi hz0 hz1 hz2 rfl (by decide) v l.length (l.map bv) hs hown ad m.length cap (m.map bv) hx (by simp) ?_ (bv_one m) (by unfold maxLen; omega) (by omega) hbase ?_
    · intro j u hj
      have hlt : j < m.length := by
        rcases Nat.lt_or_ge j m.length with h | h
        · exact h
        · simp [List.getElem?_eq_none (l := m.map bv) (by simpa using h)] at hj
      have e := hcell ad rfl j hlt
      have : u = bv m[j] := by simpa [hlt] using hj.symm
      rw [this]; exact e
    · intro v' w' ho' hg _
      have ho2 : Own w' base v' (l ++ m) := by
        show w'.ownsRow _ _ _ _ (l ++ m).length ((l ++ m).map bv)
        rw [List.length_append, List.map_append]; exact ho'
      obtain ⟨va, vc, rfl⟩ := ho2.shape
      have e : (l ++ m).length = l.length + m.length := List.length_append
      rw [e] at ho2 ⊢
      exact h va vc w' ho2 hg

/-- A Writer lies at block b, what it has laid is l. -/
def Wr (w : World) (b : Nat) (l : List UInt8) : Prop := ∃ va vc, w.heap[b]? = some (.cells #[.slice va l.length vc] 110 (0, 0)) ∧ Own w (b + 1) (.slice va l.length vc) l

theorem Wr.kept {w w' : World} {b : Nat} {l : List UInt8} (h : Wr w b l) (hb : ∀ k, b ≤ k → k < w.heap.size → w'.heap[k]? = w.heap[k]?) : Wr w' b l := by
  obtain ⟨va, vc, h1, h2⟩ := h
  exact ⟨va, vc, by rw [hb b (Nat.le_refl _) (lt_of_block h1)]; exact h1, h2.kept fun k hk => hb k (by omega)⟩
theorem Wr.below {w w' : World} {b : Nat} {l : List UInt8} (h : Wr w b l) (hb : Below w.heap.size w w') : Wr w' b l := h.kept fun k _ hk => hb.block k hk
theorem Wr.lt {w : World} {b : Nat} {l : List UInt8} (h : Wr w b l) : b < w.heap.size := by
  obtain ⟨va, vc, h1, h2⟩ := h; exact lt_of_block h1
theorem Wr.new (w : World) : Wr (w.alloc (.cells #[.slice none 0 0] 110)) w.heap.size [] :=
  ⟨none, 0, heap_alloc_new _ _, Own.nil _ _⟩

/-- Behind an append to a row from b + 1 on block b is as it was; nothing below it has turned. -/
theorem grown_block {w w1 : World} {b : Nat} {v : Value} {l : List UInt8} (ho : Own w (b + 1) v l) (hg : w.grownBy w1 v.ownBlock) (hb : b < w.heap.size) : ∀ k, k ≤ b → w1.heap[k]? = w.heap[k]? := by
  intro k hk
  refine hg.block k (by omega) ?_
  intro e
  have := (World.ownsRow.lt ho k e.symm).1
  omega
theorem Wr.stored {w w1 : World} {b : Nat} {l m : List UInt8} {v va : Value} {vb : Option Addr} {vc : Nat} (ho : Own w (b + 1) v l) (h1 : w.heap[b]? = some (.cells #[va] 110 (0, 0))) (hg : w.grownBy w1 v.ownBlock)
    (ho1 : Own w1 (b + 1) (.slice vb m.length vc) m) : Wr (w1.setCell ⟨b, 0, none⟩ (.slice vb m.length vc)) b m ∧ Below b w (w1.setCell ⟨b, 0, none⟩ (.slice vb m.length vc)) := by
  have hlt := lt_of_block h1
  have hb := grown_block ho hg hlt
  refine ⟨⟨vb, vc, one_setCell (v := va) (by rw [hb b (Nat.le_refl _)]; exact h1), ?_⟩, ?_⟩
  · exact ho1.kept fun k hk _ => Below.heap_setCell w1 ⟨b, 0, none⟩ _ k (by simp; omega)
  · have hbel : Below b w w1 := ⟨hg.os, hg.tape, hg.output, hg.size, fun k hk => hb k (by omega)⟩
    exact hbel.setCell (p := ⟨b, 0, none⟩) (Nat.le_refl _) _

end Go.Proofs.Ytnkjkaofgninnaa
namespace Go.Proofs.Ytnkjkaofgninnaa
open Go.RowKit

/-- The groups above the lowest, laid ahead of what stands already; f: at most so many. -/
def numHiF : Nat → Nat → List UInt8 → List UInt8
  | 0, _, acc => acc
  | f + 1, n, acc => if n = 0 then acc else numHiF f (n / 128) (UInt8.ofNat (n % 128 + 128) :: acc)
def numHi (n : Nat) (acc : List UInt8) : List UInt8 := numHiF n n acc
/-- A number's bytes. -/
def numB (n : Nat) : List UInt8 := numHi (n / 128) [UInt8.ofNat (n % 128)]

theorem numHiF_zero (f : Nat) (acc : List UInt8) : numHiF f 0 acc = acc := by cases f <;> simp [numHiF]
theorem numHiF_fuel (f g n : Nat) (acc : List UInt8) (hf : n ≤ f) (hg : n ≤ g) : numHiF f n acc = numHiF g n acc := by
  induction f generalizing g n acc with
  | zero =>
    obtain rfl : n = 0 := by omega
    rw [numHiF_zero, numHiF_zero]
  | succ f ih =>
    rcases Nat.eq_zero_or_pos n with rfl | hp
    · rw [numHiF_zero, numHiF_zero]
    · obtain ⟨g', rfl⟩ : ∃ g', g = g' + 1 := ⟨g - 1, by omega⟩
      simp only [numHiF]
      rw [if_neg (by omega), if_neg (by omega)]
      exact ih g' _ _ (by omega) (by omega)
theorem numHi_zero (acc : List UInt8) : numHi 0 acc = acc := rfl
theorem numHi_pos (n : Nat) (acc : List UInt8) (h : 0 < n) : numHi n acc = numHi (n / 128) (UInt8.ofNat (n % 128 + 128) :: acc) := by
  unfold numHi
  obtain ⟨m, rfl⟩ : ∃ m, n = m + 1 := ⟨n - 1, by omega⟩
  rw [numHiF, if_neg (by omega)]
  exact numHiF_fuel _ _ _ _ (by omega) (by omega)
theorem u64_and127 (n : Int) (h0 : 0 ≤ n) (h1 : n < 18446744073709551616) : bits .and .u64 n 127 = n % 128 := by
  rw [u64_and n 127 h0 h1 (by omega) (by omega)]
  have : n.toNat &&& (127 : Int).toNat = n.toNat % 128 := Nat.and_two_pow_sub_one_eq_mod _ 7
  rw [this]; omega
theorem u64_or128 (n : Int) (h0 : 0 ≤ n) (h1 : n < 128) : bits .or .u64 n 128 = n + 128 := by
  rw [u64_or n 128 h0 (by omega) (by omega) (by omega)]
  have e : (128 : Int).toNat = 2 ^ 7 * 1 := rfl
  rw [e, Nat.or_comm, ← Nat.two_pow_add_eq_or_of_lt (by omega)]; omega
theorem bv_num (n : Nat) (h : n < 256) : bv (UInt8.ofNat n) = .int .u8 (n : Int) := by
  unfold bv; rw [UInt8.toNat_ofNat', Nat.mod_eq_of_lt (by simpa using h)]

/-- The rounds of the loop: q is what is left, from place a on the bytes stand. -/
def NumAt (n0 q a : Nat) (acc : List UInt8) : Prop := a ≤ 9 ∧ acc.length = 10 - a ∧ q * 128 ^ (10 - a) ≤ n0 ∧ numHi q acc = numB n0
theorem NumAt.start (n0 : Nat) : NumAt n0 (n0 / 128) 9 [UInt8.ofNat (n0 % 128)] := ⟨by omega, by simp, by simp; omega, rfl⟩
theorem NumAt.room {n0 q a : Nat} {acc : List UInt8} (h : NumAt n0 q a acc) (hn : n0 < 18446744073709551616) (hq : 0 < q) : 1 ≤ a := by
  obtain ⟨h1, h2, h3, h4⟩ := h
  rcases Nat.eq_zero_or_pos a with rfl | h
  · simp at h3; omega
  · exact h
theorem NumAt.step {n0 q a : Nat} {acc : List UInt8} (h : NumAt n0 q a acc) (hn : n0 < 18446744073709551616) (hq : 0 < q) : NumAt n0 (q / 128) (a - 1) (UInt8.ofNat (q % 128 + 128) :: acc) := by
  have hr := h.room hn hq
  obtain ⟨h1, h2, h3, h4⟩ := h
  refine ⟨by omega, by simp [h2]; omega, ?_, by rw [← numHi_pos _ _ hq]; exact h4⟩
  rw [show 10 - (a - 1) = (10 - a) + 1 from by omega, Nat.pow_succ, Nat.mul_comm (128 ^ (10 - a)) 128, ← Nat.mul_assoc]
  exact Nat.le_trans (Nat.mul_le_mul_right _ (by omega)) h3
theorem NumAt.done {n0 a : Nat} {acc : List UInt8} (h : NumAt n0 0 a acc) : acc = numB n0 := by rw [← h.2.2.2, numHi_zero]
theorem numHi_len (n : Nat) (acc : List UInt8) (j : Nat) (h : n < 128 ^ j) : (numHi n acc).length ≤ acc.length + j := by
  induction j generalizing n acc with
  | zero =>
    have : n = 0 := by simpa using h
    subst this; rw [numHi_zero]; simp
  | succ j ih =>
    rcases Nat.eq_zero_or_pos n with rfl | hp
    · rw [numHi_zero]; omega
    · rw [numHi_pos _ _ hp]
      have := ih (n / 128) (UInt8.ofNat (n % 128 + 128) :: acc) (Nat.div_lt_of_lt_mul (by rw [Nat.pow_succ] at h; omega))
      simp only [List.length_cons] at this; omega
theorem numB_len (n : Nat) (h : n < 18446744073709551616) : (numB n).length ≤ 10 := by
  have := numHi_len (n / 128) [UInt8.ofNat (n % 128)] 9 (by simp; omega)
  simpa [numB] using this
/-- A cell of the row is written. -/
theorem drop_set {cs : Array Value} {a : Nat} {acc : List UInt8} {v : Value} {c : UInt8} (hs : cs.size = 10) (ha : 1 ≤ a) (ha9 : a ≤ 9) (hd : cs.toList.drop a = acc.map bv) (hv : v = bv c) :
    (cs.setIfInBounds (a - 1) v).size = 10 ∧ (cs.setIfInBounds (a - 1) v).toList.drop (a - 1) = (c :: acc).map bv := by
  refine ⟨by simp [hs], ?_⟩
  rw [Array.toList_setIfInBounds, List.drop_eq_getElem_cons (by simp [hs]; omega)]
  simp only [List.getElem_set_self, List.map_cons, hv]
  congr 1
  rw [show a - 1 + 1 = a from by omega, ← hd, List.drop_set_of_lt (by omega)]
end Go.Proofs.Ytnkjkaofgninnaa
namespace Go.Proofs.Ytnkjkaofgninnaa
open Go.RowKit

theorem Try.underlyingA : Try.prog.underlying 138 = some (.array 10 5) := by kernel_rfl
theorem Try.arrA : Try.prog.arrayLen 138 = 10 := by kernel_rfl
theorem Try.elemA : Try.prog.elem 138 = 5 := by kernel_rfl
theorem slice_arr (w : World) (a : Addr) (k : Nat) (hk : k ≤ 9) :
    (Instr.sliceAt 138 (.pointer (some a)) (some (.int .i64 k)) none none).run Try.prog w = .ok (.slice (some (a.add k)) (10 - k) (10 - k)) w := by
  obtain ⟨i, hi, hz0, hz1, hz2⟩ := info_parts Try.infoB
  rw [run_sliceAt_array_l w _ a (by rw [Try.arrA, Try.elemA]; exact Try.underlyingA) .i64 k (by omega) (by rw [Try.arrA]; omega), Try.elemA, Try.arrA]
  simp [sizeOf, typeInfo, hi, hz1, slicedAt, show ¬ 10 = k from by omega]

theorem bts_arr (w : World) (cs : Array Value) (a : Nat) (l : List UInt8) (t : TypeId) (hs : cs.size = 10) (ha : a ≤ 9) (hd : cs.toList.drop a = l.map bv) :
    Bts (w.alloc (.cells cs t)) (.slice (some ⟨w.heap.size, a, none⟩) (10 - a) (10 - a)) l := by
  have hl : 10 - a = l.length := by have := congrArg List.length hd; simpa [hs] using this
  refine ⟨_, _, _, rfl, hl, Nat.le_refl _, by omega, (fun h => by cases h), ?_⟩
  intro ad had j hj
  obtain rfl := Option.some.inj had
  rw [Addr.add_lit, World.cell?_alloc_at _ _ _ _ rfl]
  have e := congrArg (fun x => x[j]?) hd
  simp only [List.getElem?_drop, List.getElem?_map] at e
  rw [List.getElem?_eq_getElem hj] at e
  simpa [bv] using e

/-- A new block of bytes, as a slice. -/
theorem bts_lit (w : World) (l : List UInt8) (t : TypeId) (cs : Array Value) (hc : cs = (l.map bv).toArray) (hl : l.length ≤ 9223372036854775807) : Bts (w.alloc (.cells cs t)) (.slice (some ⟨w.heap.size, 0, none⟩) l.length l.length) l := by
  subst hc
  refine ⟨_, _, _, rfl, rfl, Nat.le_refl _, hl, (fun h => by cases h), ?_⟩
  intro ad had j hj
  obtain rfl := Option.some.inj had
  rw [Addr.add_lit, World.cell?_alloc_at _ _ _ _ rfl]
  simp [bv, hj]

/-- An int's bytes. -/
def intB (n : Int) : List UInt8 := if 0 ≤ n then 0 :: numB n.toNat else 1 :: numB (-1 - n).toNat

/-- A text's bytes. -/
def textB (s : ByteArray) : List UInt8 := numB s.size ++ s.data.toList

theorem Try.underlyingS : Try.prog.underlying 9 = some .string := by kernel_rfl
theorem Try.underlyingU : Try.prog.underlying 5 = some (.int .u8) := by kernel_rfl
/-- '[]byte(s)'. -/
theorem conv_bytes (w : World) (s : ByteArray) (hs : s.size ≤ 9223372036854775807) :
    ∃ cap W1, (convert 9 80 (.string s)).run Try.prog w = .ok (.slice (some ⟨w.heap.size, 0, none⟩) s.size cap) W1 ∧ Bts W1 (.slice (some ⟨w.heap.size, 0, none⟩) s.size cap) s.data.toList ∧ Below w.heap.size w W1 := by
  refine ⟨_, _, run_bytes_of_string w _ _ _ s Try.underlyingS Try.underlyingB Try.underlyingU, ?_, ?_⟩
  · refine ⟨_, _, _, rfl, by simp, grownCap_ge _ _ _ _, grownCap_le_maxLen _ _ _ _ (by unfold maxLen; omega), (fun h => by cases h), ?_⟩
    intro ad had j hj
    obtain rfl := Option.some.inj had
    rw [Addr.add_lit]
    refine (World.cell?_alloc_mark w.drew _ _ _ _).trans ?_
    have hj' : j < s.data.size := by simpa using hj
    simp [bytesRow, Array.getElem?_append, show j < s.size from hj']
  · exact ((Below.refl _ _).drew).alloc (Nat.le_refl _) _

/-- 'string(b)'. -/
theorem conv_string (w : World) (v : Value) (l : List UInt8) (hv : Bts w v l) : (convert 80 9 v).run Try.prog w = .ok (.string ⟨l.toArray⟩) w := by
  obtain ⟨ao, n, cap, rfl, rfl, hc, hm, hnone, hcell⟩ := hv
  cases ao with
  | some ad => exact run_convert_bytes_back w _ _ _ ad cap l Try.underlyingB Try.underlyingU Try.underlyingS (hcell ad rfl)
  | none =>
    have h0 := hnone rfl
    subst h0
    have hl : l = [] := List.eq_nil_of_length_eq_zero (by omega)
    subst hl
    rw [run_convert_bytes_string w _ _ _ none _ 0 Try.underlyingB Try.underlyingU Try.underlyingS]
    simp [Conv.bytesToString]
    rfl

set_option maxHeartbeats 400000 in
theorem bytes_any (b : Nat) (l : List UInt8) (w : World) (hw : Wr w b l) (hsz : l.length ≤ 140737488340000) :
    Calls Try.prog 55 #[.pointer (some ⟨b, 0, none⟩)] w fun e w' => ∃ va vc, e = .returned (.slice va l.length vc) ∧ Own w' w.heap.size (.slice va l.length vc) l ∧ Below w.heap.size w w' := by
  have hlt := hw.lt
  obtain ⟨va, vc, h1, h2⟩ := hw
  have hc := cell_of_one h1
  have HB := hio h2.bts
  clear h1 h2
  go_enter Try.func55, Try.ntmps55
  go_wp2_with (at_builtin; refine wpl_append rfl _ _ rfl w.heap.size (.slice none 0 0) [] rfl (Own.nil _ _) _ l rfl HB.out (by simp; omega) (by omega) ?_; intro va' vc' w1 ho1 hg1)
  go_ret
  simp only [List.length_nil, Nat.zero_add, List.nil_append] at ho1 ⊢
  refine ⟨va', vc', by simp, ho1, ?_⟩
  exact ⟨hg1.os, hg1.tape, hg1.output, hg1.size, fun k hk => hg1.block k hk (by simp [Value.ownBlock])⟩
end Go.Proofs.Ytnkjkaofgninnaa
namespace Go.Proofs.Ytnkjkaofgninnaa
open Go.RowKit

end Go.Proofs.Ytnkjkaofgninnaa
namespace Go.Proofs.Ytnkjkaofgninnaa
open Go.RowKit

theorem Bts.take {w : World} {n m cap : Nat} {l : List UInt8} {ao : Option Addr} (hb : Bts w (.slice ao m cap) l) (hn : n ≤ l.length) : Bts w (.slice ao n cap) (l.take n) := by
  obtain ⟨ao1, n1, cap1, e, h1, h2, h3, h4, h5⟩ := hb
  cases e
  refine ⟨_, _, _, rfl, by simp; omega, by omega, h3, h4, fun ad had j hj => ?_⟩
  rw [h5 ad had j (by simp at hj; omega)]
  simp
end Go.Proofs.Ytnkjkaofgninnaa
namespace Go.Proofs.Ytnkjkaofgninnaa
open Go.RowKit

def leftN : Option (List UInt8) → Nat
  | none => 0
  | some l => l.length
def badO : Option (List UInt8) → Bool
  | none => true
  | some _ => false
theorem grown_set (w : World) (b i : Nat) (v : Value) : w.grownBy (w.setCell ⟨b, i, none⟩ v) (some b) :=
  ⟨rfl, rfl, rfl, by simp [World.setCell], fun k _ hr => Below.heap_setCell _ _ _ _ (fun e => hr (by rw [e]))⟩
theorem Bts.other {w w' : World} {b n cap : Nat} {ao : Option Addr} {l : List UInt8} (h : Bts w (.slice ao n cap) l) (hg : w.grownBy w' (some b)) (hne : ∀ ad, ao = some ad → ad.block ≠ b) : Bts w' (.slice ao n cap) l := by
  obtain ⟨ao', n', cap', e, h1, h2, h3, h4, h5⟩ := h
  cases e
  refine ⟨ao, n, cap, rfl, h1, h2, h3, h4, fun ad had j hj => ?_⟩
  have hne' := hne ad had
  refine hg.cell (h5 ad had j hj) ?_
  intro e
  apply hne'
  have : (ad.add j).block = ad.block := by simp [Addr.add]; split <;> rfl
  rw [this] at e
  exact Option.some.inj e
def byteR : Option (List UInt8) → UInt8
  | some (c :: _) => c
  | _ => 0
def byteS : Option (List UInt8) → Option (List UInt8)
  | some (_ :: l) => some l
  | _ => none
end Go.Proofs.Ytnkjkaofgninnaa
namespace Go.Proofs.Ytnkjkaofgninnaa
open Go.RowKit

/-- The rounds: c the byte that was taken last, n what has been read, l what is left. -/
def numGo : List UInt8 → Nat → Nat → Nat × Option (List UInt8)
  | [], c, n => if c < 128 then (n, some []) else (0, none)
  | d :: l, c, n => if c < 128 then (n, some (d :: l)) else if 144115188075855871 < n then (0, none) else numGo l d.toNat (n * 128 + d.toNat % 128)
def numR : Option (List UInt8) → Nat × Option (List UInt8)
  | none => (0, none)
  | some [] => (0, none)
  | some (c :: l) => if c.toNat = 128 then (0, none) else numGo l c.toNat (c.toNat % 128)
theorem numGo_end (c n : Nat) (h : ¬ c < 128) : numGo [] c n = (0, none) := by simp [numGo, h]
theorem numGo_cons (l : List UInt8) (d : UInt8) (c n : Nat) (h : ¬ c < 128) (hn : ¬ 144115188075855871 < n) : numGo (d :: l) c n = numGo l d.toNat (n * 128 + d.toNat % 128) := by simp [numGo, h, hn]
/-- What is known at a round's head. -/
def NumSt (s : Option (List UInt8)) (c n : Nat) : Option (List UInt8) → Prop
  | some l => numR s = numGo l c n
  | none => c = 0 ∧ numR s = (0, none)
theorem NumSt.start (s : Option (List UInt8)) (h : (byteR s).toNat ≠ 128) : NumSt s (byteR s).toNat ((byteR s).toNat % 128) (byteS s) := by
  match s, h with
  | none, _ => exact ⟨rfl, rfl⟩
  | some [], _ => exact ⟨rfl, rfl⟩
  | some (c :: l), h => simp only [byteR] at h; simp [NumSt, numR, byteR, byteS, h]
theorem NumSt.next {s : Option (List UInt8)} {c n : Nat} {l : List UInt8} (h : numR s = numGo l c n) (hc : ¬ c < 128) (hn : ¬ 144115188075855871 < n) :
    NumSt s (byteR (some l)).toNat (n * 128 + (byteR (some l)).toNat % 128) (byteS (some l)) := by
  cases l with
  | nil => exact ⟨rfl, by rw [h, numGo_end _ _ hc]⟩
  | cons d l => show numR s = _; rw [h, numGo_cons _ _ _ _ hc hn]; rfl
end Go.Proofs.Ytnkjkaofgninnaa
namespace Go.Proofs.Ytnkjkaofgninnaa
open Go.RowKit

end Go.Proofs.Ytnkjkaofgninnaa
namespace Go.Proofs.Ytnkjkaofgninnaa
open Go.RowKit

end Go.Proofs.Ytnkjkaofgninnaa
namespace Go.Proofs.Ytnkjkaofgninnaa
open Go.RowKit

end Go.Proofs.Ytnkjkaofgninnaa
namespace Go.Proofs.Ytnkjkaofgninnaa
open Go.RowKit

/-- A function value is not nil. -/
theorem run_eql_fn {P : Program} {t : TypeId} {a b : Array TypeId} {v : Bool} (w : World) (fn : Fn) (x y : Array Value) (h : P.underlying t = some (.func a b v)) : (binOp .eql t (.func fn x y) .nilFunc).run P w = .ok (.bool false) w := by
  have h : ∀ d : Nat, (Op.equalIn (d + 1) t (.func fn x y) .nilFunc).run P w = .ok false w := fun d => by simp [Op.equalIn, run_underlying h]
  simp only [binOp]
  simp [Op.equal, Op.maxDepth, h 9999]
end Go.Proofs.Ytnkjkaofgninnaa
namespace Go.Proofs.Ytnkjkaofgninnaa
open Go.RowKit

/-- The value v is a slice whose elements are xs, in blocks below B. -/
def RowB {α : Type} (ev : α → Value) (B : Nat) (w : World) (v : Value) (xs : List α) : Prop :=
  ∃ ao n cap, v = .slice ao n cap ∧ n = xs.length ∧ n ≤ cap ∧ cap ≤ 9223372036854775807 ∧ (ao = none → cap = 0) ∧
    ∀ ad, ao = some ad → ∀ j, (h : j < xs.length) → w.cell? (ad.add j) = some (ev xs[j]) ∧ ad.block < B
theorem RowB.below {α : Type} {ev : α → Value} {B B' : Nat} {w w' : World} {v : Value} {xs : List α} (h : RowB ev B w v xs) (hb : Below B' w w') (hB : B ≤ B') : RowB ev B w' v xs := by
  obtain ⟨ao, n, cap, rfl, h1, h2, h3, h4, h5⟩ := h
  refine ⟨ao, n, cap, rfl, h1, h2, h3, h4, fun ad had j hj => ?_⟩
  have := h5 ad had j hj
  refine ⟨?_, this.2⟩
  have e : (ad.add j).block = ad.block := by simp [Addr.add]; split <;> rfl
  rw [hb.cell (p := ad.add j) (by rw [e]; omega)]
  exact this.1
theorem RowB.shape {α : Type} {ev : α → Value} {B : Nat} {w : World} {v : Value} {xs : List α} (h : RowB ev B w v xs) : ∃ va vc, v = .slice va xs.length vc := by
  obtain ⟨ao, n, cap, rfl, rfl, -⟩ := h; exact ⟨_, _, rfl⟩
theorem RowB.at {α : Type} {ev : α → Value} {B : Nat} {w : World} {va : Option Addr} {n vc : Nat} {xs : List α} (h : RowB ev B w (.slice va n vc) xs) (i : Nat) (hi : i < xs.length) : ∃ ad, va = some ad ∧ w.cell? (ad.add i) = some (ev xs[i]) := by
  obtain ⟨ao, _, _, e, h1, h2, h3, h4, h5⟩ := h
  cases e
  cases va with
  | none => exact absurd (h4 rfl) (by omega)
  | some ad => exact ⟨ad, rfl, (h5 ad rfl i hi).1⟩
/-- What is laid of a list. -/
def listB {α : Type} (enc : α → List UInt8) (xs : List α) : List UInt8 := numB xs.length ++ xs.flatMap enc
theorem flat_take {α : Type} (enc : α → List UInt8) (xs : List α) (i : Nat) (h : i < xs.length) : (xs.take (i + 1)).flatMap enc = (xs.take i).flatMap enc ++ enc xs[i] := by
  rw [List.take_succ_eq_append_getElem h, List.flatMap_append]; simp
end Go.Proofs.Ytnkjkaofgninnaa
namespace Go.Proofs.Ytnkjkaofgninnaa
open Go.RowKit
set_option maxRecDepth 100000

end Go.Proofs.Ytnkjkaofgninnaa
namespace Go.Proofs.Ytnkjkaofgninnaa
open Go.RowKit

end Go.Proofs.Ytnkjkaofgninnaa
namespace Go.Proofs.Ytnkjkaofgninnaa
open Go.RowKit

end Go.Proofs.Ytnkjkaofgninnaa
namespace Go.Proofs.Ytnkjkaofgninnaa
open Go.RowKit
set_option linter.unusedVariables false

end Go.Proofs.Ytnkjkaofgninnaa
namespace Go.Proofs.Ytnkjkaofgninnaa
open Go.RowKit
set_option linter.unusedVariables false
set_option linter.unusedSimpArgs false

/-- The types of the blocks that a Writer turns. -/
abbrev WT : List TypeId := [110, 5]
/-- What a Writer's call leaves. -/
structure Wb (b : Nat) (w w' : World) : Prop where
  bel : Below b w w'
  kt : Kt WT w w'
  ko : KeepsOthers w w'
theorem Wb.trans {b : Nat} {w w1 w2 : World} (h : Wb b w w1) (k : Wb b w1 w2) : Wb b w w2 := ⟨h.bel.trans k.bel, h.kt.same k.kt, h.ko.trans k.ko⟩
theorem Wb.refl (b : Nat) (w : World) : Wb b w w := ⟨Below.refl _ _, Kt.refl _ _, KeepsOthers.refl _⟩
theorem Wb.new {b : Nat} {w w' : World} (h : Below w.heap.size w w') (hb : b ≤ w.heap.size) : Wb b w w' := ⟨h.mono hb, Kt.below _ h, h.size, fun k _ hk _ => (h.block k (lt_of_block hk)).trans hk⟩
theorem Wb.alloc {b : Nat} {w w' : World} (h : Wb b w w') (hb : b < w'.heap.size) (o : Obj) : Wb b w (w'.alloc o) := h.trans (.new ((Below.refl _ _).alloc (Nat.le_refl _) _) (Nat.le_of_lt hb))
set_option maxHeartbeats 400000 in
theorem lay_kt (b : Nat) (l : List UInt8) (u : Value) (m : List UInt8) (w : World) (hw : Wr w b l) (hu : Bts w u m) (hsz : l.length + m.length ≤ 140737488355328) :
    Calls Try.prog 77 #[.pointer (some ⟨b, 0, none⟩), u] w fun e w' => e = .returned (.tuple #[]) ∧ Wr w' b (l ++ m) ∧ Wb b w w' := by
  have hlt := hw.lt
  have HU : Hid (Bts w u m) := hu
  obtain ⟨ua, uc, rfl⟩ := hu.shape
  clear hu
  obtain ⟨va, vc, h1, h2⟩ := hw
  have hc := cell_of_one h1
  have hf := free_of_one h1
  have H1 : Hid (w.heap[b]? = some (.cells #[.slice va l.length vc] 110 (0, 0))) := h1
  have H2 : Hid (Own w (b + 1) (.slice va l.length vc) l) := h2
  clear h1 h2
  go_enter Try.func77, Try.ntmps77
  go_wp2_with (at_builtin; refine wpl_append rfl _ _ rfl (b + 1) (.slice va l.length vc) l rfl H2.out _ m rfl HU.out hsz (by omega) ?_; intro va' vc' w1 ho1 hg1; have hk1 := grown_block H2.out hg1 hlt b (Nat.le_refl _); have hc1 : w1.cell? ⟨b, 0, none⟩ = some (.slice va l.length vc) := (World.cell?_of_block hk1).trans hc; have hf1 : w1.frozen? ⟨b, 0, none⟩ = false := (World.frozen?_of_block hk1).trans hf)
  go_end0
  have e : (l ++ m).length = l.length + m.length := List.length_append
  rw [← e] at ho1 ⊢
  have hs := Wr.stored H2.out H1.out hg1 ho1
  exact ⟨rfl, hs.1, hs.2, ((Kt.refl WT w).grown H2.out hg1 (by decide)).set b 0 _ (hk1.trans H1.out) (by decide), (KeepsOthers.of_grownBy hg1 fun j o hj hoj => by
    obtain ⟨cur, hc⟩ := own_typed H2.out hj
    rw [hc] at hoj; cases hoj; rfl).trans (KeepsOthers.setCell _ _ _)⟩
set_option maxHeartbeats 400000 in
theorem num_kt (b : Nat) (l : List UInt8) (n : Int) (w : World) (h0 : 0 ≤ n) (h1 : n < 18446744073709551616) (hw : Wr w b l) (hsz : l.length ≤ 140737488350000) :
    Calls Try.prog 62 #[.pointer (some ⟨b, 0, none⟩), .int .u64 n] w fun e w' => e = .returned (.tuple #[]) ∧ Wr w' b (l ++ numB n.toNat) ∧ Wb b w w' := by
  have hlt := hw.lt
  have HW : Hid (Wr w b l) := hw
  clear hw
  obtain ⟨n0, rfl⟩ := Int.eq_ofNat_of_zero_le h0
  rw [Int.toNat_natCast]
  have e1 := u64_and127 n0 h0 h1
  go_enter Try.func62, Try.ntmps62
  go_wp2
  clear e1
  go_loopw [1, 5] (fun nv av wr => ∃ (q a : Nat) (acc : List UInt8) (cs : Array Value), nv = .int .u64 q ∧ av = .int .i64 a ∧ q < 18446744073709551616 ∧ NumAt n0 q a acc ∧ cs.size = 10 ∧ cs.toList.drop a = acc.map bv ∧ wr = w.alloc (.cells cs 138)) (fun nv _ _ => (intOf nv).toNat)
  case atStart =>
    exact ⟨n0 / 128, 9, _, _, by simp, rfl, by omega, NumAt.start n0, rfl, by rw [List.map_cons, bv_num _ (by omega)]; simp, rfl⟩
  case round =>
    obtain ⟨q, a, acc, cs, rfl, rfl, hq, hN, hs, hd, rfl⟩ := hrel
    have ha := hN.1
    have HN : Hid (NumAt n0 q a acc) := hN
    clear hN
    have HD : Hid (cs.toList.drop a = acc.map bv) := hd
    clear hd
    by_cases hp : 0 < q
    · have hr := HN.out.room (by omega) hp
      have e2 := u64_and127 q (by omega) (by omega)
      have e3 := u64_or128 ((q : Int) % 128) (by omega) (by omega)
      have HQ : Hid (q < 18446744073709551616) := hq
      have H1 : Hid ((n0 : Int) < 18446744073709551616) := h1
      clear hq h1
      obtain ⟨old, hold⟩ : ∃ old, cs[a - 1]? = some old := ⟨cs[a - 1]'(by omega), by simp [show a - 1 < cs.size from by omega]⟩
      go_wp2
      go_roundw
      case rel =>
        have hst := HN.out.step (by have := H1.out; omega) hp
        have hds := drop_set (c := UInt8.ofNat (q % 128 + 128)) hs hr ha HD.out (v := .int .u8 ((q : Int) % 128 + 128)) (by rw [bv_num _ (by omega)]; simp)
        exact ⟨q / 128, a - 1, _, _, by go_num, by go_num, by have := HQ.out; omega, hst, hds.1, hds.2, rfl⟩
      case measure => simp [intOf]; omega
    · have hsl := fun (w' : World) => slice_arr w' ⟨w.heap.size, 0, none⟩ a ha
      obtain rfl : q = 0 := by omega
      have hdone := HN.out.done
      have hlen := HN.out.2.1
      have hW1 := HW.out.below ((Below.refl _ _).alloc (Nat.le_refl _) (.cells cs 138))
      have hbts := bts_arr w cs a (numB n0) 138 hs ha (by rw [← hdone]; exact HD.out)
      have HW1 := hio hW1
      have HB := hio hbts
      have hnl := numB_len n0 (by omega)
      clear hW1 hbts hq h1
      go_wp2_with (go_at_call 77; refine (lay_kt _ _ _ _ _ HW1.out HB.out (by omega)).mono ?_; rintro e w' ⟨rfl, hw', hb'⟩)
      go_end0
      exact ⟨rfl, hw', ((Wb.refl _ _).alloc hlt _).trans hb'⟩
set_option maxHeartbeats 400000 in
theorem text_kt (b : Nat) (l : List UInt8) (s : ByteArray) (w : World) (hw : Wr w b l) (hsz : l.length + s.size ≤ 140737488340000) :
    Calls Try.prog 78 #[.pointer (some ⟨b, 0, none⟩), .string s] w fun e w' => e = .returned (.tuple #[]) ∧ Wr w' b (l ++ textB s) ∧ Wb b w w' := by
  have HW := hio hw
  clear hw
  have hnl := numB_len s.size (by omega)
  go_enter Try.func78, Try.ntmps78
  go_wp2_with fail
  refine (num_kt _ _ _ _ (by omega) (by omega) HW.out (by omega)).mono ?_
  rintro e w1 ⟨rfl, hw1, hb1⟩
  have hlt := hw1.lt
  have HW1 := hio hw1
  clear hw1
  obtain ⟨cap, W2, hrun, hbts, hb2⟩ := conv_bytes w1 s (by omega)
  have HB := hio hbts
  clear hbts
  go_wp2_with fail
  refine (lay_kt _ _ _ _ _ (HW1.out.below hb2) HB.out (by simp; omega)).mono ?_
  rintro e w3 ⟨rfl, hw3, hb3⟩
  have HW3 := hio hw3
  clear hw3
  go_wp2
  go_end0
  refine ⟨rfl, by unfold textB; simpa using HW3.out, (hb1.trans (.new hb2 (by omega))).trans hb3⟩
theorem flat_lenM {α : Type} (enc : α → List UInt8) (xs : List α) (M : Nat) (h : ∀ x ∈ xs, (enc x).length ≤ M) : (xs.flatMap enc).length ≤ M * xs.length := by
  induction xs with
  | nil => simp
  | cons x xs ih =>
    have h1 := h x (List.mem_cons_self ..)
    have h2 := ih fun y hy => h y (List.mem_cons_of_mem _ hy)
    rw [List.flatMap_cons, List.length_append, List.length_cons, Nat.mul_succ]; omega
theorem flat_take_lenM {α : Type} (enc : α → List UInt8) (xs : List α) (i M : Nat) (h : ∀ x ∈ xs, (enc x).length ≤ M) : ((xs.take i).flatMap enc).length ≤ M * xs.length := by
  have := flat_lenM enc (xs.take i) M fun x hx => h x (List.mem_of_mem_take hx)
  have h2 : (xs.take i).length ≤ xs.length := List.length_take_le' _ _
  exact Nat.le_trans this (Nat.mul_le_mul_left _ h2)
theorem textB_lenM (s : ByteArray) (h : s.size ≤ 1048576) : (textB s).length ≤ 1048586 := by
  unfold textB
  have := numB_len s.size (by omega)
  rw [List.length_append, show s.data.toList.length = s.size from by simp]; omega
def tv (x : ByteArray) : Value := .string x
end Go.Proofs.Ytnkjkaofgninnaa
namespace Go.Proofs.Ytnkjkaofgninnaa
open Go.RowKit Go.Maps Go.Shelf
set_option linter.unusedVariables false
set_option linter.unusedSimpArgs false

set_option maxRecDepth 100000 in
set_option maxHeartbeats 1600000 in
theorem layNum_kt (b : Nat) (l : List UInt8) (n : Int) (w : World) (h0 : 0 ≤ n) (h1 : n ≤ 9223372036854775807) (hw : Wr w b l) (hsz : l.length ≤ 140737488350000) :
    Calls Try.prog 51 #[.pointer (some ⟨b, 0, none⟩), .int .i64 n] w fun e w' => e = .returned (.tuple #[]) ∧ Wr w' b (l ++ numB n.toNat) ∧ Wb b w w' := by
  have H := hid (num_kt b l n w h0 (by omega) hw hsz)
  have hu : IntKind.u64.wrap n = n := IntWalk.u64_in _ ⟨h0, by omega⟩
  clear hw hsz
  go_enter Try.func51, Try.ntmps51
  go_wp2_with (go_at_call 62; refine H.out.mono ?_; rintro e w2 ⟨rfl, hw2, hb2⟩; have W2 := hid hw2; have B2 := hid hb2; clear hw2 hb2)
  go_end0
  exact ⟨rfl, W2.out, B2.out⟩
/-- The members as bytes, and an origin's bytes. -/
def memY (l : List Int) : List UInt8 := l.map fun n => UInt8.ofNat n.toNat
def orBy (o : OrD) : List UInt8 := numB o.id.toNat ++ numB o.fr.toNat ++ numB o.to.toNat ++ textB ⟨(memY o.mem).toArray⟩
theorem memY_len (l : List Int) : (memY l).length = l.length := by simp [memY]
/-- An origin that may be laid. -/
structure OrJ (o : OrD) : Prop where
  i : 0 ≤ o.id ∧ o.id ≤ 2000000000
  f : 0 ≤ o.fr ∧ o.fr ≤ 256
  t : 0 ≤ o.to ∧ o.to ≤ 256
  m : ∀ n ∈ o.mem, 0 ≤ n ∧ n < 7
  l : o.mem.length ≤ 7
/-- The bytes under way: those that are done, noughts behind them. -/
def memP (l : List Int) (i : Nat) : List UInt8 := memY (l.take i) ++ List.replicate (l.length - i) 0
theorem memP_len (l : List Int) (i : Nat) (h : i ≤ l.length) : (memP l i).length = l.length := by simp [memP, memY]; omega
theorem own_zeros {w : World} {base g m : Nat} (h : w.ownsRow base 5 1 (.slice (some ⟨g, 0, none⟩) m m) m (madeCells (Value.int .u8 0).cells (m * 1)).toList) : Own w base (.slice (some ⟨g, 0, none⟩) m m) (List.replicate m 0) := by
  show World.ownsRow _ _ _ _ _ (List.replicate m (0 : UInt8)).length ((List.replicate m (0 : UInt8)).map bv)
  rw [List.length_replicate, List.map_replicate]
  have e : (madeCells (Value.int .u8 0).cells (m * 1)).toList = List.replicate m (bv 0) := by
    rw [Nat.mul_one]; exact toList_madeCells_one _ _
  rw [← e]; exact h
theorem memY_take (l : List Int) (i : Nat) (h : i < l.length) : memY (l.take (i + 1)) = memY (l.take i) ++ [UInt8.ofNat l[i].toNat] := by
  unfold memY
  rw [List.take_succ_eq_append_getElem h, List.map_append]
  rfl
theorem memP_set (l : List Int) (i : Nat) (h : i < l.length) : (memP l i).set i (UInt8.ofNat l[i].toNat) = memP l (i + 1) := by
  unfold memP
  rw [memY_take l i h, show l.length - i = (l.length - (i + 1)) + 1 from by omega, List.replicate_succ]
  have hl : (memY (l.take i)).length = i := by rw [memY_len, List.length_take]; omega
  rw [List.set_append_right _ _ (by omega), hl, Nat.sub_self, List.set_cons_zero, List.append_assoc]
  rfl
theorem memP_bv (l : List Int) (i : Nat) (h : i < l.length) (h0 : 0 ≤ l[i] ∧ l[i] < 7) : ((memP l i).map bv).set i (.int .u8 l[i]) = (memP l (i + 1)).map bv := by
  rw [← memP_set l i h, List.map_set]
  congr 1
  unfold bv
  congr 1
  obtain ⟨n, hn⟩ : ∃ n : Nat, l[i] = n := ⟨l[i].toNat, by omega⟩
  rw [hn]
  have : n < 7 := by omega
  simp
  omega
theorem memP_all (l : List Int) : memP l l.length = memY l := by simp [memP]
set_option maxRecDepth 100000 in
set_option maxHeartbeats 4000000 in
theorem layOrigin_kt (b : Nat) (l : List UInt8) (o : OrD) (mv : Value) (w : World) (ho : OrJ o) (hm : w.ownsRow 0 3 1 mv o.mem.length (nvs o.mem)) (hw : Wr w b l) (hsz : l.length ≤ 1000000000) :
    Calls Try.prog 63 #[.pointer (some ⟨b, 0, none⟩), .agg #[.int .i64 o.id, .int .i64 o.fr, .int .i64 o.to, mv]] w fun e w' => e = .returned (.tuple #[]) ∧ Wr w' b (l ++ orBy o) ∧ Wb b w w' := by
  obtain ⟨id, fr, tt, mem⟩ := o
  obtain ⟨⟨i0, i1⟩, ⟨f0, f1⟩, ⟨t0, t1⟩, hmm, hml⟩ := ho
  simp only at i0 i1 f0 f1 t0 t1 hmm hml hm ⊢
  obtain ⟨ma, mc, rfl⟩ := own_shape hm
  have hlt := hw.lt
  obtain ⟨w1, hw1⟩ : ∃ w1, w1 = w.alloc (.cells #[.int .i64 id, .int .i64 fr, .int .i64 tt, .slice ma mem.length mc] 52) := ⟨_, rfl⟩
  have b1 : Below w.heap.size w w1 := by rw [hw1]; exact (Below.refl _ _).alloc (Nat.le_refl _) _
  have hA : w1.heap[w.heap.size]? = some (.cells #[.int .i64 id, .int .i64 fr, .int .i64 tt, .slice ma mem.length mc] 52 (0, 0)) := by rw [hw1]; exact heap_alloc_new _ _
  have W1 := hid (hw.below b1)
  have B1 := hid (Wb.new (b := b) b1 (Nat.le_of_lt hlt))
  have M1 := hid (own_below hm b1)
  have HW1 := hid hw1
  have hn1 := numB_len id.toNat (by omega)
  have hn2 := numB_len fr.toNat (by omega)
  have hn3 := numB_len tt.toNat (by omega)
  clear hw hw1 b1 hm
  go_enter Try.func63, Try.ntmps63
  go_upto_region 1 with fail
  rw [← HW1.out]
  obtain ⟨A, hAe⟩ : ∃ A, A = w.heap.size := ⟨_, rfl⟩
  rw [← hAe] at hA
  rw [← hAe]
  clear hAe HW1
  have c0 : w1.cell? ⟨A, 0, none⟩ = some (.int .i64 id) := by rw [cell_of_row _ _ _ _ _ _ hA]; rfl
  have HA := hid hA
  clear hA
  go_upto_region 2 with (go_at_call 51; refine (layNum_kt b l id _ i0 (by omega) W1.out (by omega)).mono ?_; rintro e w2 ⟨rfl, hw2, hb2⟩; have W2 := hid hw2; have A2 := hid ((hb2.kt _ _ _ _ HA.out (by decide)).trans HA.out); have M2 := hid (own_kt M1.out hb2.kt (by decide)); have B2 := hid (B1.out.trans hb2); clear hw2 hb2)
  clear W1 HA M1 B1 c0
  have c1 : w2.cell? ⟨A, 1, none⟩ = some (.int .i64 fr) := by rw [cell_of_row _ _ _ _ _ _ A2.out]; rfl
  go_upto_region 3 with (go_at_call 51; refine (layNum_kt b _ fr _ f0 (by omega) W2.out (by rw [List.length_append]; omega)).mono ?_; rintro e w3 ⟨rfl, hw3, hb3⟩; have W3 := hid hw3; have A3 := hid ((hb3.kt _ _ _ _ A2.out (by decide)).trans A2.out); have M3 := hid (own_kt M2.out hb3.kt (by decide)); have B3 := hid (B2.out.trans hb3); clear hw3 hb3)
  clear W2 A2 M2 B2 c1
  have c2 : w3.cell? ⟨A, 2, none⟩ = some (.int .i64 tt) := by rw [cell_of_row _ _ _ _ _ _ A3.out]; rfl
  go_upto_region 4 with (go_at_call 51; refine (layNum_kt b _ tt _ t0 (by omega) W3.out (by rw [List.length_append, List.length_append]; omega)).mono ?_; rintro e w4 ⟨rfl, hw4, hb4⟩; have W4 := hid hw4; have A4 := hid ((hb4.kt _ _ _ _ A3.out (by decide)).trans A3.out); have M4 := hid (own_kt M3.out hb4.kt (by decide)); have B4 := hid (B3.out.trans hb4); clear hw4 hb4)
  clear W3 A3 M3 B3 c2
  have c3 : w4.cell? ⟨A, 3, none⟩ = some (.slice ma mem.length mc) := by rw [cell_of_row _ _ _ _ _ _ A4.out]; rfl
  obtain ⟨it, hi, hz0, hz1, hz2⟩ := info_parts Try.infoB
  have HI := hid hi
  have HZ0 := hid hz0
  have HZ1 := hid hz1
  have HZ2 := hid hz2
  clear hi hz0 hz1 hz2
  have hml' : (mem.length : Int) ≤ 7 := by omega
  go_upto_region 5 with (at_make; refine wpList_make_full _ rfl _ _ 80 rfl w4.heap.size 5 it (.int .u8 0) 1 Try.underlyingB HI.out HZ0.out HZ1.out .i64 .i64 _ _ mem.length rfl rfl rfl rfl (by rw [HZ2.out]; omega) (by unfold maxLen; omega) (Nat.le_refl _) ?_; intro w5 ho5 hg5; have O5 := hid ho5; have B5 : Hid (Below w4.heap.size w4 w5) := hid ⟨hg5.os, hg5.tape, hg5.output, hg5.size, fun k hk => hg5.block k hk (by simp)⟩; clear ho5 hg5)
  have OZ : Hid (w5.ownsRow w4.heap.size 5 1 (.slice (some ⟨w4.heap.size, 0, none⟩) mem.length mem.length) mem.length ((memP mem 0).map bv)) := hid (by
    have := own_zeros O5.out
    unfold Own at this
    rw [List.length_replicate] at this
    simpa [memP, memY] using this)
  have A5 := hid ((B5.out.block A (lt_of_block A4.out)).trans A4.out)
  have M5 := hid (own_below M4.out B5.out)
  have LB : Hid (w4.heap.size ≤ w5.heap.size) := hid B5.out.size
  have B45 := B5
  obtain ⟨g5, hg5⟩ : ∃ g, g = w4.heap.size := ⟨_, rfl⟩
  rw [← hg5] at OZ B5
  rw [← hg5]
  have HG5 : Hid (w4.heap.size ≤ g5) := hid (by omega)
  clear c3 O5 hg5 HI HZ0 HZ1 HZ2
  have c3 : w5.cell? ⟨A, 3, none⟩ = some (.slice ma mem.length mc) := by rw [cell_of_row _ _ _ _ _ _ A5.out]; rfl
  go_wp2_with fail
  clear c3
  go_loopw [5, 6, 28] (fun _ _ iv wr => ∃ i : Nat, iv = .int .i64 i ∧ i ≤ mem.length ∧ Below w4.heap.size w4 wr ∧ wr.ownsRow g5 5 1 (.slice (some ⟨g5, 0, none⟩) mem.length mem.length) mem.length ((memP mem i).map bv)) (fun _ _ iv _ => mem.length - (intOf iv).toNat)
  case atStart => exact ⟨0, rfl, Nat.zero_le _, B45.out, OZ.out⟩
  case round =>
    obtain ⟨i, rfl, hil, hbr, hor⟩ := hrel
    have BR := hid hbr
    have OR := hid hor
    clear hbr hor
    by_cases hlt2 : (i : Int) < (mem.length : Int)
    · have hi2 : i < mem.length := by omega
      have MR := own_below M4.out BR.out
      obtain ⟨gm, rfl⟩ : ∃ gm, ma = some ⟨gm, 0, none⟩ := own_some MR (by omega)
      have HN := hid (hmm mem[i] (List.getElem_mem hi2))
      have cm : wr.cell? ⟨gm, i, none⟩ = some (.int .i64 mem[i]) := own_cell MR (by simp [nvs, List.getElem?_eq_getElem hi2])
      have HBV := hid (memP_bv mem i hi2 HN.out)
      obtain ⟨cur, hcur⟩ := own_typed OR.out (q := g5) rfl
      have f5 : wr.frozen? ⟨g5, i, none⟩ = false := frozen_of_row _ _ _ _ _ hcur
      have hpl : i < ((memP mem i).map bv).length := by rw [List.length_map, memP_len _ _ (by omega)]; exact hi2
      have cu : wr.cell? ⟨g5, i, none⟩ = some (((memP mem i).map bv)[i]'hpl) := own_cell OR.out (List.getElem?_eq_getElem hpl)
      have hu8 : IntKind.u8.wrap mem[i] = mem[i] := by
        have := HN.out
        simp [IntKind.wrap, IntKind.bits, IntKind.signed]
        omega
      generalize mem[i] = n at *
      generalize ((memP mem i).map bv)[i]'hpl = u at *
      have HREL : Hid (Below w4.heap.size w4 (wr.setCell ⟨g5, i, none⟩ (.int .u8 n)) ∧ (wr.setCell ⟨g5, i, none⟩ (.int .u8 n)).ownsRow g5 5 1 (.slice (some ⟨g5, 0, none⟩) mem.length mem.length) mem.length ((memP mem (i + 1)).map bv)) := hid ⟨below_set BR.out HG5.out, by rw [← HBV.out]; exact own_put OR.out (by omega)⟩
      clear hcur hpl HBV MR
      go_wp2_with fail
      go_roundw
      case rel => exact ⟨i + 1, by go_num, by omega, HREL.out.1, HREL.out.2⟩
      case measure => simp [intOf]; omega
    · have hie : i = mem.length := by omega
      have HB : Hid (Own wr g5 (.slice (some ⟨g5, 0, none⟩) mem.length mem.length) (memY mem)) := hid (by
        have h := OR.out
        rw [hie, memP_all] at h
        unfold Own
        rw [memY_len]
        exact h)
      have hcs := conv_string _ _ _ HB.out.bts
      have W6 := hid (W4.out.below BR.out)
      have B6 := hid (B4.out.trans (Wb.new (b := b) BR.out (Nat.le_of_lt W4.out.lt)))
      have hsz6 : (l ++ numB id.toNat ++ numB fr.toNat ++ numB tt.toNat).length ≤ 2000000000 := by rw [List.length_append, List.length_append, List.length_append]; omega
      have hms : (memY mem).length ≤ 7 := by rw [memY_len]; exact hml
      clear hie hil OZ A5 M5 LB B45
      go_wp2_with (go_at_call 78; refine (text_kt b _ ⟨(memY mem).toArray⟩ _ W6.out (by show _ + (memY mem).toArray.size ≤ _; rw [List.size_toArray]; omega)).mono ?_; rintro e w7 ⟨rfl, hw7, hb7⟩; have W7 := hid hw7; have B7 := hid (B6.out.trans hb7); clear hw7 hb7)
      go_end0
      refine ⟨rfl, ?_, B7.out⟩
      have := W7.out
      unfold orBy
      simp only [List.append_assoc] at this ⊢
      exact this
end Go.Proofs.Ytnkjkaofgninnaa
namespace Go.Proofs.Ytnkjkaofgninnaa
open Go.RowKit Go.Maps Go.Shelf
set_option linter.unusedVariables false
set_option linter.unusedSimpArgs false

theorem orBy_len (o : OrD) (h : OrJ o) : (orBy o).length ≤ 50 := by
  have h1 := numB_len o.id.toNat (by have := h.i; omega)
  have h2 := numB_len o.fr.toNat (by have := h.f; omega)
  have h3 := numB_len o.to.toNat (by have := h.t; omega)
  have hs : (⟨(memY o.mem).toArray⟩ : ByteArray).size = o.mem.length := by show (memY o.mem).toArray.size = _; rw [List.size_toArray, memY_len]
  have h4 := numB_len o.mem.length (by have := h.l; omega)
  have h5 := h.l
  unfold orBy textB
  rw [List.length_append, List.length_append, List.length_append, List.length_append, hs]
  show _ + _ + _ + (_ + (memY o.mem).toArray.toList.length) ≤ 50
  have e : (memY o.mem).toArray.toList.length = o.mem.length := by simp [memY_len]
  omega
set_option maxRecDepth 100000 in
set_option maxHeartbeats 4000000 in
theorem putO_kt (b : Nat) (l : List UInt8) (v : Value) (L : List OrX) (w : World) (hw : Wr w b l) (hv : w.ownsRow 0 52 4 v L.length (orvs L)) (hm : Mems w L) (hx : ∀ x ∈ L, OrJ x.o) (hl : l.length ≤ 500000000) (hn : L.length ≤ 5000) :
    Calls Try.prog 64 #[.pointer (some ⟨b, 0, none⟩), v, .func (.func 63) #[] #[]] w fun e w' =>
      e = .returned (.tuple #[]) ∧ Wr w' b (l ++ listB orBy (L.map (·.o))) ∧ Wb b w w' := by
  have HV := hid hv
  have HM := hid hm
  obtain ⟨va, vc, rfl⟩ := own_shape hv
  have hblt := hw.lt
  have HW := hid hw
  have HX := hid hx
  clear hw hx hv hm
  have hnl := numB_len L.length (by omega)
  have hfn := fun w => run_eql_fn w (.func 63) #[] #[] Try.underlying123
  have hnn : (L.length : Int) ≤ 5000 := by omega
  go_enter Try.func64, Try.ntmps64
  go_wp2_with (first
    | (go_at_call 62; refine (num_kt _ _ _ _ (by omega) (by omega) HW.out (by omega)).mono ?_; rintro e w1 ⟨rfl, hw1, hb1⟩; rw [Int.toNat_natCast] at hw1; have HW1 := hid hw1; have HB1 := hid hb1; clear hw1 hb1))
  clear hfn HW
  go_loopw [7, 21] (fun _ iv wr => ∃ i : Nat, iv = .int .i64 i ∧ i ≤ L.length ∧ Wr wr b (l ++ numB L.length ++ ((L.map (·.o)).take i).flatMap orBy) ∧ Wb b w wr) (fun _ iv _ => L.length - (intOf iv).toNat)
  case atStart => exact ⟨0, rfl, Nat.zero_le _, by simpa using HW1.out, HB1.out⟩
  case round =>
    obtain ⟨i, rfl, hin, hwr, hbr⟩ := hrel
    clear HW1 HB1
    have HWR := hid hwr
    have HBR := hid hbr
    clear hwr hbr
    by_cases hlt : (i : Int) < (L.length : Int)
    · have hi : i < L.length := by omega
      have HVr := own_kt HV.out HBR.out.kt (by decide)
      obtain ⟨g, rfl⟩ : ∃ g, va = some ⟨g, 0, none⟩ := own_some HVr (by omega)
      have hRO : wr.rangeAt g (i * 4) (orC (L[i]'hi)) := own_range HVr (i * 4) (orC (L[i]'hi)) (orvs_part L i hi)
      have HOM := hid (own_kt (HM.out (L[i]'hi) (List.getElem_mem hi)) HBR.out.kt (by decide))
      have HOK := hid (HX.out (L[i]'hi) (List.getElem_mem hi))
      have him : i < (L.map (·.o)).length := by rw [List.length_map]; exact hi
      have HFT : Hid (((L.map (·.o)).take (i + 1)).flatMap orBy = ((L.map (·.o)).take i).flatMap orBy ++ orBy (L[i]'hi).o) := hid (by have := flat_take orBy (L.map (·.o)) i him; rw [this, List.getElem_map])
      have hfl := flat_take_lenM orBy (L.map (·.o)) i 50 fun x hx => by
        obtain ⟨y, hy, rfl⟩ := List.mem_map.1 hx
        exact orBy_len _ (HX.out y hy)
      rw [List.length_map] at hfl
      have HLEN : Hid ((l ++ numB L.length ++ ((L.map (·.o)).take i).flatMap orBy).length ≤ 1000000000) := hid (by
        rw [List.length_append, List.length_append]; omega)
      obtain ⟨⟨od, omv⟩, hx⟩ : ∃ x, x = L[i]'hi := ⟨_, rfl⟩
      rw [← hx] at hRO HOM HOK HFT
      clear hx hfl hnl HVr
      have HOM : Hid (wr.ownsRow 0 3 1 omv od.mem.length (nvs od.mem)) := HOM
      obtain ⟨oa, oc, rfl⟩ := own_shape HOM.out
      unfold orC at hRO
      simp only at hRO HOK HFT
      go_upto_region 5 with (first | (refine wpl_loadO rfl _ rfl g (i * 4) (by go_simp) _ _ _ _ hRO ?_) | (refine wpl_newO (w3 := wr) rfl _ _ rfl _ _ _ _ rfl rfl rfl rfl rfl rfl rfl ?_; intro w2 hg2 hb2; have HG2 := hid hg2; have HW2 := hid (HWR.out.below hb2); have HB2 := hid (HBR.out.trans (Wb.new (b := b) hb2 (Nat.le_of_lt HWR.out.lt))); have HM2 := hid (own_below HOM.out hb2); clear hg2 hb2))
      clear hRO
      have hRP : w2.rangeAt wr.heap.size 0 [.int .i64 od.id, .int .i64 od.fr, .int .i64 od.to, .slice oa od.mem.length oc] := range_of_row HG2.out 0 _ fun j v hv => by rw [Nat.zero_add]; simpa using hv
      go_wp2_with (refine wpl_loadO rfl _ rfl wr.heap.size 0 rfl _ _ _ _ hRP ?_)
      refine (layOrigin_kt b _ od _ _ HOK.out HM2.out HW2.out HLEN.out).mono ?_
      rintro e w3 ⟨rfl, hw3, hb3⟩
      have HW3 := hid hw3
      have HB3 := hid (HB2.out.trans hb3)
      clear hw3 hb3
      go_wp2_with fail
      go_roundw
      case rel =>
        refine ⟨i + 1, by go_num, by omega, ?_, HB3.out⟩
        rw [HFT.out, ← List.append_assoc]; exact HW3.out
      case measure => simp [intOf]; omega
    · have hin' : i = L.length := by omega
      go_wp2_with fail
      go_end0
      refine ⟨rfl, ?_, HBR.out⟩
      have := HWR.out
      rw [hin', List.take_of_length_le (by simp), List.append_assoc] at this
      unfold listB
      rw [List.length_map]
      exact this
/-- A shard's bytes. -/
def shBy (S : ShD) : List UInt8 := orBy ⟨S.id, S.fr, S.to, S.mem⟩ ++ listB orBy S.past
structure ShJ (S : ShD) : Prop where
  o : OrJ ⟨S.id, S.fr, S.to, S.mem⟩
  p : ∀ o ∈ S.past, OrJ o
  l : S.past.length ≤ 2
theorem shBy_len (S : ShD) (h : ShJ S) : (shBy S).length ≤ 200 := by
  have h1 := orBy_len _ h.o
  have h2 := flat_lenM orBy S.past 50 fun x hx => orBy_len x (h.p x hx)
  have h3 := numB_len S.past.length (by have := h.l; omega)
  have := h.l
  unfold shBy listB
  rw [List.length_append, List.length_append]
  omega
set_option maxRecDepth 100000 in
set_option maxHeartbeats 4000000 in
theorem layShard_kt (b : Nat) (l : List UInt8) (S : ShD) (mv pv : Value) (w : World) (hj : ShJ S) (hs : ShM w S mv pv) (hw : Wr w b l) (hsz : l.length ≤ 400000000) :
    Calls Try.prog 54 #[.pointer (some ⟨b, 0, none⟩), shV S mv pv] w fun e w' => e = .returned (.tuple #[]) ∧ Wr w' b (l ++ shBy S) ∧ Wb b w w' := by
  obtain ⟨⟨ma, mc, rfl⟩, ⟨pa, pc, rfl⟩⟩ := hs.shape
  obtain ⟨L, hL1, hL2, hL3⟩ := hs.p
  have hLL : S.past.length = L.length := by rw [← hL1]; simp
  have hlt := hw.lt
  obtain ⟨w1, hw1⟩ : ∃ w1, w1 = w.alloc (.cells #[.int .i64 S.id, .int .i64 S.fr, .int .i64 S.to, .slice ma S.mem.length mc, .slice pa S.past.length pc] 46) := ⟨_, rfl⟩
  have b1 : Below w.heap.size w w1 := by rw [hw1]; exact (Below.refl _ _).alloc (Nat.le_refl _) _
  have hA : w1.heap[w.heap.size]? = some (.cells #[.int .i64 S.id, .int .i64 S.fr, .int .i64 S.to, .slice ma S.mem.length mc, .slice pa S.past.length pc] 46 (0, 0)) := by rw [hw1]; exact heap_alloc_new _ _
  have W1 := hid (hw.below b1)
  have B1 := hid (Wb.new (b := b) b1 (Nat.le_of_lt hlt))
  have M1 : Hid (w1.ownsRow 0 3 1 (.slice ma S.mem.length mc) S.mem.length (nvs S.mem)) := hid (own_below hs.m b1)
  have P1 : Hid (w1.ownsRow 0 52 4 (.slice pa S.past.length pc) L.length (orvs L)) := hid (own_below hL2 b1)
  have E1 : Hid (Mems w1 L) := hid fun x hx => own_below (hL3 x hx) b1
  have HW1 := hid hw1
  have HJ := hid hj
  have HLM : Hid (L.map (·.o) = S.past) := hid hL1
  have HLL := hid hLL
  have hol := orBy_len _ hj.o
  clear hw hw1 b1 hs hL1 hL2 hL3 hj hLL
  unfold shV
  go_enter Try.func54, Try.ntmps54
  go_upto_region 1 with fail
  rw [← HW1.out]
  obtain ⟨A, hAe⟩ : ∃ A, A = w.heap.size := ⟨_, rfl⟩
  rw [← hAe] at hA
  rw [← hAe]
  clear hAe HW1
  have hR : w1.rangeAt A 0 [.int .i64 S.id, .int .i64 S.fr, .int .i64 S.to, .slice ma S.mem.length mc, .slice pa S.past.length pc] := range_of_row hA 0 _ fun j v hv => by rw [Nat.zero_add]; simpa using hv
  have HA := hid hA
  clear hA
  go_upto_region 2 with (first | (refine wpl_loadM rfl _ rfl A 0 rfl _ _ _ _ _ hR ?_) | (go_at_call 48; refine (origin_any S ma S.mem.length mc pa S.past.length pc _).mono ?_; rintro e w2 ⟨rfl, hb2⟩; have W2 := hid (W1.out.below hb2); have A2 := hid ((hb2.block A (lt_of_block HA.out)).trans HA.out); have M2 := hid (own_below M1.out hb2); have P2 := hid (own_below P1.out hb2); have E2 : Hid (Mems w2 L) := hid (fun x hx => own_below (E1.out x hx) hb2); have B2 := hid (B1.out.trans (Wb.new (b := b) hb2 (Nat.le_of_lt W1.out.lt))); clear hb2) | (go_at_call 63; refine (layOrigin_kt b l ⟨S.id, S.fr, S.to, S.mem⟩ _ _ HJ.out.o M2.out W2.out (by omega)).mono ?_; rintro e w3 ⟨rfl, hw3, hb3⟩; have W3 := hid hw3; have A3 := hid ((hb3.kt _ _ _ _ A2.out (by decide)).trans A2.out); have P3 := hid (own_kt P2.out hb3.kt (by decide)); have E3 : Hid (Mems w3 L) := hid (fun x hx => own_kt (E2.out x hx) hb3.kt (by decide)); have B3 := hid (B2.out.trans hb3); clear hw3 hb3))
  clear hR
  have c4 : w3.cell? ⟨A, 4, none⟩ = some (.slice pa S.past.length pc) := by rw [cell_of_row _ _ _ _ _ _ A3.out]; rfl
  have HPO := hid (putO_kt b (l ++ orBy ⟨S.id, S.fr, S.to, S.mem⟩) (.slice pa S.past.length pc) L w3 W3.out P3.out E3.out (fun x hx => HJ.out.p x.o (by rw [← HLM.out]; exact List.mem_map.2 ⟨x, hx, rfl⟩)) (by rw [List.length_append]; omega) (by have := HJ.out.l; have := HLL.out; omega))
  go_wp2_with (go_at_call 64; refine HPO.out.mono ?_; rintro e w4 ⟨rfl, hw4, hb4⟩; have W4 := hid hw4; have B4 := hid (B3.out.trans hb4); clear hw4 hb4)
  go_end0
  refine ⟨rfl, ?_, B4.out⟩
  have := W4.out
  rw [HLM.out, List.append_assoc] at this
  exact this
/-- A row of numbers. -/
def nuBy (n : Int) : List UInt8 := numB n.toNat
set_option maxRecDepth 100000 in
set_option maxHeartbeats 4000000 in
theorem putN_kt (b : Nat) (l : List UInt8) (v : Value) (L : List Int) (w : World) (hw : Wr w b l) (hv : w.ownsRow 0 3 1 v L.length (nvs L)) (hx : ∀ n ∈ L, 0 ≤ n ∧ n ≤ 2000000000) (hl : l.length ≤ 500000000) (hn : L.length ≤ 5000) :
    Calls Try.prog 52 #[.pointer (some ⟨b, 0, none⟩), v, .func (.func 51) #[] #[]] w fun e w' =>
      e = .returned (.tuple #[]) ∧ Wr w' b (l ++ listB nuBy L) ∧ Wb b w w' := by
  have HV := hid hv
  obtain ⟨va, vc, rfl⟩ := own_shape hv
  have HW := hid hw
  have HX := hid hx
  clear hw hx hv
  have hnl := numB_len L.length (by omega)
  have hfn := fun w => run_eql_fn w (.func 51) #[] #[] Try.underlying111
  have hnn : (L.length : Int) ≤ 5000 := by omega
  go_enter Try.func52, Try.ntmps52
  go_wp2_with (first
    | (go_at_call 62; refine (num_kt _ _ _ _ (by omega) (by omega) HW.out (by omega)).mono ?_; rintro e w1 ⟨rfl, hw1, hb1⟩; rw [Int.toNat_natCast] at hw1; have HW1 := hid hw1; have HB1 := hid hb1; clear hw1 hb1))
  clear hfn HW
  go_loopw [7, 21] (fun _ iv wr => ∃ i : Nat, iv = .int .i64 i ∧ i ≤ L.length ∧ Wr wr b (l ++ numB L.length ++ (L.take i).flatMap nuBy) ∧ Wb b w wr) (fun _ iv _ => L.length - (intOf iv).toNat)
  case atStart => exact ⟨0, rfl, Nat.zero_le _, by simpa using HW1.out, HB1.out⟩
  case round =>
    obtain ⟨i, rfl, hin, hwr, hbr⟩ := hrel
    clear HW1 HB1
    have HWR := hid hwr
    have HBR := hid hbr
    clear hwr hbr
    by_cases hlt : (i : Int) < (L.length : Int)
    · have hi : i < L.length := by omega
      have HVr := own_kt HV.out HBR.out.kt (by decide)
      obtain ⟨g, rfl⟩ : ∃ g, va = some ⟨g, 0, none⟩ := own_some HVr (by omega)
      have cm : wr.cell? ⟨g, i, none⟩ = some (.int .i64 L[i]) := own_cell HVr (by simp [nvs, List.getElem?_eq_getElem hi])
      have HOK := hid (HX.out L[i] (List.getElem_mem hi))
      have HFT := hid (flat_take nuBy L i hi)
      have hfl := flat_take_lenM nuBy L i 10 fun n hn => numB_len n.toNat (by have := HX.out n hn; omega)
      have HLEN : Hid ((l ++ numB L.length ++ (L.take i).flatMap nuBy).length ≤ 1000000000) := hid (by
        rw [List.length_append, List.length_append]; omega)
      generalize L[i] = n at *
      clear hfl hnl HVr
      go_wp2_with fail
      refine (layNum_kt b _ n _ HOK.out.1 (by have := HOK.out; omega) HWR.out (by have := HLEN.out; omega)).mono ?_
      rintro e w3 ⟨rfl, hw3, hb3⟩
      have HW3 := hid hw3
      have HB3 := hid (HBR.out.trans hb3)
      clear hw3 hb3
      go_wp2_with fail
      go_roundw
      case rel =>
        refine ⟨i + 1, by go_num, by omega, ?_, HB3.out⟩
        rw [HFT.out, ← List.append_assoc]; exact HW3.out
      case measure => simp [intOf]; omega
    · have hin' : i = L.length := by omega
      go_wp2_with fail
      go_end0
      refine ⟨rfl, ?_, HBR.out⟩
      have := HWR.out
      rw [hin', List.take_length, List.append_assoc] at this
      exact this
end Go.Proofs.Ytnkjkaofgninnaa
namespace Go.Proofs.Ytnkjkaofgninnaa
open Go.RowKit Go.Maps Go.Shelf
set_option linter.unusedVariables false
set_option linter.unusedSimpArgs false

set_option maxRecDepth 100000 in
set_option maxHeartbeats 4000000 in
theorem putS_kt (b : Nat) (l : List UInt8) (v : Value) (L : List SX) (w : World) (hw : Wr w b l) (hv : ShR w v L) (hx : ∀ x ∈ L, ShJ x.s) (hl : l.length ≤ 100000000) (hn : L.length ≤ 100000) :
    Calls Try.prog 53 #[.pointer (some ⟨b, 0, none⟩), v, .func (.func 54) #[] #[]] w fun e w' =>
      e = .returned (.tuple #[]) ∧ Wr w' b (l ++ listB shBy (L.map (·.s))) ∧ Wb b w w' := by
  have HV := hid hv.o
  have HM := hid hv.m
  obtain ⟨va, vc, rfl⟩ := own_shape hv.o
  have hblt := hw.lt
  have HW := hid hw
  have HX := hid hx
  clear hw hx hv
  have hnl := numB_len L.length (by omega)
  have hfn := fun w => run_eql_fn w (.func 54) #[] #[] Try.underlying114
  have hnn : (L.length : Int) ≤ 100000 := by omega
  go_enter Try.func53, Try.ntmps53
  go_wp2_with (first
    | (go_at_call 62; refine (num_kt _ _ _ _ (by omega) (by omega) HW.out (by omega)).mono ?_; rintro e w1 ⟨rfl, hw1, hb1⟩; rw [Int.toNat_natCast] at hw1; have HW1 := hid hw1; have HB1 := hid hb1; clear hw1 hb1))
  clear hfn HW
  go_loopw [7, 21] (fun _ iv wr => ∃ i : Nat, iv = .int .i64 i ∧ i ≤ L.length ∧ Wr wr b (l ++ numB L.length ++ ((L.map (·.s)).take i).flatMap shBy) ∧ Wb b w wr) (fun _ iv _ => L.length - (intOf iv).toNat)
  case atStart => exact ⟨0, rfl, Nat.zero_le _, by simpa using HW1.out, HB1.out⟩
  case round =>
    obtain ⟨i, rfl, hin, hwr, hbr⟩ := hrel
    clear HW1 HB1
    have HWR := hid hwr
    have HBR := hid hbr
    clear hwr hbr
    by_cases hlt : (i : Int) < (L.length : Int)
    · have hi : i < L.length := by omega
      have HVr := own_kt HV.out HBR.out.kt (by decide)
      obtain ⟨g, rfl⟩ : ∃ g, va = some ⟨g, 0, none⟩ := own_some HVr (by omega)
      have hRO : wr.rangeAt g (i * 5) (SX.c (L[i]'hi)) := own_range HVr (i * 5) (SX.c (L[i]'hi)) (shvs_part L i hi)
      have HOM := hid ((HM.out (L[i]'hi) (List.getElem_mem hi)).kt HBR.out.kt (by decide) (by decide))
      have HOK := hid (HX.out (L[i]'hi) (List.getElem_mem hi))
      have him : i < (L.map (·.s)).length := by rw [List.length_map]; exact hi
      have HFT : Hid (((L.map (·.s)).take (i + 1)).flatMap shBy = ((L.map (·.s)).take i).flatMap shBy ++ shBy (L[i]'hi).s) := hid (by have := flat_take shBy (L.map (·.s)) i him; rw [this, List.getElem_map])
      have hfl := flat_take_lenM shBy (L.map (·.s)) i 200 fun x hx => by
        obtain ⟨y, hy, rfl⟩ := List.mem_map.1 hx
        exact shBy_len _ (HX.out y hy)
      rw [List.length_map] at hfl
      have HLEN : Hid ((l ++ numB L.length ++ ((L.map (·.s)).take i).flatMap shBy).length ≤ 400000000) := hid (by
        rw [List.length_append, List.length_append]; omega)
      obtain ⟨⟨S, mv, pv⟩, hx⟩ : ∃ x, x = L[i]'hi := ⟨_, rfl⟩
      rw [← hx] at hRO HOM HOK HFT
      clear hx hfl hnl HVr
      have HOM : Hid (ShM wr S mv pv) := HOM
      obtain ⟨⟨oa, oc, rfl⟩, ⟨pa, pc, rfl⟩⟩ := HOM.out.shape
      unfold SX.c at hRO
      simp only at hRO HOK HFT
      go_upto_region 5 with (refine wpl_loadM rfl _ rfl g (i * 5) (by go_simp) _ _ _ _ _ hRO ?_)
      clear hRO
      have hb2 : Below wr.heap.size wr (wr.alloc (.cells #[.int .i64 S.id, .int .i64 S.fr, .int .i64 S.to, .slice oa S.mem.length oc, .slice pa S.past.length pc] 46)) := (Below.refl _ _).alloc (Nat.le_refl _) _
      have hg2 := heap_alloc_new wr (.cells #[.int .i64 S.id, .int .i64 S.fr, .int .i64 S.to, .slice oa S.mem.length oc, .slice pa S.past.length pc] 46)
      have HW2 := hid (HWR.out.below hb2)
      have HB2 := hid (HBR.out.trans (Wb.new (b := b) hb2 (Nat.le_of_lt HWR.out.lt)))
      have HM2 := hid (HOM.out.below hb2)
      have HG2 := hid hg2
      clear hb2 hg2
      generalize wr.alloc (.cells #[.int .i64 S.id, .int .i64 S.fr, .int .i64 S.to, .slice oa S.mem.length oc, .slice pa S.past.length pc] 46) = w2 at *
      have hRP : w2.rangeAt wr.heap.size 0 [.int .i64 S.id, .int .i64 S.fr, .int .i64 S.to, .slice oa S.mem.length oc, .slice pa S.past.length pc] := range_of_row HG2.out 0 _ fun j v hv => by rw [Nat.zero_add]; simpa using hv
      go_wp2_with (refine wpl_loadM rfl _ rfl wr.heap.size 0 rfl _ _ _ _ _ hRP ?_)
      refine (layShard_kt b _ S _ _ _ HOK.out HM2.out HW2.out HLEN.out).mono ?_
      rintro e w3 ⟨rfl, hw3, hb3⟩
      have HW3 := hid hw3
      have HB3 := hid (HB2.out.trans hb3)
      clear hw3 hb3
      go_wp2_with fail
      go_roundw
      case rel =>
        refine ⟨i + 1, by go_num, by omega, ?_, HB3.out⟩
        rw [HFT.out, ← List.append_assoc]; exact HW3.out
      case measure => simp [intOf]; omega
    · have hin' : i = L.length := by omega
      go_wp2_with fail
      go_end0
      refine ⟨rfl, ?_, HBR.out⟩
      have := HWR.out
      rw [hin', List.take_of_length_le (by simp), List.append_assoc] at this
      unfold listB
      rw [List.length_map]
      exact this
end Go.Proofs.Ytnkjkaofgninnaa
namespace Go.Proofs.Ytnkjkaofgninnaa
open Go.RowKit Go.Maps Go.Shelf
set_option linter.unusedVariables false
set_option linter.unusedSimpArgs false

theorem own_low {w : World} {base base' : Nat} {e : TypeId} {size : Nat} {v : Value} {n : Nat} {xs : List Value} (h : w.ownsRow base e size v n xs) (hb : base' ≤ base) : w.ownsRow base' e size v n xs := by
  obtain ⟨h1, h2⟩ := h
  refine ⟨h1, ?_⟩
  rcases h2 with h2 | ⟨g, cap, cur, e1, e2, e3⟩
  · exact .inl h2
  · exact .inr ⟨g, cap, cur, e1, Nat.le_trans hb e2, e3⟩
/-- A map's bytes. -/
def encB (N : AtN) (L : List ShD) : List UInt8 := numB N.bl.toNat ++ numB N.ep.toNat ++ numB N.nx.toNat ++ listB nuBy N.op ++ listB shBy L
/-- A map that may be laid. -/
structure EnJ (N : AtN) (X : List SX) : Prop where
  b : 0 ≤ N.bl ∧ N.bl ≤ 256
  e : 0 ≤ N.ep ∧ N.ep ≤ 2000000000
  n : 0 ≤ N.nx ∧ N.nx ≤ 2000000000
  o : ∀ n ∈ N.op, 0 ≤ n ∧ n ≤ 2000000000
  l : N.op.length ≤ 5000
  s : ∀ x ∈ X, ShJ x.s
theorem encB_len (N : AtN) (X : List SX) (hi : AIn N X) (h : EnJ N X) : (encB N (X.map (·.s))).length ≤ 100000000 := by
  have h1 := numB_len N.bl.toNat (by have := h.b; omega)
  have h2 := numB_len N.ep.toNat (by have := h.e; omega)
  have h3 := numB_len N.nx.toNat (by have := h.n; omega)
  have h4 := flat_lenM nuBy N.op 10 fun n hn => numB_len n.toNat (by have := h.o n hn; omega)
  have h5 := flat_lenM shBy (X.map (·.s)) 200 fun S hS => by
    obtain ⟨x, hx, rfl⟩ := List.mem_map.1 hS
    exact shBy_len _ (h.s x hx)
  have h6 := numB_len N.op.length (by have := h.l; omega)
  have h7 := numB_len (X.map (·.s)).length (by have := hi.len; rw [List.length_map]; omega)
  have := h.l
  have := hi.len
  rw [List.length_map] at h5 h7
  unfold encB listB
  simp only [List.length_append, List.length_map]
  omega
set_option maxRecDepth 100000 in
set_option maxHeartbeats 4000000 in
theorem encodeW_any (b wb mb n : Nat) (ov : Value) (D : DataW Value) (N : AtN) (X : List SX) (w : World) (h : Aw w b wb mb n ov D N X) (hin : AIn N X) (hj : EnJ N X) :
    Calls Try.prog 33 #[.pointer (some ⟨b, 0, none⟩)] w fun e w' => ∃ va vc, e = .returned (.slice va (encB N (X.map (·.s))).length vc) ∧ Own w' w.heap.size (.slice va (encB N (X.map (·.s))).length vc) (encB N (X.map (·.s))) ∧ Below w.heap.size w w' := by
  have hnn := fun w => run_eql_fn w (.func 51) #[] #[] Try.underlying111
  obtain ⟨w1, hw1⟩ : ∃ w1, w1 = w.alloc (.cells #[.slice none 0 0] 110) := ⟨_, rfl⟩
  have b1 : Below w.heap.size w w1 := by rw [hw1]; exact (Below.refl _ _).alloc (Nat.le_refl _) _
  have H1 : Hid (Wr w1 w.heap.size []) := hid (by rw [hw1]; exact Wr.new w)
  have A0 := hid h
  have A1 := hid (h.below b1)
  have B1 := hid b1
  have HI := hid hin
  have HJ := hid hj
  have HLN := hid (encB_len N X hin hj)
  have HW1 := hid hw1
  clear h hin hj b1 hw1 hnn
  obtain ⟨bs, hbs⟩ : ∃ bs, bs = encB N (X.map (·.s)) := ⟨_, rfl⟩
  rw [← hbs] at HLN ⊢
  go_enter Try.func33, Try.ntmps33
  go_upto_region 4 with fail
  rw [← HW1.out]
  clear HW1
  have c0 : w1.cell? ⟨b, 0, none⟩ = some (.int .i64 N.bl) := by rw [cell_of_row _ _ _ _ _ _ A1.out.m.box]; rfl
  have hl0 : ∀ (f : Nat) (l : List UInt8), l.length ≤ f * 20 → f ≤ 1000 → l.length ≤ 140737488350000 := fun f l h1 h2 => by omega
  have n1 := numB_len N.bl.toNat (by have := HJ.out.b; omega)
  have n2 := numB_len N.ep.toNat (by have := HJ.out.e; omega)
  have n3 := numB_len N.nx.toNat (by have := HJ.out.n; omega)
  have n4 := flat_lenM nuBy N.op 10 fun n hn => numB_len n.toNat (by have := HJ.out.o n hn; omega)
  have n5 := numB_len N.op.length (by have := HJ.out.l; omega)
  have n6 := HJ.out.l
  have N1 := hid n1
  have N2 := hid n2
  have N3 := hid n3
  have N4 : Hid ((listB nuBy N.op).length ≤ 60000) := hid (by unfold listB; rw [List.length_append]; omega)
  clear n1 n2 n3 n4 n5 n6 hl0
  go_upto_region 5 with fail
  refine (layNum_kt w.heap.size [] N.bl _ HJ.out.b.1 (by have := HJ.out.b; omega) H1.out (by simp)).mono ?_
  rintro e w2 ⟨rfl, hw2, hb2⟩
  rw [List.nil_append] at hw2
  have H2 := hid hw2
  have B2 := hid (Wb.trans (Wb.refl w.heap.size w1) hb2)
  have A2 := hid (A0.out.below (B1.out.trans B2.out.bel))
  clear hw2 hb2 c0
  have c1 : w2.cell? ⟨b, 1, none⟩ = some (.int .i64 N.ep) := by rw [cell_of_row _ _ _ _ _ _ A2.out.m.box]; rfl
  go_upto_region 6 with fail
  refine (layNum_kt w.heap.size _ N.ep _ HJ.out.e.1 (by have := HJ.out.e; omega) H2.out (by have := N1.out; omega)).mono ?_
  rintro e w3 ⟨rfl, hw3, hb3⟩
  have H3 := hid hw3
  have B3 := hid (B2.out.trans hb3)
  have A3 := hid (A0.out.below (B1.out.trans B3.out.bel))
  clear hw3 hb3 c1
  have c2 : w3.cell? ⟨b, 2, none⟩ = some (.int .i64 N.nx) := by rw [cell_of_row _ _ _ _ _ _ A3.out.m.box]; rfl
  go_upto_region 7 with fail
  refine (layNum_kt w.heap.size _ N.nx _ HJ.out.n.1 (by have := HJ.out.n; omega) H3.out (by have := N1.out; have := N2.out; rw [List.length_append]; omega)).mono ?_
  rintro e w4 ⟨rfl, hw4, hb4⟩
  have H4 := hid hw4
  have B4 := hid (B3.out.trans hb4)
  have A4 := hid (A0.out.below (B1.out.trans B4.out.bel))
  clear hw4 hb4 c2
  have c3 : w4.cell? ⟨b, 3, none⟩ = some ov := by rw [cell_of_row _ _ _ _ _ _ A4.out.m.box]; rfl
  go_upto_region 8 with fail
  refine (putN_kt w.heap.size _ ov N.op _ H4.out A4.out.m.opn HJ.out.o (by have := N1.out; have := N2.out; have := N3.out; rw [List.length_append, List.length_append]; omega) HJ.out.l).mono ?_
  rintro e w5 ⟨rfl, hw5, hb5⟩
  have H5 := hid hw5
  have B5 := hid (B4.out.trans hb5)
  have A5 := hid (A0.out.below (B1.out.trans B5.out.bel))
  clear hw5 hb5 c3
  have HSH := hid (shardsW_any b wb mb n ov D N X w5 A5.out HI.out.shb HI.out.i64 HI.out.one HI.out.len)
  go_upto_region 9 with (go_at_call 13; refine HSH.out.mono ?_; rintro e w6 ⟨Y, va6, vc6, rfl, hy6, ho6, hm6, hb6⟩; have Y6 := hid hy6; have O6 := hid ho6; have M6 := hid hm6; have H6 := hid (H5.out.below hb6); have B6 := hid (B5.out.trans (Wb.new (b := w.heap.size) hb6 (Nat.le_of_lt H5.out.lt))); clear hy6 ho6 hm6 hb6)
  have hyl : Y.length = X.length := by have := congrArg List.length Y6.out; rwa [List.length_map, List.length_map] at this
  have hjy : ∀ y ∈ Y, ShJ y.s := fun y hy => by
    have : y.s ∈ X.map (·.s) := by rw [← Y6.out]; exact List.mem_map.2 ⟨y, hy, rfl⟩
    obtain ⟨x, hx, e⟩ := List.mem_map.1 this
    rw [← e]; exact HJ.out.s x hx
  refine (putS_kt w.heap.size _ _ Y _ H6.out ⟨own_low O6.out (Nat.zero_le _), M6.out⟩ hjy (by have := N1.out; have := N2.out; have := N3.out; have := N4.out; rw [List.length_append, List.length_append, List.length_append]; omega) (by have := HI.out.len; omega)).mono ?_
  rintro e w7 ⟨rfl, hw7, hb7⟩
  rw [Y6.out] at hw7
  have H7 : Hid (Wr w7 w.heap.size bs) := hid (by rw [hbs]; exact hw7)
  have B7 := hid (B6.out.trans hb7)
  clear hw7 hb7 hyl hjy
  have HL : Hid (bs.length ≤ 140737488340000) := hid (by have := HLN.out; omega)
  go_wp2_with (go_at_call 55; refine (bytes_any w.heap.size bs w7 H7.out HL.out).mono ?_; rintro e w8 ⟨va8, vc8, rfl, ho8, hb8⟩; have O8 := hid ho8; have B8 := hid hb8; clear ho8 hb8)
  go_ret
  exact ⟨va8, vc8, by simp [← hbs], own_low O8.out (B1.out.trans B7.out.bel).size, (B1.out.trans B7.out.bel).trans (B8.out.mono (B1.out.trans B7.out.bel).size)⟩
theorem encode_any (b wb mb n : Nat) (ov : Value) (D : DataW Value) (N : AtN) (X : List SX) (w : World) (h : At w b wb mb n ov D N X) (hin : AIn N X) (hj : EnJ N X) :
    Calls Try.prog 33 #[.pointer (some ⟨b, 0, none⟩)] w fun e w' => ∃ va vc, e = .returned (.slice va (encB N (X.map (·.s))).length vc) ∧ Own w' w.heap.size (.slice va (encB N (X.map (·.s))).length vc) (encB N (X.map (·.s))) ∧ Below w.heap.size w w' :=
  encodeW_any b wb mb n ov D N X w h.aw hin hj
end Go.Proofs.Ytnkjkaofgninnaa
