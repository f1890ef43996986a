/- OcA WkA AtEnc AtEnc2 AtEnc3 AtEnc4 AtOrig AtRCode AtDec AtDec2 AtDec3 AtDec4 AtDec5 AtSameB: joined. No condition. -/
import Derived.WalkKit
import Derived.Laws.BitsAllLaws
import Derived.Test.YtnkjkaofgninnaaGreatRows
import Derived.WalkSpells
import Derived.WalkLawsBesides
import Derived.Laws.AppendOwnNone
import Derived.LaidEql
import Derived.Laws.EntriesVeiled
import Derived.Test.YtnkjkaofgninnaaGreatKt
import Derived.RangeFuncOwn
import Derived.Test.YtnkjkaofgninnaaGreatAtShards
import Derived.Test.YtnkjkaofgninnaaGreatAtSpans
import Derived.Test.YtnkjkaofgninnaaGreatAtFits
import Derived.Test.YtnkjkaofgninnaaGreatAtAlike
import Derived.Test.YtnkjkaofgninnaaGreatAtAt
import Derived.Laws.Tables
namespace Go.Proofs.YtnkjkaofgninnaaGreat
open Go.RowKit

end Go.Proofs.YtnkjkaofgninnaaGreat
namespace Go.Proofs.YtnkjkaofgninnaaGreat
open Go.RowKit

theorem hio {p : Prop} (h : p) : Hid p := h
/-- The value v is a slice whose elements are the bytes l. -/
def Bts (w : World) (v : Value) (l : List UInt8) : Prop :=
  ∃ ao n cap, v = .slice ao n cap ∧ n = l.length ∧ n ≤ cap ∧ cap ≤ 9223372036854775807 ∧ (ao = none → cap = 0) ∧
    ∀ ad, ao = some ad → ∀ j, (h : j < l.length) → w.cell? (ad.add j) = some (.int .u8 (l[j].toNat : Int))

end Go.Proofs.YtnkjkaofgninnaaGreat
namespace Go.Proofs.YtnkjkaofgninnaaGreat
open Go.RowKit

def bv (c : UInt8) : Value := .int .u8 (c.toNat : Int)
theorem bv_one (l : List UInt8) : ∀ u ∈ l.map bv, u.oneCell' = true := by
  intro u hu
  obtain ⟨c, -, rfl⟩ := List.mem_map.1 hu
  rfl
theorem Tryz.underlyingB : Tryz.prog.underlying 27 = some (.slice 5) := by kernel_rfl
theorem Tryz.infoB : (Tryz.prog.info? 5).map (fun i => (i.zero, i.size, i.bytes)) = some (some (.int .u8 0), 1, 1) := by kernel_rfl

/-- The value v is a row of the call's own, its bytes are l. -/
def Own (w : World) (base : Nat) (v : Value) (l : List UInt8) : Prop := w.ownsRow base 5 1 v l.length (l.map bv)

theorem Own.nil (w : World) (base : Nat) : Own w base (.slice none 0 0) [] := World.ownsRow_nil _ _ _ _
theorem Own.shape {w : World} {base : Nat} {v : Value} {l : List UInt8} (h : Own w base v l) : ∃ va vc, v = .slice va l.length vc := by
  obtain ⟨h1, h2⟩ := h
  rcases h2 with ⟨rfl, h0⟩ | ⟨g, cap, cur, rfl, -⟩
  · exact ⟨none, 0, by rw [h0]⟩
  · exact ⟨_, _, rfl⟩
theorem Own.kept {w w' : World} {base : Nat} {v : Value} {l : List UInt8} (h : Own w base v l) (hb : ∀ k, base ≤ k → k < w.heap.size → w'.heap[k]? = w.heap[k]?) : Own w' base v l := by
  obtain ⟨h1, h2⟩ := h
  refine ⟨h1, ?_⟩
  rcases h2 with h2 | ⟨g, cap, cur, hv, hg, hh, r⟩
  · exact Or.inl h2
  · exact Or.inr ⟨g, cap, cur, hv, hg, by rw [hb g hg (lt_of_block hh)]; exact hh, r⟩
theorem Own.below {w w' : World} {base : Nat} {v : Value} {l : List UInt8} (h : Own w base v l) (hb : Below w.heap.size w w') : Own w' base v l :=
  h.kept fun k _ hk => hb.block k hk
theorem Own.lower {w : World} {base base' : Nat} {v : Value} {l : List UInt8} (h : Own w base v l) (hb : base' ≤ base) : Own w base' v l := by
  obtain ⟨h1, h2⟩ := h
  refine ⟨h1, ?_⟩
  rcases h2 with h2 | ⟨g, cap, cur, hv, hg, r⟩
  · exact Or.inl h2
  · exact Or.inr ⟨g, cap, cur, hv, by omega, r⟩
/-- A row of the call's own, read as any slice of bytes is. -/
theorem Own.bts {w : World} {base : Nat} {v : Value} {l : List UInt8} (h : Own w base v l) : Bts w v l := by
  have h' : w.ownsRow base 5 1 v l.length (l.map bv) := h
  obtain ⟨h1, h2⟩ := h
  rcases h2 with ⟨rfl, h0⟩ | ⟨g, cap, cur, rfl, hg, hh, hc, hm, hs, ht⟩
  · exact ⟨none, 0, 0, rfl, h0.symm, Nat.le_refl _, by omega, (fun _ => rfl), (fun ad h => by cases h)⟩
  · refine ⟨some ⟨g, 0, none⟩, l.length, cap, rfl, rfl, hc, hm, (fun h => by cases h), ?_⟩
    intro ad had j hj
    obtain rfl := Option.some.inj had
    have e := h'.cells rfl j (bv l[j]) (by simp [hj])
    exact e

/-- A slice of bytes stays what it is where its cells stay. -/
theorem Bts.kept {w w' : World} {v : Value} {l : List UInt8} (h : Bts w v l) (hb : ∀ k u, w.cell? k = some u → w'.cell? k = some u) : Bts w' v l := by
  obtain ⟨ao, n, cap, rfl, h1, h2, h3, h4, h5⟩ := h
  exact ⟨ao, n, cap, rfl, h1, h2, h3, h4, fun ad had j hj => hb _ _ (h5 ad had j hj)⟩
theorem Bts.below {w w' : World} {v : Value} {l : List UInt8} (h : Bts w v l) (hb : Below w.heap.size w w') : Bts w' v l :=
  h.kept fun _ _ hk => cell_later hb hk
theorem Bts.alloc {w : World} {v : Value} {l : List UInt8} (h : Bts w v l) (o : Obj) : Bts (w.alloc o) v l := h.below ((Below.refl _ _).alloc (Nat.le_refl _) _)
theorem Bts.shape {w : World} {v : Value} {l : List UInt8} (h : Bts w v l) : ∃ va vc, v = .slice va l.length vc := by
  obtain ⟨ao, n, cap, rfl, rfl, -⟩ := h; exact ⟨_, _, rfl⟩

/-- 'append(s, x...)', s of the call's own, x any slice of bytes. -/
theorem wpl_append {w : World} {ops : Array Oper} {rest : List Oper} {o : Oper} {a : Act} {Q : Exit → Act → World → Prop} (hgd : o.guard = none) (s x : Operand)
    (ho : o.op = .call { callee := .builtin .append, args := #[s, x], argTypes := #[27, 27] })
    (base : Nat) (v : Value) (l : List UInt8) (hs : a.eval s = v) (hown : Own w base v l) (u : Value) (m : List UInt8) (hx : a.eval x = u) (hu : Bts w u m)
    (hsz : l.length + m.length ≤ 140737488355328) (hbase : base ≤ w.heap.size)
    (h : ∀ va vc w', Own w' base (.slice va (l.length + m.length) vc) (l ++ m) → w.grownBy w' v.ownBlock → wpList Tryz.prog ops Q rest (a.put o.dst (.slice va (l.length + m.length) vc)) w') :
    wpList Tryz.prog ops Q (o :: rest) a w := by
  obtain ⟨i, hi, hz0, hz1, hz2⟩ := info_parts Tryz.infoB
  obtain ⟨ao, n, cap, rfl, rfl, hc, hm, hnone, hcell⟩ := hu
  cases ao with
  | none =>
    have h0 := hnone rfl
    subst h0
    have hm0 : m = [] := List.eq_nil_of_length_eq_zero (by omega)
    subst hm0
    obtain ⟨va, vc, rfl⟩ := hown.shape
    refine wpList_append_own_none hgd s x 27 ho base 5 i 1 Tryz.underlyingB hi _ _ _ hs hown hx ?_
    exact h va vc w (by simpa using hown) (World.grownBy.refl _ _)
  | some ad =>
    refine wpList_append_own w hgd s x 27 ho base 5 i (.int .u8 0) 1 1 Tryz.underlyingB hi hz0 hz1 hz2 rfl (by decide) v l.length (l.map bv) hs hown ad m.length cap (m.map bv) hx (by simp) ?_ (bv_one m) (by unfold maxLen; omega) (by omega) hbase ?_
    · intro j u hj
      have hlt : j < m.length := by
        rcases Nat.lt_or_ge j m.length with h | h
        · exact h
        · simp [List.getElem?_eq_none (l := m.map bv) (by simpa using h)] at hj
      have e := hcell ad rfl j hlt
      have : u = bv m[j] := by simpa [hlt] using hj.symm
      rw [this]; exact e
    · intro v' w' ho' hg _
      have ho2 : Own w' base v' (l ++ m) := by
        show w'.ownsRow _ _ _ _ (l ++ m).length ((l ++ m).map bv)
        rw [List.length_append, List.map_append]; exact ho'
      obtain ⟨va, vc, rfl⟩ := ho2.shape
      have e : (l ++ m).length = l.length + m.length := List.length_append
      rw [e] at ho2 ⊢
      exact h va vc w' ho2 hg

/-- A Writer lies at block b, what it has laid is l. -/
def Wr (w : World) (b : Nat) (l : List UInt8) : Prop := ∃ va vc, w.heap[b]? = some (.cells #[.slice va l.length vc] 49 (0, 0)) ∧ Own w (b + 1) (.slice va l.length vc) l

theorem Wr.kept {w w' : World} {b : Nat} {l : List UInt8} (h : Wr w b l) (hb : ∀ k, b ≤ k → k < w.heap.size → w'.heap[k]? = w.heap[k]?) : Wr w' b l := by
  obtain ⟨va, vc, h1, h2⟩ := h
  exact ⟨va, vc, by rw [hb b (Nat.le_refl _) (lt_of_block h1)]; exact h1, h2.kept fun k hk => hb k (by omega)⟩
theorem Wr.below {w w' : World} {b : Nat} {l : List UInt8} (h : Wr w b l) (hb : Below w.heap.size w w') : Wr w' b l := h.kept fun k _ hk => hb.block k hk
theorem Wr.lt {w : World} {b : Nat} {l : List UInt8} (h : Wr w b l) : b < w.heap.size := by
  obtain ⟨va, vc, h1, h2⟩ := h; exact lt_of_block h1
theorem Wr.new (w : World) : Wr (w.alloc (.cells #[.slice none 0 0] 49)) w.heap.size [] :=
  ⟨none, 0, heap_alloc_new _ _, Own.nil _ _⟩

/-- Behind an append to a row from b + 1 on block b is as it was; nothing below it has turned. -/
theorem grown_block {w w1 : World} {b : Nat} {v : Value} {l : List UInt8} (ho : Own w (b + 1) v l) (hg : w.grownBy w1 v.ownBlock) (hb : b < w.heap.size) : ∀ k, k ≤ b → w1.heap[k]? = w.heap[k]? := by
  intro k hk
  refine hg.block k (by omega) ?_
  intro e
  have := (World.ownsRow.lt ho k e.symm).1
  omega
theorem Wr.stored {w w1 : World} {b : Nat} {l m : List UInt8} {v va : Value} {vb : Option Addr} {vc : Nat} (ho : Own w (b + 1) v l) (h1 : w.heap[b]? = some (.cells #[va] 49 (0, 0))) (hg : w.grownBy w1 v.ownBlock)
    (ho1 : Own w1 (b + 1) (.slice vb m.length vc) m) : Wr (w1.setCell ⟨b, 0, none⟩ (.slice vb m.length vc)) b m ∧ Below b w (w1.setCell ⟨b, 0, none⟩ (.slice vb m.length vc)) := by
  have hlt := lt_of_block h1
  have hb := grown_block ho hg hlt
  refine ⟨⟨vb, vc, one_setCell (v := va) (by rw [hb b (Nat.le_refl _)]; exact h1), ?_⟩, ?_⟩
  · exact ho1.kept fun k hk _ => Below.heap_setCell w1 ⟨b, 0, none⟩ _ k (by simp; omega)
  · have hbel : Below b w w1 := ⟨hg.os, hg.tape, hg.output, hg.size, fun k hk => hb k (by omega)⟩
    exact hbel.setCell (p := ⟨b, 0, none⟩) (Nat.le_refl _) _

/-- '[]byte{}' is a row of the call's own. -/
theorem Own.empty (w : World) : Own (w.alloc (.cells #[] 5)) w.heap.size (.slice (some ⟨w.heap.size, 0, none⟩) 0 0) [] :=
  ⟨rfl, .inr ⟨w.heap.size, 0, #[], rfl, Nat.le_refl _, heap_alloc_new _ _, Nat.le_refl _, Nat.zero_le _, rfl, rfl⟩⟩
/-- A literal is a row of the call's own. -/
theorem Own.lit (w : World) (base : Nat) (l : List UInt8) (cs : Array Value) (hc : cs = (l.map bv).toArray) (hb : base ≤ w.heap.size) (n : Nat) (hn : n = l.length) (hl : n ≤ 9223372036854775807) :
    Own (w.alloc (.cells cs 5)) base (.slice (some ⟨w.heap.size, 0, none⟩) n n) l := by
  subst hc; subst hn
  exact ⟨by simp, .inr ⟨w.heap.size, l.length, _, rfl, hb, heap_alloc_new _ _, Nat.le_refl _, by unfold maxLen; omega, by simp, by simp [List.take_of_length_le]⟩⟩
theorem below_grown {B : Nat} {w w1 : World} {v : Value} {l : List UInt8} (ho : Own w B v l) (hg : w.grownBy w1 v.ownBlock) (hB : B ≤ w.heap.size) : Below B w w1 :=
  (Below.refl _ _).grown hg hB fun k hk => (World.ownsRow.lt ho k hk).1
/-- A block of bytes, as a slice. -/
theorem bts_block {W : World} {k : Nat} {cs : Array Value} {t : TypeId} {fr : Nat × Nat} (l : List UInt8) (h : W.heap[k]? = some (.cells cs t fr)) (hc : cs = (l.map bv).toArray) (n : Nat) (hn : n = l.length) (hl : n ≤ 9223372036854775807) :
    Bts W (.slice (some ⟨k, 0, none⟩) n n) l := by
  subst hc
  refine ⟨_, _, _, rfl, hn, Nat.le_refl _, hl, (fun h => by cases h), ?_⟩
  intro ad had j hj
  obtain rfl := Option.some.inj had
  rw [Addr.add_lit, cell_of_row W k _ _ _ _ h]
  simp [bv, hj]
end Go.Proofs.YtnkjkaofgninnaaGreat
namespace Go.Proofs.YtnkjkaofgninnaaGreat
open Go.RowKit

/-- The groups above the lowest, laid ahead of what stands already; f: at most so many. -/
def numHiF : Nat → Nat → List UInt8 → List UInt8
  | 0, _, acc => acc
  | f + 1, n, acc => if n = 0 then acc else numHiF f (n / 128) (UInt8.ofNat (n % 128 + 128) :: acc)
def numHi (n : Nat) (acc : List UInt8) : List UInt8 := numHiF n n acc
/-- A number's bytes. -/
def numB (n : Nat) : List UInt8 := numHi (n / 128) [UInt8.ofNat (n % 128)]

theorem numHiF_zero (f : Nat) (acc : List UInt8) : numHiF f 0 acc = acc := by cases f <;> simp [numHiF]
theorem numHiF_fuel (f g n : Nat) (acc : List UInt8) (hf : n ≤ f) (hg : n ≤ g) : numHiF f n acc = numHiF g n acc := by
  induction f generalizing g n acc with
  | zero =>
    obtain rfl : n = 0 := by omega
    rw [numHiF_zero, numHiF_zero]
  | succ f ih =>
    rcases Nat.eq_zero_or_pos n with rfl | hp
    · rw [numHiF_zero, numHiF_zero]
    · obtain ⟨g', rfl⟩ : ∃ g', g = g' + 1 := ⟨g - 1, by omega⟩
      simp only [numHiF]
      rw [if_neg (by omega), if_neg (by omega)]
      exact ih g' _ _ (by omega) (by omega)
theorem numHi_zero (acc : List UInt8) : numHi 0 acc = acc := rfl
theorem numHi_pos (n : Nat) (acc : List UInt8) (h : 0 < n) : numHi n acc = numHi (n / 128) (UInt8.ofNat (n % 128 + 128) :: acc) := by
  unfold numHi
  obtain ⟨m, rfl⟩ : ∃ m, n = m + 1 := ⟨n - 1, by omega⟩
  rw [numHiF, if_neg (by omega)]
  exact numHiF_fuel _ _ _ _ (by omega) (by omega)
theorem u64_and127 (n : Int) (h0 : 0 ≤ n) (h1 : n < 18446744073709551616) : bits .and .u64 n 127 = n % 128 := by
  rw [u64_and n 127 h0 h1 (by omega) (by omega)]
  have : n.toNat &&& (127 : Int).toNat = n.toNat % 128 := Nat.and_two_pow_sub_one_eq_mod _ 7
  rw [this]; omega
theorem u64_or128 (n : Int) (h0 : 0 ≤ n) (h1 : n < 128) : bits .or .u64 n 128 = n + 128 := by
  rw [u64_or n 128 h0 (by omega) (by omega) (by omega)]
  have e : (128 : Int).toNat = 2 ^ 7 * 1 := rfl
  rw [e, Nat.or_comm, ← Nat.two_pow_add_eq_or_of_lt (by omega)]; omega
theorem bv_num (n : Nat) (h : n < 256) : bv (UInt8.ofNat n) = .int .u8 (n : Int) := by
  unfold bv; rw [UInt8.toNat_ofNat', Nat.mod_eq_of_lt (by simpa using h)]

/-- The rounds of the loop: q is what is left, from place a on the bytes stand. -/
def NumAt (n0 q a : Nat) (acc : List UInt8) : Prop := a ≤ 9 ∧ acc.length = 10 - a ∧ q * 128 ^ (10 - a) ≤ n0 ∧ numHi q acc = numB n0
theorem NumAt.start (n0 : Nat) : NumAt n0 (n0 / 128) 9 [UInt8.ofNat (n0 % 128)] := ⟨by omega, by simp, by simp; omega, rfl⟩
theorem NumAt.room {n0 q a : Nat} {acc : List UInt8} (h : NumAt n0 q a acc) (hn : n0 < 18446744073709551616) (hq : 0 < q) : 1 ≤ a := by
  obtain ⟨h1, h2, h3, h4⟩ := h
  rcases Nat.eq_zero_or_pos a with rfl | h
  · simp at h3; omega
  · exact h
theorem NumAt.step {n0 q a : Nat} {acc : List UInt8} (h : NumAt n0 q a acc) (hn : n0 < 18446744073709551616) (hq : 0 < q) : NumAt n0 (q / 128) (a - 1) (UInt8.ofNat (q % 128 + 128) :: acc) := by
  have hr := h.room hn hq
  obtain ⟨h1, h2, h3, h4⟩ := h
  refine ⟨by omega, by simp [h2]; omega, ?_, by rw [← numHi_pos _ _ hq]; exact h4⟩
  rw [show 10 - (a - 1) = (10 - a) + 1 from by omega, Nat.pow_succ, Nat.mul_comm (128 ^ (10 - a)) 128, ← Nat.mul_assoc]
  exact Nat.le_trans (Nat.mul_le_mul_right _ (by omega)) h3
theorem NumAt.done {n0 a : Nat} {acc : List UInt8} (h : NumAt n0 0 a acc) : acc = numB n0 := by rw [← h.2.2.2, numHi_zero]
theorem numHi_len (n : Nat) (acc : List UInt8) (j : Nat) (h : n < 128 ^ j) : (numHi n acc).length ≤ acc.length + j := by
  induction j generalizing n acc with
  | zero =>
    have : n = 0 := by simpa using h
    subst this; rw [numHi_zero]; simp
  | succ j ih =>
    rcases Nat.eq_zero_or_pos n with rfl | hp
    · rw [numHi_zero]; omega
    · rw [numHi_pos _ _ hp]
      have := ih (n / 128) (UInt8.ofNat (n % 128 + 128) :: acc) (Nat.div_lt_of_lt_mul (by rw [Nat.pow_succ] at h; omega))
      simp only [List.length_cons] at this; omega
theorem numB_len (n : Nat) (h : n < 18446744073709551616) : (numB n).length ≤ 10 := by
  have := numHi_len (n / 128) [UInt8.ofNat (n % 128)] 9 (by simp; omega)
  simpa [numB] using this
/-- A cell of the row is written. -/
theorem drop_set {cs : Array Value} {a : Nat} {acc : List UInt8} {v : Value} {c : UInt8} (hs : cs.size = 10) (ha : 1 ≤ a) (ha9 : a ≤ 9) (hd : cs.toList.drop a = acc.map bv) (hv : v = bv c) :
    (cs.setIfInBounds (a - 1) v).size = 10 ∧ (cs.setIfInBounds (a - 1) v).toList.drop (a - 1) = (c :: acc).map bv := by
  refine ⟨by simp [hs], ?_⟩
  rw [Array.toList_setIfInBounds, List.drop_eq_getElem_cons (by simp [hs]; omega)]
  simp only [List.getElem_set_self, List.map_cons, hv]
  congr 1
  rw [show a - 1 + 1 = a from by omega, ← hd, List.drop_set_of_lt (by omega)]
end Go.Proofs.YtnkjkaofgninnaaGreat
namespace Go.Proofs.YtnkjkaofgninnaaGreat
open Go.RowKit

theorem Tryz.underlyingA : Tryz.prog.underlying 127 = some (.array 10 5) := by kernel_rfl
theorem Tryz.arrA : Tryz.prog.arrayLen 127 = 10 := by kernel_rfl
theorem Tryz.elemA : Tryz.prog.elem 127 = 5 := by kernel_rfl
theorem slice_arr (w : World) (a : Addr) (k : Nat) (hk : k ≤ 9) :
    (Instr.sliceAt 127 (.pointer (some a)) (some (.int .i64 k)) none none).run Tryz.prog w = .ok (.slice (some (a.add k)) (10 - k) (10 - k)) w := by
  obtain ⟨i, hi, hz0, hz1, hz2⟩ := info_parts Tryz.infoB
  rw [run_sliceAt_array_l w _ a (by rw [Tryz.arrA, Tryz.elemA]; exact Tryz.underlyingA) .i64 k (by omega) (by rw [Tryz.arrA]; omega), Tryz.elemA, Tryz.arrA]
  simp [sizeOf, typeInfo, hi, hz1, slicedAt, show ¬ 10 = k from by omega]

theorem bts_arr (w : World) (cs : Array Value) (a : Nat) (l : List UInt8) (t : TypeId) (hs : cs.size = 10) (ha : a ≤ 9) (hd : cs.toList.drop a = l.map bv) :
    Bts (w.alloc (.cells cs t)) (.slice (some ⟨w.heap.size, a, none⟩) (10 - a) (10 - a)) l := by
  have hl : 10 - a = l.length := by have := congrArg List.length hd; simpa [hs] using this
  refine ⟨_, _, _, rfl, hl, Nat.le_refl _, by omega, (fun h => by cases h), ?_⟩
  intro ad had j hj
  obtain rfl := Option.some.inj had
  rw [Addr.add_lit, World.cell?_alloc_at _ _ _ _ rfl]
  have e := congrArg (fun x => x[j]?) hd
  simp only [List.getElem?_drop, List.getElem?_map] at e
  rw [List.getElem?_eq_getElem hj] at e
  simpa [bv] using e

/-- A new block of bytes, as a slice. -/
theorem bts_lit (w : World) (l : List UInt8) (t : TypeId) (cs : Array Value) (hc : cs = (l.map bv).toArray) (hl : l.length ≤ 9223372036854775807) : Bts (w.alloc (.cells cs t)) (.slice (some ⟨w.heap.size, 0, none⟩) l.length l.length) l := by
  subst hc
  refine ⟨_, _, _, rfl, rfl, Nat.le_refl _, hl, (fun h => by cases h), ?_⟩
  intro ad had j hj
  obtain rfl := Option.some.inj had
  rw [Addr.add_lit, World.cell?_alloc_at _ _ _ _ rfl]
  simp [bv, hj]

/-- An int's bytes. -/
def intB (n : Int) : List UInt8 := if 0 ≤ n then 0 :: numB n.toNat else 1 :: numB (-1 - n).toNat

/-- A text's bytes. -/
def textB (s : ByteArray) : List UInt8 := numB s.size ++ s.data.toList

theorem Tryz.underlyingS : Tryz.prog.underlying 9 = some .string := by kernel_rfl
theorem Tryz.underlyingU : Tryz.prog.underlying 5 = some (.int .u8) := by kernel_rfl
/-- '[]byte(s)'. -/
theorem conv_bytes (w : World) (s : ByteArray) (hs : s.size ≤ 9223372036854775807) :
    ∃ cap W1, (convert 9 27 (.string s)).run Tryz.prog w = .ok (.slice (some ⟨w.heap.size, 0, none⟩) s.size cap) W1 ∧ Bts W1 (.slice (some ⟨w.heap.size, 0, none⟩) s.size cap) s.data.toList ∧ Below w.heap.size w W1 := by
  refine ⟨_, _, run_bytes_of_string w _ _ _ s Tryz.underlyingS Tryz.underlyingB Tryz.underlyingU, ?_, ?_⟩
  · refine ⟨_, _, _, rfl, by simp, grownCap_ge _ _ _ _, grownCap_le_maxLen _ _ _ _ (by unfold maxLen; omega), (fun h => by cases h), ?_⟩
    intro ad had j hj
    obtain rfl := Option.some.inj had
    rw [Addr.add_lit]
    refine (World.cell?_alloc_mark w.drew _ _ _ _).trans ?_
    have hj' : j < s.data.size := by simpa using hj
    simp [bytesRow, Array.getElem?_append, show j < s.size from hj']
  · exact ((Below.refl _ _).drew).alloc (Nat.le_refl _) _

/-- 'string(b)'. -/
theorem conv_string (w : World) (v : Value) (l : List UInt8) (hv : Bts w v l) : (convert 27 9 v).run Tryz.prog w = .ok (.string ⟨l.toArray⟩) w := by
  obtain ⟨ao, n, cap, rfl, rfl, hc, hm, hnone, hcell⟩ := hv
  cases ao with
  | some ad => exact run_convert_bytes_back w _ _ _ ad cap l Tryz.underlyingB Tryz.underlyingU Tryz.underlyingS (hcell ad rfl)
  | none =>
    have h0 := hnone rfl
    subst h0
    have hl : l = [] := List.eq_nil_of_length_eq_zero (by omega)
    subst hl
    rw [run_convert_bytes_string w _ _ _ none _ 0 Tryz.underlyingB Tryz.underlyingU Tryz.underlyingS]
    simp [Conv.bytesToString]
    rfl

set_option maxHeartbeats 400000 in
theorem bytes_any (b : Nat) (l : List UInt8) (w : World) (hw : Wr w b l) (hsz : l.length ≤ 140737488340000) :
    Calls Tryz.prog 21 #[.pointer (some ⟨b, 0, none⟩)] w fun e w' => ∃ va vc, e = .returned (.slice va l.length vc) ∧ Own w' w.heap.size (.slice va l.length vc) l ∧ Below w.heap.size w w' := by
  have hlt := hw.lt
  obtain ⟨va, vc, h1, h2⟩ := hw
  have hc := cell_of_one h1
  have HB := hio h2.bts
  clear h1 h2
  go_enter Tryz.func21, Tryz.ntmps21
  go_wp2_with (at_builtin; refine wpl_append rfl _ _ rfl w.heap.size (.slice none 0 0) [] rfl (Own.nil _ _) _ l rfl HB.out (by simp; omega) (by omega) ?_; intro va' vc' w1 ho1 hg1)
  go_ret
  simp only [List.length_nil, Nat.zero_add, List.nil_append] at ho1 ⊢
  refine ⟨va', vc', by simp, ho1, ?_⟩
  exact ⟨hg1.os, hg1.tape, hg1.output, hg1.size, fun k hk => hg1.block k hk (by simp [Value.ownBlock])⟩
end Go.Proofs.YtnkjkaofgninnaaGreat
namespace Go.Proofs.YtnkjkaofgninnaaGreat
open Go.RowKit

end Go.Proofs.YtnkjkaofgninnaaGreat
namespace Go.Proofs.YtnkjkaofgninnaaGreat
open Go.RowKit

theorem Bts.take {w : World} {n m cap : Nat} {l : List UInt8} {ao : Option Addr} (hb : Bts w (.slice ao m cap) l) (hn : n ≤ l.length) : Bts w (.slice ao n cap) (l.take n) := by
  obtain ⟨ao1, n1, cap1, e, h1, h2, h3, h4, h5⟩ := hb
  cases e
  refine ⟨_, _, _, rfl, by simp; omega, by omega, h3, h4, fun ad had j hj => ?_⟩
  rw [h5 ad had j (by simp at hj; omega)]
  simp
end Go.Proofs.YtnkjkaofgninnaaGreat
namespace Go.Proofs.YtnkjkaofgninnaaGreat
open Go.RowKit

/-- A Reader lies at block b: bad, or with the rest l. -/
def Rd (w : World) (b : Nat) : Option (List UInt8) → Prop
  | none => w.heap[b]? = some (.cells #[.slice none 0 0, .bool true] 112 (0, 0))
  | some l => ∃ ao cap, w.heap[b]? = some (.cells #[.slice ao l.length cap, .bool false] 112 (0, 0)) ∧ Bts w (.slice ao l.length cap) l ∧ ∀ ad, ao = some ad → ad.block < b
def leftN : Option (List UInt8) → Nat
  | none => 0
  | some l => l.length
def badO : Option (List UInt8) → Bool
  | none => true
  | some _ => false
def endB : Option (List UInt8) → Bool
  | some [] => true
  | _ => false

theorem cell_two {w : World} {b : Nat} {u v : Value} {t : TypeId} (h : w.heap[b]? = some (.cells #[u, v] t (0, 0))) :
    w.cell? ⟨b, 0, none⟩ = some u ∧ w.cell? ⟨b, 1, none⟩ = some v ∧ w.frozen? ⟨b, 0, none⟩ = false ∧ w.frozen? ⟨b, 1, none⟩ = false :=
  ⟨by rw [cell_of_row w b _ _ _ _ h]; rfl, by rw [cell_of_row w b _ _ _ _ h]; rfl, frozen_of_row w b _ _ _ h, frozen_of_row w b _ _ _ h⟩
theorem Rd.cells {w : World} {b : Nat} {s : Option (List UInt8)} (h : Rd w b s) :
    ∃ ao cap, w.heap[b]? = some (.cells #[.slice ao (leftN s) cap, .bool (badO s)] 112 (0, 0)) := by
  cases s with
  | none => exact ⟨none, 0, h⟩
  | some l => obtain ⟨ao, cap, h, -⟩ := h; exact ⟨ao, cap, h⟩
theorem Rd.lt {w : World} {b : Nat} {s : Option (List UInt8)} (h : Rd w b s) : b < w.heap.size := by obtain ⟨_, _, h⟩ := h.cells; exact lt_of_block h
theorem Rd.len {w : World} {b : Nat} {s : Option (List UInt8)} (h : Rd w b s) : leftN s ≤ 9223372036854775807 := by
  cases s with
  | none => exact Nat.zero_le _
  | some l => obtain ⟨ao, cap, -, ⟨_, n, c, e, e2, h1, h2, -⟩, -⟩ := h; cases e; show l.length ≤ _; omega
theorem grown_trans {w w1 w2 : World} {r : Option Nat} (h1 : w.grownBy w1 r) (h2 : w1.grownBy w2 r) : w.grownBy w2 r :=
  ⟨h2.os.trans h1.os, h2.tape.trans h1.tape, h2.output.trans h1.output, Nat.le_trans h1.size h2.size, fun k hk hr => (h2.block k (Nat.lt_of_lt_of_le hk h1.size) hr).trans (h1.block k hk hr)⟩
theorem grown_set (w : World) (b i : Nat) (v : Value) : w.grownBy (w.setCell ⟨b, i, none⟩ v) (some b) :=
  ⟨rfl, rfl, rfl, by simp [World.setCell], fun k _ hr => Below.heap_setCell _ _ _ _ (fun e => hr (by rw [e]))⟩
theorem grown_below {B b : Nat} {w0 w w1 : World} (h : Below B w0 w) (hg : w.grownBy w1 (some b)) (hB : B ≤ w.heap.size) (hb : B ≤ b) : Below B w0 w1 :=
  h.grown hg hB fun k hk => by obtain rfl := Option.some.inj hk; exact hb
theorem Bts.other {w w' : World} {b n cap : Nat} {ao : Option Addr} {l : List UInt8} (h : Bts w (.slice ao n cap) l) (hg : w.grownBy w' (some b)) (hne : ∀ ad, ao = some ad → ad.block ≠ b) : Bts w' (.slice ao n cap) l := by
  obtain ⟨ao', n', cap', e, h1, h2, h3, h4, h5⟩ := h
  cases e
  refine ⟨ao, n, cap, rfl, h1, h2, h3, h4, fun ad had j hj => ?_⟩
  have hne' := hne ad had
  refine hg.cell (h5 ad had j hj) ?_
  intro e
  apply hne'
  have : (ad.add j).block = ad.block := by simp [Addr.add]; split <;> rfl
  rw [this] at e
  exact Option.some.inj e
/-- A Reader is as it was where its block and its row are. -/
theorem Rd.kept {w w' : World} {b : Nat} {s : Option (List UInt8)} (h : Rd w b s) (hb : Below w.heap.size w w') : Rd w' b s := by
  have hlt := h.lt
  cases s with
  | none => show w'.heap[b]? = _; rw [hb.block b hlt]; exact h
  | some l =>
    obtain ⟨ao, cap, h1, h2, h3⟩ := h
    exact ⟨ao, cap, by rw [hb.block b hlt]; exact h1, h2.below hb, h3⟩

/-- What lies behind a Reader's own block does not touch it. -/
theorem Rd.beyond {w w' : World} {b : Nat} {s : Option (List UInt8)} (h : Rd w b s) (hb : ∀ k, k ≤ b → w'.heap[k]? = w.heap[k]?) : Rd w' b s := by
  cases s with
  | none => show w'.heap[b]? = _; rw [hb b (Nat.le_refl _)]; exact h
  | some l =>
    obtain ⟨ao, cap, h1, h2, h3⟩ := h
    refine ⟨ao, cap, by rw [hb b (Nat.le_refl _)]; exact h1, ?_, h3⟩
    obtain ⟨ao', n', cap', e, g1, g2, g3, g4, g5⟩ := h2
    cases e
    refine ⟨ao, l.length, cap, rfl, g1, g2, g3, g4, fun ad had j hj => ?_⟩
    have e : (ad.add j).block = ad.block := by simp [Addr.add]; split <;> rfl
    rw [World.cell?_of_block (w := w) (by rw [e]; exact hb _ (Nat.le_of_lt (h3 ad had)))]
    exact g5 ad had j hj
set_option maxHeartbeats 400000 in
theorem left_any (b : Nat) (s : Option (List UInt8)) (w : World) (hr : Rd w b s) :
    Calls Tryz.prog 68 #[.pointer (some ⟨b, 0, none⟩)] w fun e w' => e = .returned (.int .i64 (leftN s)) ∧ w' = w := by
  have hlen := hr.len
  obtain ⟨ao, cap, h⟩ := hr.cells
  obtain ⟨hc0, hc1, hf0, hf1⟩ := cell_two h
  clear h hr hc1 hf0 hf1
  generalize leftN s = n at *
  go_enter Tryz.func68, Tryz.ntmps68
  go_wp2
  go_ret
  exact ⟨rfl, rfl⟩
set_option maxHeartbeats 400000 in
theorem bad_any (b : Nat) (s : Option (List UInt8)) (w : World) (hr : Rd w b s) :
    Calls Tryz.prog 65 #[.pointer (some ⟨b, 0, none⟩)] w fun e w' => e = .returned (.bool (badO s)) ∧ w' = w := by
  obtain ⟨ao, cap, h⟩ := hr.cells
  obtain ⟨hc0, hc1, hf0, hf1⟩ := cell_two h
  clear h hr hc0 hf0 hf1
  generalize badO s = t at *
  go_enter Tryz.func65, Tryz.ntmps65
  go_wp2
  go_ret
  exact ⟨rfl, rfl⟩
set_option maxHeartbeats 400000 in
theorem end_any (b : Nat) (s : Option (List UInt8)) (w : World) (hr : Rd w b s) :
    Calls Tryz.prog 28 #[.pointer (some ⟨b, 0, none⟩)] w fun e w' => e = .returned (.bool (endB s)) ∧ w' = w := by
  have HR := hio hr
  clear hr
  cases s with
  | none =>
    go_enter Tryz.func28, Tryz.ntmps28
    go_wp2_with (first | (go_at_call 65; refine (bad_any _ _ _ HR.out).mono ?_; rintro e w' ⟨rfl, rfl⟩; simp only [badO]) | (go_at_call 68; refine (left_any _ _ _ HR.out).mono ?_; rintro e w' ⟨rfl, rfl⟩))
    go_ret
    exact ⟨rfl, rfl⟩
  | some l =>
    cases l with
    | nil =>
      go_enter Tryz.func28, Tryz.ntmps28
      go_wp2_with (first | (go_at_call 65; refine (bad_any _ _ _ HR.out).mono ?_; rintro e w' ⟨rfl, rfl⟩; simp only [badO]) | (go_at_call 68; refine (left_any _ _ _ HR.out).mono ?_; rintro e w' ⟨rfl, rfl⟩; simp only [leftN, List.length_nil]))
      go_ret
      exact ⟨rfl, rfl⟩
    | cons c l =>
      have hn : (((l.length + 1 : Nat) : Int) == 0) = false := by simp; omega
      go_enter Tryz.func28, Tryz.ntmps28
      go_wp2_with (first | (go_at_call 65; refine (bad_any _ _ _ HR.out).mono ?_; rintro e w' ⟨rfl, rfl⟩; simp only [badO]) | (go_at_call 68; refine (left_any _ _ _ HR.out).mono ?_; rintro e w' ⟨rfl, rfl⟩; simp only [leftN, List.length_cons]))
      go_ret
      exact ⟨rfl, rfl⟩

set_option maxHeartbeats 400000 in
theorem spoil_any (b : Nat) (s : Option (List UInt8)) (w : World) (hr : Rd w b s) :
    Calls Tryz.prog 64 #[.pointer (some ⟨b, 0, none⟩)] w fun e w' => e = .returned (.tuple #[]) ∧ Rd w' b none ∧ w.grownBy w' (some b) := by
  obtain ⟨ao, cap, h⟩ := hr.cells
  obtain ⟨hc0, hc1, hf0, hf1⟩ := cell_two h
  have H := hio h
  clear h hr
  generalize leftN s = n at *
  generalize badO s = t at *
  have hc2 : (w.setCell ⟨b, 0, none⟩ (.slice none 0 0)).cell? ⟨b, 1, none⟩ = some (.bool t) := by
    rw [cell_of_row _ b _ _ _ _ (heap_setCell_same w b 0 _ _ _ H.out)]; rfl
  have hf2 : (w.setCell ⟨b, 0, none⟩ (.slice none 0 0)).frozen? ⟨b, 1, none⟩ = false := frozen_of_row _ b _ _ _ (heap_setCell_same w b 0 _ _ _ H.out)
  go_enter Tryz.func64, Tryz.ntmps64
  go_wp2
  go_end0
  refine ⟨rfl, ?_, grown_trans (grown_set _ _ _ _) (grown_set _ _ _ _)⟩
  exact heap_setCell_same _ b 1 _ _ _ (heap_setCell_same w b 0 _ _ _ H.out)

def byteR : Option (List UInt8) → UInt8
  | some (c :: _) => c
  | _ => 0
def byteS : Option (List UInt8) → Option (List UInt8)
  | some (_ :: l) => some l
  | _ => none
theorem Rd.byte {w : World} {b : Nat} {l : List UInt8} {c : UInt8} {ad : Addr} {cap : Nat} (h : w.heap[b]? = some (.cells #[.slice (some ad) (l.length + 1) cap, .bool false] 112 (0, 0)))
    (hb : Bts w (.slice (some ad) (l.length + 1) cap) (c :: l)) (hne : ad.block < b) (ad' : Addr) (hd : cap ≠ 1 → ad' = ad.add 1) (hd1 : cap = 1 → ad' = ad) :
    Rd (w.setCell ⟨b, 0, none⟩ (.slice (some ad') l.length (cap - 1))) b (some l) := by
  have hbl : ad'.block = ad.block := by
    by_cases h1 : cap = 1
    · rw [hd1 h1]
    · rw [hd h1]; simp [Addr.add]
  obtain ⟨ao', n', cap', e, h1, h2, h3, h4, h5⟩ := hb
  cases e
  have hB : Bts w (.slice (some ad') l.length (cap - 1)) l := by
    refine ⟨_, _, _, rfl, rfl, by omega, by omega, (fun h => by cases h), fun ad2 h2' j hj => ?_⟩
    obtain rfl := Option.some.inj h2'
    have := h5 ad rfl (j + 1) (by simp; omega)
    rw [hd (by omega)]
    rw [show (ad.add 1).add j = ad.add (j + 1) from by rw [Addr.add_add]; rw [Nat.add_comm]]
    simpa using this
  refine ⟨some ad', cap - 1, heap_setCell_same w b 0 _ _ _ h, ?_, fun ad2 h2' => by obtain rfl := Option.some.inj h2'; rw [hbl]; exact hne⟩
  exact hB.other (grown_set w b 0 _) fun ad2 h2' => by obtain rfl := Option.some.inj h2'; rw [hbl]; omega

set_option maxHeartbeats 800000 in
theorem rbyte_any (b : Nat) (s : Option (List UInt8)) (w : World) (hr : Rd w b s) :
    Calls Tryz.prog 80 #[.pointer (some ⟨b, 0, none⟩)] w fun e w' => e = .returned (.int .u8 (byteR s).toNat) ∧ Rd w' b (byteS s) ∧ w.grownBy w' (some b) := by
  have HR := hio hr
  match s, hr, HR with
  | none, _, HR =>
    go_enter Tryz.func80, Tryz.ntmps80
    go_wp2_with (first | (go_at_call 68; refine (left_any _ _ _ HR.out).mono ?_; rintro e w' ⟨rfl, rfl⟩; simp only [leftN]) | (go_at_call 64; refine (spoil_any _ _ _ HR.out).mono ?_; rintro e w1 ⟨rfl, hr1, hg1⟩; have HR1 := hio hr1; clear hr1))
    go_ret
    exact ⟨rfl, HR1.out, hg1⟩
  | some [], _, HR =>
    go_enter Tryz.func80, Tryz.ntmps80
    go_wp2_with (first | (go_at_call 68; refine (left_any _ _ _ HR.out).mono ?_; rintro e w' ⟨rfl, rfl⟩; simp only [leftN, List.length_nil]) | (go_at_call 64; refine (spoil_any _ _ _ HR.out).mono ?_; rintro e w1 ⟨rfl, hr1, hg1⟩; have HR1 := hio hr1; clear hr1))
    go_ret
    exact ⟨rfl, HR1.out, hg1⟩
  | some (c :: l), hr, HR =>
    obtain ⟨ao, cap, h, hb, hne⟩ := hr
    have HB := hio hb
    obtain ⟨ao', n', cap', e, h1, h2, h3, h4, h5⟩ := hb
    cases e
    have hao : ∃ ad, ao = some ad := by cases ao with | none => exact absurd (h4 rfl) (by rw [List.length_cons] at h2; omega) | some ad => exact ⟨ad, rfl⟩
    obtain ⟨ad, rfl⟩ := hao
    have hcell : w.cell? ad = some (.int .u8 (c.toNat : Int)) := by have := h5 ad rfl 0 (by simp); rw [Addr.add_zero'] at this; exact this
    obtain ⟨hc0, hc1, hf0, hf1⟩ := cell_two h
    have H := hio h
    have hnb := hio (hne ad rfl)
    have hn : (((l.length + 1 : Nat) : Int) == 0) = false := by simp; omega
    clear h hne h5 h4 h1
    rw [List.length_cons] at hc0 h2
    go_enter Tryz.func80, Tryz.ntmps80
    go_wp2_with (first | (go_at_call 68; refine (left_any _ _ _ HR.out).mono ?_; rintro e w' ⟨rfl, rfl⟩; simp only [leftN, List.length_cons]))
    · have hc1' : cap = 1 := by assumption
      subst hc1'
      go_ret
      exact ⟨rfl, Rd.byte H.out HB.out hnb.out ad (fun h => absurd rfl h) (fun _ => rfl), grown_set _ _ _ _⟩
    · have hc1' : ¬ cap = 1 := by assumption
      go_ret
      exact ⟨rfl, Rd.byte H.out HB.out hnb.out _ (fun _ => by rw [Addr.add_succ']) (fun h => absurd h hc1'), grown_set _ _ _ _⟩

set_option maxHeartbeats 400000 in
theorem newReader_any (v : Value) (l : List UInt8) (w : World) (hv : Bts w v l) (hl : l.length ≤ 140737488355328) :
    Calls Tryz.prog 22 #[v] w fun e w' => ∃ b, e = .returned (.pointer (some ⟨b, 0, none⟩)) ∧ w.heap.size ≤ b ∧ Rd w' b (some l) ∧ Below w.heap.size w w' := by
  have HV := hio hv
  obtain ⟨va, vc, rfl⟩ := hv.shape
  clear hv
  go_enter Tryz.func22, Tryz.ntmps22
  go_wp2_with (at_builtin; refine wpl_append rfl _ _ rfl w.heap.size (.slice none 0 0) [] rfl (Own.nil _ _) _ l rfl HV.out (by simp; omega) (Nat.le_refl _) ?_; intro va' vc' w1 ho1 hg1)
  simp only [List.length_nil, Nat.zero_add, List.nil_append] at ho1
  have hB : Below w.heap.size w w1 := ⟨hg1.os, hg1.tape, hg1.output, hg1.size, fun k hk => hg1.block k hk (by simp [Value.ownBlock])⟩
  have HB := hio hB
  have hsz := hB.size
  go_ret
  refine ⟨w1.heap.size, rfl, hsz, ⟨va', vc', heap_alloc_new _ _, ho1.bts.alloc _, fun ad had => ?_⟩, HB.out.alloc hsz _⟩
  subst had
  exact (World.ownsRow.lt ho1 ad.block rfl).2
end Go.Proofs.YtnkjkaofgninnaaGreat
namespace Go.Proofs.YtnkjkaofgninnaaGreat
open Go.RowKit

/-- The rounds: c the byte that was taken last, n what has been read, l what is left. -/
def numGo : List UInt8 → Nat → Nat → Nat × Option (List UInt8)
  | [], c, n => if c < 128 then (n, some []) else (0, none)
  | d :: l, c, n => if c < 128 then (n, some (d :: l)) else if 144115188075855871 < n then (0, none) else numGo l d.toNat (n * 128 + d.toNat % 128)
def numR : Option (List UInt8) → Nat × Option (List UInt8)
  | none => (0, none)
  | some [] => (0, none)
  | some (c :: l) => if c.toNat = 128 then (0, none) else numGo l c.toNat (c.toNat % 128)
theorem numGo_low (l : List UInt8) (c n : Nat) (h : c < 128) : numGo l c n = (n, some l) := by cases l <;> simp [numGo, h]
theorem numGo_big (l : List UInt8) (c n : Nat) (h : ¬ c < 128) (hn : 144115188075855871 < n) : numGo l c n = (0, none) := by cases l <;> simp [numGo, h, hn]
theorem numGo_end (c n : Nat) (h : ¬ c < 128) : numGo [] c n = (0, none) := by simp [numGo, h]
theorem numGo_cons (l : List UInt8) (d : UInt8) (c n : Nat) (h : ¬ c < 128) (hn : ¬ 144115188075855871 < n) : numGo (d :: l) c n = numGo l d.toNat (n * 128 + d.toNat % 128) := by simp [numGo, h, hn]
theorem numGo_lt (l : List UInt8) (c n : Nat) (hn : n < 18446744073709551616) : (numGo l c n).1 < 18446744073709551616 := by
  induction l generalizing c n with
  | nil =>
    unfold numGo
    split
    · exact hn
    · simp
  | cons d l ih =>
    unfold numGo
    split
    · exact hn
    · split
      · simp
      · exact ih _ _ (by omega)
theorem numR_lt (s : Option (List UInt8)) : (numR s).1 < 18446744073709551616 := by
  match s with
  | none => simp [numR]
  | some [] => simp [numR]
  | some (c :: l) =>
    by_cases h : c.toNat = 128
    · simp [numR, h]
    · have := numGo_lt l c.toNat (c.toNat % 128) (by omega)
      simpa [numR, h] using this
/-- What is known at a round's head. -/
def NumSt (s : Option (List UInt8)) (c n : Nat) : Option (List UInt8) → Prop
  | some l => numR s = numGo l c n
  | none => c = 0 ∧ numR s = (0, none)
theorem NumSt.start (s : Option (List UInt8)) (h : (byteR s).toNat ≠ 128) : NumSt s (byteR s).toNat ((byteR s).toNat % 128) (byteS s) := by
  match s, h with
  | none, _ => exact ⟨rfl, rfl⟩
  | some [], _ => exact ⟨rfl, rfl⟩
  | some (c :: l), h => simp only [byteR] at h; simp [NumSt, numR, byteR, byteS, h]
theorem NumSt.low {s : Option (List UInt8)} {c n : Nat} {st : Option (List UInt8)} (h : NumSt s c n st) (hc : c < 128) : numR s = if badO st then (0, none) else (n, st) := by
  cases st with
  | none => exact h.2
  | some l => rw [show numR s = numGo l c n from h, numGo_low _ _ _ hc]; rfl
theorem NumSt.high {s : Option (List UInt8)} {c n : Nat} {st : Option (List UInt8)} (h : NumSt s c n st) (hc : ¬ c < 128) : ∃ l, st = some l ∧ numR s = numGo l c n := by
  cases st with
  | none => exact absurd h.1 (by omega)
  | some l => exact ⟨l, rfl, h⟩
theorem NumSt.next {s : Option (List UInt8)} {c n : Nat} {l : List UInt8} (h : numR s = numGo l c n) (hc : ¬ c < 128) (hn : ¬ 144115188075855871 < n) :
    NumSt s (byteR (some l)).toNat (n * 128 + (byteR (some l)).toNat % 128) (byteS (some l)) := by
  cases l with
  | nil => exact ⟨rfl, by rw [h, numGo_end _ _ hc]⟩
  | cons d l => show numR s = _; rw [h, numGo_cons _ _ _ _ hc hn]; rfl
theorem u8_and127 (c : Nat) (h : c < 256) : bits .and .u8 (c : Int) 127 = (c : Int) % 128 := by
  rw [u8_and _ 127 (by omega) (by omega) (by omega) (by omega)]
  have : (c : Int).toNat &&& (127 : Int).toNat = c % 128 := Nat.and_two_pow_sub_one_eq_mod _ 7
  rw [this]; omega
theorem u64_or_low (n m : Nat) (hn : n ≤ 144115188075855871) : bits .or .u64 ((n : Int) * 128) ((m : Int) % 128) = (n : Int) * 128 + (m : Int) % 128 := by
  rw [u64_or _ _ (by omega) (by omega) (by omega) (by omega)]
  have e : ((n : Int) * 128).toNat = 2 ^ 7 * n := by omega
  rw [e, ← Nat.two_pow_add_eq_or_of_lt (by omega)]; omega
/-- What is left, and whether the loop goes on: falls with each round. -/
def msr (b : Nat) (c : Value) (w : World) : Nat := 2 * (match w.cell? ⟨b, 0, none⟩ with | some (.slice _ n _) => n | _ => 0) + (if intOf c < 128 then 0 else 1)
theorem msr_of {w : World} {b : Nat} {s : Option (List UInt8)} (h : Rd w b s) (k : IntKind) (c : Int) : msr b (.int k c) w = 2 * leftN s + (if c < 128 then 0 else 1) := by
  obtain ⟨ao, cap, h⟩ := h.cells
  have := (cell_two h).1
  unfold msr
  rw [this]
  rfl

def Fits (c n : Nat) : Prop := c < 256 ∧ n ≤ 18446744073709551615
set_option maxHeartbeats 1600000 in
theorem rnum_any (b : Nat) (s : Option (List UInt8)) (w : World) (hr : Rd w b s) :
    Calls Tryz.prog 62 #[.pointer (some ⟨b, 0, none⟩)] w fun e w' => e = .returned (.int .u64 (numR s).1) ∧ Rd w' b (numR s).2 ∧ w.grownBy w' (some b) := by
  have HR := hio hr
  clear hr
  by_cases h128 : (byteR s).toNat = 128
  · have HN : Hid (numR s = (0, none)) := hio (by
      match s, h128 with
      | none, h => simp [byteR] at h
      | some [], h => simp [byteR] at h
      | some (c :: l), h => simp only [byteR] at h; simp [numR, h])
    go_enter Tryz.func62, Tryz.ntmps62
    go_wp2_with fail
    refine (rbyte_any _ _ _ HR.out).mono ?_
    rintro e w1 ⟨rfl, hr1, hg1⟩
    have HR1 := hio hr1
    clear hr1
    rw [h128]
    go_wp2_with fail
    refine (spoil_any _ _ _ HR1.out).mono ?_
    rintro e w2 ⟨rfl, hr2, hg2⟩
    have HR2 := hio hr2
    clear hr2
    go_wp2
    go_ret
    rw [HN.out]
    exact ⟨rfl, HR2.out, grown_trans hg1 hg2⟩
  · have hlt := (byteR s).toNat_lt
    have hst := NumSt.start s h128
    obtain ⟨c0, hc0⟩ : ∃ c0 : Nat, c0 = (byteR s).toNat := ⟨_, rfl⟩
    have HC := hio hc0
    rw [← hc0] at h128 hlt hst
    have HST := hio hst
    clear hc0 hst
    have e1 := u8_and127 c0 (by omega)
    have hb128 : ((c0 : Int) == 128) = false := by simp; omega
    have hlt2 : (c0 : Int) ≤ 255 := by omega
    clear hlt
    go_enter Tryz.func62, Tryz.ntmps62
    go_wp2_with fail
    refine (rbyte_any _ _ _ HR.out).mono ?_
    rintro e w1 ⟨rfl, hr1, hg1⟩
    rw [← HC.out]
    have HR1 := hio hr1
    have HG1 := hio hg1
    clear hr1 hg1 HR
    go_wp2
    clear e1 hb128
    go_loopw [3, 4] (fun cv nv wr => ∃ (c n : Nat) (st : Option (List UInt8)), cv = .int .u8 (c : Int) ∧ nv = .int .u64 (n : Int) ∧ Fits c n ∧ Rd wr b st ∧ w.grownBy wr (some b) ∧ NumSt s c n st) (fun cv _ wr => msr b cv wr)
    case atStart => exact ⟨c0, c0 % 128, byteS s, rfl, by simp, ⟨by omega, by omega⟩, HR1.out, HG1.out, HST.out⟩
    case round =>
      obtain ⟨c, n, st, rfl, rfl, hn, hrd, hg, hN⟩ := hrel
      clear HR1 HST HG1
      have HRD := hio hrd
      have HG := hio hg
      have HN := hio hN
      have hcl : (c : Int) ≤ 255 := by have := hn.1; omega
      have hn2 : (n : Int) ≤ 18446744073709551615 := by have := hn.2; omega
      clear hrd hg hN hn h128
      by_cases hc : (128 : Int) ≤ (c : Int)
      · obtain ⟨l, rfl, hl⟩ := HN.out.high (by omega)
        by_cases hbig : (144115188075855871 : Int) < (n : Int)
        · have HE := hio (hl.trans (numGo_big l c n (by omega) (by omega)))
          clear hl
          go_wp2_with (go_at_call 64; refine (spoil_any _ _ _ HRD.out).mono ?_; rintro e w2 ⟨rfl, hr2, hg2⟩; have HR2 := hio hr2; clear hr2)
          go_ret
          rw [HE.out]
          exact ⟨rfl, HR2.out, grown_trans HG.out hg2⟩
        · have HE := hio (NumSt.next hl (by omega) (by omega))
          clear hl
          have hbl := (byteR (some l)).toNat_lt
          have hm0 := msr_of HRD.out .u8 (c : Int)
          have HM0 := hio hm0
          clear hm0
          obtain ⟨d, hd⟩ : ∃ d : Nat, d = (byteR (some l)).toNat := ⟨_, rfl⟩
          rw [← hd] at HE hbl
          have HD := hio hd
          clear hd
          have e2 := u8_and127 d (by omega)
          have e3 := u64_or_low n d (by omega)
          have hdl : (d : Int) ≤ 255 := by omega
          clear hbl
          go_wp2_with (go_at_call 80; refine (rbyte_any _ _ _ HRD.out).mono ?_; rintro e w2 ⟨rfl, hr2, hg2⟩; rw [← HD.out]; have HR2 := hio hr2; clear hr2)
          go_roundw
          case rel => exact ⟨d, n * 128 + d % 128, _, rfl, by go_num, ⟨by omega, by omega⟩, HR2.out, grown_trans HG.out hg2, HE.out⟩
          case measure =>
            have h1 := msr_of HR2.out .u8 (d : Int)
            have h2 := HM0.out
            rw [if_neg (by omega)] at h2
            rw [h1, h2]
            have h3 := HD.out
            clear h1 h2
            cases l with
            | nil =>
              have : d = 0 := h3
              rw [if_pos (by omega)]; simp [leftN, byteS]
            | cons x l => simp only [leftN, byteS, List.length_cons]; split <;> omega
      · have HE := hio (HN.out.low (by omega))
        cases st with
        | none =>
          go_wp2_with (go_at_call 65; refine (bad_any _ _ _ HRD.out).mono ?_; rintro e w2 ⟨rfl, rfl⟩; simp only [badO])
          go_ret
          rw [HE.out]
          exact ⟨rfl, HRD.out, HG.out⟩
        | some l =>
          go_wp2_with (go_at_call 65; refine (bad_any _ _ _ HRD.out).mono ?_; rintro e w2 ⟨rfl, rfl⟩; simp only [badO])
          go_ret
          rw [HE.out]
          exact ⟨rfl, HRD.out, HG.out⟩
end Go.Proofs.YtnkjkaofgninnaaGreat
namespace Go.Proofs.YtnkjkaofgninnaaGreat
open Go.RowKit

def lenR (most : Nat) (s : Option (List UInt8)) : Nat × Option (List UInt8) := if most < (numR s).1 ∨ leftN (numR s).2 < (numR s).1 then (0, none) else numR s
theorem lenR_le (most : Nat) (s : Option (List UInt8)) : (lenR most s).1 ≤ most ∧ (lenR most s).1 ≤ leftN (lenR most s).2 := by
  unfold lenR
  split
  · simp
  · omega

set_option maxHeartbeats 1600000 in
theorem rlen_any (b : Nat) (s : Option (List UInt8)) (most : Int) (w : World) (hm0 : 0 ≤ most) (hm : most ≤ 4000000) (hr : Rd w b s) :
    Calls Tryz.prog 63 #[.pointer (some ⟨b, 0, none⟩), .int .u64 most] w fun e w' => e = .returned (.int .i64 (lenR most.toNat s).1) ∧ Rd w' b (lenR most.toNat s).2 ∧ w.grownBy w' (some b) := by
  have HR := hio hr
  have hnl := numR_lt s
  have HL : Hid (lenR most.toNat s = if most.toNat < (numR s).1 ∨ leftN (numR s).2 < (numR s).1 then (0, none) else ((numR s).1, (numR s).2)) := hio rfl
  obtain ⟨n, hn⟩ : ∃ n : Nat, n = (numR s).1 := ⟨_, rfl⟩
  obtain ⟨s2, hs2⟩ : ∃ s2, s2 = (numR s).2 := ⟨_, rfl⟩
  rw [← hn, ← hs2] at HL
  rw [← hn] at hnl
  have HN := hio hn
  have HS2 := hio hs2
  clear hr hn hs2
  have hn2 : (n : Int) ≤ 18446744073709551615 := by omega
  clear hnl
  by_cases h1 : most < (n : Int)
  · rw [if_pos (by omega)] at HL
    go_enter Tryz.func63, Tryz.ntmps63
    go_wp2_with (first
      | (go_at_call 62; refine (rnum_any _ _ _ HR.out).mono ?_; rintro e w1 ⟨rfl, hr1, hg1⟩; rw [← HN.out]; have HR1 := hio hr1; clear hr1)
      | (go_at_call 64; refine (spoil_any _ _ _ HR1.out).mono ?_; rintro e w2 ⟨rfl, hr2, hg2⟩; have HR2 := hio hr2; clear hr2))
    go_ret
    rw [HL.out]
    exact ⟨rfl, HR2.out, grown_trans hg1 hg2⟩
  · by_cases h2 : (leftN s2 : Int) < (n : Int)
    · rw [if_pos (by omega)] at HL
      obtain ⟨k, hk⟩ : ∃ k : Nat, k = leftN s2 := ⟨_, rfl⟩
      rw [← hk] at h2
      have HK := hio hk
      clear hk
      go_enter Tryz.func63, Tryz.ntmps63
      go_wp2_with (first
        | (go_at_call 62; refine (rnum_any _ _ _ HR.out).mono ?_; rintro e w1 ⟨rfl, hr1, hg1⟩; rw [← HN.out]; rw [← HS2.out] at hr1; have HR1 := hio hr1; clear hr1)
        | (go_at_call 68; refine (left_any _ _ _ HR1.out).mono ?_; rintro e w2 ⟨rfl, rfl⟩; rw [← HK.out])
        | (go_at_call 64; refine (spoil_any _ _ _ HR1.out).mono ?_; rintro e w2 ⟨rfl, hr2, hg2⟩; have HR2 := hio hr2; clear hr2))
      go_ret
      rw [HL.out]
      exact ⟨rfl, HR2.out, grown_trans hg1 hg2⟩
    · rw [if_neg (by omega)] at HL
      obtain ⟨k, hk⟩ : ∃ k : Nat, k = leftN s2 := ⟨_, rfl⟩
      rw [← hk] at h2
      have HK := hio hk
      clear hk
      have hkl : Hid (∀ w, Rd w b s2 → k ≤ 9223372036854775807) := hio fun w h => by rw [HK.out]; exact h.len
      go_enter Tryz.func63, Tryz.ntmps63
      go_wp2_with (first
        | (go_at_call 62; refine (rnum_any _ _ _ HR.out).mono ?_; rintro e w1 ⟨rfl, hr1, hg1⟩; rw [← HN.out]; rw [← HS2.out] at hr1; have hkk : (k : Int) ≤ 9223372036854775807 := Int.ofNat_le.2 (hkl.out _ hr1); have HR1 := hio hr1; clear hr1)
        | (go_at_call 68; refine (left_any _ _ _ HR1.out).mono ?_; rintro e w2 ⟨rfl, rfl⟩; rw [← HK.out]))
      go_ret
      rw [HL.out]
      exact ⟨rfl, HR1.out, hg1⟩

def textV (s : Option (List UInt8)) : List UInt8 :=
  match (lenR 1048576 s).2 with
  | none => []
  | some l => l.take (lenR 1048576 s).1
def textS (s : Option (List UInt8)) : Option (List UInt8) :=
  match (lenR 1048576 s).2 with
  | none => none
  | some l => some (l.drop (lenR 1048576 s).1)

theorem Rd.drop {w : World} {b n : Nat} {l : List UInt8} {ao : Option Addr} {cap : Nat} (h : w.heap[b]? = some (.cells #[.slice ao l.length cap, .bool false] 112 (0, 0)))
    (hb : Bts w (.slice ao l.length cap) l) (hne : ∀ ad, ao = some ad → ad.block < b) (hn : n ≤ l.length) (ao' : Option Addr) (hd : cap ≠ n → ao' = ao.map (·.add n)) (hd1 : cap = n → ao' = ao) (m : Nat) (hm : m = l.length - n) :
    Rd (w.setCell ⟨b, 0, none⟩ (.slice ao' m (cap - n))) b (some (l.drop n)) := by
  have hl : (l.drop n).length = m := by simp [hm]
  obtain ⟨ao1, n1, cap1, e, h1, h2, h3, h4, h5⟩ := hb
  cases e
  have hbl : ∀ ad, ao' = some ad → ad.block < b := by
    intro ad had
    by_cases hc : cap = n
    · rw [hd1 hc] at had; exact hne ad had
    · rw [hd hc] at had
      cases ao with
      | none => cases had
      | some a =>
        obtain rfl := Option.some.inj had
        have := hne a rfl
        have e : (a.add n).block = a.block := by simp [Addr.add]; split <;> rfl
        rw [e]; exact this
  have hB : Bts w (.slice ao' m (cap - n)) (l.drop n) := by
    refine ⟨_, _, _, rfl, hl.symm, by omega, by omega, ?_, fun ad had j hj => ?_⟩
    · intro h
      by_cases hc : cap = n
      · omega
      · rw [hd hc] at h
        cases ao with
        | none => have := h4 rfl; omega
        | some a => cases h
    · have hc : cap ≠ n := by rw [hl] at hj; omega
      rw [hd hc] at had
      cases ao with
      | none => cases had
      | some a =>
        obtain rfl := Option.some.inj had
        have := h5 a rfl (n + j) (by simp at hj; omega)
        rw [Addr.add_add, this]
        simp
  refine ⟨ao', cap - n, ?_, ?_, hbl⟩
  · rw [hl]; exact heap_setCell_same w b 0 _ _ _ h
  · rw [hl]; exact hB.other (grown_set w b 0 _) fun ad had => Nat.ne_of_lt (hbl ad had)
set_option maxRecDepth 100000 in
set_option maxHeartbeats 1600000 in
theorem rtext_any (b : Nat) (s : Option (List UInt8)) (w : World) (hr : Rd w b s) :
    Calls Tryz.prog 81 #[.pointer (some ⟨b, 0, none⟩)] w fun e w' => e = .returned (.string ⟨(textV s).toArray⟩) ∧ Rd w' b (textS s) ∧ w.grownBy w' (some b) := by
  have HR := hio hr
  have hle := lenR_le 1048576 s
  have HV : Hid (textV s = match (lenR 1048576 s).2 with | none => [] | some l => l.take (lenR 1048576 s).1) := hio rfl
  have HS : Hid (textS s = match (lenR 1048576 s).2 with | none => none | some l => some (l.drop (lenR 1048576 s).1)) := hio rfl
  obtain ⟨n, hn⟩ : ∃ n : Nat, n = (lenR 1048576 s).1 := ⟨_, rfl⟩
  obtain ⟨s2, hs2⟩ : ∃ s2, s2 = (lenR 1048576 s).2 := ⟨_, rfl⟩
  rw [← hn, ← hs2] at HV HS hle
  have HN := hio hn
  have HS2 := hio hs2
  clear hr hn hs2
  have hn2 : (n : Int) ≤ 1048576 := by omega
  cases s2 with
  | none =>
    have hV : textV s = [] := HV.out
    have hS : textS s = none := HS.out
    rw [hV, hS]
    clear hV hS hle
    go_enter Tryz.func81, Tryz.ntmps81
    go_wp2_with (first
      | (go_at_call 63; refine (rlen_any _ _ 1048576 _ (by omega) (by omega) HR.out).mono ?_; rw [show (1048576 : Int).toNat = 1048576 from rfl, ← HN.out, ← HS2.out]; rintro e w1 ⟨rfl, hr1, hg1⟩; have HR1 := hio hr1; clear hr1)
      | (go_at_call 65; refine (bad_any _ _ _ HR1.out).mono ?_; rintro e w4 ⟨rfl, rfl⟩; simp only [badO]))
    go_ret
    exact ⟨rfl, HR1.out, hg1⟩
  | some l =>
    have hV : textV s = l.take n := HV.out
    have hS : textS s = some (l.drop n) := HS.out
    rw [hV, hS]
    have hnl : n ≤ l.length := hle.2
    clear hV hS hle
    go_enter Tryz.func81, Tryz.ntmps81
    go_wp2_with fail
    refine (rlen_any _ _ 1048576 _ (by omega) (by omega) HR.out).mono ?_
    rw [show (1048576 : Int).toNat = 1048576 from rfl, ← HN.out, ← HS2.out]
    rintro e w1 ⟨rfl, hr1, hg1⟩
    have HR1 := hio hr1
    obtain ⟨ao, cap, h, hb, hne⟩ := hr1
    have hcs := conv_string _ _ _ (hb.take hnl)
    obtain ⟨hc0, hc1, hf0, hf1⟩ := cell_two h
    have hcap : l.length ≤ cap ∧ cap ≤ 9223372036854775807 := by obtain ⟨_, _, _, e, h1, h2, h3, -⟩ := hb; cases e; exact ⟨h2, h3⟩
    obtain ⟨hcap1, hcap2⟩ := hcap
    have H := hio h
    have HB := hio hb
    have HNE := hio hne
    clear h hb hne
    go_wp2_with (go_at_call 65; refine (bad_any _ _ _ HR1.out).mono ?_; rintro e w4 ⟨rfl, rfl⟩; simp only [badO])
    · have hcn : cap = n := by assumption
      have hd := hio (Rd.drop H.out HB.out HNE.out hnl ao (fun h => absurd hcn h) (fun _ => rfl) _ rfl)
      rw [show cap - n = 0 from by omega] at hd
      go_ret
      exact ⟨rfl, hd.out, grown_trans hg1 (grown_set _ _ _ _)⟩
    · have hcn : ¬ cap = n := by assumption
      have hd := hio (Rd.drop H.out HB.out HNE.out hnl (ao.map (·.add n)) (fun _ => rfl) (fun h => absurd h hcn) _ rfl)
      go_ret
      exact ⟨rfl, hd.out, grown_trans hg1 (grown_set _ _ _ _)⟩
end Go.Proofs.YtnkjkaofgninnaaGreat
namespace Go.Proofs.YtnkjkaofgninnaaGreat
open Go.RowKit

/-- What a row of groups is worth behind n. -/
def gval : List UInt8 → Nat → Nat
  | [], n => n
  | c :: p, n => gval p (n * 128 + c.toNat % 128)
def High (p : List UInt8) : Prop := ∀ c ∈ p, 128 ≤ c.toNat
theorem ofNat_toNat {n : Nat} (h : n < 256) : (UInt8.ofNat n).toNat = n := by rw [UInt8.toNat_ofNat', Nat.mod_eq_of_lt (by simpa using h)]

theorem numHiF_app (f n : Nat) (a b : List UInt8) : numHiF f n (a ++ b) = numHiF f n a ++ b := by
  induction f generalizing n a with
  | zero => rfl
  | succ f ih =>
    simp only [numHiF]
    split
    · rfl
    · rw [← List.cons_append]; exact ih _ _
theorem numHi_app (n : Nat) (a b : List UInt8) : numHi n (a ++ b) = numHi n a ++ b := numHiF_app _ _ _ _
theorem numB_eq (n : Nat) : numB n = numHi (n / 128) [] ++ [UInt8.ofNat (n % 128)] := by
  unfold numB; rw [← numHi_app]; rfl
theorem numHiF_gval (f n : Nat) (a : List UInt8) (h : n ≤ f) : gval (numHiF f n a) 0 = gval a n := by
  induction f generalizing n a with
  | zero =>
    obtain rfl : n = 0 := by omega
    rfl
  | succ f ih =>
    simp only [numHiF]
    split
    · subst_vars; rfl
    · rw [ih _ _ (by omega)]
      show gval a (n / 128 * 128 + (UInt8.ofNat (n % 128 + 128)).toNat % 128) = _
      rw [ofNat_toNat (by omega)]
      congr 1; omega
theorem numHi_gval (n : Nat) : gval (numHi n []) 0 = n := numHiF_gval _ _ _ (Nat.le_refl _)
theorem numHiF_high (f n : Nat) (a : List UInt8) (h : High a) : High (numHiF f n a) := by
  induction f generalizing n a with
  | zero => exact h
  | succ f ih =>
    simp only [numHiF]
    split
    · exact h
    · refine ih _ _ ?_
      intro c hc
      rcases List.mem_cons.1 hc with rfl | hc
      · rw [ofNat_toNat (by omega)]; omega
      · exact h c hc
theorem numHi_high (n : Nat) : High (numHi n []) := numHiF_high _ _ _ (fun c hc => by simp at hc)
/-- The first group above the lowest is never nought. -/
theorem numHiF_head (f n : Nat) (a : List UInt8) (h : n ≤ f) (hp : 0 < n) : ∃ c t, numHiF f n a = c :: t ∧ c.toNat ≠ 128 := by
  induction f generalizing n a with
  | zero => omega
  | succ f ih =>
    simp only [numHiF]
    rw [if_neg (by omega)]
    rcases Nat.eq_zero_or_pos (n / 128) with h0 | h0
    · rw [h0, numHiF_zero]
      exact ⟨_, _, rfl, by rw [ofNat_toNat (by omega)]; omega⟩
    · exact ih _ _ (by omega) h0
theorem gval_mono (p : List UInt8) (n : Nat) : n ≤ gval p n := by
  induction p generalizing n with
  | nil => exact Nat.le_refl _
  | cons c p ih => exact Nat.le_trans (by omega) (ih _)

/-- A reading group by group. -/
def scan : List UInt8 → Nat → Option (Nat × List UInt8)
  | [], _ => none
  | c :: l, n => if 144115188075855871 < n then none else if c.toNat < 128 then some (n * 128 + c.toNat, l) else scan l (n * 128 + c.toNat % 128)
def toR : Option (Nat × List UInt8) → Nat × Option (List UInt8)
  | none => (0, none)
  | some (n, l) => (n, some l)
theorem numGo_scan (l : List UInt8) (c n : Nat) (hc : ¬ c < 128) : numGo l c n = toR (scan l n) := by
  induction l generalizing c n with
  | nil => rw [numGo_end _ _ hc]; rfl
  | cons d l ih =>
    by_cases hn : 144115188075855871 < n
    · rw [numGo_big _ _ _ hc hn]; simp [scan, hn, toR]
    · rw [numGo_cons _ _ _ _ hc hn]
      by_cases hd : d.toNat < 128
      · rw [numGo_low _ _ _ hd]; simp only [scan, if_neg hn, if_pos hd, toR]; rw [Nat.mod_eq_of_lt hd]
      · rw [ih _ _ hd]; simp only [scan, if_neg hn, if_neg hd]
theorem numR_scan (c : UInt8) (l : List UInt8) (h : c.toNat ≠ 128) : numR (some (c :: l)) = toR (scan (c :: l) 0) := by
  show (if c.toNat = 128 then _ else _) = _
  rw [if_neg h]
  by_cases hc : c.toNat < 128
  · rw [numGo_low _ _ _ hc]; simp only [scan, if_pos hc]; rw [if_neg (by omega), Nat.mod_eq_of_lt hc]; simp [toR]
  · rw [numGo_scan _ _ _ hc]; simp only [scan, if_neg hc]; rw [if_neg (by omega)]; simp
theorem scan_of (p : List UInt8) (c : UInt8) (r : List UInt8) (n : Nat) (hp : High p) (hc : c.toNat < 128) (hv : gval p n ≤ 144115188075855871) : scan (p ++ c :: r) n = some (gval p n * 128 + c.toNat, r) := by
  induction p generalizing n with
  | nil =>
    have : n ≤ 144115188075855871 := hv
    simp only [List.nil_append, scan, gval]
    rw [if_neg (by omega), if_pos hc]
  | cons d p ih =>
    have hd := hp d (List.mem_cons_self ..)
    have hm : n ≤ gval (d :: p) n := gval_mono _ _
    simp only [List.cons_append, scan]
    rw [if_neg (by omega), if_neg (by omega)]
    exact ih _ (fun x hx => hp x (List.mem_cons_of_mem _ hx)) hv
/-- What is laid is read back. -/
theorem numR_numB (n : Nat) (l : List UInt8) (hn : n < 18446744073709551616) : numR (some (numB n ++ l)) = (n, some l) := by
  have hs : scan (numB n ++ l) 0 = some (n, l) := by
    rw [numB_eq, List.append_assoc]
    have := scan_of (numHi (n / 128) []) (UInt8.ofNat (n % 128)) l 0 (numHi_high _) (by rw [ofNat_toNat (by omega)]; omega) (by rw [numHi_gval]; omega)
    rw [numHi_gval, ofNat_toNat (by omega)] at this
    rw [show n / 128 * 128 + n % 128 = n from by omega] at this
    exact this
  obtain ⟨c, t, hct, hne⟩ : ∃ c t, numB n ++ l = c :: t ∧ c.toNat ≠ 128 := by
    rw [numB_eq]
    rcases Nat.eq_zero_or_pos (n / 128) with h0 | h0
    · rw [h0, numHi_zero]
      exact ⟨_, _, rfl, by rw [ofNat_toNat (by omega)]; omega⟩
    · obtain ⟨c, t, h, hc⟩ := numHiF_head (n / 128) (n / 128) [] (Nat.le_refl _) h0
      have h' : numHi (n / 128) [] = c :: t := h
      rw [h']
      exact ⟨c, _, rfl, hc⟩
  rw [hct] at hs ⊢
  rw [numR_scan _ _ hne, hs]; rfl
end Go.Proofs.YtnkjkaofgninnaaGreat
namespace Go.Proofs.YtnkjkaofgninnaaGreat
open Go.RowKit

theorem numHi_ge (j n : Nat) (acc : List UInt8) (h : n < 128 ^ j) : acc.length ≤ (numHi n acc).length := by
  induction j generalizing n acc with
  | zero =>
    obtain rfl : n = 0 := by simpa using h
    rw [numHi_zero]; exact Nat.le_refl _
  | succ j ih =>
    rcases Nat.eq_zero_or_pos n with rfl | hp
    · rw [numHi_zero]; exact Nat.le_refl _
    · rw [numHi_pos _ _ hp]
      have := ih (n / 128) (UInt8.ofNat (n % 128 + 128) :: acc) (Nat.div_lt_of_lt_mul (by rw [Nat.pow_succ] at h; omega))
      simp only [List.length_cons] at this; omega

set_option maxHeartbeats 400000 in
theorem refNum_any (n : Int) (w : World) (h0 : 0 ≤ n) (h1 : n < 18446744073709551616) :
    Calls Tryz.prog 32 #[.int .u64 n] w fun e w' => ∃ va vc, e = .returned (.slice va (numB n.toNat).length vc) ∧ Own w' w.heap.size (.slice va (numB n.toNat).length vc) (numB n.toNat) ∧ Below w.heap.size w w' := by
  obtain ⟨n0, rfl⟩ := Int.eq_ofNat_of_zero_le h0
  rw [Int.toNat_natCast]
  have hnl := numB_len n0 (by omega)
  go_enter Tryz.func32, Tryz.ntmps32
  go_wp2
  go_loopw [0, 3] (fun nv bvv wr => ∃ (q : Nat) (acc : List UInt8) (va : Option Addr) (vc : Nat), nv = .int .u64 q ∧ q ≤ n0 ∧ bvv = .slice va acc.length vc ∧ Own wr w.heap.size (.slice va acc.length vc) acc ∧ numHi (q / 128) acc = numB n0 ∧ Below w.heap.size w wr) (fun nv _ _ => (intOf nv).toNat)
  case atStart =>
    exact ⟨n0, [UInt8.ofNat (n0 % 128)], _, _, rfl, by omega, rfl, Own.lit w _ [UInt8.ofNat (n0 % 128)] _ (by rw [List.map_cons, bv_num _ (by omega)]; simp) (Nat.le_refl _) 1 rfl (by omega), rfl, (Below.refl _ _).alloc (Nat.le_refl _) _⟩
  case round =>
    obtain ⟨q, acc, va, vc, rfl, hq, rfl, hown, hN, hb⟩ := hrel
    have hal : acc.length ≤ 10 := by
      have := numHi_ge 10 (q / 128) acc (by simp; omega)
      rw [hN] at this; omega
    have hsz := hb.size
    have HN := hio hN
    have HO := hio hown
    have H1 := hio h1
    clear hN hown h1
    have hq2 : (q : Int) ≤ 18446744073709551615 := by have := H1.out; omega
    by_cases hp : (128 : Int) ≤ (q : Int)
    · have HO1 := hio (Own.lit wr w.heap.size [UInt8.ofNat (q / 128 % 128 + 128)] #[.int .u8 ((q : Int) / 128 % 128 + 128)] (by rw [List.map_cons, bv_num _ (by omega)]; simp) hsz 1 rfl (by omega))
      have HB1 := hio (HO.out.bts.alloc (.cells #[.int .u8 ((q : Int) / 128 % 128 + 128)] 5))
      go_wp2_with (at_builtin; refine wpl_append rfl (.tmp 16) (.tmp 17) rfl w.heap.size (.slice (some ⟨wr.heap.size, 0, none⟩) 1 1) [UInt8.ofNat (q / 128 % 128 + 128)] rfl HO1.out _ acc rfl HB1.out (by simp; omega) (by simp; omega) ?_; intro va1 vc1 w2 ho1 hg1; have hb2 : Below w.heap.size w w2 := (hb.alloc hsz _).trans (below_grown HO1.out hg1 (by simp; omega)); have HO2 := hio ho1; clear ho1)
      go_roundw
      case rel =>
        refine ⟨q / 128, UInt8.ofNat (q / 128 % 128 + 128) :: acc, va1, vc1, by go_num, by omega, ?_, ?_, ?_, hb2⟩
        · rw [List.length_cons]; simp [Nat.add_comm]
        · have := HO2.out; simpa [Nat.add_comm] using this
        · rw [← numHi_pos _ _ (by omega)]; exact HN.out
      case measure => simp [intOf]; omega
    · go_wp2
      go_ret
      have hd : acc = numB n0 := by have := HN.out; rw [show q / 128 = 0 from by omega, numHi_zero] at this; exact this
      subst hd
      exact ⟨_, _, rfl, HO.out, hb⟩

end Go.Proofs.YtnkjkaofgninnaaGreat
namespace Go.Proofs.YtnkjkaofgninnaaGreat
open Go.RowKit

/-- A function value is not nil. -/
theorem run_eql_fn {P : Program} {t : TypeId} {a b : Array TypeId} {v : Bool} (w : World) (fn : Fn) (x y : Array Value) (h : P.underlying t = some (.func a b v)) : (binOp .eql t (.func fn x y) .nilFunc).run P w = .ok (.bool false) w := by
  have h : ∀ d : Nat, (Op.equalIn (d + 1) t (.func fn x y) .nilFunc).run P w = .ok false w := fun d => by simp [Op.equalIn, run_underlying h]
  simp only [binOp]
  simp [Op.equal, Op.maxDepth, h 9999]
def numV (s : Option (List UInt8)) : Nat := (numR s).1
def numS (s : Option (List UInt8)) : Option (List UInt8) := (numR s).2
theorem grown_any {w w' : World} {r : Option Nat} (h : w.grownBy w' none) : w.grownBy w' r := ⟨h.os, h.tape, h.output, h.size, fun k hk _ => h.block k hk (by simp)⟩
theorem Rd.own {w1 w2 : World} {b base : Nat} {s : Option (List UInt8)} {te : TypeId} {v : Value} {n : Nat} {xs : List Value} (h : Rd w1 b s) (ho : w1.ownsRow base te 1 v n xs) (hb : b < base) (hg : w1.grownBy w2 v.ownBlock) : Rd w2 b s :=
  h.beyond fun k hk => hg.block k (Nat.lt_of_le_of_lt hk h.lt) (fun e => by have := (World.ownsRow.lt ho k e.symm).1; omega)
end Go.Proofs.YtnkjkaofgninnaaGreat
namespace Go.Proofs.YtnkjkaofgninnaaGreat
open Go.RowKit

/-- The value v is a slice whose elements are xs, in blocks below B. -/
def RowB {α : Type} (ev : α → Value) (B : Nat) (w : World) (v : Value) (xs : List α) : Prop :=
  ∃ ao n cap, v = .slice ao n cap ∧ n = xs.length ∧ n ≤ cap ∧ cap ≤ 9223372036854775807 ∧ (ao = none → cap = 0) ∧
    ∀ ad, ao = some ad → ∀ j, (h : j < xs.length) → w.cell? (ad.add j) = some (ev xs[j]) ∧ ad.block < B
theorem RowB.below {α : Type} {ev : α → Value} {B B' : Nat} {w w' : World} {v : Value} {xs : List α} (h : RowB ev B w v xs) (hb : Below B' w w') (hB : B ≤ B') : RowB ev B w' v xs := by
  obtain ⟨ao, n, cap, rfl, h1, h2, h3, h4, h5⟩ := h
  refine ⟨ao, n, cap, rfl, h1, h2, h3, h4, fun ad had j hj => ?_⟩
  have := h5 ad had j hj
  refine ⟨?_, this.2⟩
  have e : (ad.add j).block = ad.block := by simp [Addr.add]; split <;> rfl
  rw [hb.cell (p := ad.add j) (by rw [e]; omega)]
  exact this.1
theorem RowB.shape {α : Type} {ev : α → Value} {B : Nat} {w : World} {v : Value} {xs : List α} (h : RowB ev B w v xs) : ∃ va vc, v = .slice va xs.length vc := by
  obtain ⟨ao, n, cap, rfl, rfl, -⟩ := h; exact ⟨_, _, rfl⟩
theorem RowB.at {α : Type} {ev : α → Value} {B : Nat} {w : World} {va : Option Addr} {n vc : Nat} {xs : List α} (h : RowB ev B w (.slice va n vc) xs) (i : Nat) (hi : i < xs.length) : ∃ ad, va = some ad ∧ w.cell? (ad.add i) = some (ev xs[i]) := by
  obtain ⟨ao, _, _, e, h1, h2, h3, h4, h5⟩ := h
  cases e
  cases va with
  | none => exact absurd (h4 rfl) (by omega)
  | some ad => exact ⟨ad, rfl, (h5 ad rfl i hi).1⟩
/-- What is laid of a list. -/
def listB {α : Type} (enc : α → List UInt8) (xs : List α) : List UInt8 := numB xs.length ++ xs.flatMap enc
theorem flat_take {α : Type} (enc : α → List UInt8) (xs : List α) (i : Nat) (h : i < xs.length) : (xs.take (i + 1)).flatMap enc = (xs.take i).flatMap enc ++ enc xs[i] := by
  rw [List.take_succ_eq_append_getElem h, List.flatMap_append]; simp
end Go.Proofs.YtnkjkaofgninnaaGreat
namespace Go.Proofs.YtnkjkaofgninnaaGreat
open Go.RowKit
set_option maxRecDepth 100000

end Go.Proofs.YtnkjkaofgninnaaGreat
namespace Go.Proofs.YtnkjkaofgninnaaGreat
open Go.RowKit

theorem flat_ge {α : Type} (enc : α → List UInt8) (xs : List α) (h : ∀ x ∈ xs, 1 ≤ (enc x).length) : xs.length ≤ (xs.flatMap enc).length := by
  induction xs with
  | nil => simp
  | cons x xs ih =>
    have h1 := h x (List.mem_cons_self ..)
    have h2 := ih fun y hy => h y (List.mem_cons_of_mem _ hy)
    rw [List.flatMap_cons, List.length_append, List.length_cons]; omega
theorem numB_pos (n : Nat) : 1 ≤ (numB n).length := by rw [numB_eq]; simp
theorem num_back (n : Nat) (h : n < 18446744073709551616) (t : List UInt8) : numV (some (numB n ++ t)) = n ∧ numS (some (numB n ++ t)) = some t := by
  unfold numV numS; rw [numR_numB _ _ h]; exact ⟨rfl, rfl⟩
theorem text_back (s : ByteArray) (h : s.size ≤ 1048576) (t : List UInt8) : textV (some (textB s ++ t)) = s.data.toList ∧ textS (some (textB s ++ t)) = some t := by
  have hl : s.data.toList.length = s.size := by simp
  have e : lenR 1048576 (some (textB s ++ t)) = (s.size, some (s.data.toList ++ t)) := by
    unfold lenR textB
    rw [List.append_assoc, numR_numB _ _ (by omega), if_neg]
    simp only [leftN, List.length_append, hl]; omega
  unfold textV textS
  rw [e]
  refine ⟨?_, ?_⟩
  · show (s.data.toList ++ t).take s.size = _
    rw [← hl, List.take_left]
  · show some ((s.data.toList ++ t).drop s.size) = _
    rw [← hl, List.drop_left]
end Go.Proofs.YtnkjkaofgninnaaGreat
namespace Go.Proofs.YtnkjkaofgninnaaGreat
open Go.RowKit

end Go.Proofs.YtnkjkaofgninnaaGreat
namespace Go.Proofs.YtnkjkaofgninnaaGreat
open Go.RowKit
set_option linter.unusedVariables false

end Go.Proofs.YtnkjkaofgninnaaGreat
namespace Go.Proofs.YtnkjkaofgninnaaGreat
open Go.RowKit
set_option linter.unusedVariables false
set_option linter.unusedSimpArgs false

/-- The types of the blocks that a Writer turns. -/
abbrev WT : List TypeId := [49, 5]
/-- What a Writer's call leaves. -/
structure Wb (b : Nat) (w w' : World) : Prop where
  bel : Below b w w'
  kt : Kt WT w w'
  ko : KeepsOthers w w'
theorem Wb.trans {b : Nat} {w w1 w2 : World} (h : Wb b w w1) (k : Wb b w1 w2) : Wb b w w2 := ⟨h.bel.trans k.bel, h.kt.same k.kt, h.ko.trans k.ko⟩
theorem Wb.refl (b : Nat) (w : World) : Wb b w w := ⟨Below.refl _ _, Kt.refl _ _, KeepsOthers.refl _⟩
theorem Wb.new {b : Nat} {w w' : World} (h : Below w.heap.size w w') (hb : b ≤ w.heap.size) : Wb b w w' := ⟨h.mono hb, Kt.below _ h, h.size, fun k _ hk _ => (h.block k (lt_of_block hk)).trans hk⟩
theorem Wb.alloc {b : Nat} {w w' : World} (h : Wb b w w') (hb : b < w'.heap.size) (o : Obj) : Wb b w (w'.alloc o) := h.trans (.new ((Below.refl _ _).alloc (Nat.le_refl _) _) (Nat.le_of_lt hb))
set_option maxHeartbeats 400000 in
theorem lay_kt (b : Nat) (l : List UInt8) (u : Value) (m : List UInt8) (w : World) (hw : Wr w b l) (hu : Bts w u m) (hsz : l.length + m.length ≤ 140737488355328) :
    Calls Tryz.prog 76 #[.pointer (some ⟨b, 0, none⟩), u] w fun e w' => e = .returned (.tuple #[]) ∧ Wr w' b (l ++ m) ∧ Wb b w w' := by
  have hlt := hw.lt
  have HU : Hid (Bts w u m) := hu
  obtain ⟨ua, uc, rfl⟩ := hu.shape
  clear hu
  obtain ⟨va, vc, h1, h2⟩ := hw
  have hc := cell_of_one h1
  have hf := free_of_one h1
  have H1 : Hid (w.heap[b]? = some (.cells #[.slice va l.length vc] 49 (0, 0))) := h1
  have H2 : Hid (Own w (b + 1) (.slice va l.length vc) l) := h2
  clear h1 h2
  go_enter Tryz.func76, Tryz.ntmps76
  go_wp2_with (at_builtin; refine wpl_append rfl _ _ rfl (b + 1) (.slice va l.length vc) l rfl H2.out _ m rfl HU.out hsz (by omega) ?_; intro va' vc' w1 ho1 hg1; have hk1 := grown_block H2.out hg1 hlt b (Nat.le_refl _); have hc1 : w1.cell? ⟨b, 0, none⟩ = some (.slice va l.length vc) := (World.cell?_of_block hk1).trans hc; have hf1 : w1.frozen? ⟨b, 0, none⟩ = false := (World.frozen?_of_block hk1).trans hf)
  go_end0
  have e : (l ++ m).length = l.length + m.length := List.length_append
  rw [← e] at ho1 ⊢
  have hs := Wr.stored H2.out H1.out hg1 ho1
  exact ⟨rfl, hs.1, hs.2, ((Kt.refl WT w).grown H2.out hg1 (by decide)).set b 0 _ (hk1.trans H1.out) (by decide), (KeepsOthers.of_grownBy hg1 fun j o hj hoj => by
    obtain ⟨cur, hc⟩ := own_typed H2.out hj
    rw [hc] at hoj; cases hoj; rfl).trans (KeepsOthers.setCell _ _ _)⟩
set_option maxHeartbeats 400000 in
theorem num_kt (b : Nat) (l : List UInt8) (n : Int) (w : World) (h0 : 0 ≤ n) (h1 : n < 18446744073709551616) (hw : Wr w b l) (hsz : l.length ≤ 140737488350000) :
    Calls Tryz.prog 56 #[.pointer (some ⟨b, 0, none⟩), .int .u64 n] w fun e w' => e = .returned (.tuple #[]) ∧ Wr w' b (l ++ numB n.toNat) ∧ Wb b w w' := by
  have hlt := hw.lt
  have HW : Hid (Wr w b l) := hw
  clear hw
  obtain ⟨n0, rfl⟩ := Int.eq_ofNat_of_zero_le h0
  rw [Int.toNat_natCast]
  have e1 := u64_and127 n0 h0 h1
  go_enter Tryz.func56, Tryz.ntmps56
  go_wp2
  clear e1
  go_loopw [1, 5] (fun nv av wr => ∃ (q a : Nat) (acc : List UInt8) (cs : Array Value), nv = .int .u64 q ∧ av = .int .i64 a ∧ q < 18446744073709551616 ∧ NumAt n0 q a acc ∧ cs.size = 10 ∧ cs.toList.drop a = acc.map bv ∧ wr = w.alloc (.cells cs 127)) (fun nv _ _ => (intOf nv).toNat)
  case atStart =>
    exact ⟨n0 / 128, 9, _, _, by simp, rfl, by omega, NumAt.start n0, rfl, by rw [List.map_cons, bv_num _ (by omega)]; simp, rfl⟩
  case round =>
    obtain ⟨q, a, acc, cs, rfl, rfl, hq, hN, hs, hd, rfl⟩ := hrel
    have ha := hN.1
    have HN : Hid (NumAt n0 q a acc) := hN
    clear hN
    have HD : Hid (cs.toList.drop a = acc.map bv) := hd
    clear hd
    by_cases hp : 0 < q
    · have hr := HN.out.room (by omega) hp
      have e2 := u64_and127 q (by omega) (by omega)
      have e3 := u64_or128 ((q : Int) % 128) (by omega) (by omega)
      have HQ : Hid (q < 18446744073709551616) := hq
      have H1 : Hid ((n0 : Int) < 18446744073709551616) := h1
      clear hq h1
      obtain ⟨old, hold⟩ : ∃ old, cs[a - 1]? = some old := ⟨cs[a - 1]'(by omega), by simp [show a - 1 < cs.size from by omega]⟩
      go_wp2
      go_roundw
      case rel =>
        have hst := HN.out.step (by have := H1.out; omega) hp
        have hds := drop_set (c := UInt8.ofNat (q % 128 + 128)) hs hr ha HD.out (v := .int .u8 ((q : Int) % 128 + 128)) (by rw [bv_num _ (by omega)]; simp)
        exact ⟨q / 128, a - 1, _, _, by go_num, by go_num, by have := HQ.out; omega, hst, hds.1, hds.2, rfl⟩
      case measure => simp [intOf]; omega
    · have hsl := fun (w' : World) => slice_arr w' ⟨w.heap.size, 0, none⟩ a ha
      obtain rfl : q = 0 := by omega
      have hdone := HN.out.done
      have hlen := HN.out.2.1
      have hW1 := HW.out.below ((Below.refl _ _).alloc (Nat.le_refl _) (.cells cs 127))
      have hbts := bts_arr w cs a (numB n0) 127 hs ha (by rw [← hdone]; exact HD.out)
      have HW1 := hio hW1
      have HB := hio hbts
      have hnl := numB_len n0 (by omega)
      clear hW1 hbts hq h1
      go_wp2_with (go_at_call 76; refine (lay_kt _ _ _ _ _ HW1.out HB.out (by omega)).mono ?_; rintro e w' ⟨rfl, hw', hb'⟩)
      go_end0
      exact ⟨rfl, hw', ((Wb.refl _ _).alloc hlt _).trans hb'⟩
set_option maxHeartbeats 400000 in
theorem text_kt (b : Nat) (l : List UInt8) (s : ByteArray) (w : World) (hw : Wr w b l) (hsz : l.length + s.size ≤ 140737488340000) :
    Calls Tryz.prog 79 #[.pointer (some ⟨b, 0, none⟩), .string s] w fun e w' => e = .returned (.tuple #[]) ∧ Wr w' b (l ++ textB s) ∧ Wb b w w' := by
  have HW := hio hw
  clear hw
  have hnl := numB_len s.size (by omega)
  go_enter Tryz.func79, Tryz.ntmps79
  go_wp2_with fail
  refine (num_kt _ _ _ _ (by omega) (by omega) HW.out (by omega)).mono ?_
  rintro e w1 ⟨rfl, hw1, hb1⟩
  have hlt := hw1.lt
  have HW1 := hio hw1
  clear hw1
  obtain ⟨cap, W2, hrun, hbts, hb2⟩ := conv_bytes w1 s (by omega)
  have HB := hio hbts
  clear hbts
  go_wp2_with fail
  refine (lay_kt _ _ _ _ _ (HW1.out.below hb2) HB.out (by simp; omega)).mono ?_
  rintro e w3 ⟨rfl, hw3, hb3⟩
  have HW3 := hio hw3
  clear hw3
  go_wp2
  go_end0
  refine ⟨rfl, by unfold textB; simpa using HW3.out, (hb1.trans (.new hb2 (by omega))).trans hb3⟩
theorem flat_lenM {α : Type} (enc : α → List UInt8) (xs : List α) (M : Nat) (h : ∀ x ∈ xs, (enc x).length ≤ M) : (xs.flatMap enc).length ≤ M * xs.length := by
  induction xs with
  | nil => simp
  | cons x xs ih =>
    have h1 := h x (List.mem_cons_self ..)
    have h2 := ih fun y hy => h y (List.mem_cons_of_mem _ hy)
    rw [List.flatMap_cons, List.length_append, List.length_cons, Nat.mul_succ]; omega
theorem flat_take_lenM {α : Type} (enc : α → List UInt8) (xs : List α) (i M : Nat) (h : ∀ x ∈ xs, (enc x).length ≤ M) : ((xs.take i).flatMap enc).length ≤ M * xs.length := by
  have := flat_lenM enc (xs.take i) M fun x hx => h x (List.mem_of_mem_take hx)
  have h2 : (xs.take i).length ≤ xs.length := List.length_take_le' _ _
  exact Nat.le_trans this (Nat.mul_le_mul_left _ h2)
theorem textB_lenM (s : ByteArray) (h : s.size ≤ 1048576) : (textB s).length ≤ 1048586 := by
  unfold textB
  have := numB_len s.size (by omega)
  rw [List.length_append, show s.data.toList.length = s.size from by simp]; omega
def tv (x : ByteArray) : Value := .string x
end Go.Proofs.YtnkjkaofgninnaaGreat
namespace Go.Proofs.YtnkjkaofgninnaaGreat
open Go.RowKit Go.Maps Go.Shelf
set_option linter.unusedVariables false
set_option linter.unusedSimpArgs false

set_option maxRecDepth 100000 in
set_option maxHeartbeats 1600000 in
theorem layNum_kt (b : Nat) (l : List UInt8) (n : Int) (w : World) (h0 : 0 ≤ n) (h1 : n ≤ 9223372036854775807) (hw : Wr w b l) (hsz : l.length ≤ 140737488350000) :
    Calls Tryz.prog 16 #[.pointer (some ⟨b, 0, none⟩), .int .i64 n] w fun e w' => e = .returned (.tuple #[]) ∧ Wr w' b (l ++ numB n.toNat) ∧ Wb b w w' := by
  have H := hid (num_kt b l n w h0 (by omega) hw hsz)
  have hu : IntKind.u64.wrap n = n := IntWalk.u64_in _ ⟨h0, by omega⟩
  clear hw hsz
  go_enter Tryz.func16, Tryz.ntmps16
  go_wp2_with (go_at_call 56; refine H.out.mono ?_; rintro e w2 ⟨rfl, hw2, hb2⟩; have W2 := hid hw2; have B2 := hid hb2; clear hw2 hb2)
  go_end0
  exact ⟨rfl, W2.out, B2.out⟩
/-- The members as bytes, and an origin's bytes. -/
def memY (l : List Int) : List UInt8 := l.map fun n => UInt8.ofNat n.toNat
def orBy (o : OrD) : List UInt8 := numB o.id.toNat ++ numB o.fr.toNat ++ numB o.to.toNat ++ textB ⟨(memY o.mem).toArray⟩
theorem memY_len (l : List Int) : (memY l).length = l.length := by simp [memY]
/-- An origin that may be laid. -/
structure OrJ (o : OrD) : Prop where
  i : 0 ≤ o.id ∧ o.id ≤ 2000000000
  f : 0 ≤ o.fr ∧ o.fr ≤ 256
  t : 0 ≤ o.to ∧ o.to ≤ 256
  m : ∀ n ∈ o.mem, 0 ≤ n ∧ n < 7
  l : o.mem.length ≤ 7
/-- The bytes under way: those that are done, noughts behind them. -/
def memP (l : List Int) (i : Nat) : List UInt8 := memY (l.take i) ++ List.replicate (l.length - i) 0
theorem memP_len (l : List Int) (i : Nat) (h : i ≤ l.length) : (memP l i).length = l.length := by simp [memP, memY]; omega
theorem own_zeros {w : World} {base g m : Nat} (h : w.ownsRow base 5 1 (.slice (some ⟨g, 0, none⟩) m m) m (madeCells (Value.int .u8 0).cells (m * 1)).toList) : Own w base (.slice (some ⟨g, 0, none⟩) m m) (List.replicate m 0) := by
  show World.ownsRow _ _ _ _ _ (List.replicate m (0 : UInt8)).length ((List.replicate m (0 : UInt8)).map bv)
  rw [List.length_replicate, List.map_replicate]
  have e : (madeCells (Value.int .u8 0).cells (m * 1)).toList = List.replicate m (bv 0) := by
    rw [Nat.mul_one]; exact toList_madeCells_one _ _
  rw [← e]; exact h
theorem memY_take (l : List Int) (i : Nat) (h : i < l.length) : memY (l.take (i + 1)) = memY (l.take i) ++ [UInt8.ofNat l[i].toNat] := by
  unfold memY
  rw [List.take_succ_eq_append_getElem h, List.map_append]
  rfl
theorem memP_set (l : List Int) (i : Nat) (h : i < l.length) : (memP l i).set i (UInt8.ofNat l[i].toNat) = memP l (i + 1) := by
  unfold memP
  rw [memY_take l i h, show l.length - i = (l.length - (i + 1)) + 1 from by omega, List.replicate_succ]
  have hl : (memY (l.take i)).length = i := by rw [memY_len, List.length_take]; omega
  rw [List.set_append_right _ _ (by omega), hl, Nat.sub_self, List.set_cons_zero, List.append_assoc]
  rfl
theorem memP_bv (l : List Int) (i : Nat) (h : i < l.length) (h0 : 0 ≤ l[i] ∧ l[i] < 7) : ((memP l i).map bv).set i (.int .u8 l[i]) = (memP l (i + 1)).map bv := by
  rw [← memP_set l i h, List.map_set]
  congr 1
  unfold bv
  congr 1
  obtain ⟨n, hn⟩ : ∃ n : Nat, l[i] = n := ⟨l[i].toNat, by omega⟩
  rw [hn]
  have : n < 7 := by omega
  simp
  omega
theorem memP_all (l : List Int) : memP l l.length = memY l := by simp [memP]
set_option maxRecDepth 100000 in
set_option maxHeartbeats 4000000 in
theorem layOrigin_kt (b : Nat) (l : List UInt8) (o : OrD) (mv : Value) (w : World) (ho : OrJ o) (hm : w.ownsRow 0 3 1 mv o.mem.length (nvs o.mem)) (hw : Wr w b l) (hsz : l.length ≤ 1000000000) :
    Calls Tryz.prog 59 #[.pointer (some ⟨b, 0, none⟩), .agg #[.int .i64 o.id, .int .i64 o.fr, .int .i64 o.to, mv]] w fun e w' => e = .returned (.tuple #[]) ∧ Wr w' b (l ++ orBy o) ∧ Wb b w w' := by
  obtain ⟨id, fr, tt, mem⟩ := o
  obtain ⟨⟨i0, i1⟩, ⟨f0, f1⟩, ⟨t0, t1⟩, hmm, hml⟩ := ho
  simp only at i0 i1 f0 f1 t0 t1 hmm hml hm ⊢
  obtain ⟨ma, mc, rfl⟩ := own_shape hm
  have hlt := hw.lt
  obtain ⟨w1, hw1⟩ : ∃ w1, w1 = w.alloc (.cells #[.int .i64 id, .int .i64 fr, .int .i64 tt, .slice ma mem.length mc] 80) := ⟨_, rfl⟩
  have b1 : Below w.heap.size w w1 := by rw [hw1]; exact (Below.refl _ _).alloc (Nat.le_refl _) _
  have hA : w1.heap[w.heap.size]? = some (.cells #[.int .i64 id, .int .i64 fr, .int .i64 tt, .slice ma mem.length mc] 80 (0, 0)) := by rw [hw1]; exact heap_alloc_new _ _
  have W1 := hid (hw.below b1)
  have B1 := hid (Wb.new (b := b) b1 (Nat.le_of_lt hlt))
  have M1 := hid (own_below hm b1)
  have HW1 := hid hw1
  have hn1 := numB_len id.toNat (by omega)
  have hn2 := numB_len fr.toNat (by omega)
  have hn3 := numB_len tt.toNat (by omega)
  clear hw hw1 b1 hm
  go_enter Tryz.func59, Tryz.ntmps59
  go_upto_region 1 with fail
  rw [← HW1.out]
  obtain ⟨A, hAe⟩ : ∃ A, A = w.heap.size := ⟨_, rfl⟩
  rw [← hAe] at hA
  rw [← hAe]
  clear hAe HW1
  have c0 : w1.cell? ⟨A, 0, none⟩ = some (.int .i64 id) := by rw [cell_of_row _ _ _ _ _ _ hA]; rfl
  have HA := hid hA
  clear hA
  go_upto_region 2 with (go_at_call 16; refine (layNum_kt b l id _ i0 (by omega) W1.out (by omega)).mono ?_; rintro e w2 ⟨rfl, hw2, hb2⟩; have W2 := hid hw2; have A2 := hid ((hb2.kt _ _ _ _ HA.out (by decide)).trans HA.out); have M2 := hid (own_kt M1.out hb2.kt (by decide)); have B2 := hid (B1.out.trans hb2); clear hw2 hb2)
  clear W1 HA M1 B1 c0
  have c1 : w2.cell? ⟨A, 1, none⟩ = some (.int .i64 fr) := by rw [cell_of_row _ _ _ _ _ _ A2.out]; rfl
  go_upto_region 3 with (go_at_call 16; refine (layNum_kt b _ fr _ f0 (by omega) W2.out (by rw [List.length_append]; omega)).mono ?_; rintro e w3 ⟨rfl, hw3, hb3⟩; have W3 := hid hw3; have A3 := hid ((hb3.kt _ _ _ _ A2.out (by decide)).trans A2.out); have M3 := hid (own_kt M2.out hb3.kt (by decide)); have B3 := hid (B2.out.trans hb3); clear hw3 hb3)
  clear W2 A2 M2 B2 c1
  have c2 : w3.cell? ⟨A, 2, none⟩ = some (.int .i64 tt) := by rw [cell_of_row _ _ _ _ _ _ A3.out]; rfl
  go_upto_region 4 with (go_at_call 16; refine (layNum_kt b _ tt _ t0 (by omega) W3.out (by rw [List.length_append, List.length_append]; omega)).mono ?_; rintro e w4 ⟨rfl, hw4, hb4⟩; have W4 := hid hw4; have A4 := hid ((hb4.kt _ _ _ _ A3.out (by decide)).trans A3.out); have M4 := hid (own_kt M3.out hb4.kt (by decide)); have B4 := hid (B3.out.trans hb4); clear hw4 hb4)
  clear W3 A3 M3 B3 c2
  have c3 : w4.cell? ⟨A, 3, none⟩ = some (.slice ma mem.length mc) := by rw [cell_of_row _ _ _ _ _ _ A4.out]; rfl
  obtain ⟨it, hi, hz0, hz1, hz2⟩ := info_parts Tryz.infoB
  have HI := hid hi
  have HZ0 := hid hz0
  have HZ1 := hid hz1
  have HZ2 := hid hz2
  clear hi hz0 hz1 hz2
  have hml' : (mem.length : Int) ≤ 7 := by omega
  go_upto_region 5 with (at_make; refine wpList_make_full _ rfl _ _ 27 rfl w4.heap.size 5 it (.int .u8 0) 1 Tryz.underlyingB HI.out HZ0.out HZ1.out .i64 .i64 _ _ mem.length rfl rfl rfl rfl (by rw [HZ2.out]; omega) (by unfold maxLen; omega) (Nat.le_refl _) ?_; intro w5 ho5 hg5; have O5 := hid ho5; have B5 : Hid (Below w4.heap.size w4 w5) := hid ⟨hg5.os, hg5.tape, hg5.output, hg5.size, fun k hk => hg5.block k hk (by simp)⟩; clear ho5 hg5)
  have OZ : Hid (w5.ownsRow w4.heap.size 5 1 (.slice (some ⟨w4.heap.size, 0, none⟩) mem.length mem.length) mem.length ((memP mem 0).map bv)) := hid (by
    have := own_zeros O5.out
    unfold Own at this
    rw [List.length_replicate] at this
    simpa [memP, memY] using this)
  have A5 := hid ((B5.out.block A (lt_of_block A4.out)).trans A4.out)
  have M5 := hid (own_below M4.out B5.out)
  have LB : Hid (w4.heap.size ≤ w5.heap.size) := hid B5.out.size
  have B45 := B5
  obtain ⟨g5, hg5⟩ : ∃ g, g = w4.heap.size := ⟨_, rfl⟩
  rw [← hg5] at OZ B5
  rw [← hg5]
  have HG5 : Hid (w4.heap.size ≤ g5) := hid (by omega)
  clear c3 O5 hg5 HI HZ0 HZ1 HZ2
  have c3 : w5.cell? ⟨A, 3, none⟩ = some (.slice ma mem.length mc) := by rw [cell_of_row _ _ _ _ _ _ A5.out]; rfl
  go_wp2_with fail
  clear c3
  go_loopw [5, 6, 28] (fun _ _ iv wr => ∃ i : Nat, iv = .int .i64 i ∧ i ≤ mem.length ∧ Below w4.heap.size w4 wr ∧ wr.ownsRow g5 5 1 (.slice (some ⟨g5, 0, none⟩) mem.length mem.length) mem.length ((memP mem i).map bv)) (fun _ _ iv _ => mem.length - (intOf iv).toNat)
  case atStart => exact ⟨0, rfl, Nat.zero_le _, B45.out, OZ.out⟩
  case round =>
    obtain ⟨i, rfl, hil, hbr, hor⟩ := hrel
    have BR := hid hbr
    have OR := hid hor
    clear hbr hor
    by_cases hlt2 : (i : Int) < (mem.length : Int)
    · have hi2 : i < mem.length := by omega
      have MR := own_below M4.out BR.out
      obtain ⟨gm, rfl⟩ : ∃ gm, ma = some ⟨gm, 0, none⟩ := own_some MR (by omega)
      have HN := hid (hmm mem[i] (List.getElem_mem hi2))
      have cm : wr.cell? ⟨gm, i, none⟩ = some (.int .i64 mem[i]) := own_cell MR (by simp [nvs, List.getElem?_eq_getElem hi2])
      have HBV := hid (memP_bv mem i hi2 HN.out)
      obtain ⟨cur, hcur⟩ := own_typed OR.out (q := g5) rfl
      have f5 : wr.frozen? ⟨g5, i, none⟩ = false := frozen_of_row _ _ _ _ _ hcur
      have hpl : i < ((memP mem i).map bv).length := by rw [List.length_map, memP_len _ _ (by omega)]; exact hi2
      have cu : wr.cell? ⟨g5, i, none⟩ = some (((memP mem i).map bv)[i]'hpl) := own_cell OR.out (List.getElem?_eq_getElem hpl)
      have hu8 : IntKind.u8.wrap mem[i] = mem[i] := by
        have := HN.out
        simp [IntKind.wrap, IntKind.bits, IntKind.signed]
        omega
      generalize mem[i] = n at *
      generalize ((memP mem i).map bv)[i]'hpl = u at *
      have HREL : Hid (Below w4.heap.size w4 (wr.setCell ⟨g5, i, none⟩ (.int .u8 n)) ∧ (wr.setCell ⟨g5, i, none⟩ (.int .u8 n)).ownsRow g5 5 1 (.slice (some ⟨g5, 0, none⟩) mem.length mem.length) mem.length ((memP mem (i + 1)).map bv)) := hid ⟨below_set BR.out HG5.out, by rw [← HBV.out]; exact own_put OR.out (by omega)⟩
      clear hcur hpl HBV MR
      go_wp2_with fail
      go_roundw
      case rel => exact ⟨i + 1, by go_num, by omega, HREL.out.1, HREL.out.2⟩
      case measure => simp [intOf]; omega
    · have hie : i = mem.length := by omega
      have HB : Hid (Own wr g5 (.slice (some ⟨g5, 0, none⟩) mem.length mem.length) (memY mem)) := hid (by
        have h := OR.out
        rw [hie, memP_all] at h
        unfold Own
        rw [memY_len]
        exact h)
      have hcs := conv_string _ _ _ HB.out.bts
      have W6 := hid (W4.out.below BR.out)
      have B6 := hid (B4.out.trans (Wb.new (b := b) BR.out (Nat.le_of_lt W4.out.lt)))
      have hsz6 : (l ++ numB id.toNat ++ numB fr.toNat ++ numB tt.toNat).length ≤ 2000000000 := by rw [List.length_append, List.length_append, List.length_append]; omega
      have hms : (memY mem).length ≤ 7 := by rw [memY_len]; exact hml
      clear hie hil OZ A5 M5 LB B45
      go_wp2_with (go_at_call 79; refine (text_kt b _ ⟨(memY mem).toArray⟩ _ W6.out (by show _ + (memY mem).toArray.size ≤ _; rw [List.size_toArray]; omega)).mono ?_; rintro e w7 ⟨rfl, hw7, hb7⟩; have W7 := hid hw7; have B7 := hid (B6.out.trans hb7); clear hw7 hb7)
      go_end0
      refine ⟨rfl, ?_, B7.out⟩
      have := W7.out
      unfold orBy
      simp only [List.append_assoc] at this ⊢
      exact this
end Go.Proofs.YtnkjkaofgninnaaGreat
namespace Go.Proofs.YtnkjkaofgninnaaGreat
open Go.RowKit Go.Maps Go.Shelf
set_option linter.unusedVariables false
set_option linter.unusedSimpArgs false

theorem orBy_len (o : OrD) (h : OrJ o) : (orBy o).length ≤ 50 := by
  have h1 := numB_len o.id.toNat (by have := h.i; omega)
  have h2 := numB_len o.fr.toNat (by have := h.f; omega)
  have h3 := numB_len o.to.toNat (by have := h.t; omega)
  have hs : (⟨(memY o.mem).toArray⟩ : ByteArray).size = o.mem.length := by show (memY o.mem).toArray.size = _; rw [List.size_toArray, memY_len]
  have h4 := numB_len o.mem.length (by have := h.l; omega)
  have h5 := h.l
  unfold orBy textB
  rw [List.length_append, List.length_append, List.length_append, List.length_append, hs]
  show _ + _ + _ + (_ + (memY o.mem).toArray.toList.length) ≤ 50
  have e : (memY o.mem).toArray.toList.length = o.mem.length := by simp [memY_len]
  omega
set_option maxRecDepth 100000 in
set_option maxHeartbeats 4000000 in
theorem putO_kt (b : Nat) (l : List UInt8) (v : Value) (L : List OrX) (w : World) (hw : Wr w b l) (hv : w.ownsRow 0 80 4 v L.length (orvs L)) (hm : Mems w L) (hx : ∀ x ∈ L, OrJ x.o) (hl : l.length ≤ 500000000) (hn : L.length ≤ 5000) :
    Calls Tryz.prog 61 #[.pointer (some ⟨b, 0, none⟩), v, .func (.func 59) #[] #[]] w fun e w' =>
      e = .returned (.tuple #[]) ∧ Wr w' b (l ++ listB orBy (L.map (·.o))) ∧ Wb b w w' := by
  have HV := hid hv
  have HM := hid hm
  obtain ⟨va, vc, rfl⟩ := own_shape hv
  have hblt := hw.lt
  have HW := hid hw
  have HX := hid hx
  clear hw hx hv hm
  have hnl := numB_len L.length (by omega)
  have hfn := fun w => run_eql_fn w (.func 59) #[] #[] Tryz.underlying108
  have hnn : (L.length : Int) ≤ 5000 := by omega
  go_enter Tryz.func61, Tryz.ntmps61
  go_wp2_with (first
    | (go_at_call 56; refine (num_kt _ _ _ _ (by omega) (by omega) HW.out (by omega)).mono ?_; rintro e w1 ⟨rfl, hw1, hb1⟩; rw [Int.toNat_natCast] at hw1; have HW1 := hid hw1; have HB1 := hid hb1; clear hw1 hb1))
  clear hfn HW
  go_loopw [7, 21] (fun _ iv wr => ∃ i : Nat, iv = .int .i64 i ∧ i ≤ L.length ∧ Wr wr b (l ++ numB L.length ++ ((L.map (·.o)).take i).flatMap orBy) ∧ Wb b w wr) (fun _ iv _ => L.length - (intOf iv).toNat)
  case atStart => exact ⟨0, rfl, Nat.zero_le _, by simpa using HW1.out, HB1.out⟩
  case round =>
    obtain ⟨i, rfl, hin, hwr, hbr⟩ := hrel
    clear HW1 HB1
    have HWR := hid hwr
    have HBR := hid hbr
    clear hwr hbr
    by_cases hlt : (i : Int) < (L.length : Int)
    · have hi : i < L.length := by omega
      have HVr := own_kt HV.out HBR.out.kt (by decide)
      obtain ⟨g, rfl⟩ : ∃ g, va = some ⟨g, 0, none⟩ := own_some HVr (by omega)
      have hRO : wr.rangeAt g (i * 4) (orC (L[i]'hi)) := own_range HVr (i * 4) (orC (L[i]'hi)) (orvs_part L i hi)
      have HOM := hid (own_kt (HM.out (L[i]'hi) (List.getElem_mem hi)) HBR.out.kt (by decide))
      have HOK := hid (HX.out (L[i]'hi) (List.getElem_mem hi))
      have him : i < (L.map (·.o)).length := by rw [List.length_map]; exact hi
      have HFT : Hid (((L.map (·.o)).take (i + 1)).flatMap orBy = ((L.map (·.o)).take i).flatMap orBy ++ orBy (L[i]'hi).o) := hid (by have := flat_take orBy (L.map (·.o)) i him; rw [this, List.getElem_map])
      have hfl := flat_take_lenM orBy (L.map (·.o)) i 50 fun x hx => by
        obtain ⟨y, hy, rfl⟩ := List.mem_map.1 hx
        exact orBy_len _ (HX.out y hy)
      rw [List.length_map] at hfl
      have HLEN : Hid ((l ++ numB L.length ++ ((L.map (·.o)).take i).flatMap orBy).length ≤ 1000000000) := hid (by
        rw [List.length_append, List.length_append]; omega)
      obtain ⟨⟨od, omv⟩, hx⟩ : ∃ x, x = L[i]'hi := ⟨_, rfl⟩
      rw [← hx] at hRO HOM HOK HFT
      clear hx hfl hnl HVr
      have HOM : Hid (wr.ownsRow 0 3 1 omv od.mem.length (nvs od.mem)) := HOM
      obtain ⟨oa, oc, rfl⟩ := own_shape HOM.out
      unfold orC at hRO
      simp only at hRO HOK HFT
      go_upto_region 5 with (first | (refine wpl_loadO rfl _ rfl g (i * 4) (by go_simp) _ _ _ _ hRO ?_) | (refine wpl_newO (w3 := wr) rfl _ _ rfl _ _ _ _ rfl rfl rfl rfl rfl rfl rfl ?_; intro w2 hg2 hb2; have HG2 := hid hg2; have HW2 := hid (HWR.out.below hb2); have HB2 := hid (HBR.out.trans (Wb.new (b := b) hb2 (Nat.le_of_lt HWR.out.lt))); have HM2 := hid (own_below HOM.out hb2); clear hg2 hb2))
      clear hRO
      have hRP : w2.rangeAt wr.heap.size 0 [.int .i64 od.id, .int .i64 od.fr, .int .i64 od.to, .slice oa od.mem.length oc] := range_of_row HG2.out 0 _ fun j v hv => by rw [Nat.zero_add]; simpa using hv
      go_wp2_with (refine wpl_loadO rfl _ rfl wr.heap.size 0 rfl _ _ _ _ hRP ?_)
      refine (layOrigin_kt b _ od _ _ HOK.out HM2.out HW2.out HLEN.out).mono ?_
      rintro e w3 ⟨rfl, hw3, hb3⟩
      have HW3 := hid hw3
      have HB3 := hid (HB2.out.trans hb3)
      clear hw3 hb3
      go_wp2_with fail
      go_roundw
      case rel =>
        refine ⟨i + 1, by go_num, by omega, ?_, HB3.out⟩
        rw [HFT.out, ← List.append_assoc]; exact HW3.out
      case measure => simp [intOf]; omega
    · have hin' : i = L.length := by omega
      go_wp2_with fail
      go_end0
      refine ⟨rfl, ?_, HBR.out⟩
      have := HWR.out
      rw [hin', List.take_of_length_le (by simp), List.append_assoc] at this
      unfold listB
      rw [List.length_map]
      exact this
/-- A shard's bytes. -/
def shBy (S : ShD) : List UInt8 := orBy ⟨S.id, S.fr, S.to, S.mem⟩ ++ listB orBy S.past
structure ShJ (S : ShD) : Prop where
  o : OrJ ⟨S.id, S.fr, S.to, S.mem⟩
  p : ∀ o ∈ S.past, OrJ o
  l : S.past.length ≤ 2
theorem shBy_len (S : ShD) (h : ShJ S) : (shBy S).length ≤ 200 := by
  have h1 := orBy_len _ h.o
  have h2 := flat_lenM orBy S.past 50 fun x hx => orBy_len x (h.p x hx)
  have h3 := numB_len S.past.length (by have := h.l; omega)
  have := h.l
  unfold shBy listB
  rw [List.length_append, List.length_append]
  omega
set_option maxRecDepth 100000 in
set_option maxHeartbeats 4000000 in
theorem layShard_kt (b : Nat) (l : List UInt8) (S : ShD) (mv pv : Value) (w : World) (hj : ShJ S) (hs : ShM w S mv pv) (hw : Wr w b l) (hsz : l.length ≤ 400000000) :
    Calls Tryz.prog 20 #[.pointer (some ⟨b, 0, none⟩), shV S mv pv] w fun e w' => e = .returned (.tuple #[]) ∧ Wr w' b (l ++ shBy S) ∧ Wb b w w' := by
  obtain ⟨⟨ma, mc, rfl⟩, ⟨pa, pc, rfl⟩⟩ := hs.shape
  obtain ⟨L, hL1, hL2, hL3⟩ := hs.p
  have hLL : S.past.length = L.length := by rw [← hL1]; simp
  have hlt := hw.lt
  obtain ⟨w1, hw1⟩ : ∃ w1, w1 = w.alloc (.cells #[.int .i64 S.id, .int .i64 S.fr, .int .i64 S.to, .slice ma S.mem.length mc, .slice pa S.past.length pc] 61) := ⟨_, rfl⟩
  have b1 : Below w.heap.size w w1 := by rw [hw1]; exact (Below.refl _ _).alloc (Nat.le_refl _) _
  have hA : w1.heap[w.heap.size]? = some (.cells #[.int .i64 S.id, .int .i64 S.fr, .int .i64 S.to, .slice ma S.mem.length mc, .slice pa S.past.length pc] 61 (0, 0)) := by rw [hw1]; exact heap_alloc_new _ _
  have W1 := hid (hw.below b1)
  have B1 := hid (Wb.new (b := b) b1 (Nat.le_of_lt hlt))
  have M1 : Hid (w1.ownsRow 0 3 1 (.slice ma S.mem.length mc) S.mem.length (nvs S.mem)) := hid (own_below hs.m b1)
  have P1 : Hid (w1.ownsRow 0 80 4 (.slice pa S.past.length pc) L.length (orvs L)) := hid (own_below hL2 b1)
  have E1 : Hid (Mems w1 L) := hid fun x hx => own_below (hL3 x hx) b1
  have HW1 := hid hw1
  have HJ := hid hj
  have HLM : Hid (L.map (·.o) = S.past) := hid hL1
  have HLL := hid hLL
  have hol := orBy_len _ hj.o
  clear hw hw1 b1 hs hL1 hL2 hL3 hj hLL
  unfold shV
  go_enter Tryz.func20, Tryz.ntmps20
  go_upto_region 1 with fail
  rw [← HW1.out]
  obtain ⟨A, hAe⟩ : ∃ A, A = w.heap.size := ⟨_, rfl⟩
  rw [← hAe] at hA
  rw [← hAe]
  clear hAe HW1
  have hR : w1.rangeAt A 0 [.int .i64 S.id, .int .i64 S.fr, .int .i64 S.to, .slice ma S.mem.length mc, .slice pa S.past.length pc] := range_of_row hA 0 _ fun j v hv => by rw [Nat.zero_add]; simpa using hv
  have HA := hid hA
  clear hA
  go_upto_region 2 with (first | (refine wpl_loadM rfl _ rfl A 0 rfl _ _ _ _ _ hR ?_) | (go_at_call 60; refine (origin_any S ma S.mem.length mc pa S.past.length pc _).mono ?_; rintro e w2 ⟨rfl, hb2⟩; have W2 := hid (W1.out.below hb2); have A2 := hid ((hb2.block A (lt_of_block HA.out)).trans HA.out); have M2 := hid (own_below M1.out hb2); have P2 := hid (own_below P1.out hb2); have E2 : Hid (Mems w2 L) := hid (fun x hx => own_below (E1.out x hx) hb2); have B2 := hid (B1.out.trans (Wb.new (b := b) hb2 (Nat.le_of_lt W1.out.lt))); clear hb2) | (go_at_call 59; refine (layOrigin_kt b l ⟨S.id, S.fr, S.to, S.mem⟩ _ _ HJ.out.o M2.out W2.out (by omega)).mono ?_; rintro e w3 ⟨rfl, hw3, hb3⟩; have W3 := hid hw3; have A3 := hid ((hb3.kt _ _ _ _ A2.out (by decide)).trans A2.out); have P3 := hid (own_kt P2.out hb3.kt (by decide)); have E3 : Hid (Mems w3 L) := hid (fun x hx => own_kt (E2.out x hx) hb3.kt (by decide)); have B3 := hid (B2.out.trans hb3); clear hw3 hb3))
  clear hR
  have c4 : w3.cell? ⟨A, 4, none⟩ = some (.slice pa S.past.length pc) := by rw [cell_of_row _ _ _ _ _ _ A3.out]; rfl
  have HPO := hid (putO_kt b (l ++ orBy ⟨S.id, S.fr, S.to, S.mem⟩) (.slice pa S.past.length pc) L w3 W3.out P3.out E3.out (fun x hx => HJ.out.p x.o (by rw [← HLM.out]; exact List.mem_map.2 ⟨x, hx, rfl⟩)) (by rw [List.length_append]; omega) (by have := HJ.out.l; have := HLL.out; omega))
  go_wp2_with (go_at_call 61; refine HPO.out.mono ?_; rintro e w4 ⟨rfl, hw4, hb4⟩; have W4 := hid hw4; have B4 := hid (B3.out.trans hb4); clear hw4 hb4)
  go_end0
  refine ⟨rfl, ?_, B4.out⟩
  have := W4.out
  rw [HLM.out, List.append_assoc] at this
  exact this
/-- A row of numbers. -/
def nuBy (n : Int) : List UInt8 := numB n.toNat
set_option maxRecDepth 100000 in
set_option maxHeartbeats 4000000 in
theorem putN_kt (b : Nat) (l : List UInt8) (v : Value) (L : List Int) (w : World) (hw : Wr w b l) (hv : w.ownsRow 0 3 1 v L.length (nvs L)) (hx : ∀ n ∈ L, 0 ≤ n ∧ n ≤ 2000000000) (hl : l.length ≤ 500000000) (hn : L.length ≤ 5000) :
    Calls Tryz.prog 17 #[.pointer (some ⟨b, 0, none⟩), v, .func (.func 16) #[] #[]] w fun e w' =>
      e = .returned (.tuple #[]) ∧ Wr w' b (l ++ listB nuBy L) ∧ Wb b w w' := by
  have HV := hid hv
  obtain ⟨va, vc, rfl⟩ := own_shape hv
  have HW := hid hw
  have HX := hid hx
  clear hw hx hv
  have hnl := numB_len L.length (by omega)
  have hfn := fun w => run_eql_fn w (.func 16) #[] #[] Tryz.underlying50
  have hnn : (L.length : Int) ≤ 5000 := by omega
  go_enter Tryz.func17, Tryz.ntmps17
  go_wp2_with (first
    | (go_at_call 56; refine (num_kt _ _ _ _ (by omega) (by omega) HW.out (by omega)).mono ?_; rintro e w1 ⟨rfl, hw1, hb1⟩; rw [Int.toNat_natCast] at hw1; have HW1 := hid hw1; have HB1 := hid hb1; clear hw1 hb1))
  clear hfn HW
  go_loopw [7, 21] (fun _ iv wr => ∃ i : Nat, iv = .int .i64 i ∧ i ≤ L.length ∧ Wr wr b (l ++ numB L.length ++ (L.take i).flatMap nuBy) ∧ Wb b w wr) (fun _ iv _ => L.length - (intOf iv).toNat)
  case atStart => exact ⟨0, rfl, Nat.zero_le _, by simpa using HW1.out, HB1.out⟩
  case round =>
    obtain ⟨i, rfl, hin, hwr, hbr⟩ := hrel
    clear HW1 HB1
    have HWR := hid hwr
    have HBR := hid hbr
    clear hwr hbr
    by_cases hlt : (i : Int) < (L.length : Int)
    · have hi : i < L.length := by omega
      have HVr := own_kt HV.out HBR.out.kt (by decide)
      obtain ⟨g, rfl⟩ : ∃ g, va = some ⟨g, 0, none⟩ := own_some HVr (by omega)
      have cm : wr.cell? ⟨g, i, none⟩ = some (.int .i64 L[i]) := own_cell HVr (by simp [nvs, List.getElem?_eq_getElem hi])
      have HOK := hid (HX.out L[i] (List.getElem_mem hi))
      have HFT := hid (flat_take nuBy L i hi)
      have hfl := flat_take_lenM nuBy L i 10 fun n hn => numB_len n.toNat (by have := HX.out n hn; omega)
      have HLEN : Hid ((l ++ numB L.length ++ (L.take i).flatMap nuBy).length ≤ 1000000000) := hid (by
        rw [List.length_append, List.length_append]; omega)
      generalize L[i] = n at *
      clear hfl hnl HVr
      go_wp2_with fail
      refine (layNum_kt b _ n _ HOK.out.1 (by have := HOK.out; omega) HWR.out (by have := HLEN.out; omega)).mono ?_
      rintro e w3 ⟨rfl, hw3, hb3⟩
      have HW3 := hid hw3
      have HB3 := hid (HBR.out.trans hb3)
      clear hw3 hb3
      go_wp2_with fail
      go_roundw
      case rel =>
        refine ⟨i + 1, by go_num, by omega, ?_, HB3.out⟩
        rw [HFT.out, ← List.append_assoc]; exact HW3.out
      case measure => simp [intOf]; omega
    · have hin' : i = L.length := by omega
      go_wp2_with fail
      go_end0
      refine ⟨rfl, ?_, HBR.out⟩
      have := HWR.out
      rw [hin', List.take_length, List.append_assoc] at this
      exact this
end Go.Proofs.YtnkjkaofgninnaaGreat
namespace Go.Proofs.YtnkjkaofgninnaaGreat
open Go.RowKit Go.Maps Go.Shelf
set_option linter.unusedVariables false
set_option linter.unusedSimpArgs false

set_option maxRecDepth 100000 in
set_option maxHeartbeats 4000000 in
theorem putS_kt (b : Nat) (l : List UInt8) (v : Value) (L : List SX) (w : World) (hw : Wr w b l) (hv : ShR w v L) (hx : ∀ x ∈ L, ShJ x.s) (hl : l.length ≤ 100000000) (hn : L.length ≤ 100000) :
    Calls Tryz.prog 18 #[.pointer (some ⟨b, 0, none⟩), v, .func (.func 20) #[] #[]] w fun e w' =>
      e = .returned (.tuple #[]) ∧ Wr w' b (l ++ listB shBy (L.map (·.s))) ∧ Wb b w w' := by
  have HV := hid hv.o
  have HM := hid hv.m
  obtain ⟨va, vc, rfl⟩ := own_shape hv.o
  have hblt := hw.lt
  have HW := hid hw
  have HX := hid hx
  clear hw hx hv
  have hnl := numB_len L.length (by omega)
  have hfn := fun w => run_eql_fn w (.func 20) #[] #[] Tryz.underlying64
  have hnn : (L.length : Int) ≤ 100000 := by omega
  go_enter Tryz.func18, Tryz.ntmps18
  go_wp2_with (first
    | (go_at_call 56; refine (num_kt _ _ _ _ (by omega) (by omega) HW.out (by omega)).mono ?_; rintro e w1 ⟨rfl, hw1, hb1⟩; rw [Int.toNat_natCast] at hw1; have HW1 := hid hw1; have HB1 := hid hb1; clear hw1 hb1))
  clear hfn HW
  go_loopw [7, 21] (fun _ iv wr => ∃ i : Nat, iv = .int .i64 i ∧ i ≤ L.length ∧ Wr wr b (l ++ numB L.length ++ ((L.map (·.s)).take i).flatMap shBy) ∧ Wb b w wr) (fun _ iv _ => L.length - (intOf iv).toNat)
  case atStart => exact ⟨0, rfl, Nat.zero_le _, by simpa using HW1.out, HB1.out⟩
  case round =>
    obtain ⟨i, rfl, hin, hwr, hbr⟩ := hrel
    clear HW1 HB1
    have HWR := hid hwr
    have HBR := hid hbr
    clear hwr hbr
    by_cases hlt : (i : Int) < (L.length : Int)
    · have hi : i < L.length := by omega
      have HVr := own_kt HV.out HBR.out.kt (by decide)
      obtain ⟨g, rfl⟩ : ∃ g, va = some ⟨g, 0, none⟩ := own_some HVr (by omega)
      have hRO : wr.rangeAt g (i * 5) (SX.c (L[i]'hi)) := own_range HVr (i * 5) (SX.c (L[i]'hi)) (shvs_part L i hi)
      have HOM := hid ((HM.out (L[i]'hi) (List.getElem_mem hi)).kt HBR.out.kt (by decide) (by decide))
      have HOK := hid (HX.out (L[i]'hi) (List.getElem_mem hi))
      have him : i < (L.map (·.s)).length := by rw [List.length_map]; exact hi
      have HFT : Hid (((L.map (·.s)).take (i + 1)).flatMap shBy = ((L.map (·.s)).take i).flatMap shBy ++ shBy (L[i]'hi).s) := hid (by have := flat_take shBy (L.map (·.s)) i him; rw [this, List.getElem_map])
      have hfl := flat_take_lenM shBy (L.map (·.s)) i 200 fun x hx => by
        obtain ⟨y, hy, rfl⟩ := List.mem_map.1 hx
        exact shBy_len _ (HX.out y hy)
      rw [List.length_map] at hfl
      have HLEN : Hid ((l ++ numB L.length ++ ((L.map (·.s)).take i).flatMap shBy).length ≤ 400000000) := hid (by
        rw [List.length_append, List.length_append]; omega)
      obtain ⟨⟨S, mv, pv⟩, hx⟩ : ∃ x, x = L[i]'hi := ⟨_, rfl⟩
      rw [← hx] at hRO HOM HOK HFT
      clear hx hfl hnl HVr
      have HOM : Hid (ShM wr S mv pv) := HOM
      obtain ⟨⟨oa, oc, rfl⟩, ⟨pa, pc, rfl⟩⟩ := HOM.out.shape
      unfold SX.c at hRO
      simp only at hRO HOK HFT
      go_upto_region 5 with (refine wpl_loadM rfl _ rfl g (i * 5) (by go_simp) _ _ _ _ _ hRO ?_)
      clear hRO
      have hb2 : Below wr.heap.size wr (wr.alloc (.cells #[.int .i64 S.id, .int .i64 S.fr, .int .i64 S.to, .slice oa S.mem.length oc, .slice pa S.past.length pc] 61)) := (Below.refl _ _).alloc (Nat.le_refl _) _
      have hg2 := heap_alloc_new wr (.cells #[.int .i64 S.id, .int .i64 S.fr, .int .i64 S.to, .slice oa S.mem.length oc, .slice pa S.past.length pc] 61)
      have HW2 := hid (HWR.out.below hb2)
      have HB2 := hid (HBR.out.trans (Wb.new (b := b) hb2 (Nat.le_of_lt HWR.out.lt)))
      have HM2 := hid (HOM.out.below hb2)
      have HG2 := hid hg2
      clear hb2 hg2
      generalize wr.alloc (.cells #[.int .i64 S.id, .int .i64 S.fr, .int .i64 S.to, .slice oa S.mem.length oc, .slice pa S.past.length pc] 61) = w2 at *
      have hRP : w2.rangeAt wr.heap.size 0 [.int .i64 S.id, .int .i64 S.fr, .int .i64 S.to, .slice oa S.mem.length oc, .slice pa S.past.length pc] := range_of_row HG2.out 0 _ fun j v hv => by rw [Nat.zero_add]; simpa using hv
      go_wp2_with (refine wpl_loadM rfl _ rfl wr.heap.size 0 rfl _ _ _ _ _ hRP ?_)
      refine (layShard_kt b _ S _ _ _ HOK.out HM2.out HW2.out HLEN.out).mono ?_
      rintro e w3 ⟨rfl, hw3, hb3⟩
      have HW3 := hid hw3
      have HB3 := hid (HB2.out.trans hb3)
      clear hw3 hb3
      go_wp2_with fail
      go_roundw
      case rel =>
        refine ⟨i + 1, by go_num, by omega, ?_, HB3.out⟩
        rw [HFT.out, ← List.append_assoc]; exact HW3.out
      case measure => simp [intOf]; omega
    · have hin' : i = L.length := by omega
      go_wp2_with fail
      go_end0
      refine ⟨rfl, ?_, HBR.out⟩
      have := HWR.out
      rw [hin', List.take_of_length_le (by simp), List.append_assoc] at this
      unfold listB
      rw [List.length_map]
      exact this
end Go.Proofs.YtnkjkaofgninnaaGreat
namespace Go.Proofs.YtnkjkaofgninnaaGreat
open Go.RowKit Go.Maps Go.Shelf
set_option linter.unusedVariables false
set_option linter.unusedSimpArgs false

theorem own_low {w : World} {base base' : Nat} {e : TypeId} {size : Nat} {v : Value} {n : Nat} {xs : List Value} (h : w.ownsRow base e size v n xs) (hb : base' ≤ base) : w.ownsRow base' e size v n xs := by
  obtain ⟨h1, h2⟩ := h
  refine ⟨h1, ?_⟩
  rcases h2 with h2 | ⟨g, cap, cur, e1, e2, e3⟩
  · exact .inl h2
  · exact .inr ⟨g, cap, cur, e1, Nat.le_trans hb e2, e3⟩
/-- A map's bytes. -/
def encB (N : AtN) (L : List ShD) : List UInt8 := numB N.bl.toNat ++ numB N.ep.toNat ++ numB N.nx.toNat ++ listB nuBy N.op ++ listB shBy L
/-- A map that may be laid. -/
structure EnJ (N : AtN) (X : List SX) : Prop where
  b : 0 ≤ N.bl ∧ N.bl ≤ 256
  e : 0 ≤ N.ep ∧ N.ep ≤ 2000000000
  n : 0 ≤ N.nx ∧ N.nx ≤ 2000000000
  o : ∀ n ∈ N.op, 0 ≤ n ∧ n ≤ 2000000000
  l : N.op.length ≤ 5000
  s : ∀ x ∈ X, ShJ x.s
theorem encB_len (N : AtN) (X : List SX) (hi : AIn N X) (h : EnJ N X) : (encB N (X.map (·.s))).length ≤ 100000000 := by
  have h1 := numB_len N.bl.toNat (by have := h.b; omega)
  have h2 := numB_len N.ep.toNat (by have := h.e; omega)
  have h3 := numB_len N.nx.toNat (by have := h.n; omega)
  have h4 := flat_lenM nuBy N.op 10 fun n hn => numB_len n.toNat (by have := h.o n hn; omega)
  have h5 := flat_lenM shBy (X.map (·.s)) 200 fun S hS => by
    obtain ⟨x, hx, rfl⟩ := List.mem_map.1 hS
    exact shBy_len _ (h.s x hx)
  have h6 := numB_len N.op.length (by have := h.l; omega)
  have h7 := numB_len (X.map (·.s)).length (by have := hi.len; rw [List.length_map]; omega)
  have := h.l
  have := hi.len
  rw [List.length_map] at h5 h7
  unfold encB listB
  simp only [List.length_append, List.length_map]
  omega
set_option maxRecDepth 100000 in
set_option maxHeartbeats 4000000 in
theorem encodeW_any (b wb mb n : Nat) (ov : Value) (D : DataW Value) (N : AtN) (X : List SX) (w : World) (h : Aw w b wb mb n ov D N X) (hin : AIn N X) (hj : EnJ N X) :
    Calls Tryz.prog 5 #[.pointer (some ⟨b, 0, none⟩)] w fun e w' => ∃ va vc, e = .returned (.slice va (encB N (X.map (·.s))).length vc) ∧ Own w' w.heap.size (.slice va (encB N (X.map (·.s))).length vc) (encB N (X.map (·.s))) ∧ Below w.heap.size w w' := by
  have hnn := fun w => run_eql_fn w (.func 16) #[] #[] Tryz.underlying50
  obtain ⟨w1, hw1⟩ : ∃ w1, w1 = w.alloc (.cells #[.slice none 0 0] 49) := ⟨_, rfl⟩
  have b1 : Below w.heap.size w w1 := by rw [hw1]; exact (Below.refl _ _).alloc (Nat.le_refl _) _
  have H1 : Hid (Wr w1 w.heap.size []) := hid (by rw [hw1]; exact Wr.new w)
  have A0 := hid h
  have A1 := hid (h.below b1)
  have B1 := hid b1
  have HI := hid hin
  have HJ := hid hj
  have HLN := hid (encB_len N X hin hj)
  have HW1 := hid hw1
  clear h hin hj b1 hw1 hnn
  obtain ⟨bs, hbs⟩ : ∃ bs, bs = encB N (X.map (·.s)) := ⟨_, rfl⟩
  rw [← hbs] at HLN ⊢
  go_enter Tryz.func5, Tryz.ntmps5
  go_upto_region 4 with fail
  rw [← HW1.out]
  clear HW1
  have c0 : w1.cell? ⟨b, 0, none⟩ = some (.int .i64 N.bl) := by rw [cell_of_row _ _ _ _ _ _ A1.out.m.box]; rfl
  have hl0 : ∀ (f : Nat) (l : List UInt8), l.length ≤ f * 20 → f ≤ 1000 → l.length ≤ 140737488350000 := fun f l h1 h2 => by omega
  have n1 := numB_len N.bl.toNat (by have := HJ.out.b; omega)
  have n2 := numB_len N.ep.toNat (by have := HJ.out.e; omega)
  have n3 := numB_len N.nx.toNat (by have := HJ.out.n; omega)
  have n4 := flat_lenM nuBy N.op 10 fun n hn => numB_len n.toNat (by have := HJ.out.o n hn; omega)
  have n5 := numB_len N.op.length (by have := HJ.out.l; omega)
  have n6 := HJ.out.l
  have N1 := hid n1
  have N2 := hid n2
  have N3 := hid n3
  have N4 : Hid ((listB nuBy N.op).length ≤ 60000) := hid (by unfold listB; rw [List.length_append]; omega)
  clear n1 n2 n3 n4 n5 n6 hl0
  go_upto_region 5 with fail
  refine (layNum_kt w.heap.size [] N.bl _ HJ.out.b.1 (by have := HJ.out.b; omega) H1.out (by simp)).mono ?_
  rintro e w2 ⟨rfl, hw2, hb2⟩
  rw [List.nil_append] at hw2
  have H2 := hid hw2
  have B2 := hid (Wb.trans (Wb.refl w.heap.size w1) hb2)
  have A2 := hid (A0.out.below (B1.out.trans B2.out.bel))
  clear hw2 hb2 c0
  have c1 : w2.cell? ⟨b, 1, none⟩ = some (.int .i64 N.ep) := by rw [cell_of_row _ _ _ _ _ _ A2.out.m.box]; rfl
  go_upto_region 6 with fail
  refine (layNum_kt w.heap.size _ N.ep _ HJ.out.e.1 (by have := HJ.out.e; omega) H2.out (by have := N1.out; omega)).mono ?_
  rintro e w3 ⟨rfl, hw3, hb3⟩
  have H3 := hid hw3
  have B3 := hid (B2.out.trans hb3)
  have A3 := hid (A0.out.below (B1.out.trans B3.out.bel))
  clear hw3 hb3 c1
  have c2 : w3.cell? ⟨b, 2, none⟩ = some (.int .i64 N.nx) := by rw [cell_of_row _ _ _ _ _ _ A3.out.m.box]; rfl
  go_upto_region 7 with fail
  refine (layNum_kt w.heap.size _ N.nx _ HJ.out.n.1 (by have := HJ.out.n; omega) H3.out (by have := N1.out; have := N2.out; rw [List.length_append]; omega)).mono ?_
  rintro e w4 ⟨rfl, hw4, hb4⟩
  have H4 := hid hw4
  have B4 := hid (B3.out.trans hb4)
  have A4 := hid (A0.out.below (B1.out.trans B4.out.bel))
  clear hw4 hb4 c2
  have c3 : w4.cell? ⟨b, 3, none⟩ = some ov := by rw [cell_of_row _ _ _ _ _ _ A4.out.m.box]; rfl
  go_upto_region 8 with fail
  refine (putN_kt w.heap.size _ ov N.op _ H4.out A4.out.m.opn HJ.out.o (by have := N1.out; have := N2.out; have := N3.out; rw [List.length_append, List.length_append]; omega) HJ.out.l).mono ?_
  rintro e w5 ⟨rfl, hw5, hb5⟩
  have H5 := hid hw5
  have B5 := hid (B4.out.trans hb5)
  have A5 := hid (A0.out.below (B1.out.trans B5.out.bel))
  clear hw5 hb5 c3
  have HSH := hid (shardsW_any b wb mb n ov D N X w5 A5.out HI.out.shb HI.out.i64 HI.out.one HI.out.len)
  go_upto_region 9 with (go_at_call 19; refine HSH.out.mono ?_; rintro e w6 ⟨Y, va6, vc6, rfl, hy6, ho6, hm6, hb6⟩; have Y6 := hid hy6; have O6 := hid ho6; have M6 := hid hm6; have H6 := hid (H5.out.below hb6); have B6 := hid (B5.out.trans (Wb.new (b := w.heap.size) hb6 (Nat.le_of_lt H5.out.lt))); clear hy6 ho6 hm6 hb6)
  have hyl : Y.length = X.length := by have := congrArg List.length Y6.out; rwa [List.length_map, List.length_map] at this
  have hjy : ∀ y ∈ Y, ShJ y.s := fun y hy => by
    have : y.s ∈ X.map (·.s) := by rw [← Y6.out]; exact List.mem_map.2 ⟨y, hy, rfl⟩
    obtain ⟨x, hx, e⟩ := List.mem_map.1 this
    rw [← e]; exact HJ.out.s x hx
  refine (putS_kt w.heap.size _ _ Y _ H6.out ⟨own_low O6.out (Nat.zero_le _), M6.out⟩ hjy (by have := N1.out; have := N2.out; have := N3.out; have := N4.out; rw [List.length_append, List.length_append, List.length_append]; omega) (by have := HI.out.len; omega)).mono ?_
  rintro e w7 ⟨rfl, hw7, hb7⟩
  rw [Y6.out] at hw7
  have H7 : Hid (Wr w7 w.heap.size bs) := hid (by rw [hbs]; exact hw7)
  have B7 := hid (B6.out.trans hb7)
  clear hw7 hb7 hyl hjy
  have HL : Hid (bs.length ≤ 140737488340000) := hid (by have := HLN.out; omega)
  go_wp2_with (go_at_call 21; refine (bytes_any w.heap.size bs w7 H7.out HL.out).mono ?_; rintro e w8 ⟨va8, vc8, rfl, ho8, hb8⟩; have O8 := hid ho8; have B8 := hid hb8; clear ho8 hb8)
  go_ret
  exact ⟨va8, vc8, by simp [← hbs], own_low O8.out (B1.out.trans B7.out.bel).size, (B1.out.trans B7.out.bel).trans (B8.out.mono (B1.out.trans B7.out.bel).size)⟩
theorem encode_any (b wb mb n : Nat) (ov : Value) (D : DataW Value) (N : AtN) (X : List SX) (w : World) (h : At w b wb mb n ov D N X) (hin : AIn N X) (hj : EnJ N X) :
    Calls Tryz.prog 5 #[.pointer (some ⟨b, 0, none⟩)] w fun e w' => ∃ va vc, e = .returned (.slice va (encB N (X.map (·.s))).length vc) ∧ Own w' w.heap.size (.slice va (encB N (X.map (·.s))).length vc) (encB N (X.map (·.s))) ∧ Below w.heap.size w w' :=
  encodeW_any b wb mb n ov D N X w h.aw hin hj
end Go.Proofs.YtnkjkaofgninnaaGreat
namespace Go.Proofs.YtnkjkaofgninnaaGreat
open Go.RowKit Go.Maps Go.Shelf
set_option linter.unusedVariables false
set_option linter.unusedSimpArgs false

/-- A row of bytes that is laid on, and all that was there. -/
def RC (w : World) (l : List UInt8) (va : Option Addr) (vc : Nat) (W : World) : Prop := Own W w.heap.size (.slice va l.length vc) l ∧ Below w.heap.size w W
theorem RC.app {w W X Y : World} {l m : List UInt8} {va va' : Option Addr} {vc vc' : Nat} (h : RC w l va vc W) (hb : Below W.heap.size W X) (ho : Own Y w.heap.size (.slice va' (l.length + m.length) vc') (l ++ m)) (hg : X.grownBy Y (Value.slice va l.length vc).ownBlock) : RC w (l ++ m) va' vc' Y :=
  ⟨by rw [List.length_append]; exact ho, (h.2.trans (hb.mono h.2.size)).trans (below_grown (h.1.below hb) hg (Nat.le_trans h.2.size hb.size))⟩
/-- 'append(s, x...)' in a region that draws. -/
theorem wp_bapp {o : Oper} {a : Act} {w : World} {K : Act → World → Prop} {Q : Exit → Act → World → Prop} (s x : Operand)
    (ho : o.op = .call { callee := .builtin .append, args := #[s, x], argTypes := #[27, 27] })
    (base : Nat) (v : Value) (l : List UInt8) (hs : a.eval s = v) (hown : Own w base v l) (u : Value) (m : List UInt8) (hx : a.eval x = u) (hu : Bts w u m)
    (hsz : l.length + m.length ≤ 140737488355328) (hbase : base ≤ w.heap.size) (hne : m ≠ [])
    (h : ∀ va vc w', Own w' base (.slice va (l.length + m.length) vc) (l ++ m) → w.grownBy w' v.ownBlock → K (a.put o.dst (.slice va (l.length + m.length) vc)) w') : o.wp Tryz.prog a w K Q := by
  obtain ⟨i, hi, hz0, hz1, hz2⟩ := info_parts Tryz.infoB
  obtain ⟨ao, n, cap, rfl, rfl, hc, hm, hnone, hcell⟩ := hu
  cases ao with
  | none =>
    have h0 := hnone rfl
    subst h0
    have hm0 : m = [] := List.eq_nil_of_length_eq_zero (by omega)
    subst hm0
    exact absurd rfl hne
  | some ad =>
    refine wp_append_own w s x 27 ho base 5 i (.int .u8 0) 1 1 Tryz.underlyingB hi hz0 hz1 hz2 rfl (by decide) v l.length (l.map bv) hs hown ad m.length cap (m.map bv) hx (by simp) ?_ (bv_one m) (by unfold maxLen; omega) (by omega) hbase ?_
    · intro j u hj
      have hlt : j < m.length := by
        rcases Nat.lt_or_ge j m.length with h | h
        · exact h
        · simp [List.getElem?_eq_none (l := m.map bv) (by simpa using h)] at hj
      have e := hcell ad rfl j hlt
      have : u = bv m[j] := by simpa [hlt] using hj.symm
      rw [this]; exact e
    · intro v' w' ho' hg _
      have ho2 : Own w' base v' (l ++ m) := by
        show w'.ownsRow _ _ _ _ (l ++ m).length ((l ++ m).map bv)
        rw [List.length_append, List.map_append]; exact ho'
      obtain ⟨va, vc, rfl⟩ := ho2.shape
      have e : (l ++ m).length = l.length + m.length := List.length_append
      rw [e] at ho2 ⊢
      exact h va vc w' ho2 hg

set_option maxRecDepth 100000 in
set_option maxHeartbeats 8000000 in
theorem rorig_any (i0 f0 t0 : Int) (mem : List Int) (mv : Value) (w0 : World) (hj : OrJ ⟨i0, f0, t0, mem⟩) (hm : w0.ownsRow 0 3 1 mv mem.length (nvs mem)) :
    Calls Tryz.prog 33 #[.int .i64 i0, .agg #[.int .i64 f0, .int .i64 t0], mv] w0 fun e w' => ∃ va vc, e = .returned (.slice va (orBy ⟨i0, f0, t0, mem⟩).length vc) ∧ Own w' w0.heap.size (.slice va (orBy ⟨i0, f0, t0, mem⟩).length vc) (orBy ⟨i0, f0, t0, mem⟩) ∧ Below w0.heap.size w0 w' := by
  have hid0 : 0 ≤ i0 := hj.i.1
  have hid1 : i0 ≤ 2000000000 := hj.i.2
  have hfr0 : 0 ≤ f0 := hj.f.1
  have hfr1 : f0 ≤ 256 := hj.f.2
  have hto0 : 0 ≤ t0 := hj.t.1
  have hto1 : t0 ≤ 256 := hj.t.2
  have hml : mem.length ≤ 7 := hj.l
  obtain ⟨va, vc, rfl⟩ := own_shape hm
  have HJM : Hid (∀ n ∈ mem, 0 ≤ n ∧ n < 7) := hid hj.m
  obtain ⟨w, hw⟩ : ∃ w, w = w0.alloc (.cells #[.int .i64 f0, .int .i64 t0] 58) := ⟨_, rfl⟩
  have B0 : Hid (Below w0.heap.size w0 w) := hid (by rw [hw]; exact (Below.refl _ _).alloc (Nat.le_refl _) _)
  have hA : w.heap[w0.heap.size]? = some (.cells #[.int .i64 f0, .int .i64 t0] 58 (0, 0)) := by rw [hw]; exact heap_alloc_new _ _
  have HM := hid (own_below hm B0.out)
  have HA := hid hA
  have HW := hid hw
  clear hm hj hw hA
  have SW : Hid (∀ Y, Below w.heap.size w Y → Y.cell? ⟨w0.heap.size, 0, none⟩ = some (.int .i64 f0) ∧ Y.cell? ⟨w0.heap.size, 1, none⟩ = some (.int .i64 t0)) := hid fun Y hY => by
    have h1 := (hY.block w0.heap.size (lt_of_block HA.out)).trans HA.out
    refine ⟨?_, ?_⟩ <;> (rw [cell_of_row _ _ _ _ _ _ h1]; rfl)
  have u1 : IntKind.u64.wrap i0 = i0 := IntWalk.u64_in _ ⟨by omega, by omega⟩
  have u2 : IntKind.u64.wrap f0 = f0 := IntWalk.u64_in _ ⟨by omega, by omega⟩
  have u3 : IntKind.u64.wrap t0 = t0 := IntWalk.u64_in _ ⟨by omega, by omega⟩
  have u4 : IntKind.u64.wrap (mem.length : Int) = mem.length := IntWalk.u64_in _ ⟨by omega, by omega⟩
  have HN1 := hid (numB_len i0.toNat (by omega))
  have HN2 := hid (numB_len f0.toNat (by omega))
  have HN3 := hid (numB_len t0.toNat (by omega))
  have HN4 := hid (numB_len mem.length (by omega))
  have HNE : Hid (numB f0.toNat ≠ []) := hid (fun e => by have := numB_pos f0.toNat; rw [e] at this; simp at this)
  go_enter Tryz.func33, Tryz.ntmps33
  go_upto_region 1 with fail
  rw [← HW.out]
  go_cut [7] from 10 to 17 (fun bv wx => ∃ va vc, bv = .slice va (numB i0.toNat ++ numB f0.toNat).length vc ∧ RC w (numB i0.toNat ++ numB f0.toNat) va vc wx)
  case first =>
    refine wp_region_held_drew (S := fun Y => Y.cell? ⟨w0.heap.size, 0, none⟩ = some (.int .i64 f0) ∧ Y.cell? ⟨w0.heap.size, 1, none⟩ = some (.int .i64 t0)) (by kernel_rfl) (SW.out _ ((Below.refl _ _).drew)) (fun hHeld => ?_)
    refine wpAnyH_take (i := 0) (v := ?pv0) rfl (by kernel_rfl) (by kernel_rfl) (by kernel_rfl) (fun _ _ _ h => h) (Or.inl ⟨by rfl, ?py0⟩) (by assumption) ?pr0
    case py0 => (intro w hSw; (try dsimp only at hSw); go_simp; try with_reducible rfl)
    (try simp only [Act.put, putS])
    refine wpAnyH_take (i := 1) (v := ?pv1) rfl (by kernel_rfl) (by kernel_rfl) (by kernel_rfl) (fun _ _ _ h => h) (Or.inl ⟨by rfl, ?py1⟩) (by assumption) ?pr1
    case py1 => (intro w hSw; (try dsimp only at hSw); go_simp; try with_reducible rfl)
    (try simp only [Act.put, putS])
    refine wpAnyH_take (i := 3) (v := ?pv3) rfl (by kernel_rfl) (by kernel_rfl) (by kernel_rfl) (fun _ _ _ h => h) (Or.inl ⟨by rfl, ?py3⟩) (by assumption) ?pr3
    case py3 => (intro w hSw; (try dsimp only at hSw); go_simp; try with_reducible rfl)
    (try simp only [Act.put, putS])
    refine wpAnyH_take (i := 4) (v := ?pv4) rfl (by kernel_rfl) (by kernel_rfl) (by kernel_rfl) (fun _ _ _ h => h) (Or.inl ⟨by rfl, ?py4⟩) (by assumption) ?pr4
    case py4 => (intro w hSw; (try dsimp only at hSw); go_simp; try with_reducible rfl)
    (try simp only [Act.put, putS])
    refine wpAnyH_take (i := 5) (v := ?pv5) rfl (by kernel_rfl) (by kernel_rfl) (by kernel_rfl) (fun _ _ _ h => h) (Or.inl ⟨by rfl, ?py5⟩) (by assumption) ?pr5
    case py5 => (intro w hSw; (try dsimp only at hSw); go_simp; try with_reducible rfl)
    (try simp only [Act.put, putS])
    refine wpAnyH_ready (rs := [2]) (by kernel_rfl) (by simp) ?_
    refine AllReadyH.cons rfl (fun K hK => ?_) AllReadyH.nil
    rw [if_pos (by rfl)]
    go_wp2_with fail
    refine (refNum_any _ _ hid0 (by omega)).mono ?_
    rintro e w1 ⟨va1, vc1, rfl, ho1, hb1⟩
    have O1 := hid ho1
    have B1 := hid (((Below.refl w.heap.size w).drew).trans hb1)
    clear ho1 hb1
    refine hK.out _ _ (SW.out _ B1.out) (fun hHeld => ?_)
    try clear hK K
    (try simp only [Act.put, putS])
    refine wpAnyH_ready (rs := [6]) (by kernel_rfl) (by simp) ?_
    refine AllReadyH.cons rfl (fun K hK => ?_) AllReadyH.nil
    rw [if_pos (by rfl)]
    go_wp2_with fail
    refine (refNum_any _ _ hfr0 (by omega)).mono ?_
    rintro e w2 ⟨va2, vc2, rfl, ho2, hb2⟩
    have O2 := hid ho2.bts
    have P1 := hid (O1.out.below hb2)
    have B2 := hid (B1.out.trans (hb2.mono B1.out.size))
    clear ho2 hb2
    refine hK.out _ _ (SW.out _ B2.out) (fun hHeld => ?_)
    try clear hK K
    (try simp only [Act.put, putS])
    try clear hK K
    (try simp only [Act.put, putS])
    refine wpAnyH_ready (rs := [7]) (by kernel_rfl) (by simp) ?_
    refine AllReadyH.cons rfl (fun K hK => ?_) AllReadyH.nil
    rw [if_pos (by rfl)]
    refine wp_bapp _ _ rfl w.heap.size (.slice va1 (numB i0.toNat).length vc1) (numB i0.toNat) rfl P1.out _ (numB f0.toNat) rfl O2.out (by have := HN1.out; have := HN2.out; omega) B2.out.size HNE.out ?_
    intro va3 vc3 w3 ho3 hg3
    have B3 := hid (B2.out.trans (below_grown P1.out hg3 B2.out.size))
    have O3 := hid ho3
    clear ho3 hg3
    refine hK.out _ _ (SW.out _ B3.out) (fun hHeld => ?_)
    try clear hK K
    (try simp only [Act.put, putS])
    refine wpAnyH_take (i := 8) (v := .slice va3 ((numB i0.toNat).length + (numB f0.toNat).length) vc3) rfl (by kernel_rfl) (by kernel_rfl) (by kernel_rfl) (fun _ _ _ h => h) (Or.inl ⟨by rfl, by intro w hSw; go_simp; try with_reducible rfl⟩) (by assumption) ?_
    (try simp only [Act.put, putS])
    refine wpAnyH_done (by kernel_rfl) ?_ _
    go_wp2_with fail
    go_meet
    case rel => exact ⟨va3, vc3, by rw [List.length_append], by rw [List.length_append]; exact O3.out, B3.out⟩
  case rest =>
    obtain ⟨va3, vc3, rfl, hrc⟩ := hcut
    obtain ⟨-, s1⟩ := SW.out wc hrc.2
    have HRC := hid hrc
    have hlen0 : (numB i0.toNat ++ numB f0.toNat).length ≤ 20 := by have := HN1.out; have := HN2.out; rw [List.length_append]; omega
    have HOB : Hid (orBy ⟨i0, f0, t0, mem⟩ = numB i0.toNat ++ numB f0.toNat ++ numB t0.toNat ++ (numB mem.length ++ memY mem)) := hid (by
      have hs : (⟨(memY mem).toArray⟩ : ByteArray).size = mem.length := by show (memY mem).toArray.size = _; rw [List.size_toArray, memY_len]
      unfold orBy textB
      rw [hs])
    clear hrc HN1 HN2 HNE u1 u2
    generalize numB i0.toNat ++ numB f0.toNat = l0 at *
    have hsz := HRC.out.2.size
    go_upto_region 3 with (first
      | (go_at_call 32; refine (refNum_any t0 _ hto0 (by omega)).mono ?_; rintro e w4 ⟨va4, vc4, rfl, ho4, hb4⟩; have O4 := hid ho4.bts; have B4 := hid hb4; have W4 := hid (HRC.out.1.below hb4); have hs4 : w.heap.size ≤ w4.heap.size := Nat.le_trans hsz hb4.size; clear ho4 hb4)
      | (at_builtin; refine wpl_append rfl _ _ rfl w.heap.size (.slice va3 l0.length vc3) l0 rfl W4.out _ (numB t0.toNat) rfl O4.out (by have := HN3.out; omega) hs4 ?_; intro va5 vc5 w5 ho5 hg5; have R5 := hid (HRC.out.app B4.out ho5 hg5); clear ho5 hg5))
    clear W4 O4 B4 HRC s1 u3
    rw [← List.length_append]
    have hlen1 : (l0 ++ numB t0.toNat).length ≤ 30 := by have := HN3.out; rw [List.length_append]; omega
    generalize l0 ++ numB t0.toNat = l1 at *
    have hsz5 := R5.out.2.size
    go_upto_region 4 with (first
      | (go_at_call 32; refine (refNum_any (mem.length : Int) _ (by omega) (by omega)).mono ?_; rintro e w6 ⟨va6, vc6, rfl, ho6, hb6⟩; rw [Int.toNat_natCast] at ho6 ⊢; have O6 := hid ho6.bts; have B6 := hid hb6; have W6 := hid (R5.out.1.below hb6); have hs6 : w.heap.size ≤ w6.heap.size := Nat.le_trans hsz5 hb6.size; clear ho6 hb6)
      | (at_builtin; refine wpl_append rfl _ _ rfl w.heap.size (.slice va5 l1.length vc5) l1 rfl W6.out _ (numB mem.length) rfl O6.out (by have := HN4.out; omega) hs6 ?_; intro va7 vc7 w7 ho7 hg7; have R7 := hid (R5.out.app B6.out ho7 hg7); clear ho7 hg7))
    clear W6 O6 B6 R5 u4
    rw [← List.length_append]
    rw [← List.append_assoc] at HOB
    have hlen2 : (l1 ++ numB mem.length).length ≤ 40 := by have := HN4.out; rw [List.length_append]; omega
    generalize l1 ++ numB mem.length = l2 at *
    go_wp2_with fail
    go_loopw [7, 9, 32] (fun bv _ iv wr => ∃ (i : Nat) (va : Option Addr) (vc : Nat) (l : List UInt8), iv = .int .i64 i ∧ i ≤ mem.length ∧ bv = .slice va l.length vc ∧ l = l2 ++ memY (mem.take i) ∧ RC w l va vc wr) (fun _ _ iv _ => mem.length - (intOf iv).toNat)
    case atStart => exact ⟨0, va7, vc7, l2, rfl, Nat.zero_le _, rfl, by simp [memY], R7.out⟩
    case round =>
      obtain ⟨i, va8, vc8, l, rfl, hil, rfl, hle, hrc⟩ := hrel
      clear R7
      have HRC := hid hrc
      have HLE := hid hle
      have hll : l.length ≤ 50 := by rw [hle, List.length_append, memY_len, List.length_take]; omega
      have hsz8 := hrc.2.size
      clear hrc hle
      by_cases hlt : (i : Int) < (mem.length : Int)
      · have hi : i < mem.length := by omega
        have HVr := own_below HM.out HRC.out.2
        obtain ⟨g, rfl⟩ : ∃ g, va = some ⟨g, 0, none⟩ := own_some HVr (by omega)
        have cm : wr.cell? ⟨g, i, none⟩ = some (.int .i64 mem[i]) := own_cell HVr (by simp [nvs, List.getElem?_eq_getElem hi])
        have hn := HJM.out mem[i] (List.getElem_mem hi)
        have HFT : Hid (memY (mem.take (i + 1)) = memY (mem.take i) ++ [UInt8.ofNat mem[i].toNat]) := hid (by unfold memY; rw [List.take_succ_eq_append_getElem hi, List.map_append]; rfl)
        generalize mem[i] = m at *
        clear HVr
        have hu : IntKind.u8.wrap m = m := IntWalk.u8_in _ ⟨by omega, by omega⟩
        have hbA := ((Below.refl wr.heap.size wr).alloc (Nat.le_refl _) (.cells #[.int .u8 m] 5))
        have hbv : bv (UInt8.ofNat m.toNat) = .int .u8 m := by rw [bv_num _ (by omega), Int.toNat_of_nonneg hn.1]
        go_wp2_with (at_builtin; refine wpl_append rfl _ _ rfl w.heap.size (.slice va8 l.length vc8) l rfl (HRC.out.1.below hbA) _ [UInt8.ofNat m.toNat] rfl (bts_block [UInt8.ofNat m.toNat] (heap_alloc_new _ _) (by simp [hbv]) 1 rfl (by omega)) (by simp; omega) (by simp; omega) ?_; intro va9 vc9 w9 ho9 hg9; have R9 := hid (HRC.out.app hbA ho9 hg9); clear ho9 hg9)
        go_roundw
        case rel => exact ⟨i + 1, va9, vc9, l ++ [UInt8.ofNat m.toNat], by go_num, by omega, by simp, by rw [HFT.out, HLE.out, List.append_assoc], R9.out⟩
        case measure => simp [intOf]; omega
      · have hin : i = mem.length := by omega
        go_wp2_with fail
        go_ret
        have e : l = orBy ⟨i0, f0, t0, mem⟩ := by rw [HOB.out, HLE.out, hin, List.take_length]
        rw [← e]
        refine ⟨va8, vc8, by simp, ?_, ?_⟩
        · exact HRC.out.1.lower B0.out.size
        · exact B0.out.trans (HRC.out.2.mono B0.out.size)
end Go.Proofs.YtnkjkaofgninnaaGreat
namespace Go.Proofs.YtnkjkaofgninnaaGreat
open Go.RowKit Go.Maps Go.Shelf
set_option linter.unusedVariables false
set_option linter.unusedSimpArgs false

theorem wpl_loadSpR {ops : Array Oper} {rest : List Oper} {o : Oper} {a : Act} {w : World} {Q : Exit → Act → World → Prop} (hgd : o.guard = none) (x : Operand) (ho : o.op = .load 58 x)
    (b f : Nat) (hx : a.eval x = .pointer (some ⟨b, f, none⟩)) (c0 c1 : Value) (hg : w.rangeAt b f [c0, c1])
    (h : wpList Tryz.prog ops Q rest (a.put o.dst (.agg #[c0, c1])) w) : wpList Tryz.prog ops Q (o :: rest) a w := by
  obtain ⟨d, hd1, hd2⟩ := Tryz.rowSp
  exact wpList_load_mid hgd _ x ho b f hx [c0, c1] d hg hd1 hd2 Tryz.sizeSp h
set_option maxRecDepth 100000 in
set_option maxHeartbeats 8000000 in
theorem rcodeA_any (b : Nat) (N : AtN) (ov sv : Value) (X : List SX) (w : World) (h : RB w b N ov sv X) (hin : AIn N X) (hj : EnJ N X) :
    Calls Tryz.prog 7 #[.pointer (some ⟨b, 0, none⟩)] w fun e w' => ∃ va vc, e = .returned (.slice va (encB N (X.map (·.s))).length vc) ∧ Own w' w.heap.size (.slice va (encB N (X.map (·.s))).length vc) (encB N (X.map (·.s))) ∧ Below w.heap.size w w' := by
  have hbl0 : 0 ≤ N.bl := hj.b.1
  have hbl1 : N.bl ≤ 256 := hj.b.2
  have hep0 : 0 ≤ N.ep := hj.e.1
  have hep1 : N.ep ≤ 2000000000 := hj.e.2
  have hnx0 : 0 ≤ N.nx := hj.n.1
  have hnx1 : N.nx ≤ 2000000000 := hj.n.2
  have hol : N.op.length ≤ 5000 := hj.l
  have hxl : X.length ≤ 100000 := hin.len
  obtain ⟨⟨oa, oc, rfl⟩, ⟨sa, sc, rfl⟩⟩ := h.shapes
  have HR := hid h
  have HJO : Hid (∀ n ∈ N.op, 0 ≤ n ∧ n ≤ 2000000000) := hid hj.o
  have HJS : Hid (∀ x ∈ X, ShJ x.s) := hid hj.s
  have HLN := hid (encB_len N X hin hj)
  clear h hin hj
  have SW : Hid (∀ Y, Below w.heap.size w Y → Y.cell? ⟨b, 0, none⟩ = some (.int .i64 N.bl) ∧ Y.cell? ⟨b, 1, none⟩ = some (.int .i64 N.ep) ∧ Y.cell? ⟨b, 2, none⟩ = some (.int .i64 N.nx) ∧ Y.cell? ⟨b, 3, none⟩ = some (.slice oa N.op.length oc) ∧ Y.cell? ⟨b, 4, none⟩ = some (.slice sa X.length sc)) := hid fun Y hY => by
    have h1 := (hY.block b (lt_of_block HR.out.box)).trans HR.out.box
    refine ⟨?_, ?_, ?_, ?_, ?_⟩ <;> (rw [cell_of_row _ _ _ _ _ _ h1]; rfl)
  have u1 : IntKind.u64.wrap N.bl = N.bl := IntWalk.u64_in _ ⟨by omega, by omega⟩
  have u2 : IntKind.u64.wrap N.ep = N.ep := IntWalk.u64_in _ ⟨by omega, by omega⟩
  have u3 : IntKind.u64.wrap N.nx = N.nx := IntWalk.u64_in _ ⟨by omega, by omega⟩
  have u4 : IntKind.u64.wrap (N.op.length : Int) = N.op.length := IntWalk.u64_in _ ⟨by omega, by omega⟩
  have hxw : IntKind.u64.wrap (X.length : Int) = X.length := IntWalk.u64_in _ ⟨by omega, by omega⟩
  have HN1 := hid (numB_len N.bl.toNat (by omega))
  have HN2 := hid (numB_len N.ep.toNat (by omega))
  have HN3 := hid (numB_len N.nx.toNat (by omega))
  have HN4 := hid (numB_len N.op.length (by omega))
  have HN5 := hid (numB_len X.length (by omega))
  have HNE : Hid (numB N.ep.toNat ≠ []) := hid (fun e => by have := numB_pos N.ep.toNat; rw [e] at this; simp at this)
  have HEB : Hid (encB N (X.map (·.s)) = numB N.bl.toNat ++ numB N.ep.toNat ++ numB N.nx.toNat ++ (numB N.op.length ++ N.op.flatMap nuBy) ++ (numB X.length ++ (X.map (·.s)).flatMap shBy)) := hid (by unfold encB listB; rw [List.length_map])
  generalize encB N (X.map (·.s)) = bs at *
  go_enter Tryz.func7, Tryz.ntmps7
  go_upto_region 1 with fail
  go_cut [3] from 10 to 22 (fun bv wx => ∃ va vc, bv = .slice va (numB N.bl.toNat ++ numB N.ep.toNat).length vc ∧ RC w (numB N.bl.toNat ++ numB N.ep.toNat) va vc wx)
  case first =>
    refine wp_region_held_drew (S := fun Y => Y.cell? ⟨b, 0, none⟩ = some (.int .i64 N.bl) ∧ Y.cell? ⟨b, 1, none⟩ = some (.int .i64 N.ep) ∧ Y.cell? ⟨b, 2, none⟩ = some (.int .i64 N.nx) ∧ Y.cell? ⟨b, 3, none⟩ = some (.slice oa N.op.length oc) ∧ Y.cell? ⟨b, 4, none⟩ = some (.slice sa X.length sc)) (by kernel_rfl) (SW.out _ ((Below.refl _ _).drew)) (fun hHeld => ?_)
    refine wpAnyH_take (i := 0) (v := ?pv0) rfl (by kernel_rfl) (by kernel_rfl) (by kernel_rfl) (fun _ _ _ h => h) (Or.inl ⟨by rfl, ?py0⟩) (by assumption) ?pr0
    case py0 => (intro w hSw; (try dsimp only at hSw); go_simp; try with_reducible rfl)
    (try simp only [Act.put, putS])
    refine wpAnyH_take (i := 1) (v := ?pv1) rfl (by kernel_rfl) (by kernel_rfl) (by kernel_rfl) (fun _ _ _ h => h) (Or.inl ⟨by rfl, ?py1⟩) (by assumption) ?pr1
    case py1 => (intro w hSw; (try dsimp only at hSw); go_simp; try with_reducible rfl)
    (try simp only [Act.put, putS])
    refine wpAnyH_take (i := 2) (v := ?pv2) rfl (by kernel_rfl) (by kernel_rfl) (by kernel_rfl) (fun _ _ _ h => h) (Or.inl ⟨by rfl, ?py2⟩) (by assumption) ?pr2
    case py2 => (intro w hSw; (try dsimp only at hSw); go_simp; try with_reducible rfl)
    (try simp only [Act.put, putS])
    refine wpAnyH_take (i := 3) (v := ?pv3) rfl (by kernel_rfl) (by kernel_rfl) (by kernel_rfl) (fun _ _ _ h => h) (Or.inl ⟨by rfl, ?py3⟩) (by assumption) ?pr3
    case py3 => (intro w hSw; (try dsimp only at hSw); go_simp; try with_reducible rfl)
    (try simp only [Act.put, putS])
    refine wpAnyH_take (i := 4) (v := ?pv4) rfl (by kernel_rfl) (by kernel_rfl) (by kernel_rfl) (fun _ _ _ h => h) (Or.inl ⟨by rfl, ?py4⟩) (by assumption) ?pr4
    case py4 => (intro w hSw; (try dsimp only at hSw); go_simp; try with_reducible rfl)
    (try simp only [Act.put, putS])
    refine wpAnyH_take (i := 6) (v := ?pv6) rfl (by kernel_rfl) (by kernel_rfl) (by kernel_rfl) (fun _ _ _ h => h) (Or.inl ⟨by rfl, ?py6⟩) (by assumption) ?pr6
    case py6 => (intro w hSw; (try dsimp only at hSw); go_simp; try with_reducible rfl)
    (try simp only [Act.put, putS])
    refine wpAnyH_take (i := 7) (v := ?pv7) rfl (by kernel_rfl) (by kernel_rfl) (by kernel_rfl) (fun _ _ _ h => h) (Or.inl ⟨by rfl, ?py7⟩) (by assumption) ?pr7
    case py7 => (intro w hSw; (try dsimp only at hSw); go_simp; try with_reducible rfl)
    (try simp only [Act.put, putS])
    refine wpAnyH_take (i := 8) (v := ?pv8) rfl (by kernel_rfl) (by kernel_rfl) (by kernel_rfl) (fun _ _ _ h => h) (Or.inl ⟨by rfl, ?py8⟩) (by assumption) ?pr8
    case py8 => (intro w hSw; (try dsimp only at hSw); go_simp; try with_reducible rfl)
    (try simp only [Act.put, putS])
    refine wpAnyH_take (i := 9) (v := ?pv9) rfl (by kernel_rfl) (by kernel_rfl) (by kernel_rfl) (fun _ _ _ h => h) (Or.inl ⟨by rfl, ?py9⟩) (by assumption) ?pr9
    case py9 => (intro w hSw; (try dsimp only at hSw); go_simp; try with_reducible rfl)
    (try simp only [Act.put, putS])
    refine wpAnyH_take (i := 10) (v := ?pv10) rfl (by kernel_rfl) (by kernel_rfl) (by kernel_rfl) (fun _ _ _ h => h) (Or.inl ⟨by rfl, ?py10⟩) (by assumption) ?pr10
    case py10 => (intro w hSw; (try dsimp only at hSw); go_simp; try with_reducible rfl)
    (try simp only [Act.put, putS])
    refine wpAnyH_ready (rs := [5]) (by kernel_rfl) (by simp) ?_
    refine AllReadyH.cons rfl (fun K hK => ?_) AllReadyH.nil
    rw [if_pos (by rfl)]
    go_wp2_with fail
    refine (refNum_any _ _ hbl0 (by omega)).mono ?_
    rintro e w1 ⟨va1, vc1, rfl, ho1, hb1⟩
    have O1 := hid ho1
    have B1 := hid (((Below.refl w.heap.size w).drew).trans hb1)
    clear ho1 hb1
    refine hK.out _ _ (SW.out _ B1.out) (fun hHeld => ?_)
    try clear hK K
    (try simp only [Act.put, putS])
    refine wpAnyH_ready (rs := [11]) (by kernel_rfl) (by simp) ?_
    refine AllReadyH.cons rfl (fun K hK => ?_) AllReadyH.nil
    rw [if_pos (by rfl)]
    go_wp2_with fail
    refine (refNum_any _ _ hep0 (by omega)).mono ?_
    rintro e w2 ⟨va2, vc2, rfl, ho2, hb2⟩
    have O2 := hid ho2.bts
    have P1 := hid (O1.out.below hb2)
    have B2 := hid (B1.out.trans (hb2.mono B1.out.size))
    clear ho2 hb2
    refine hK.out _ _ (SW.out _ B2.out) (fun hHeld => ?_)
    try clear hK K
    (try simp only [Act.put, putS])
    try clear hK K
    (try simp only [Act.put, putS])
    refine wpAnyH_ready (rs := [12]) (by kernel_rfl) (by simp) ?_
    refine AllReadyH.cons rfl (fun K hK => ?_) AllReadyH.nil
    rw [if_pos (by rfl)]
    refine wp_bapp _ _ rfl w.heap.size (.slice va1 (numB N.bl.toNat).length vc1) (numB N.bl.toNat) rfl P1.out _ (numB N.ep.toNat) rfl O2.out (by have := HN1.out; have := HN2.out; omega) B2.out.size HNE.out ?_
    intro va3 vc3 w3 ho3 hg3
    have B3 := hid (B2.out.trans (below_grown P1.out hg3 B2.out.size))
    have O3 := hid ho3
    clear ho3 hg3
    refine hK.out _ _ (SW.out _ B3.out) (fun hHeld => ?_)
    try clear hK K
    (try simp only [Act.put, putS])
    refine wpAnyH_take (i := 13) (v := .slice va3 ((numB N.bl.toNat).length + (numB N.ep.toNat).length) vc3) rfl (by kernel_rfl) (by kernel_rfl) (by kernel_rfl) (fun _ _ _ h => h) (Or.inl ⟨by rfl, by intro w hSw; go_simp; try with_reducible rfl⟩) (by assumption) ?_
    (try simp only [Act.put, putS])
    refine wpAnyH_done (by kernel_rfl) ?_ _
    go_wp2_with fail
    go_meet
    case rel => exact ⟨va3, vc3, by rw [List.length_append], by rw [List.length_append]; exact O3.out, B3.out⟩
  case rest =>
    obtain ⟨va3, vc3, rfl, hrc⟩ := hcut
    obtain ⟨-, -, s2, s3, -⟩ := SW.out wc hrc.2
    have HRC := hid hrc
    have hlen0 : (numB N.bl.toNat ++ numB N.ep.toNat).length ≤ 20 := by have := HN1.out; have := HN2.out; rw [List.length_append]; omega
    clear hrc HN1 HN2 HNE u1 u2
    generalize numB N.bl.toNat ++ numB N.ep.toNat = l0 at *
    have hsz := HRC.out.2.size
    go_upto_region 3 with (first
      | (go_at_call 32; refine (refNum_any N.nx _ hnx0 (by omega)).mono ?_; rintro e w4 ⟨va4, vc4, rfl, ho4, hb4⟩; have O4 := hid ho4.bts; have B4 := hid hb4; have W4 := hid (HRC.out.1.below hb4); have hs4 : w.heap.size ≤ w4.heap.size := Nat.le_trans hsz hb4.size; clear ho4 hb4)
      | (at_builtin; refine wpl_append rfl _ _ rfl w.heap.size (.slice va3 l0.length vc3) l0 rfl W4.out _ (numB N.nx.toNat) rfl O4.out (by have := HN3.out; omega) hs4 ?_; intro va5 vc5 w5 ho5 hg5; have R5 := hid (HRC.out.app B4.out ho5 hg5); clear ho5 hg5))
    clear W4 O4 B4 HRC s2 s3 u3
    rw [← List.length_append]
    have hlen1 : (l0 ++ numB N.nx.toNat).length ≤ 30 := by have := HN3.out; rw [List.length_append]; omega
    generalize l0 ++ numB N.nx.toNat = l1 at *
    have hsz5 := R5.out.2.size
    obtain ⟨-, -, -, s3, -⟩ := SW.out w5 R5.out.2
    go_upto_region 4 with (first
      | (go_at_call 32; refine (refNum_any (N.op.length : Int) _ (by omega) (by omega)).mono ?_; rintro e w6 ⟨va6, vc6, rfl, ho6, hb6⟩; rw [Int.toNat_natCast] at ho6 ⊢; have O6 := hid ho6.bts; have B6 := hid hb6; have W6 := hid (R5.out.1.below hb6); have hs6 : w.heap.size ≤ w6.heap.size := Nat.le_trans hsz5 hb6.size; clear ho6 hb6)
      | (at_builtin; refine wpl_append rfl _ _ rfl w.heap.size (.slice va5 l1.length vc5) l1 rfl W6.out _ (numB N.op.length) rfl O6.out (by have := HN4.out; omega) hs6 ?_; intro va7 vc7 w7 ho7 hg7; have R7 := hid (R5.out.app B6.out ho7 hg7); clear ho7 hg7))
    clear W6 O6 B6 R5 s3 u4
    rw [← List.length_append]
    have hlen2 : (l1 ++ numB N.op.length).length ≤ 40 := by have := HN4.out; rw [List.length_append]; omega
    have HE2 : Hid (bs = (l1 ++ numB N.op.length) ++ N.op.flatMap nuBy ++ (numB X.length ++ (X.map (·.s)).flatMap shBy)) := hid (by rw [HEB.out]; simp only [List.append_assoc])
    clear HEB
    generalize l1 ++ numB N.op.length = l2 at *
    obtain ⟨-, -, -, s3, -⟩ := SW.out w7 R7.out.2
    go_wp2_with fail
    clear s3
    go_loopw [3, 5, 45] (fun bv _ iv wr => ∃ (i : Nat) (va : Option Addr) (vc : Nat) (l : List UInt8), iv = .int .i64 i ∧ i ≤ N.op.length ∧ bv = .slice va l.length vc ∧ l = l2 ++ (N.op.take i).flatMap nuBy ∧ RC w l va vc wr) (fun _ _ iv _ => N.op.length - (intOf iv).toNat)
    case atStart => exact ⟨0, va7, vc7, l2, rfl, Nat.zero_le _, rfl, by simp, R7.out⟩
    case round =>
      obtain ⟨i, va8, vc8, l, rfl, hil, rfl, hle, hrc⟩ := hrel
      clear R7
      have HRC := hid hrc
      have HLE := hid hle
      have hll : l.length ≤ 60000 := by
        have h1 := flat_take_lenM nuBy N.op i 10 fun n hn => numB_len n.toNat (by have := HJO.out n hn; omega)
        rw [hle, List.length_append]; omega
      have hsz8 := hrc.2.size
      clear hrc hle
      by_cases hlt : (i : Int) < (N.op.length : Int)
      · have hi : i < N.op.length := by omega
        have HVr := own_below HR.out.opn HRC.out.2
        obtain ⟨g, rfl⟩ : ∃ g, oa = some ⟨g, 0, none⟩ := own_some HVr (by omega)
        have cm : wr.cell? ⟨g, i, none⟩ = some (.int .i64 N.op[i]) := own_cell HVr (by simp [nvs, List.getElem?_eq_getElem hi])
        have hn := HJO.out N.op[i] (List.getElem_mem hi)
        have HFT := hid (flat_take nuBy N.op i hi)
        obtain ⟨m, hm⟩ : ∃ m, m = N.op[i] := ⟨_, rfl⟩
        rw [← hm] at cm hn HFT
        clear HVr hm
        have hu : IntKind.u64.wrap m = m := IntWalk.u64_in _ ⟨by omega, by omega⟩
        have hml := numB_len m.toNat (by omega)
        go_wp2_with (first
          | (go_at_call 32; refine (refNum_any m _ hn.1 (by omega)).mono ?_; rintro e w8 ⟨va9, vc9, rfl, ho8, hb8⟩; have O8 := hid ho8.bts; have B8 := hid hb8; have W8 := hid (HRC.out.1.below hb8); have hs8 : w.heap.size ≤ w8.heap.size := Nat.le_trans hsz8 hb8.size; clear ho8 hb8)
          | (at_builtin; refine wpl_append rfl _ _ rfl w.heap.size (.slice va8 l.length vc8) l rfl W8.out _ (numB m.toNat) rfl O8.out (by omega) hs8 ?_; intro va10 vc10 w9 ho9 hg9; have R9 := hid (HRC.out.app B8.out ho9 hg9); clear ho9 hg9))
        go_roundw
        case rel => exact ⟨i + 1, va10, vc10, l ++ numB m.toNat, by go_num, by omega, by simp, by rw [HFT.out, HLE.out, List.append_assoc]; rfl, R9.out⟩
        case measure => simp [intOf]; omega
      · have hin : i = N.op.length := by omega
        have HE3 : Hid (bs = l ++ (numB X.length ++ (X.map (·.s)).flatMap shBy)) := hid (by rw [HE2.out, HLE.out, hin, List.take_length])
        clear HLE HE2
        obtain ⟨-, -, -, -, s4⟩ := SW.out wr HRC.out.2
        go_upto_region 10 with (first
          | (go_at_call 32; refine (refNum_any (X.length : Int) _ (by omega) (by omega)).mono ?_; rintro e w8 ⟨va9, vc9, rfl, ho8, hb8⟩; rw [Int.toNat_natCast] at ho8 ⊢; have O8 := hid ho8.bts; have B8 := hid hb8; have W8 := hid (HRC.out.1.below hb8); have hs8 : w.heap.size ≤ w8.heap.size := Nat.le_trans hsz8 hb8.size; clear ho8 hb8)
          | (at_builtin; refine wpl_append rfl _ _ rfl w.heap.size (.slice va8 l.length vc8) l rfl W8.out _ (numB X.length) rfl O8.out (by have := HN5.out; omega) hs8 ?_; intro va10 vc10 w9 ho9 hg9; have R9 := hid (HRC.out.app B8.out ho9 hg9); clear ho9 hg9))
        clear W8 O8 B8 HRC s4 hxw
        rw [← List.length_append]
        have hlen4 : (l ++ numB X.length).length ≤ 70000 := by have := HN5.out; rw [List.length_append]; omega
        have HE4 : Hid (bs = (l ++ numB X.length) ++ (X.map (·.s)).flatMap shBy) := hid (by rw [HE3.out]; simp only [List.append_assoc])
        clear HE3
        generalize l ++ numB X.length = l4 at *
        obtain ⟨-, -, -, -, s4⟩ := SW.out w9 R9.out.2
        go_wp2_with fail
        clear s4
        go_loopw [3, 7, 9, 69] (fun bv _ _ iv wr => ∃ (i : Nat) (va : Option Addr) (vc : Nat) (l : List UInt8), iv = .int .i64 i ∧ i ≤ X.length ∧ bv = .slice va l.length vc ∧ l = l4 ++ ((X.map (·.s)).take i).flatMap shBy ∧ RC w l va vc wr) (fun _ _ _ iv _ => X.length - (intOf iv).toNat)
        case atStart => exact ⟨0, va10, vc10, l4, rfl, Nat.zero_le _, rfl, by simp, R9.out⟩
        case round =>
          obtain ⟨k, va11, vc11, l5, rfl, hkl, rfl, hle5, hrc5⟩ := hrel
          clear R9
          have R11 := hid hrc5
          have HL5 := hid hle5
          have hl5 : l5.length ≤ 30000000 := by
            have h1 := flat_take_lenM shBy (X.map (·.s)) k 200 fun S hS => by
              obtain ⟨x, hx, rfl⟩ := List.mem_map.1 hS
              exact shBy_len _ (HJS.out x hx)
            rw [List.length_map] at h1
            rw [hle5, List.length_append]; omega
          have hsz11 := hrc5.2.size
          clear hrc5 hle5
          by_cases hltk : (k : Int) < (X.length : Int)
          · have hk : k < X.length := by omega
            have hrow := own_below HR.out.row R11.out.2
            obtain ⟨g, rfl⟩ : ∃ g, sa = some ⟨g, 0, none⟩ := own_some hrow (by omega)
            have hrg := own_range hrow (k * 5) _ (shvs_part X k hk)
            have HXM := hid ((HR.out.mem _ (List.getElem_mem hk)).below R11.out.2)
            have HXW := hid (HR.out.mem _ (List.getElem_mem hk))
            have HOK := hid (HJS.out _ (List.getElem_mem hk))
            have him : k < (X.map (·.s)).length := by rw [List.length_map]; exact hk
            have HFT : Hid (((X.map (·.s)).take (k + 1)).flatMap shBy = ((X.map (·.s)).take k).flatMap shBy ++ shBy (X[k]'hk).s) := hid (by have := flat_take shBy (X.map (·.s)) k him; rw [this, List.getElem_map])
            obtain ⟨⟨S, mv, pv⟩, hx⟩ : ∃ x, x = X[k]'hk := ⟨_, rfl⟩
            rw [← hx] at hrg HXM HXW HOK HFT
            clear hx hrow
            have HXM : Hid (ShM wr S mv pv) := HXM
            have HXW : Hid (ShM w S mv pv) := HXW
            obtain ⟨⟨ma, mc, rfl⟩, ⟨pa, pc, rfl⟩⟩ := HXM.out.shape
            unfold SX.c at hrg
            simp only at hrg HOK HFT
            go_upto_region 13 with (refine wpl_loadM rfl _ rfl g (k * 5) (by go_simp) _ _ _ _ _ hrg ?_)
            clear hrg
            have hb2 : Below wr.heap.size wr (wr.alloc (.cells #[.int .i64 S.id, .int .i64 S.fr, .int .i64 S.to, .slice ma S.mem.length mc, .slice pa S.past.length pc] 61)) := (Below.refl _ _).alloc (Nat.le_refl _) _
            have hg2 := heap_alloc_new wr (.cells #[.int .i64 S.id, .int .i64 S.fr, .int .i64 S.to, .slice ma S.mem.length mc, .slice pa S.past.length pc] 61)
            have B12 := hid hb2
            have M12 := hid (HXM.out.below hb2)
            have G12 := hid hg2
            have O12 := hid (R11.out.1.below hb2)
            clear hb2 hg2
            generalize wr.alloc (.cells #[.int .i64 S.id, .int .i64 S.fr, .int .i64 S.to, .slice ma S.mem.length mc, .slice pa S.past.length pc] 61) = w12 at *
            obtain ⟨A, hAe⟩ : ∃ A, A = wr.heap.size := ⟨_, rfl⟩
            rw [← hAe] at G12
            rw [← hAe]
            have HAE := hid hAe
            clear hAe
            have c0 : w12.cell? ⟨A, 0, none⟩ = some (.int .i64 S.id) := by rw [cell_of_row _ _ _ _ _ _ G12.out]; rfl
            have c3 : w12.cell? ⟨A, 3, none⟩ = some (.slice ma S.mem.length mc) := by rw [cell_of_row _ _ _ _ _ _ G12.out]; rfl
            have hR1 : w12.rangeAt A 1 [.int .i64 S.fr, .int .i64 S.to] := range_of_row G12.out 1 _ fun j v hv => by
              match j, hv with
              | 0, hv => simpa using hv
              | 1, hv => simpa using hv
              | j + 2, hv => simp at hv
            have hol5 := orBy_len _ HOK.out.o
            have hs12 : w.heap.size ≤ w12.heap.size := Nat.le_trans hsz11 B12.out.size
            go_upto_region 14 with (first
              | (refine wpl_loadSpR rfl _ rfl A 1 rfl _ _ hR1 ?_)
              | (go_at_call 33; refine (rorig_any S.id S.fr S.to S.mem _ w12 HOK.out.o M12.out.m).mono ?_; rintro e w13 ⟨va13, vc13, rfl, ho13, hb13⟩; have O13 := hid ho13.bts; have B13 := hid (B12.out.trans (hb13.mono B12.out.size)); have W13 := hid (R11.out.1.below B13.out); have hs13 : w.heap.size ≤ w13.heap.size := Nat.le_trans hs12 hb13.size; have A13 := hid ((hb13.block A (lt_of_block G12.out)).trans G12.out); clear ho13 hb13)
              | (at_builtin; refine wpl_append rfl _ _ rfl w.heap.size (.slice va11 l5.length vc11) l5 rfl W13.out _ (orBy ⟨S.id, S.fr, S.to, S.mem⟩) rfl O13.out (by omega) hs13 ?_; intro va14 vc14 w14 ho14 hg14; have R14 := hid (R11.out.app B13.out ho14 hg14); have A14 := hid ((hg14.block A (lt_of_block A13.out) (fun e => own_ne W13.out A13.out (by decide) e.symm)).trans A13.out); clear ho14 hg14))
            clear O13 B13 W13 A13 c0 c3 hR1 O12 B12 M12 G12
            rw [← List.length_append]
            obtain ⟨l6, hl6e⟩ : ∃ l6, l6 = l5 ++ orBy ⟨S.id, S.fr, S.to, S.mem⟩ := ⟨_, rfl⟩
            rw [← hl6e] at R14 ⊢
            have hl6 : l6.length ≤ 30000050 := by rw [hl6e, List.length_append]; omega
            have HL6 := hid hl6e
            clear hl6e hol5
            have hs14 := R14.out.2.size
            have hpl := HOK.out.l
            have c4 : w14.cell? ⟨A, 4, none⟩ = some (.slice pa S.past.length pc) := by rw [cell_of_row _ _ _ _ _ _ A14.out]; rfl
            have hpw : IntKind.u64.wrap (S.past.length : Int) = S.past.length := IntWalk.u64_in _ ⟨by omega, by omega⟩
            have HNP := hid (numB_len S.past.length (by omega))
            go_upto_region 15 with (first
              | (go_at_call 32; refine (refNum_any (S.past.length : Int) _ (by omega) (by omega)).mono ?_; rintro e w15 ⟨va15, vc15, rfl, ho15, hb15⟩; rw [Int.toNat_natCast] at ho15 ⊢; have O15 := hid ho15.bts; have B15 := hid hb15; have W15 := hid (R14.out.1.below hb15); have hs15 : w.heap.size ≤ w15.heap.size := Nat.le_trans hs14 hb15.size; have A15 := hid ((hb15.block A (lt_of_block A14.out)).trans A14.out); clear ho15 hb15)
              | (at_builtin; refine wpl_append rfl _ _ rfl w.heap.size (.slice va14 l6.length vc14) l6 rfl W15.out _ (numB S.past.length) rfl O15.out (by have := HNP.out; omega) hs15 ?_; intro va16 vc16 w16 ho16 hg16; have R16 := hid (R14.out.app B15.out ho16 hg16); have A16 := hid ((hg16.block A (lt_of_block A15.out) (fun e => own_ne W15.out A15.out (by decide) e.symm)).trans A15.out); clear ho16 hg16))
            clear W15 O15 B15 A15 R14 A14 c4 hpw
            rw [← List.length_append]
            obtain ⟨l7, hl7e⟩ : ∃ l7, l7 = l6 ++ numB S.past.length := ⟨_, rfl⟩
            rw [← hl7e] at R16 ⊢
            have hl7 : l7.length ≤ 30000060 := by have := HNP.out; rw [hl7e, List.length_append]; omega
            have HL7 := hid hl7e
            clear hl7e
            obtain ⟨L, hL1, hL2, hL3⟩ := HXW.out.p
            have hLL : S.past.length = L.length := by rw [← hL1]; simp
            have HL1 : Hid (L.map (·.o) = S.past) := hid hL1
            have HL2 := hid hL2
            have HL3 := hid hL3
            have HLL := hid hLL
            clear hL1 hL2 hL3
            have c4 : w16.cell? ⟨A, 4, none⟩ = some (.slice pa S.past.length pc) := by rw [cell_of_row _ _ _ _ _ _ A16.out]; rfl
            go_wp2_with fail
            clear c4 A16
            go_loopw [3, 9, 92] (fun bv _ iv wr => ∃ (i : Nat) (va : Option Addr) (vc : Nat) (l : List UInt8), iv = .int .i64 i ∧ i ≤ L.length ∧ bv = .slice va l.length vc ∧ l = l7 ++ ((L.map (·.o)).take i).flatMap orBy ∧ RC w l va vc wr) (fun _ _ iv _ => L.length - (intOf iv).toNat)
            case atStart => exact ⟨0, va16, vc16, l7, rfl, Nat.zero_le _, rfl, by simp, R16.out⟩
            case round =>
              clear R11
              rename World => wq
              obtain ⟨q, va17, vc17, l8, rfl, hql, rfl, hle8, hrc8⟩ := hrel
              clear R16
              have R17 := hid hrc8
              have HL8 := hid hle8
              have hl8 : l8.length ≤ 30000200 := by
                have h1 := flat_take_lenM orBy (L.map (·.o)) q 50 fun o ho => orBy_len _ (HOK.out.p o (by rw [← HL1.out]; exact ho))
                rw [List.length_map] at h1
                rw [hle8, List.length_append]; omega
              have hsz17 := hrc8.2.size
              clear hrc8 hle8
              rw [hLL]
              by_cases hltq : (q : Int) < (L.length : Int)
              · have hq : q < L.length := by omega
                have hprow := own_below HL2.out R17.out.2
                rw [hLL] at hprow
                obtain ⟨gp, rfl⟩ : ∃ g, pa = some ⟨g, 0, none⟩ := own_some hprow (by omega)
                have hRO : wq.rangeAt gp (q * 4) (orC (L[q]'hq)) := own_range hprow (q * 4) (orC (L[q]'hq)) (orvs_part L q hq)
                have HQM := hid (own_below (HL3.out (L[q]'hq) (List.getElem_mem hq)) R17.out.2)
                have HQJ := hid (HOK.out.p (L[q]'hq).o (by rw [← HL1.out]; exact List.mem_map.2 ⟨_, List.getElem_mem hq, rfl⟩))
                have hiq : q < (L.map (·.o)).length := by rw [List.length_map]; exact hq
                have HFQ : Hid (((L.map (·.o)).take (q + 1)).flatMap orBy = ((L.map (·.o)).take q).flatMap orBy ++ orBy (L[q]'hq).o) := hid (by have := flat_take orBy (L.map (·.o)) q hiq; rw [this, List.getElem_map])
                obtain ⟨⟨od, omv⟩, hx⟩ : ∃ x, x = L[q]'hq := ⟨_, rfl⟩
                rw [← hx] at hRO HQM HQJ HFQ
                clear hx hprow
                have HQM : Hid (wq.ownsRow 0 3 1 omv od.mem.length (nvs od.mem)) := HQM
                obtain ⟨ya, yc, rfl⟩ := own_shape HQM.out
                unfold orC at hRO
                simp only at hRO HQJ HFQ
                go_upto_region 18 with (first | (refine wpl_loadO rfl _ rfl gp (q * 4) (by go_simp) _ _ _ _ hRO ?_) | (refine wpl_newO (w3 := wq) rfl _ _ rfl _ _ _ _ rfl rfl rfl rfl rfl rfl rfl ?_; intro w18 hg18 hb18; have G18 := hid hg18; have B18 := hid hb18; have W18 := hid (R17.out.1.below hb18); have M18 := hid (own_below HQM.out hb18); clear hg18 hb18))
                clear hRO
                have c0 : w18.cell? ⟨wq.heap.size, 0, none⟩ = some (.int .i64 od.id) := by rw [cell_of_row _ _ _ _ _ _ G18.out]; rfl
                have c3 : w18.cell? ⟨wq.heap.size, 3, none⟩ = some (.slice ya od.mem.length yc) := by rw [cell_of_row _ _ _ _ _ _ G18.out]; rfl
                have hR1 : w18.rangeAt wq.heap.size 1 [.int .i64 od.fr, .int .i64 od.to] := range_of_row G18.out 1 _ fun j v hv => by
                  match j, hv with
                  | 0, hv => simpa using hv
                  | 1, hv => simpa using hv
                  | j + 2, hv => simp at hv
                have hoq := orBy_len _ HQJ.out
                have hs18 : w.heap.size ≤ w18.heap.size := Nat.le_trans hsz17 B18.out.size
                go_wp2_with (first
                  | (refine wpl_loadSpR rfl _ rfl wq.heap.size 1 rfl _ _ hR1 ?_)
                  | (go_at_call 33; refine (rorig_any od.id od.fr od.to od.mem _ w18 HQJ.out M18.out).mono ?_; rintro e w19 ⟨va19, vc19, rfl, ho19, hb19⟩; have O19 := hid ho19.bts; have B19 := hid (B18.out.trans (hb19.mono B18.out.size)); have W19 := hid (R17.out.1.below B19.out); have hs19 : w.heap.size ≤ w19.heap.size := Nat.le_trans hs18 hb19.size; clear ho19 hb19)
                  | (at_builtin; refine wpl_append rfl _ _ rfl w.heap.size (.slice va17 l8.length vc17) l8 rfl W19.out _ (orBy od) rfl O19.out (by omega) hs19 ?_; intro va20 vc20 w20 ho20 hg20; have R20 := hid (R17.out.app B19.out ho20 hg20); clear ho20 hg20))
                go_roundw
                case rel => exact ⟨q + 1, va20, vc20, l8 ++ orBy od, by go_num, by omega, by simp, by rw [HFQ.out, HL8.out, List.append_assoc], R20.out⟩
                case measure => simp [intOf]; omega
              · have hinq : q = L.length := by omega
                go_wp2_with fail
                go_roundw
                case rel =>
                  refine ⟨k + 1, va17, vc17, l8, by go_num, by omega, rfl, ?_, R17.out⟩
                  have e1 : (L.map (·.o)).take q = S.past := by rw [hinq, List.take_of_length_le (by simp), HL1.out]
                  rw [HFT.out, HL8.out, e1, HL7.out, HL6.out, HL5.out]
                  unfold shBy listB
                  simp only [List.append_assoc]
                case measure => simp [intOf]; omega
          · have hink : k = X.length := by omega
            go_wp2_with fail
            go_ret
            have e : l5 = bs := by rw [HE4.out, HL5.out, hink, List.take_of_length_le (by simp)]
            rw [← e]
            exact ⟨va11, vc11, by simp, R11.out.1, R11.out.2⟩
end Go.Proofs.YtnkjkaofgninnaaGreat
namespace Go.Proofs.YtnkjkaofgninnaaGreat
open Go.RowKit Go.Maps Go.Shelf
set_option linter.unusedVariables false
set_option linter.unusedSimpArgs false

set_option maxRecDepth 100000 in
set_option maxHeartbeats 1600000 in
theorem takeN_kt (b : Nat) (n : Int) (t : List UInt8) (w : World) (h0 : 0 ≤ n) (h1 : n ≤ 2000000000) (hr : Rd w b (some (numB n.toNat ++ t))) :
    Calls Tryz.prog 23 #[.pointer (some ⟨b, 0, none⟩)] w fun e w' => e = .returned (.int .i64 n) ∧ Rd w' b (some t) ∧ w.grownBy w' (some b) := by
  have hb := num_back n.toNat (by omega) t
  unfold numV numS at hb
  have H := hid (rnum_any b _ w hr)
  rw [hb.1, hb.2, Int.toNat_of_nonneg h0] at H
  have hw : IntKind.i64.wrap n = n := IntWalk.i64_in _ ⟨by omega, by omega⟩
  clear hr hb
  go_enter Tryz.func23, Tryz.ntmps23
  go_wp2_with (go_at_call 62; refine H.out.mono ?_; rintro e w2 ⟨rfl, hr2, hg2⟩; have R2 := hid hr2; have G2 := hid hg2; clear hr2 hg2)
  go_ret
  exact ⟨by simp, R2.out, G2.out⟩
end Go.Proofs.YtnkjkaofgninnaaGreat
namespace Go.Proofs.YtnkjkaofgninnaaGreat
open Go.RowKit Go.Maps Go.Shelf
set_option linter.unusedVariables false
set_option linter.unusedSimpArgs false

theorem grown_setO {w W : World} {r : Option Nat} (h : w.grownBy W r) (C i : Nat) (v : Value) (hC : w.heap.size ≤ C) : w.grownBy (W.setCell ⟨C, i, none⟩ v) r :=
  ⟨h.os, h.tape, h.output, by simpa using h.size, fun k hk hne => (Below.heap_setCell _ _ _ _ (by show k ≠ C; omega)).trans (h.block k hk hne)⟩
/-- An origin under way: the Reader with its rest, the result's block, the origin's own. -/
structure TkO (w : World) (b R A : Nat) (rest : List UInt8) (cs : Array Value) (W : World) : Prop where
  rd : Rd W b (some rest)
  g : w.grownBy W (some b)
  r : W.heap[R]? = some (.cells zO 80 (0, 0))
  a : W.heap[A]? = some (.cells cs 80 (0, 0))
  h : w.heap.size ≤ R ∧ R < A ∧ b < w.heap.size
theorem TkO.read {w W V : World} {b R A : Nat} {rest rest' : List UInt8} {cs : Array Value} (h : TkO w b R A rest cs W) (hr : Rd V b (some rest')) (hg : W.grownBy V (some b)) : TkO w b R A rest' cs V :=
  ⟨hr, h.g.trans hg, (hg.block R (lt_of_block h.r) (by have := h.h; intro e; cases e; omega)).trans h.r, (hg.block A (lt_of_block h.a) (by have := h.h; intro e; cases e; omega)).trans h.a, h.h⟩
theorem TkO.set {w W : World} {b R A : Nat} {rest : List UInt8} {cs : Array Value} (h : TkO w b R A rest cs W) (i : Nat) (v : Value) : TkO w b R A rest (cs.setIfInBounds i v) (W.setCell ⟨A, i, none⟩ v) :=
  ⟨h.rd.beyond fun k hk => Below.heap_setCell _ _ _ _ (by have := h.h; show k ≠ A; omega), grown_setO h.g A i v (by have := h.h; omega), (Below.heap_setCell _ _ _ _ (by have := h.h; show R ≠ A; omega)).trans h.r, heap_setCell_same _ _ _ _ _ _ h.a, h.h⟩
theorem TkO.cell {w W : World} {b R A : Nat} {rest : List UInt8} {cs : Array Value} (h : TkO w b R A rest cs W) (i : Nat) : W.cell? ⟨A, i, none⟩ = cs[i]? := by rw [cell_of_row _ _ _ _ _ _ h.a]
theorem TkO.fz {w W : World} {b R A : Nat} {rest : List UInt8} {cs : Array Value} (h : TkO w b R A rest cs W) (i : Nat) : W.frozen? ⟨A, i, none⟩ = false := frozen_of_row _ _ _ _ _ h.a
theorem TkO.below {w W V : World} {b R A : Nat} {rest : List UInt8} {cs : Array Value} (h : TkO w b R A rest cs W) (hb : Below W.heap.size W V) : TkO w b R A rest cs V :=
  ⟨h.rd.kept hb, h.g.andThen (row' := none) ⟨hb.os, hb.tape, hb.output, hb.size, fun k hk _ => hb.block k hk⟩ (fun j e => by cases e), (hb.block R (lt_of_block h.r)).trans h.r, (hb.block A (lt_of_block h.a)).trans h.a, h.h⟩
/-- A row of numbers grows beside it. -/
theorem TkO.row {w W V : World} {b R A n : Nat} {rest : List UInt8} {cs : Array Value} {v : Value} {xs : List Value} (h : TkO w b R A rest cs W) (ho : W.ownsRow w.heap.size 3 1 v n xs) (hg : W.grownBy V v.ownBlock) : TkO w b R A rest cs V :=
  ⟨h.rd.beyond fun k hk => hg.block k (by have := h.rd.lt; omega) (fun e => by have := (World.ownsRow.lt ho k e.symm).1; have := h.h; omega), h.g.andThen hg (fun j e => .inl (World.ownsRow.lt ho j e).1), (hg.block R (lt_of_block h.r) (fun e => own_ne ho h.r (by decide) e.symm)).trans h.r, (hg.block A (lt_of_block h.a) (fun e => own_ne ho h.a (by decide) e.symm)).trans h.a, h.h⟩
set_option maxRecDepth 100000 in
set_option maxHeartbeats 4000000 in
theorem takeO_kt (b : Nat) (o : OrD) (t : List UInt8) (w : World) (hj : OrJ o) (hr : Rd w b (some (orBy o ++ t))) (hb : b < w.heap.size) :
    Calls Tryz.prog 66 #[.pointer (some ⟨b, 0, none⟩)] w fun e w' => ∃ va vc, e = .returned (.agg #[.int .i64 o.id, .int .i64 o.fr, .int .i64 o.to, .slice va o.mem.length vc]) ∧ w'.ownsRow w.heap.size 3 1 (.slice va o.mem.length vc) o.mem.length (nvs o.mem) ∧ Rd w' b (some t) ∧ w.grownBy w' (some b) := by
  obtain ⟨i0, f0, t0, mem⟩ := o
  obtain ⟨tx, htx⟩ : ∃ tx : ByteArray, tx = ⟨(memY mem).toArray⟩ := ⟨_, rfl⟩
  have hO : orBy ⟨i0, f0, t0, mem⟩ = numB i0.toNat ++ numB f0.toNat ++ numB t0.toNat ++ textB tx := by rw [htx]; rfl
  have hi := hj.i
  have hf := hj.f
  have ht := hj.t
  have hml : mem.length ≤ 7 := hj.l
  simp only at hi hf ht
  rw [hO, List.append_assoc, List.append_assoc, List.append_assoc] at hr
  have hb1 : Below w.heap.size w (w.alloc (.cells #[.int .i64 0, .int .i64 0, .int .i64 0, .slice none 0 0] 80)) := (Below.refl _ _).alloc (Nat.le_refl _) _
  have H1 := hid (takeN_kt b i0 _ _ hi.1 hi.2 (hr.kept hb1))
  go_enter Tryz.func66, Tryz.ntmps66
  go_upto_region 2 with (first
    | (go_at_call 23; refine H1.out.mono ?_; rintro e w2 ⟨rfl, hr2, hg2⟩; have R2 := hid hr2; have G2 := hid hg2; clear hr2 hg2))
  have T2 : Hid (TkO w b w.heap.size w2.heap.size (numB f0.toNat ++ (numB t0.toNat ++ (textB tx ++ t))) #[.int .i64 i0, .int .i64 0, .int .i64 0, .slice none 0 0] (w2.alloc (.cells #[.int .i64 i0, .int .i64 0, .int .i64 0, .slice none 0 0] 80))) := hid (by
    have hz : w2.heap[w.heap.size]? = some (.cells zO 80 (0, 0)) := (G2.out.block w.heap.size (by simp) (by intro e; cases e; omega)).trans (heap_alloc_new _ _)
    have hb2 : Below w2.heap.size w2 (w2.alloc (.cells #[.int .i64 i0, .int .i64 0, .int .i64 0, .slice none 0 0] 80)) := (Below.refl _ _).alloc (Nat.le_refl _) _
    refine ⟨R2.out.kept hb2, ?_, (hb2.block _ (lt_of_block hz)).trans hz, heap_alloc_new _ _, Nat.le_refl _, lt_of_block hz, hb⟩
    exact ((World.grownBy_alloc w _ (some b)).trans G2.out).trans (World.grownBy_alloc w2 _ (some b)))
  generalize w2.alloc (.cells #[.int .i64 i0, .int .i64 0, .int .i64 0, .slice none 0 0] 80) = w3 at *
  generalize w2.heap.size = A at *
  clear H1 R2 G2 hb1
  go_upto_region 3 with (go_at_call 23; refine (takeN_kt b f0 _ w3 hf.1 (by omega) T2.out.rd).mono ?_; rintro e w4 ⟨rfl, hr4, hg4⟩; have T4 := hid (T2.out.read hr4 hg4); have k4 : w4.cell? ⟨A, 1, none⟩ = some (.int .i64 0) := T4.out.cell 1; have f4 := T4.out.fz 1; clear hr4 hg4)
  have T5 : Hid (TkO w b w.heap.size A (numB t0.toNat ++ (textB tx ++ t)) #[.int .i64 i0, .int .i64 f0, .int .i64 0, .slice none 0 0] (w4.setCell ⟨A, 1, none⟩ (.int .i64 f0))) := hid (T4.out.set 1 _)
  clear k4 f4 T4 T2
  generalize w4.setCell ⟨A, 1, none⟩ (.int .i64 f0) = w5 at *
  go_upto_region 4 with (go_at_call 23; refine (takeN_kt b t0 _ w5 ht.1 (by omega) T5.out.rd).mono ?_; rintro e w6 ⟨rfl, hr6, hg6⟩; have T6 := hid (T5.out.read hr6 hg6); have k6 : w6.cell? ⟨A, 2, none⟩ = some (.int .i64 0) := T6.out.cell 2; have f6 := T6.out.fz 2; clear hr6 hg6)
  have T7 : Hid (TkO w b w.heap.size A (textB tx ++ t) #[.int .i64 i0, .int .i64 f0, .int .i64 t0, .slice none 0 0] (w6.setCell ⟨A, 2, none⟩ (.int .i64 t0))) := hid (T6.out.set 2 _)
  clear k6 f6 T6 T5
  generalize w6.setCell ⟨A, 2, none⟩ (.int .i64 t0) = w7 at *
  have hts : tx.size = mem.length := by rw [htx]; show (memY mem).toArray.size = _; rw [List.size_toArray, memY_len]
  have hbk := text_back tx (by omega) t
  have HX := hid (rtext_any b _ w7 T7.out.rd)
  rw [hbk.1, hbk.2] at HX
  have htl : tx.data.toList = memY mem := by rw [htx]
  rw [htl] at HX
  have hms : (⟨(memY mem).toArray⟩ : ByteArray).size = mem.length := by show (memY mem).toArray.size = _; rw [List.size_toArray, memY_len]
  go_wp2_with (go_at_call 81; refine HX.out.mono ?_; rintro e w8 ⟨rfl, hr8, hg8⟩; have T8 := hid (T7.out.read hr8 hg8); clear hr8 hg8; obtain ⟨cap, w9, hrun, hbts, hb9⟩ := conv_bytes w8 ⟨(memY mem).toArray⟩ (by rw [hms]; omega); rw [hms] at hrun hbts; have hlt8 : A < w8.heap.size := lt_of_block T8.out.a; have T9 := hid (T8.out.below hb9); have V9 := hid hbts; clear hbts hb9 T8)
  have hs79 : w.heap.size ≤ w9.heap.size := T9.out.g.size
  have hA8 : A < w9.heap.size := lt_of_block T9.out.a
  have CB : Hid (∀ j (h : j < mem.length), w9.cell? ⟨w8.heap.size, j, none⟩ = some (.int .u8 mem[j])) := hid fun j h => by
    obtain ⟨ao, n, cap', e, -, -, -, -, hcell⟩ := V9.out
    cases e
    have := hcell _ rfl j (by rw [memY_len]; exact h)
    rw [Addr.add_lit, Nat.zero_add] at this
    rw [this]
    have hn := hj.m mem[j] (List.getElem_mem h)
    have e2 : (memY mem)[j]'(by rw [memY_len]; exact h) = UInt8.ofNat mem[j].toNat := by simp [memY]
    rw [e2, UInt8.toNat_ofNat', Nat.mod_eq_of_lt (by omega), Int.toNat_of_nonneg hn.1]
  have HNA : Hid (A < w8.heap.size) := hid hlt8
  clear hrun T7 HX hbk V9
  go_loopw [5, 21] (fun _ iv wr => ∃ (i : Nat) (va : Option Addr) (vc : Nat), iv = .int .i64 i ∧ i ≤ mem.length ∧ TkO w b w.heap.size A t #[.int .i64 i0, .int .i64 f0, .int .i64 t0, .slice va i vc] wr ∧ wr.ownsRow w9.heap.size 3 1 (.slice va i vc) i (nvs (mem.take i)) ∧ wr.heap[w8.heap.size]? = w9.heap[w8.heap.size]? ∧ w9.heap.size ≤ wr.heap.size) (fun _ iv _ => mem.length - (intOf iv).toNat)
  case atStart => exact ⟨0, none, 0, rfl, Nat.zero_le _, T9.out, World.ownsRow_nil _ _ _ _, rfl, Nat.le_refl _⟩
  case round =>
    obtain ⟨i, va, vc, rfl, hi, htk, hrow, hsame, hsz⟩ := hrel
    have TR := hid htk
    have OR := hid hrow
    have SR := hid hsame
    clear htk hrow hsame T9
    by_cases hlt : (i : Int) < (mem.length : Int)
    · have hil : i < mem.length := by omega
      have cb : wr.cell? ⟨w8.heap.size, i, none⟩ = some (.int .u8 mem[i]) := by rw [World.cell?_of_block (w := w9) SR.out]; exact CB.out i hil
      have h89 : w8.heap.size < w9.heap.size := Nat.lt_of_not_le fun h => by
        have := CB.out i hil
        rw [World.cell?, Array.getElem?_eq_none (by simpa using h)] at this
        cases this
      have c3 : wr.cell? ⟨A, 3, none⟩ = some (.slice va i vc) := TR.out.cell 3
      have hn := hj.m mem[i] (List.getElem_mem hil)
      have HTK : Hid (nvs (mem.take (i + 1)) = nvs (mem.take i) ++ [.int .i64 mem[i]]) := hid (by unfold nvs; rw [List.take_succ_eq_append_getElem hil, List.map_append]; rfl)
      generalize mem[i] = m at *
      have hw : IntKind.i64.wrap m = m := IntWalk.i64_in _ ⟨by omega, by omega⟩
      have hbA := ((Below.refl wr.heap.size wr).alloc (Nat.le_refl _) (.cells #[.int .i64 m] 3))
      have HBA := hid hbA
      have T10 := hid (TR.out.below hbA)
      have O10 := hid (own_below OR.out hbA)
      have HYS : Hid (∀ j u, [Value.int .i64 m][j]? = some u → (wr.alloc (.cells #[.int .i64 m] 3)).cell? ⟨wr.heap.size, j, none⟩ = some u) := hid fun j u hju => by
        rw [cell_of_row _ _ _ _ _ _ (heap_alloc_new _ _)]; simpa using hju
      clear hbA
      go_wp2_with (at_builtin; refine wpl_app rowNm rfl _ _ rfl w9.heap.size (.slice va i vc) i (nvs (mem.take i)) rfl O10.out wr.heap.size 1 1 [.int .i64 m] rfl rfl HYS.out (by simp [Value.oneCell']) (by omega) (by simp; omega) ?_; intro va11 vc11 w11 ho11 hg11; have T11 := hid (T10.out.row (own_low O10.out hs79) hg11); have k11 : w11.cell? ⟨A, 3, none⟩ = some (.slice va i vc) := T11.out.cell 3; have f11 := T11.out.fz 3; have O11 := hid ho11; have S11 := hid ((hg11.block w8.heap.size (by simp; omega) (fun e => by have := (World.ownsRow.lt O10.out _ e.symm).1; omega)).trans ((HBA.out.block _ (by omega)).trans SR.out)); have hz11 := hg11.size; clear ho11 hg11)
      have hne : ∀ q, q ≠ A → (w11.setCell ⟨A, 3, none⟩ (.slice va11 (i + 1) vc11)).heap[q]? = w11.heap[q]? := fun q hq => Below.heap_setCell _ _ _ _ hq
      go_roundw
      case rel =>
        refine ⟨i + 1, va11, vc11, by go_num, by omega, T11.out.set 3 _, ?_, ?_, ?_⟩
        · rw [HTK.out]
          exact own_kept O11.out fun q cs _ hh => hne q fun e => by rw [e, T11.out.a] at hh; cases hh
        · exact (hne _ (by have := HNA.out; omega)).trans S11.out
        · have : (wr.alloc (.cells #[.int .i64 m] 3)).heap.size ≤ w11.heap.size := hz11
          simp at this ⊢
          omega
      case measure => simp [intOf]; omega
    · have hin : i = mem.length := by omega
      have hRA : wr.rangeAt A 0 [.int .i64 i0, .int .i64 f0, .int .i64 t0, .slice va i vc] := range_of_row TR.out.a 0 _ fun j v hv => by rw [Nat.zero_add]; simpa using hv
      have hzs : wr.heap[w.heap.size]? = some (.cells zO 80 (0, 0)) := TR.out.r
      go_wp2_with (first | (refine wpl_loadO rfl _ rfl A 0 rfl _ _ _ _ hRA ?_) | (refine wpl_storeO rfl _ _ rfl w.heap.size _ _ _ _ rfl rfl rfl rfl rfl rfl _ _ rfl hzs ?_))
      (try simp only [Exit.inBlock, Exit.then])
      refine bodyPost_ret (results_or rfl _ _ w.heap.size _ _ _ rfl rfl (setRow_heap _ _ _ _ _ _ hzs)) rfl ?_
      have hO := OR.out
      rw [hin, List.take_length] at hO
      have hG := TR.out.g
      exact ⟨va, vc, rfl, own_kept (own_low hO hs79) (fun q cs _ hh => setRow_other _ _ _ _ fun e => by rw [e, hzs] at hh; cases hh), TR.out.rd.beyond (fun k hk => setRow_other _ _ _ _ (by omega)), ⟨hG.os, hG.tape, hG.output, by simpa using hG.size, fun k hk hne => (setRow_other _ _ _ _ (by omega)).trans (hG.block k hk hne)⟩⟩
end Go.Proofs.YtnkjkaofgninnaaGreat
namespace Go.Proofs.YtnkjkaofgninnaaGreat
open Go.RowKit Go.Maps Go.Shelf
set_option linter.unusedVariables false
set_option linter.unusedSimpArgs false

theorem len_back {α : Type} (enc : α → List UInt8) (xs : List α) (rest : List UInt8) (hn : xs.length ≤ 4096) (h1 : ∀ x ∈ xs, 1 ≤ (enc x).length) : lenR 4096 (some (listB enc xs ++ rest)) = (xs.length, some (xs.flatMap enc ++ rest)) := by
  unfold lenR listB
  rw [List.append_assoc, numR_numB _ _ (by omega), if_neg]
  have := flat_ge enc xs h1
  simp only [leftN, List.length_append]; omega
theorem orBy_pos (o : OrD) : 1 ≤ (orBy o).length := by
  unfold orBy
  have := numB_pos o.id.toNat
  simp only [List.length_append]; omega
theorem flat_drop {α : Type} (enc : α → List UInt8) (L : List α) (i : Nat) (h : i < L.length) (t : List UInt8) : (L.drop i).flatMap enc ++ t = enc L[i] ++ ((L.drop (i + 1)).flatMap enc ++ t) := by
  rw [List.drop_eq_getElem_cons h, List.flatMap_cons, List.append_assoc]
theorem owns_kept2 {w w' : World} {base b sz : Nat} {te : TypeId} {v : Value} {n : Nat} {xs : List Value} (h : w.ownsRow base te sz v n xs) (hb : b < base) (hg : w.grownBy w' (some b)) : w'.ownsRow base te sz v n xs := by
  refine h.kept hg (Or.inr fun e => ?_)
  have := (World.ownsRow.lt h b e).1
  omega
theorem grown_own2 {w w1 w2 : World} {b base sz : Nat} {te : TypeId} {v : Value} {n : Nat} {xs : List Value} (h : w.grownBy w1 (some b)) (ho : w1.ownsRow base te sz v n xs) (hb : w.heap.size ≤ base) (hg : w1.grownBy w2 v.ownBlock) : w.grownBy w2 (some b) :=
  ⟨hg.os.trans h.os, hg.tape.trans h.tape, hg.output.trans h.output, Nat.le_trans h.size hg.size, fun k hk hr => (hg.block k (Nat.lt_of_lt_of_le hk h.size) (fun e => by have := (World.ownsRow.lt ho k e.symm).1; omega)).trans (h.block k hk hr)⟩
theorem Rd.own2 {w1 w2 : World} {b base sz : Nat} {s : Option (List UInt8)} {te : TypeId} {v : Value} {n : Nat} {xs : List Value} (h : Rd w1 b s) (ho : w1.ownsRow base te sz v n xs) (hb : b < base) (hg : w1.grownBy w2 v.ownBlock) : Rd w2 b s :=
  h.beyond fun k hk => hg.block k (Nat.lt_of_le_of_lt hk h.lt) (fun e => by have := (World.ownsRow.lt ho k e.symm).1; omega)
theorem own_beside {w w' : World} {B B' sz sz' n n' : Nat} {E E' : TypeId} {v v' : Value} {xs xs' : List Value} (h : w.ownsRow B E sz v n xs) (ho : w.ownsRow B' E' sz' v' n' xs') (hg : w.grownBy w' v'.ownBlock) (he : E ≠ E') : w'.ownsRow B E sz v n xs :=
  own_kept h fun q cs hq hh => hg.block q (lt_of_block hh) fun e => own_ne ho hh he e.symm
/-- The rows of origins' members lie in blocks from a place on. -/
def MemsB (B : Nat) (w : World) (l : List OrX) : Prop := ∀ x ∈ l, w.ownsRow B 3 1 x.mv x.o.mem.length (nvs x.o.mem)
theorem MemsB.mems {B : Nat} {w : World} {l : List OrX} (h : MemsB B w l) : Mems w l := fun x hx => own_low (h x hx) (Nat.zero_le _)
/-- What holds at a round's head. -/
structure GtO (w : World) (b : Nat) (L : List OrD) (t : List UInt8) (i : Nat) (va : Option Addr) (vc : Nat) (X : List OrX) (wr : World) : Prop where
  le : i ≤ L.length
  x : X.map (·.o) = L.take i
  o : wr.ownsRow w.heap.size 80 4 (.slice va i vc) i (orvs X)
  m : MemsB w.heap.size wr X
  r : Rd wr b (some ((L.drop i).flatMap orBy ++ t))
  g : w.grownBy wr (some b)
theorem orvs_snoc (X : List OrX) (x : OrX) : orvs (X ++ [x]) = orvs X ++ orC x := by simp [orvs]
set_option maxRecDepth 100000 in
set_option maxHeartbeats 1600000 in
theorem getO_kt (b : Nat) (L : List OrD) (t : List UInt8) (w : World) (hL : L.length ≤ 4096) (hj : ∀ o ∈ L, OrJ o) (hr : Rd w b (some (listB orBy L ++ t))) :
    Calls Tryz.prog 67 #[.pointer (some ⟨b, 0, none⟩), .func (.func 66) #[] #[]] w fun e w' =>
      ∃ (va : Option Addr) (vc : Nat), e = .returned (.slice va L.length vc) ∧ ∃ X : List OrX, X.map (·.o) = L ∧ w'.ownsRow w.heap.size 80 4 (.slice va L.length vc) L.length (orvs X) ∧ MemsB w.heap.size w' X ∧ Rd w' b (some t) ∧ w.grownBy w' (some b) := by
  have hblt := hr.lt
  have HR := hid hr
  have HJ := hid hj
  have HLB := hid (len_back orBy L t hL fun x _ => orBy_pos x)
  obtain ⟨i0, hi, hz0, hz1, hz2⟩ := info_parts rowOr.i
  have HI := hid hi
  have HZ0 := hid hz0
  have HZ1 := hid hz1
  have HZ2 := hid hz2
  clear hi hz0 hz1 hz2 hr hj
  have hfn := fun w => run_eql_fn w (.func 66) #[] #[] Tryz.underlying115
  by_cases hn0 : (0 : Int) < (L.length : Int)
  · go_enter Tryz.func67, Tryz.ntmps67
    go_wp2_with (first
      | (go_at_call 63; refine (rlen_any _ _ 4096 _ (by omega) (by omega) HR.out).mono ?_; rw [show (4096 : Int).toNat = 4096 from rfl, HLB.out]; rintro e w1 ⟨rfl, hr1, hg1⟩; have HR1 := hid hr1; have HG1 := hid hg1; have hs1 : w.heap.size ≤ w1.heap.size := hg1.size; clear hr1 hg1)
      | (go_at_call 65; refine (bad_any _ _ _ HR1.out).mono ?_; rintro e w4 ⟨rfl, rfl⟩; simp only [badO])
      | (at_make; refine wpList_make_own _ rfl _ _ 59 rfl w.heap.size 80 i0 (.agg #[.int .i64 0, .int .i64 0, .int .i64 0, .slice none 0 0]) 4 rowOr.u HI.out HZ0.out HZ1.out .i64 .i64 _ L.length rfl rfl rfl (by rw [HZ2.out]; omega) (by unfold maxLen; omega) hs1 ?_; intro w2 ho2 hg2; have HO2 := hid ho2; have HR2 := hid (Rd.beyond HR1.out fun k hk => hg2.block k (by omega) (by simp)); have HG2 := hid (grown_trans HG1.out (grown_any hg2)); clear ho2 hg2))
    clear hfn HR HR1 HG1 HLB
    go_loopw [6, 22] (fun lv iv wr => ∃ (i : Nat) (va : Option Addr) (vc : Nat) (X : List OrX), iv = .int .i64 i ∧ lv = .slice va i vc ∧ GtO w b L t i va vc X wr) (fun _ iv _ => L.length - (intOf iv).toNat)
    case atStart => exact ⟨0, _, _, [], rfl, rfl, Nat.zero_le _, rfl, HO2.out, (fun x hx => by cases hx), HR2.out, HG2.out⟩
    case round =>
      obtain ⟨i, va, vc, X, rfl, rfl, hst⟩ := hrel
      clear HO2 HR2 HG2
      have HST := hid hst
      have hil := hst.le
      have hgs := hst.g.size
      clear hst
      by_cases hlt : (i : Int) < (L.length : Int)
      · have hi' : i < L.length := by omega
        have HRD : Hid (Rd wr b (some (orBy L[i] ++ ((L.drop (i + 1)).flatMap orBy ++ t)))) := hid (by rw [← flat_drop orBy L i hi' t]; exact HST.out.r)
        have HOJ := hid (HJ.out L[i] (List.getElem_mem hi'))
        have HTK : Hid (L.take (i + 1) = L.take i ++ [L[i]]) := hid (List.take_succ_eq_append_getElem hi')
        generalize L[i] = od at *
        go_wp2_with fail
        refine (takeO_kt b od _ _ HOJ.out HRD.out (by omega)).mono ?_
        rintro e w5 ⟨ma, mc, rfl, hm5, hr5, hg5⟩
        have HO5 := hid (owns_kept2 HST.out.o hblt hg5)
        have HM5 : Hid (MemsB w.heap.size w5 (X ++ [⟨od, .slice ma od.mem.length mc⟩])) := hid fun x hx => by
          rcases List.mem_append.1 hx with hx | hx
          · exact owns_kept2 (HST.out.m x hx) hblt hg5
          · rw [List.mem_singleton.1 hx]; exact own_low hm5 hgs
        have HG5 := hid (grown_trans HST.out.g hg5)
        have HR5 := hid hr5
        have HX5 : Hid ((X ++ [(⟨od, .slice ma od.mem.length mc⟩ : OrX)]).map (·.o) = L.take (i + 1)) := hid (by rw [HTK.out, List.map_append, HST.out.x]; rfl)
        clear hr5 hg5 hm5 HRD HST hgs HTK
        obtain ⟨w6, hw6⟩ : ∃ w6, w6 = w5.alloc (.cells #[.int .i64 od.id, .int .i64 od.fr, .int .i64 od.to, .slice ma od.mem.length mc] 80) := ⟨_, rfl⟩
        have b6 : Below w5.heap.size w5 w6 := by rw [hw6]; exact (Below.refl _ _).alloc (Nat.le_refl _) _
        have r6 : w6.heap[w5.heap.size]? = some (.cells #[.int .i64 od.id, .int .i64 od.fr, .int .i64 od.to, .slice ma od.mem.length mc] 80 (0, 0)) := by rw [hw6]; exact heap_alloc_new _ _
        have C6 : Hid (∀ j u, [Value.int .i64 od.id, .int .i64 od.fr, .int .i64 od.to, .slice ma od.mem.length mc][j]? = some u → w6.cell? ⟨w5.heap.size, j, none⟩ = some u) := hid fun j u hj => by
          rw [cell_of_row _ _ _ _ _ _ r6]; simpa using hj
        have O6 := hid (own_below HO5.out b6)
        have M6 : Hid (MemsB w.heap.size w6 (X ++ [⟨od, .slice ma od.mem.length mc⟩])) := hid fun x hx => own_below (HM5.out x hx) b6
        have HR6 := hid (HR5.out.kept b6)
        have HG6 := hid (grown_trans HG5.out (grown_of_below b6 (some b)))
        have hs6 : w.heap.size ≤ w6.heap.size := HG6.out.size
        have HW6 := hid hw6
        clear hw6 b6 r6 HO5 HR5 HG5 HM5
        go_wp2_with (at_builtin; rw [← HW6.out]; refine wpl_app rowOr rfl _ _ rfl w.heap.size (.slice va i vc) i (orvs X) rfl O6.out w5.heap.size 1 1 [.int .i64 od.id, .int .i64 od.fr, .int .i64 od.to, .slice ma od.mem.length mc] rfl rfl C6.out (by intro u hu; simp at hu; rcases hu with rfl | rfl | rfl | rfl <;> rfl) (by omega) hs6 ?_; intro va7 vc7 w7 ho7 hg7; have HO7 := hid ho7; have HM7 : Hid (MemsB w.heap.size w7 (X ++ [⟨od, .slice ma od.mem.length mc⟩])) := hid (fun x hx => own_beside (M6.out x hx) O6.out hg7 (by decide)); have HR7 := hid (Rd.own2 HR6.out O6.out hblt hg7); have HG7 := hid (grown_own2 HG6.out O6.out (Nat.le_refl _) hg7); clear ho7 hg7)
        clear HR6 O6 M6 HG6 hs6 HW6 C6
        refine (bad_any _ _ _ HR7.out).mono ?_
        rintro e w8 ⟨rfl, rfl⟩
        simp only [badO]
        go_wp2
        go_roundw
        case rel => exact ⟨i + 1, va7, vc7, _, by go_num, rfl, by omega, HX5.out, by rw [orvs_snoc]; exact HO7.out, HM7.out, HR7.out, HG7.out⟩
        case measure => simp [intOf]; omega
      · have hin' : i = L.length := by omega
        subst hin'
        have h1 := HST.out.x
        have h2 := HST.out.r
        rw [List.take_length] at h1
        rw [List.drop_length] at h2
        have h3 := HST.out.o
        have h4 := HST.out.m
        have h5 := HST.out.g
        go_wp2
        go_ret
        exact ⟨va, vc, rfl, X, h1, h3, h4, h2, h5⟩
  · go_enter Tryz.func67, Tryz.ntmps67
    go_wp2_with (first
      | (go_at_call 63; refine (rlen_any _ _ 4096 _ (by omega) (by omega) HR.out).mono ?_; rw [show (4096 : Int).toNat = 4096 from rfl, HLB.out]; rintro e w1 ⟨rfl, hr1, hg1⟩; have HR1 := hid hr1; have HG1 := hid hg1; have hs1 : w.heap.size ≤ w1.heap.size := hg1.size; clear hr1 hg1)
      | (go_at_call 65; refine (bad_any _ _ _ HR1.out).mono ?_; rintro e w4 ⟨rfl, rfl⟩; simp only [badO])
      | (at_make; refine wpList_make_own _ rfl _ _ 59 rfl w.heap.size 80 i0 (.agg #[.int .i64 0, .int .i64 0, .int .i64 0, .slice none 0 0]) 4 rowOr.u HI.out HZ0.out HZ1.out .i64 .i64 _ L.length rfl rfl rfl (by rw [HZ2.out]; omega) (by unfold maxLen; omega) hs1 ?_; intro w2 ho2 hg2; have HO2 := hid ho2; have HR2 := hid (Rd.beyond HR1.out fun k hk => hg2.block k (by omega) (by simp)); have HG2 := hid (grown_trans HG1.out (grown_any hg2)); clear ho2 hg2))
    clear hfn HR HR1 HG1 HLB
    go_loopw [6, 22] (fun lv iv wr => ∃ (i : Nat) (va : Option Addr) (vc : Nat) (X : List OrX), iv = .int .i64 i ∧ lv = .slice va i vc ∧ GtO w b L t i va vc X wr) (fun _ iv _ => L.length - (intOf iv).toNat)
    case atStart => exact ⟨0, _, _, [], rfl, rfl, Nat.zero_le _, rfl, HO2.out, (fun x hx => by cases hx), HR2.out, HG2.out⟩
    case round =>
      obtain ⟨i, va, vc, X, rfl, rfl, hst⟩ := hrel
      clear HO2 HR2 HG2
      have HST := hid hst
      have hil := hst.le
      have hgs := hst.g.size
      clear hst
      by_cases hlt : (i : Int) < (L.length : Int)
      · exfalso; omega
      · have hin' : i = L.length := by omega
        subst hin'
        have h1 := HST.out.x
        have h2 := HST.out.r
        rw [List.take_length] at h1
        rw [List.drop_length] at h2
        have h3 := HST.out.o
        have h4 := HST.out.m
        have h5 := HST.out.g
        go_wp2
        go_ret
        exact ⟨va, vc, rfl, X, h1, h3, h4, h2, h5⟩
end Go.Proofs.YtnkjkaofgninnaaGreat
namespace Go.Proofs.YtnkjkaofgninnaaGreat
open Go.RowKit Go.Maps Go.Shelf
set_option linter.unusedVariables false
set_option linter.unusedSimpArgs false

/-- Rows stand where a Reader turns. -/
theorem own_rd {w w' : World} {b B sz n : Nat} {E : TypeId} {v : Value} {xs : List Value} {s : Option (List UInt8)} (h : w.ownsRow B E sz v n xs) (hr : Rd w b s) (hE : E ≠ 112) (hg : w.grownBy w' (some b)) : w'.ownsRow B E sz v n xs :=
  own_kept h fun q cs hq hh => hg.block q (lt_of_block hh) fun e => by
    cases e
    obtain ⟨ao, cap, hc⟩ := hr.cells
    rw [hc] at hh
    cases hh
    exact hE rfl
theorem ShM.rd {w w' : World} {b : Nat} {S : ShD} {mv pv : Value} {s : Option (List UInt8)} (h : ShM w S mv pv) (hr : Rd w b s) (hg : w.grownBy w' (some b)) : ShM w' S mv pv := by
  obtain ⟨L, h1, h2, h3⟩ := h.p
  exact ⟨own_rd h.m hr (by decide) hg, L, h1, own_rd h2 hr (by decide) hg, fun x hx => own_rd (h3 x hx) hr (by decide) hg⟩
theorem ShM.beside {w w' : World} {B sz n : Nat} {S : ShD} {mv pv v : Value} {xs : List Value} (h : ShM w S mv pv) (ho : w.ownsRow B 61 sz v n xs) (hg : w.grownBy w' v.ownBlock) : ShM w' S mv pv := by
  obtain ⟨L, h1, h2, h3⟩ := h.p
  exact ⟨own_beside h.m ho hg (by decide), L, h1, own_beside h2 ho hg (by decide), fun x hx => own_beside (h3 x hx) ho hg (by decide)⟩
theorem shBy_pos (S : ShD) : 1 ≤ (shBy S).length := by
  unfold shBy
  have := orBy_pos ⟨S.id, S.fr, S.to, S.mem⟩
  simp only [List.length_append]; omega
set_option maxRecDepth 100000 in
set_option maxHeartbeats 4000000 in
theorem takeS_kt (b : Nat) (S : ShD) (t : List UInt8) (w : World) (hj : ShJ S) (hr : Rd w b (some (shBy S ++ t))) :
    Calls Tryz.prog 26 #[.pointer (some ⟨b, 0, none⟩)] w fun e w' => ∃ mv pv, e = .returned (shV S mv pv) ∧ ShM w' S mv pv ∧ Rd w' b (some t) ∧ w.grownBy w' (some b) := by
  have hblt := hr.lt
  have HB := hid hblt
  obtain ⟨id, fr, tt, mem, past⟩ := S
  have hpl : past.length ≤ 4096 := by have := hj.l; simp only at this; omega
  have HPJ : Hid (∀ o ∈ past, OrJ o) := hid hj.p
  have HOJ : Hid (OrJ ⟨id, fr, tt, mem⟩) := hid hj.o
  obtain ⟨dP, hdP1, hdP2⟩ := Tryz.rowSp
  have hsb : shBy ⟨id, fr, tt, mem, past⟩ ++ t = orBy ⟨id, fr, tt, mem⟩ ++ (listB orBy past ++ t) := by unfold shBy; rw [List.append_assoc]
  rw [hsb] at hr
  have hb1 : Below w.heap.size w (w.alloc (.cells z5 61)) := (Below.refl _ _).alloc (Nat.le_refl _) _
  have H1 := hid (takeO_kt b ⟨id, fr, tt, mem⟩ (listB orBy past ++ t) (w.alloc (.cells z5 61)) HOJ.out (hr.kept hb1) (by simp; omega))
  clear hr hj hsb
  unfold shV
  go_enter Tryz.func26, Tryz.ntmps26
  go_upto_region 2 with (first
    | (go_at_call 66; refine H1.out.mono ?_; rintro e w2 ⟨ma, mc, rfl, hm2, hr2, hg2⟩; have M2 := hid (own_low hm2 (Nat.zero_le _)); have R2 := hid hr2; have G2 := hid hg2; clear hr2 hg2 hm2)
    | (refine wpl_newO (w3 := w2) rfl _ _ rfl _ _ _ _ rfl rfl rfl rfl rfl rfl rfl ?_; intro w3 hg3 hb3; have O3 := hid hg3; have B3 := hid hb3; clear hg3 hb3))
  have R0 : Hid (w3.heap[w.heap.size]? = some (.cells z5 61 (0, 0))) := hid (by
    have h2 : w2.heap[w.heap.size]? = some (.cells z5 61 (0, 0)) := (G2.out.block w.heap.size (by simp) (by intro e; cases e; omega)).trans (heap_alloc_new _ _)
    exact (B3.out.block _ (lt_of_block h2)).trans h2)
  have R3 := hid (R2.out.kept B3.out)
  have M3 := hid (own_below M2.out B3.out)
  have G3 : Hid (w.grownBy w3 (some b)) := hid (((World.grownBy_alloc w _ (some b)).trans G2.out).trans (grown_of_below B3.out (some b)))
  have HOW : Hid (b < w2.heap.size ∧ w.heap.size < w2.heap.size) := hid ⟨by have := R2.out.lt; omega, by have := G2.out.size; simp at this; omega⟩
  clear H1 R2 M2 G2 B3
  generalize w2.heap.size = O at *
  have SW : Hid (∀ Y, w3.grownBy Y (some b) → Y.cell? ⟨O, 0, none⟩ = some (.int .i64 id) ∧ Y.rangeAt O 1 [.int .i64 fr, .int .i64 tt] ∧ Y.cell? ⟨O, 3, none⟩ = some (.slice ma mem.length mc)) := hid fun Y hY => by
    have h1 := (hY.block O (lt_of_block O3.out) (by have := HOW.out; intro e; cases e; omega)).trans O3.out
    refine ⟨by rw [cell_of_row _ _ _ _ _ _ h1]; rfl, range_of_row h1 1 _ fun j v hv => ?_, by rw [cell_of_row _ _ _ _ _ _ h1]; rfl⟩
    match j, hv with
    | 0, hv => exact hv
    | 1, hv => exact hv
  have SS : Hid (∀ Y, w3.grownBy Y (some b) → ∀ cs, (Y.setRow w.heap.size cs).cell? ⟨O, 0, none⟩ = some (.int .i64 id) ∧ (Y.setRow w.heap.size cs).rangeAt O 1 [.int .i64 fr, .int .i64 tt] ∧ (Y.setRow w.heap.size cs).cell? ⟨O, 3, none⟩ = some (.slice ma mem.length mc)) := hid fun Y hY cs => by
    have h1 := (show (Y.setRow w.heap.size cs).heap[O]? = Y.heap[O]? from setRow_other _ _ _ _ (by have := HOW.out; omega)).trans ((hY.block O (lt_of_block O3.out) (by have := HOW.out; intro e; cases e; omega)).trans O3.out)
    refine ⟨by rw [cell_of_row _ _ _ _ _ _ h1]; rfl, range_of_row h1 1 _ fun j v hv => ?_, by rw [cell_of_row _ _ _ _ _ _ h1]; rfl⟩
    match j, hv with
    | 0, hv => exact hv
    | 1, hv => exact hv
  refine wp_region_held_drew (S := fun Y => Y.cell? ⟨O, 0, none⟩ = some (.int .i64 id) ∧ Y.rangeAt O 1 [.int .i64 fr, .int .i64 tt] ∧ Y.cell? ⟨O, 3, none⟩ = some (.slice ma mem.length mc)) (by kernel_rfl) (SW.out _ (grown_of_below ((Below.refl _ _).drew) (some b))) (fun hHeld => ?_)
  refine wpAnyH_take (i := 0) (v := ?pv0) rfl (by kernel_rfl) (by kernel_rfl) (by kernel_rfl) (fun _ _ _ h => h) (Or.inl ⟨by rfl, ?py0⟩) (by assumption) ?pr0
  case py0 => (intro w hSw; (try dsimp only at hSw); go_simp; try with_reducible rfl)
  (try simp only [Act.put, putS])
  refine wpAnyH_take (i := 1) (v := ?pv1) rfl (by kernel_rfl) (by kernel_rfl) (by kernel_rfl) (fun _ _ _ h => h) (Or.inl ⟨by rfl, ?py1⟩) (by assumption) ?pr1
  case py1 => (intro w hSw; (try dsimp only at hSw); go_simp; try with_reducible rfl)
  (try simp only [Act.put, putS])
  refine wpAnyH_take (i := 2) (v := ?pv2) rfl (by kernel_rfl) (by kernel_rfl) (by kernel_rfl) (fun _ _ _ h => h) (Or.inl ⟨by rfl, ?py2⟩) (by assumption) ?pr2
  case py2 => (intro w hSw; (try dsimp only at hSw); go_simp; try with_reducible rfl)
  (try simp only [Act.put, putS])
  refine wpAnyH_take (i := 3) (v := .agg #[.int .i64 fr, .int .i64 tt]) rfl (by kernel_rfl) (by kernel_rfl) (by kernel_rfl) (fun _ _ _ h => h) (yieldsIf_load_mid rfl _ _ rfl O 1 (by go_simp) [.int .i64 fr, .int .i64 tt] dP (fun Y hY => hY.2.1) hdP1 hdP2 Tryz.sizeSp) (by assumption) ?_
  (try simp only [Act.put, putS])
  refine wpAnyH_take (i := 4) (v := ?qv4) rfl (by kernel_rfl) (by kernel_rfl) (by kernel_rfl) (fun _ _ _ h => h) (Or.inl ⟨by rfl, ?qy4⟩) (by assumption) ?qr4
  case qy4 => (intro w hSw; (try dsimp only at hSw); go_simp; try with_reducible rfl)
  (try simp only [Act.put, putS])
  refine wpAnyH_take (i := 5) (v := ?qv5) rfl (by kernel_rfl) (by kernel_rfl) (by kernel_rfl) (fun _ _ _ h => h) (Or.inl ⟨by rfl, ?qy5⟩) (by assumption) ?qr5
  case qy5 => (intro w hSw; (try dsimp only at hSw); go_simp; try with_reducible rfl)
  (try simp only [Act.put, putS])
  refine wpAnyH_take (i := 6) (v := ?qv6) rfl (by kernel_rfl) (by kernel_rfl) (by kernel_rfl) (fun _ _ _ h => h) (Or.inl ⟨by rfl, ?qy6⟩) (by assumption) ?qr6
  case qy6 => (intro w hSw; (try dsimp only at hSw); go_simp; try with_reducible rfl)
  (try simp only [Act.put, putS])
  refine wpAnyH_ready (rs := [7]) (by kernel_rfl) (by simp) ?_
  refine AllReadyH.cons rfl (fun K hK => ?_) AllReadyH.nil
  rw [if_pos (by rfl)]
  go_wp2_with fail
  refine (getO_kt b past t _ hpl HPJ.out (R3.out.kept ((Below.refl _ _).drew))).mono ?_
  rintro e w4 ⟨va4, vc4, rfl, X4, hx4, ho4, hm4, hr4, hg4⟩
  have G4 : Hid (w3.grownBy w4 (some b)) := hid (grown_trans (grown_of_below ((Below.refl _ _).drew) (some b)) hg4)
  have R4 := hid hr4
  have X4h := hid hx4
  have O4 := hid (own_low ho4 (Nat.zero_le _))
  have M4 := hid hm4.mems
  clear hx4 ho4 hm4 hr4 hg4
  refine hK.out _ _ (SW.out _ G4.out) (fun hHeld => ?_)
  try clear hK K
  (try simp only [Act.put, putS])
  refine wpAnyH_take (i := 8) (v := ?qv8) rfl (by kernel_rfl) (by kernel_rfl) (by kernel_rfl) (fun _ _ _ h => h) (Or.inl ⟨by rfl, ?qy8⟩) (by assumption) ?qr8
  case qy8 => (intro w hSw; (try dsimp only at hSw); go_simp; try with_reducible rfl)
  (try simp only [Act.put, putS])
  refine wpAnyH_ready (rs := [9]) (by kernel_rfl) (by simp) ?_
  refine AllReadyH.cons rfl (fun K hK => ?_) AllReadyH.nil
  rw [if_pos (by rfl)]
  have hR4 : w4.heap[w.heap.size]? = some (.cells z5 61 (0, 0)) := (G4.out.block w.heap.size (lt_of_block R0.out) (by have := HB.out; intro e; cases e; omega)).trans R0.out
  refine wp_store_row _ _ _ rfl w.heap.size #[.int .i64 id, .int .i64 fr, .int .i64 tt, .slice ma mem.length mc, .slice va4 past.length vc4] rfl rfl _ _ hR4 Tryz.sizeSh rfl (by simp [Value.oneCell']) ?_
  refine hK.out _ _ (SS.out _ G4.out _) (fun hHeld => ?_)
  try clear hK K
  (try simp only [Act.put, putS])
  refine wpAnyH_done (by kernel_rfl) ?_ _
  have hR4 : w4.heap[w.heap.size]? = some (.cells z5 61 (0, 0)) := (G4.out.block w.heap.size (lt_of_block R0.out) (by have := HB.out; intro e; cases e; omega)).trans R0.out
  have hR5 := setRow_heap _ _ _ #[.int .i64 id, .int .i64 fr, .int .i64 tt, .slice ma mem.length mc, .slice va4 past.length vc4] _ _ hR4
  have hxl : X4.length = past.length := by have := congrArg List.length X4h.out; rwa [List.length_map] at this
  have hko : ∀ {B sz n : Nat} {E : TypeId} {v : Value} {xs : List Value}, E ≠ 61 → w4.ownsRow B E sz v n xs → (w4.setRow w.heap.size #[.int .i64 id, .int .i64 fr, .int .i64 tt, .slice ma mem.length mc, .slice va4 past.length vc4]).ownsRow B E sz v n xs := fun hE h => own_kept h fun q cs hq hh => setRow_other _ _ _ _ fun e => by rw [e, hR4] at hh; cases hh; exact hE rfl
  have HF : Hid (ShM (w4.setRow w.heap.size #[.int .i64 id, .int .i64 fr, .int .i64 tt, .slice ma mem.length mc, .slice va4 past.length vc4]) ⟨id, fr, tt, mem, past⟩ (.slice ma mem.length mc) (.slice va4 past.length vc4)) := hid (by
    refine ⟨hko (by decide) (own_rd M3.out R3.out (by decide) G4.out), X4, X4h.out, hko (by decide) ?_, fun x hx => hko (by decide) (M4.out x hx)⟩
    rw [hxl]; exact O4.out)
  have HR : Hid (Rd (w4.setRow w.heap.size #[.int .i64 id, .int .i64 fr, .int .i64 tt, .slice ma mem.length mc, .slice va4 past.length vc4]) b (some t)) := hid (R4.out.beyond fun k hk => setRow_other _ _ _ _ (by omega))
  have HG : Hid (w.grownBy (w4.setRow w.heap.size #[.int .i64 id, .int .i64 fr, .int .i64 tt, .slice ma mem.length mc, .slice va4 past.length vc4]) (some b)) := hid (by
    have h := grown_trans G3.out G4.out
    exact ⟨h.os, h.tape, h.output, by simpa using h.size, fun k hk hne => (setRow_other _ _ _ _ (by omega)).trans (h.block k hk hne)⟩)
  clear hko hHeld
  go_wp2_with fail
  (try simp only [Exit.inBlock, Exit.then])
  refine bodyPost_ret (results_sh rfl _ _ w.heap.size _ _ _ rfl rfl hR5) rfl ?_
  exact ⟨_, _, rfl, HF.out, HR.out, HG.out⟩
end Go.Proofs.YtnkjkaofgninnaaGreat
namespace Go.Proofs.YtnkjkaofgninnaaGreat
open Go.RowKit Go.Maps Go.Shelf
set_option linter.unusedVariables false
set_option linter.unusedSimpArgs false

/-- What holds at a round's head. -/
structure GdSh (w : World) (b : Nat) (L : List ShD) (t : List UInt8) (i : Nat) (va : Option Addr) (vc : Nat) (X : List SX) (wr : World) : Prop where
  le : i ≤ L.length
  x : X.map (·.s) = L.take i
  o : wr.ownsRow w.heap.size 61 5 (.slice va i vc) i (shvs X)
  m : ∀ x ∈ X, ShM wr x.s x.mv x.pv
  r : Rd wr b (some ((L.drop i).flatMap shBy ++ t))
  g : w.grownBy wr (some b)
theorem shvs_snoc (X : List SX) (x : SX) : shvs (X ++ [x]) = shvs X ++ x.c := by simp [shvs]
set_option maxRecDepth 100000 in
set_option maxHeartbeats 1600000 in
theorem getS_kt (b : Nat) (L : List ShD) (t : List UInt8) (w : World) (hL : L.length ≤ 4096) (hj : ∀ o ∈ L, ShJ o) (hr : Rd w b (some (listB shBy L ++ t))) :
    Calls Tryz.prog 25 #[.pointer (some ⟨b, 0, none⟩), .func (.func 26) #[] #[]] w fun e w' =>
      ∃ (va : Option Addr) (vc : Nat), e = .returned (.slice va L.length vc) ∧ ∃ X : List SX, X.map (·.s) = L ∧ w'.ownsRow w.heap.size 61 5 (.slice va L.length vc) L.length (shvs X) ∧ (∀ x ∈ X, ShM w' x.s x.mv x.pv) ∧ Rd w' b (some t) ∧ w.grownBy w' (some b) := by
  have hblt := hr.lt
  have HR := hid hr
  have HJ := hid hj
  have HLB := hid (len_back shBy L t hL fun x _ => shBy_pos x)
  obtain ⟨i0, hi, hz0, hz1, hz2⟩ := info_parts rowSh.i
  have HI := hid hi
  have HZ0 := hid hz0
  have HZ1 := hid hz1
  have HZ2 := hid hz2
  clear hi hz0 hz1 hz2 hr hj
  have hfn := fun w => run_eql_fn w (.func 26) #[] #[] Tryz.underlying70
  by_cases hn0 : (0 : Int) < (L.length : Int)
  · go_enter Tryz.func25, Tryz.ntmps25
    go_wp2_with (first
      | (go_at_call 63; refine (rlen_any _ _ 4096 _ (by omega) (by omega) HR.out).mono ?_; rw [show (4096 : Int).toNat = 4096 from rfl, HLB.out]; rintro e w1 ⟨rfl, hr1, hg1⟩; have HR1 := hid hr1; have HG1 := hid hg1; have hs1 : w.heap.size ≤ w1.heap.size := hg1.size; clear hr1 hg1)
      | (go_at_call 65; refine (bad_any _ _ _ HR1.out).mono ?_; rintro e w4 ⟨rfl, rfl⟩; simp only [badO])
      | (at_make; refine wpList_make_own _ rfl _ _ 62 rfl w.heap.size 61 i0 (.agg #[.int .i64 0, .int .i64 0, .int .i64 0, .slice none 0 0, .slice none 0 0]) 5 rowSh.u HI.out HZ0.out HZ1.out .i64 .i64 _ L.length rfl rfl rfl (by rw [HZ2.out]; omega) (by unfold maxLen; omega) hs1 ?_; intro w2 ho2 hg2; have HO2 := hid ho2; have HR2 := hid (Rd.beyond HR1.out fun k hk => hg2.block k (by omega) (by simp)); have HG2 := hid (grown_trans HG1.out (grown_any hg2)); clear ho2 hg2))
    clear hfn HR HR1 HG1 HLB
    go_loopw [6, 22] (fun lv iv wr => ∃ (i : Nat) (va : Option Addr) (vc : Nat) (X : List SX), iv = .int .i64 i ∧ lv = .slice va i vc ∧ GdSh w b L t i va vc X wr) (fun _ iv _ => L.length - (intOf iv).toNat)
    case atStart => exact ⟨0, _, _, [], rfl, rfl, Nat.zero_le _, rfl, HO2.out, (fun x hx => by cases hx), HR2.out, HG2.out⟩
    case round =>
      obtain ⟨i, va, vc, X, rfl, rfl, hst⟩ := hrel
      clear HO2 HR2 HG2
      have HST := hid hst
      have hil := hst.le
      have hgs := hst.g.size
      clear hst
      by_cases hlt : (i : Int) < (L.length : Int)
      · have hi' : i < L.length := by omega
        have HRD : Hid (Rd wr b (some (shBy L[i] ++ ((L.drop (i + 1)).flatMap shBy ++ t)))) := hid (by rw [← flat_drop shBy L i hi' t]; exact HST.out.r)
        have HOJ := hid (HJ.out L[i] (List.getElem_mem hi'))
        have HTK : Hid (L.take (i + 1) = L.take i ++ [L[i]]) := hid (List.take_succ_eq_append_getElem hi')
        generalize L[i] = od at *
        go_wp2_with fail
        refine (takeS_kt b od _ _ HOJ.out HRD.out).mono ?_
        rintro e w5 ⟨mv5, pv5, rfl, hm5, hr5, hg5⟩
        obtain ⟨⟨ma, mc, rfl⟩, ⟨pa, pc, rfl⟩⟩ := hm5.shape
        have HO5 := hid (owns_kept2 HST.out.o hblt hg5)
        have HM5 : Hid (∀ x ∈ X ++ [⟨od, .slice ma od.mem.length mc, .slice pa od.past.length pc⟩], ShM w5 x.s x.mv x.pv) := hid fun x hx => by
          rcases List.mem_append.1 hx with hx | hx
          · exact (HST.out.m x hx).rd HST.out.r hg5
          · rw [List.mem_singleton.1 hx]; exact hm5
        have HG5 := hid (grown_trans HST.out.g hg5)
        have HR5 := hid hr5
        have HX5 : Hid ((X ++ [(⟨od, .slice ma od.mem.length mc, .slice pa od.past.length pc⟩ : SX)]).map (·.s) = L.take (i + 1)) := hid (by rw [HTK.out, List.map_append, HST.out.x]; rfl)
        clear hr5 hg5 hm5 HRD HST hgs HTK
        unfold shV
        obtain ⟨w6, hw6⟩ : ∃ w6, w6 = w5.alloc (.cells #[.int .i64 od.id, .int .i64 od.fr, .int .i64 od.to, .slice ma od.mem.length mc, .slice pa od.past.length pc] 61) := ⟨_, rfl⟩
        have b6 : Below w5.heap.size w5 w6 := by rw [hw6]; exact (Below.refl _ _).alloc (Nat.le_refl _) _
        have r6 : w6.heap[w5.heap.size]? = some (.cells #[.int .i64 od.id, .int .i64 od.fr, .int .i64 od.to, .slice ma od.mem.length mc, .slice pa od.past.length pc] 61 (0, 0)) := by rw [hw6]; exact heap_alloc_new _ _
        have C6 : Hid (∀ j u, [Value.int .i64 od.id, .int .i64 od.fr, .int .i64 od.to, .slice ma od.mem.length mc, .slice pa od.past.length pc][j]? = some u → w6.cell? ⟨w5.heap.size, j, none⟩ = some u) := hid fun j u hj => by
          rw [cell_of_row _ _ _ _ _ _ r6]; simpa using hj
        have O6 := hid (own_below HO5.out b6)
        have M6 : Hid (∀ x ∈ X ++ [⟨od, .slice ma od.mem.length mc, .slice pa od.past.length pc⟩], ShM w6 x.s x.mv x.pv) := hid fun x hx => (HM5.out x hx).below b6
        have HR6 := hid (HR5.out.kept b6)
        have HG6 := hid (grown_trans HG5.out (grown_of_below b6 (some b)))
        have hs6 : w.heap.size ≤ w6.heap.size := HG6.out.size
        have HW6 := hid hw6
        clear hw6 b6 r6 HO5 HR5 HG5 HM5
        go_wp2_with (at_builtin; rw [← HW6.out]; refine wpl_app rowSh rfl _ _ rfl w.heap.size (.slice va i vc) i (shvs X) rfl O6.out w5.heap.size 1 1 [.int .i64 od.id, .int .i64 od.fr, .int .i64 od.to, .slice ma od.mem.length mc, .slice pa od.past.length pc] rfl rfl C6.out (by intro u hu; simp at hu; rcases hu with rfl | rfl | rfl | rfl | rfl <;> rfl) (by omega) hs6 ?_; intro va7 vc7 w7 ho7 hg7; have HO7 := hid ho7; have HM7 : Hid (∀ x ∈ X ++ [⟨od, .slice ma od.mem.length mc, .slice pa od.past.length pc⟩], ShM w7 x.s x.mv x.pv) := hid (fun x hx => (M6.out x hx).beside O6.out hg7); have HR7 := hid (Rd.own2 HR6.out O6.out hblt hg7); have HG7 := hid (grown_own2 HG6.out O6.out (Nat.le_refl _) hg7); clear ho7 hg7)
        clear HR6 O6 M6 HG6 hs6 HW6 C6
        refine (bad_any _ _ _ HR7.out).mono ?_
        rintro e w8 ⟨rfl, rfl⟩
        simp only [badO]
        go_wp2
        go_roundw
        case rel => exact ⟨i + 1, va7, vc7, _, by go_num, rfl, by omega, HX5.out, by rw [shvs_snoc]; exact HO7.out, HM7.out, HR7.out, HG7.out⟩
        case measure => simp [intOf]; omega
      · have hin' : i = L.length := by omega
        subst hin'
        have h1 := HST.out.x
        have h2 := HST.out.r
        rw [List.take_length] at h1
        rw [List.drop_length] at h2
        have h3 := HST.out.o
        have h4 := HST.out.m
        have h5 := HST.out.g
        go_wp2
        go_ret
        exact ⟨va, vc, rfl, X, h1, h3, h4, h2, h5⟩
  · go_enter Tryz.func25, Tryz.ntmps25
    go_wp2_with (first
      | (go_at_call 63; refine (rlen_any _ _ 4096 _ (by omega) (by omega) HR.out).mono ?_; rw [show (4096 : Int).toNat = 4096 from rfl, HLB.out]; rintro e w1 ⟨rfl, hr1, hg1⟩; have HR1 := hid hr1; have HG1 := hid hg1; have hs1 : w.heap.size ≤ w1.heap.size := hg1.size; clear hr1 hg1)
      | (go_at_call 65; refine (bad_any _ _ _ HR1.out).mono ?_; rintro e w4 ⟨rfl, rfl⟩; simp only [badO])
      | (at_make; refine wpList_make_own _ rfl _ _ 62 rfl w.heap.size 61 i0 (.agg #[.int .i64 0, .int .i64 0, .int .i64 0, .slice none 0 0, .slice none 0 0]) 5 rowSh.u HI.out HZ0.out HZ1.out .i64 .i64 _ L.length rfl rfl rfl (by rw [HZ2.out]; omega) (by unfold maxLen; omega) hs1 ?_; intro w2 ho2 hg2; have HO2 := hid ho2; have HR2 := hid (Rd.beyond HR1.out fun k hk => hg2.block k (by omega) (by simp)); have HG2 := hid (grown_trans HG1.out (grown_any hg2)); clear ho2 hg2))
    clear hfn HR HR1 HG1 HLB
    go_loopw [6, 22] (fun lv iv wr => ∃ (i : Nat) (va : Option Addr) (vc : Nat) (X : List SX), iv = .int .i64 i ∧ lv = .slice va i vc ∧ GdSh w b L t i va vc X wr) (fun _ iv _ => L.length - (intOf iv).toNat)
    case atStart => exact ⟨0, _, _, [], rfl, rfl, Nat.zero_le _, rfl, HO2.out, (fun x hx => by cases hx), HR2.out, HG2.out⟩
    case round =>
      obtain ⟨i, va, vc, X, rfl, rfl, hst⟩ := hrel
      clear HO2 HR2 HG2
      have HST := hid hst
      have hil := hst.le
      have hgs := hst.g.size
      clear hst
      by_cases hlt : (i : Int) < (L.length : Int)
      · exfalso; omega
      · have hin' : i = L.length := by omega
        subst hin'
        have h1 := HST.out.x
        have h2 := HST.out.r
        rw [List.take_length] at h1
        rw [List.drop_length] at h2
        have h3 := HST.out.o
        have h4 := HST.out.m
        have h5 := HST.out.g
        go_wp2
        go_ret
        exact ⟨va, vc, rfl, X, h1, h3, h4, h2, h5⟩
/-- What holds at a round's head. -/
structure GdNm (w : World) (b : Nat) (L : List Int) (t : List UInt8) (i : Nat) (va : Option Addr) (vc : Nat) (wr : World) : Prop where
  le : i ≤ L.length
  o : wr.ownsRow w.heap.size 3 1 (.slice va i vc) i (nvs (L.take i))
  r : Rd wr b (some ((L.drop i).flatMap nuBy ++ t))
  g : w.grownBy wr (some b)
set_option maxRecDepth 100000 in
set_option maxHeartbeats 1600000 in
theorem getN_kt (b : Nat) (L : List Int) (t : List UInt8) (w : World) (hL : L.length ≤ 4096) (hj : ∀ n ∈ L, 0 ≤ n ∧ n ≤ 2000000000) (hr : Rd w b (some (listB nuBy L ++ t))) :
    Calls Tryz.prog 24 #[.pointer (some ⟨b, 0, none⟩), .func (.func 23) #[] #[]] w fun e w' =>
      ∃ va vc, e = .returned (.slice va L.length vc) ∧ w'.ownsRow w.heap.size 3 1 (.slice va L.length vc) L.length (nvs L) ∧ Rd w' b (some t) ∧ w.grownBy w' (some b) := by
  have hblt := hr.lt
  have HR := hid hr
  have HJ := hid hj
  have HLB := hid (len_back nuBy L t hL fun x _ => numB_pos x.toNat)
  obtain ⟨i0, hi, hz0, hz1, hz2⟩ := info_parts rowNm.i
  have HI := hid hi
  have HZ0 := hid hz0
  have HZ1 := hid hz1
  have HZ2 := hid hz2
  clear hi hz0 hz1 hz2 hr hj
  have hfn := fun w => run_eql_fn w (.func 23) #[] #[] Tryz.underlying67
  by_cases hn0 : (0 : Int) < (L.length : Int)
  · go_enter Tryz.func24, Tryz.ntmps24
    go_wp2_with (first
      | (go_at_call 63; refine (rlen_any _ _ 4096 _ (by omega) (by omega) HR.out).mono ?_; rw [show (4096 : Int).toNat = 4096 from rfl, HLB.out]; rintro e w1 ⟨rfl, hr1, hg1⟩; have HR1 := hid hr1; have HG1 := hid hg1; have hs1 : w.heap.size ≤ w1.heap.size := hg1.size; clear hr1 hg1)
      | (go_at_call 65; refine (bad_any _ _ _ HR1.out).mono ?_; rintro e w4 ⟨rfl, rfl⟩; simp only [badO])
      | (at_make; refine wpList_make_own _ rfl _ _ 38 rfl w.heap.size 3 i0 (.int .i64 0) 1 rowNm.u HI.out HZ0.out HZ1.out .i64 .i64 _ L.length rfl rfl rfl (by rw [HZ2.out]; omega) (by unfold maxLen; omega) hs1 ?_; intro w2 ho2 hg2; have HO2 := hid ho2; have HR2 := hid (Rd.beyond HR1.out fun k hk => hg2.block k (by omega) (by simp)); have HG2 := hid (grown_trans HG1.out (grown_any hg2)); clear ho2 hg2))
    clear hfn HR HR1 HG1 HLB
    go_loopw [6, 22] (fun lv iv wr => ∃ (i : Nat) (va : Option Addr) (vc : Nat), iv = .int .i64 i ∧ lv = .slice va i vc ∧ GdNm w b L t i va vc wr) (fun _ iv _ => L.length - (intOf iv).toNat)
    case atStart => exact ⟨0, _, _, rfl, rfl, Nat.zero_le _, HO2.out, HR2.out, HG2.out⟩
    case round =>
      obtain ⟨i, va, vc, rfl, rfl, hst⟩ := hrel
      clear HO2 HR2 HG2
      have HST := hid hst
      have hil := hst.le
      have hgs := hst.g.size
      clear hst
      by_cases hlt : (i : Int) < (L.length : Int)
      · have hi' : i < L.length := by omega
        have HRD : Hid (Rd wr b (some (nuBy L[i] ++ ((L.drop (i + 1)).flatMap nuBy ++ t)))) := hid (by rw [← flat_drop nuBy L i hi' t]; exact HST.out.r)
        have HOJ := hid (HJ.out L[i] (List.getElem_mem hi'))
        have HTK : Hid (nvs (L.take (i + 1)) = nvs (L.take i) ++ [.int .i64 L[i]]) := hid (by unfold nvs; rw [List.take_succ_eq_append_getElem hi', List.map_append]; rfl)
        generalize L[i] = od at *
        go_wp2_with fail
        refine (takeN_kt b od _ _ HOJ.out.1 HOJ.out.2 HRD.out).mono ?_
        rintro e w5 ⟨rfl, hr5, hg5⟩
        have HO5 := hid (owns_kept2 HST.out.o hblt hg5)
        have HG5 := hid (grown_trans HST.out.g hg5)
        have HR5 := hid hr5
        clear hr5 hg5 HRD HST hgs
        obtain ⟨w6, hw6⟩ : ∃ w6, w6 = w5.alloc (.cells #[.int .i64 od] 3) := ⟨_, rfl⟩
        have b6 : Below w5.heap.size w5 w6 := by rw [hw6]; exact (Below.refl _ _).alloc (Nat.le_refl _) _
        have r6 : w6.heap[w5.heap.size]? = some (.cells #[.int .i64 od] 3 (0, 0)) := by rw [hw6]; exact heap_alloc_new _ _
        have C6 : Hid (∀ j u, [Value.int .i64 od][j]? = some u → w6.cell? ⟨w5.heap.size, j, none⟩ = some u) := hid fun j u hj => by
          rw [cell_of_row _ _ _ _ _ _ r6]; simpa using hj
        have O6 := hid (own_below HO5.out b6)
        have HR6 := hid (HR5.out.kept b6)
        have HG6 := hid (grown_trans HG5.out (grown_of_below b6 (some b)))
        have hs6 : w.heap.size ≤ w6.heap.size := HG6.out.size
        have HW6 := hid hw6
        clear hw6 b6 r6 HO5 HR5 HG5
        go_wp2_with (at_builtin; rw [← HW6.out]; refine wpl_app rowNm rfl _ _ rfl w.heap.size (.slice va i vc) i (nvs (L.take i)) rfl O6.out w5.heap.size 1 1 [.int .i64 od] rfl rfl C6.out (by simp [Value.oneCell']) (by omega) hs6 ?_; intro va7 vc7 w7 ho7 hg7; have HO7 := hid ho7; have HR7 := hid (Rd.own2 HR6.out O6.out hblt hg7); have HG7 := hid (grown_own2 HG6.out O6.out (Nat.le_refl _) hg7); clear ho7 hg7)
        clear HR6 O6 HG6 hs6 HW6 C6
        refine (bad_any _ _ _ HR7.out).mono ?_
        rintro e w8 ⟨rfl, rfl⟩
        simp only [badO]
        go_wp2
        go_roundw
        case rel => exact ⟨i + 1, va7, vc7, by go_num, rfl, by omega, by rw [HTK.out]; exact HO7.out, HR7.out, HG7.out⟩
        case measure => simp [intOf]; omega
      · have hin' : i = L.length := by omega
        subst hin'
        have h2 := HST.out.r
        rw [List.drop_length] at h2
        have h3 := HST.out.o
        rw [List.take_length] at h3
        have h5 := HST.out.g
        go_wp2
        go_ret
        exact ⟨va, vc, rfl, h3, h2, h5⟩
  · go_enter Tryz.func24, Tryz.ntmps24
    go_wp2_with (first
      | (go_at_call 63; refine (rlen_any _ _ 4096 _ (by omega) (by omega) HR.out).mono ?_; rw [show (4096 : Int).toNat = 4096 from rfl, HLB.out]; rintro e w1 ⟨rfl, hr1, hg1⟩; have HR1 := hid hr1; have HG1 := hid hg1; have hs1 : w.heap.size ≤ w1.heap.size := hg1.size; clear hr1 hg1)
      | (go_at_call 65; refine (bad_any _ _ _ HR1.out).mono ?_; rintro e w4 ⟨rfl, rfl⟩; simp only [badO])
      | (at_make; refine wpList_make_own _ rfl _ _ 38 rfl w.heap.size 3 i0 (.int .i64 0) 1 rowNm.u HI.out HZ0.out HZ1.out .i64 .i64 _ L.length rfl rfl rfl (by rw [HZ2.out]; omega) (by unfold maxLen; omega) hs1 ?_; intro w2 ho2 hg2; have HO2 := hid ho2; have HR2 := hid (Rd.beyond HR1.out fun k hk => hg2.block k (by omega) (by simp)); have HG2 := hid (grown_trans HG1.out (grown_any hg2)); clear ho2 hg2))
    clear hfn HR HR1 HG1 HLB
    go_loopw [6, 22] (fun lv iv wr => ∃ (i : Nat) (va : Option Addr) (vc : Nat), iv = .int .i64 i ∧ lv = .slice va i vc ∧ GdNm w b L t i va vc wr) (fun _ iv _ => L.length - (intOf iv).toNat)
    case atStart => exact ⟨0, _, _, rfl, rfl, Nat.zero_le _, HO2.out, HR2.out, HG2.out⟩
    case round =>
      obtain ⟨i, va, vc, rfl, rfl, hst⟩ := hrel
      clear HO2 HR2 HG2
      have HST := hid hst
      have hil := hst.le
      have hgs := hst.g.size
      clear hst
      by_cases hlt : (i : Int) < (L.length : Int)
      · exfalso; omega
      · have hin' : i = L.length := by omega
        subst hin'
        have h2 := HST.out.r
        rw [List.drop_length] at h2
        have h3 := HST.out.o
        rw [List.take_length] at h3
        have h5 := HST.out.g
        go_wp2
        go_ret
        exact ⟨va, vc, rfl, h3, h2, h5⟩
end Go.Proofs.YtnkjkaofgninnaaGreat
namespace Go.Proofs.YtnkjkaofgninnaaGreat
open Go.RowKit Go.Maps Go.Shelf
set_option linter.unusedVariables false
set_option linter.unusedSimpArgs false

set_option maxRecDepth 100000 in
set_option maxHeartbeats 1600000 in
theorem bytesEq_any (v u : Value) (l m : List UInt8) (w : World) (hv : Bts w v l) (hu : Bts w u m) :
    Calls Tryz.prog 34 #[v, u] w fun e w' => e = .returned (.bool (decide (l = m))) ∧ w' = w := by
  have h1 := conv_string w v l hv
  have h2 := conv_string w u m hu
  clear hv hu
  go_enter Tryz.func34, Tryz.ntmps34
  go_wp2_with fail
  go_ret
  exact ⟨by simp; exact Bool.eq_iff_iff.2 (by simp), rfl⟩
set_option maxRecDepth 100000 in
set_option maxHeartbeats 4000000 in
theorem samAW_any (b wb mb n : Nat) (ov : Value) (D : DataW Value) (b2 wb2 mb2 n2 : Nat) (ov2 : Value) (D2 : DataW Value) (N : AtN) (X X2 : List SX) (w : World) (h : Aw w b wb mb n ov D N X) (h2 : Aw w b2 wb2 mb2 n2 ov2 D2 N X2)
    (hin : AIn N X) (hj : EnJ N X) (hin2 : AIn N X2) (hj2 : EnJ N X2) (he : X2.map (·.s) = X.map (·.s)) :
    Calls Tryz.prog 8 #[.pointer (some ⟨b, 0, none⟩), .pointer (some ⟨b2, 0, none⟩)] w fun e w' => e = .returned (.bool true) ∧ Below w.heap.size w w' := by
  have H1 := hid (encodeW_any b wb mb n ov D N X w h hin hj)
  have H2 := hid (fun W (hW : Aw W b2 wb2 mb2 n2 ov2 D2 N X2) => encodeW_any b2 wb2 mb2 n2 ov2 D2 N X2 W hW hin2 hj2)
  rw [he] at H2
  have A2 := hid h2
  clear h h2 hin hj hin2 hj2 he
  go_enter Tryz.func8, Tryz.ntmps8
  go_wp2_with (first
    | (go_at_call 5; refine H1.out.mono ?_; rintro e w1 ⟨va1, vc1, rfl, ho1, hb1⟩; have O1 := hid ho1; have B1 := hid hb1; clear ho1 hb1 H1)
    | (go_at_call 5; refine (H2.out _ (A2.out.below B1.out)).mono ?_; rintro e w2 ⟨va2, vc2, rfl, ho2, hb2⟩; have O2 := hid ho2; have P2 := hid (O1.out.bts.below hb2); have B2 := hid (B1.out.trans (hb2.mono B1.out.size)); clear ho2 hb2)
    | (go_at_call 34; refine (bytesEq_any _ _ _ _ _ P2.out O2.out.bts).mono ?_; rintro e w3 ⟨rfl, rfl⟩))
  go_ret
  exact ⟨by simp, B2.out⟩
theorem samA_any (b wb mb n : Nat) (ov : Value) (D : DataW Value) (b2 wb2 mb2 n2 : Nat) (ov2 : Value) (D2 : DataW Value) (N : AtN) (X X2 : List SX) (w : World) (h : At w b wb mb n ov D N X) (h2 : At w b2 wb2 mb2 n2 ov2 D2 N X2)
    (hin : AIn N X) (hj : EnJ N X) (hin2 : AIn N X2) (hj2 : EnJ N X2) (he : X2.map (·.s) = X.map (·.s)) :
    Calls Tryz.prog 8 #[.pointer (some ⟨b, 0, none⟩), .pointer (some ⟨b2, 0, none⟩)] w fun e w' => e = .returned (.bool true) ∧ Below w.heap.size w w' :=
  samAW_any b wb mb n ov D b2 wb2 mb2 n2 ov2 D2 N X X2 w h.aw h2.aw hin hj hin2 hj2 he
end Go.Proofs.YtnkjkaofgninnaaGreat
