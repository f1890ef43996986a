/- The document's device in memory: what its calls answer and leave. Conditions: it lies in memory; at most a hundred thousand million bytes are laid. -/
import Derived.Test.YtpchmdfkifbciaaJnAt
namespace Go.Proofs.Ytpchmdfkifbciaa
open Go.RowKit

structure RkV (w : World) (b : Nat) (R : Nat → Prop) (S : DS) (iv sv lv : Value) : Prop where
  ok : Ok S
  rb : R b
  rlt : ∀ k, R k → k < w.heap.size
  head : w.heap[b]? = some (.cells #[.int .i64 S.room, iv, sv, .bool S.staged, lv, .int .i64 S.sure, .int .i64 S.left, .bool S.off] 71 (0, 0))
  oi : Own w 0 iv S.image
  os : Own w 0 sv S.stage
  ol : Own w 0 lv S.log
  ii : InR R b iv
  is : InR R b sv
  il : InR R b lv
def Rk (w : World) (b : Nat) (R : Nat → Prop) (S : DS) : Prop := ∃ iv sv lv, RkV w b R S iv sv lv
theorem RkV.rk {w : World} {b : Nat} {R : Nat → Prop} {S : DS} {iv sv lv : Value} (h : RkV w b R S iv sv lv) : Rk w b R S := ⟨iv, sv, lv, h⟩
theorem RkV.lt {w : World} {b : Nat} {R : Nat → Prop} {S : DS} {iv sv lv : Value} (h : RkV w b R S iv sv lv) : b < w.heap.size := lt_of_block h.head
theorem Rk.ok {w : World} {b : Nat} {R : Nat → Prop} {S : DS} (h : Rk w b R S) : Ok S := by obtain ⟨_, _, _, h⟩ := h; exact h.ok
theorem Rk.rlt {w : World} {b : Nat} {R : Nat → Prop} {S : DS} (h : Rk w b R S) : ∀ k, R k → k < w.heap.size := by obtain ⟨_, _, _, h⟩ := h; exact h.rlt
theorem RkV.same {w w' : World} {b : Nat} {R : Nat → Prop} {S : DS} {iv sv lv : Value} (h : RkV w b R S iv sv lv) (hs : w.heap.size ≤ w'.heap.size) (hb : ∀ k, R k → w'.heap[k]? = w.heap[k]?) : RkV w' b R S iv sv lv :=
  ⟨h.ok, h.rb, fun k hk => Nat.lt_of_lt_of_le (h.rlt k hk) hs, by rw [hb b h.rb]; exact h.head, h.oi.blk fun k hk => hb k (h.ii k hk).1, h.os.blk fun k hk => hb k (h.is k hk).1, h.ol.blk fun k hk => hb k (h.il k hk).1, h.ii, h.is, h.il⟩
theorem RkV.below {w w' : World} {b : Nat} {R : Nat → Prop} {S : DS} {iv sv lv : Value} (h : RkV w b R S iv sv lv) (hb : Below w.heap.size w w') : RkV w' b R S iv sv lv :=
  h.same hb.size fun k hk => hb.block k (h.rlt k hk)
theorem Rk.below {w w' : World} {b : Nat} {R : Nat → Prop} {S : DS} (h : Rk w b R S) (hb : Below w.heap.size w w') : Rk w' b R S := by obtain ⟨_, _, _, h⟩ := h; exact (h.below hb).rk
theorem Rk.but {w w' : World} {b : Nat} {R R2 : Nat → Prop} {S : DS} (h : Rk w b R S) (hb : But R2 w w') (hd : ∀ k, R k → ¬ R2 k) : Rk w' b R S := by
  obtain ⟨_, _, _, h⟩ := h
  exact (h.same hb.size fun k hk => hb.block k (h.rlt k hk) (hd k hk)).rk
def RStep (w : World) (b : Nat) (R : Nat → Prop) (w' : World) (S' : DS) : Prop := ∃ R', Rk w' b R' S' ∧ But R w w' ∧ ∀ k, R' k → R k ∨ w.heap.size ≤ k
theorem RStep.of_below {w w' : World} {b : Nat} {R : Nat → Prop} {S : DS} (h : Rk w b R S) (hb : Below w.heap.size w w') : RStep w b R w' S := ⟨R, h.below hb, But.of_below hb, fun _ h => .inl h⟩
theorem rstep_trans {w w1 w2 : World} {b : Nat} {R R1 : Nat → Prop} {S2 : DS} (h : But R w w1) (hr : ∀ k, R1 k → R k ∨ w.heap.size ≤ k) (h2 : RStep w1 b R1 w2 S2) : RStep w b R w2 S2 := by
  obtain ⟨R2, d2, t2, r2⟩ := h2
  have hs := h.size
  exact ⟨R2, d2, h.trans t2 hr, fun k hk => by rcases r2 k hk with h | h <;> first | exact hr k h | exact .inr (by omega)⟩
theorem rstep_below {w w1 w2 : World} {b : Nat} {R : Nat → Prop} {S2 : DS} (h : Below w.heap.size w w1) (h2 : RStep w1 b R w2 S2) : RStep w b R w2 S2 := rstep_trans (But.of_below h) (fun _ h => .inl h) h2
/-- New rows have been laid, then the device's own block has turned. -/
theorem RkV.make {w w1 w2 : World} {b : Nat} {R : Nat → Prop} {S S' : DS} {iv sv lv iv' sv' lv' : Value} (h : RkV w b R S iv sv lv) (hB : Below w.heap.size w w1) (t : But (fun k => k = b) w1 w2) (ok' : Ok S')
    (head' : w2.heap[b]? = some (.cells #[.int .i64 S'.room, iv', sv', .bool S'.staged, lv', .int .i64 S'.sure, .int .i64 S'.left, .bool S'.off] 71 (0, 0)))
    (oi' : Own w1 0 iv' S'.image) (os' : Own w1 0 sv' S'.stage) (ol' : Own w1 0 lv' S'.log) (ii' : ∀ k, iv'.ownBlock = some k → (R k ∧ k ≠ b) ∨ w.heap.size ≤ k) (is' : ∀ k, sv'.ownBlock = some k → (R k ∧ k ≠ b) ∨ w.heap.size ≤ k) (il' : ∀ k, lv'.ownBlock = some k → (R k ∧ k ≠ b) ∨ w.heap.size ≤ k) : RStep w b R w2 S' := by
  have hb := h.lt
  have hs := hB.size
  have hs2 := t.size
  have key : ∀ v l, Own w1 0 v l → (∀ k, v.ownBlock = some k → (R k ∧ k ≠ b) ∨ w.heap.size ≤ k) → Own w2 0 v l ∧ InR (fun k => R k ∨ (w.heap.size ≤ k ∧ k < w2.heap.size)) b v := by
    intro v l ho hk
    have hne : ∀ k, v.ownBlock = some k → k ≠ b := fun k hv => by rcases hk k hv with h | h <;> first | exact h.2 | omega
    refine ⟨ho.but t fun k hv e => hne k hv e, fun k hv => ⟨?_, hne k hv⟩⟩
    rcases hk k hv with h | h
    · exact .inl h.1
    · exact .inr ⟨h, Nat.lt_of_lt_of_le (ho.lt k hv).2 hs2⟩
  refine ⟨fun k => R k ∨ (w.heap.size ≤ k ∧ k < w2.heap.size), ⟨iv', sv', lv', ok', .inl h.rb, ?_, head', (key _ _ oi' ii').1, (key _ _ os' is').1, (key _ _ ol' il').1, (key _ _ oi' ii').2, (key _ _ os' is').2, (key _ _ ol' il').2⟩, ?_, ?_⟩
  · intro k hk
    rcases hk with hk | hk
    · have := h.rlt k hk; omega
    · exact hk.2
  · exact ⟨t.os.trans hB.os, t.tape.trans hB.tape, t.output.trans hB.output, by omega, fun k hk hn => (t.block k (by omega) (fun e => hn (by rw [e]; exact h.rb))).trans (hB.block k hk)⟩
  · intro k hk
    rcases hk with hk | hk
    · exact .inl hk
    · exact .inr hk.1
theorem old_in {R : Nat → Prop} {b n : Nat} {v : Value} (h : InR R b v) : ∀ k, v.ownBlock = some k → (R k ∧ k ≠ b) ∨ n ≤ k := fun k hk => .inl (h k hk)
theorem new_in {R : Nat → Prop} {b n : Nat} {v : Value} {w : World} {l : List UInt8} (h : Own w n v l) : ∀ k, v.ownBlock = some k → (R k ∧ k ≠ b) ∨ n ≤ k := fun k hk => .inr (h.lt k hk).1
theorem nil_in {R : Nat → Prop} {b n : Nat} : ∀ k, (Value.slice none 0 0).ownBlock = some k → (R k ∧ k ≠ b) ∨ n ≤ k := fun k hk => by cases hk
set_option maxHeartbeats 400000 in
theorem rsec_any (v : Value) (l : List UInt8) (w : World) (hv : Bts w v l) :
    Calls Try.prog 70 #[v] w fun e w' => e = .returned (.int .i64 (sec l.length)) ∧ w' = w := by
  obtain ⟨a, n, c, rfl, rfl, g1, g2, g3, -⟩ := hv
  have hl : (l.length : Int) ≤ 9223372036854775807 := by omega
  obtain ⟨n, hn⟩ : ∃ n : Nat, n = l.length := ⟨_, rfl⟩
  rw [← hn] at hl ⊢
  clear hn g1 g2 g3
  have e2 : Int.tdiv (n : Int) 512 = ((n / 512 : Nat) : Int) := by rw [Int.tdiv_eq_ediv_of_nonneg (by omega)]; omega
  have e3 : Int.tmod (n : Int) 512 = ((n % 512 : Nat) : Int) := by rw [Int.tmod_eq_emod_of_nonneg (by omega)]; omega
  by_cases h : n % 512 = 0
  all_goals
    go_enter Try.func70, Try.ntmps70
    go_wp2
    go_ret
    exact ⟨congrArg (fun x => Ending.returned (.int .i64 x)) (by unfold sec; omega), rfl⟩
set_option maxHeartbeats 400000 in
theorem join_any (u v : Value) (l m : List UInt8) (w : World) (hu : Bts w u l) (hv : Bts w v m) (hl : l.length + m.length ≤ 140737488355328) :
    Calls Try.prog 51 #[u, v] w fun e w' => ∃ va vc, e = .returned (.slice va (l.length + m.length) vc) ∧ Own w' w.heap.size (.slice va (l.length + m.length) vc) (l ++ m) ∧ Below w.heap.size w w' := by
  have HU := hid hu
  have HV := hid hv
  obtain ⟨ua, uc, rfl⟩ := hu.shape
  obtain ⟨va, vc, rfl⟩ := hv.shape
  clear hu hv
  go_enter Try.func51, Try.ntmps51
  go_wp2_with (first
    | (at_builtin; refine wpl_append rfl (.tmp 5) (.tmp 6) rfl w.heap.size (.slice (some ⟨w.heap.size, 0, none⟩) 0 0) [] rfl (Own.empty w) _ l rfl (HU.out.alloc _) (by simp; omega) (by simp) ?_; intro va1 vc1 w1 ho1 hg1 hat1; simp only [List.length_nil, Nat.zero_add, List.nil_append] at ho1 ⊢; have HB1 : Hid (Below w.heap.size w w1) := hid (((Below.refl _ _).alloc (Nat.le_refl _) _).trans ⟨hg1.os, hg1.tape, hg1.output, hg1.size, fun k hk => hg1.block k (by simp; omega) (by simp [Value.ownBlock]; omega)⟩); have HO1 := hid ho1; clear ho1 hg1 hat1)
    | (at_builtin; refine wpl_append rfl _ _ rfl w.heap.size (.slice va1 l.length vc1) l rfl HO1.out _ m rfl (HV.out.below HB1.out) hl HB1.out.size ?_; intro va2 vc2 w2 ho2 hg2 hat2; have HO2 := hid ho2; have HB2 := hid (HB1.out.grown hg2 HB1.out.size fun k hk => (HO1.out.lt k hk).1); clear ho2 hg2 hat2))
  go_ret
  exact ⟨va2, vc2, rfl, HO2.out, HB2.out⟩
end Go.Proofs.Ytpchmdfkifbciaa
