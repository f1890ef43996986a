/- The parts of Apply: a change by value, its kind, what it names, settle, and the shards that it takes away. Conditions: they lie in memory. -/
import Derived.Test.YtnkjkaofgninnaaAtGet
namespace Go.Proofs.Ytnkjkaofgninnaa
open Go.RowKit Go.Maps Go.Shelf
set_option linter.unusedVariables false
set_option linter.unusedSimpArgs false

/-- A change. -/
structure ChD where
  k : Int
  sh : Int
  ot : Int
  at' : Int
  out : Int
  in' : Int
def chC (c : ChD) : Array Value := #[.int .i64 c.k, .int .i64 c.sh, .int .i64 c.ot, .int .i64 c.at', .int .i64 c.out, .int .i64 c.in']
def chV (c : ChD) : Value := .agg #[.int .i64 c.k, .int .i64 c.sh, .int .i64 c.ot, .int .i64 c.at', .int .i64 c.out, .int .i64 c.in']
def akB (k : Int) : Bool := decide (1 ≤ k) && decide (k ≤ 5)
set_option maxHeartbeats 400000 in
theorem isKind_any (k : Int) (w : World) : Calls Try.prog 24 #[.int .i64 k] w fun e w' => e = .returned (.bool (akB k)) ∧ w' = w := by
  unfold akB
  cases h : decide (1 ≤ k)
  all_goals
    go_enter Try.func24, Try.ntmps24
    go_wp2
    go_ret
    exact ⟨by simp, rfl⟩
/-- What a change's kind names. -/
def namD (c : ChD) : ChD := if c.k = 1 then ⟨c.k, c.sh, 0, c.at', 0, 0⟩ else if c.k = 2 then ⟨c.k, c.sh, c.ot, 0, 0, 0⟩ else if c.k = 3 then ⟨c.k, c.sh, 0, 0, c.out, c.in'⟩ else if c.k = 4 then ⟨c.k, c.sh, 0, 0, 0, 0⟩ else ⟨c.k, 0, 0, 0, 0, 0⟩
theorem Try.sizeCh : (Try.prog.info? 24).map (·.size) = some 6 := by kernel_rfl
theorem Try.structCh0 : (Try.prog.underlying 24).map (fun d => match d with | .struct _ | .array _ _ => true | _ => false) = some true := by kernel_rfl
theorem Try.structCh : ∃ d, Try.prog.underlying 24 = some d ∧ (match d with | .struct _ | .array _ _ => true | _ => false) = true := by
  have h := Try.structCh0
  cases hd : Try.prog.underlying 24 with
  | none => rw [hd] at h; cases h
  | some d => rw [hd] at h; exact ⟨d, rfl, by simpa using h⟩
theorem Try.rowCh : ∃ d : TypeDesc, Try.prog.underlying 24 = some d ∧ d.isRow = true := by
  obtain ⟨d, hd1, hd2⟩ := Try.structCh
  exact ⟨d, hd1, by cases d <;> first | rfl | (simp at hd2)⟩
theorem results_ch {fn : Func} {p : Tmp} (h : fn.results = #[.cell p 24]) (tmps : Array Value) (w : World) (g : Nat) (t : TypeId) (cs : Array Value) (fr : Nat × Nat) (hs : cs.size = 6)
    (hp : tmps.getD p undef = .pointer (some ⟨g, 0, none⟩)) (hg : w.heap[g]? = some (.cells cs t fr)) : (results fn tmps).run Try.prog w = .ok (.agg cs) w := by
  obtain ⟨d, hd1, hd2⟩ := Try.structCh
  have hp' : tmps[p]?.getD undef = .pointer (some ⟨g, 0, none⟩) := by simpa using hp
  have hl := run_loadVar_row w g t 24 cs fr d hg hd1 (by cases d <;> first | rfl | (simp at hd2)) (by rw [hs]; exact Try.sizeCh)
  simp [results, h, hp', asAddr, hl]
theorem wpl_loadK {ops : Array Oper} {rest : List Oper} {o : Oper} {a : Act} {w : World} {Q : Exit → Act → World → Prop} (hgd : o.guard = none) (x : Operand) (ho : o.op = .load 24 x)
    (g : Nat) (hx : a.eval x = .pointer (some ⟨g, 0, none⟩)) (t : TypeId) (cs : Array Value) (fr : Nat × Nat) (hs : cs.size = 6) (hg : w.heap[g]? = some (.cells cs t fr))
    (h : wpList Try.prog ops Q rest (a.put o.dst (.agg cs)) w) : wpList Try.prog ops Q (o :: rest) a w := by
  obtain ⟨d, hd1, hd2⟩ := Try.structCh
  exact wpList_load_row hgd _ x ho g hx t _ fr d hg hd1 (by cases d <;> first | rfl | (simp at hd2)) (by rw [hs]; exact Try.sizeCh) h
theorem wpl_storeK {ops : Array Oper} {rest : List Oper} {o : Oper} {a : Act} {w : World} {Q : Exit → Act → World → Prop} (hgd : o.guard = none) (x y : Operand) (ho : o.op = .store 24 x y)
    (g : Nat) (a0 a1 a2 a3 a4 a5 : Value) (hx : a.eval x = .pointer (some ⟨g, 0, none⟩)) (hy : a.eval y = .agg #[a0, a1, a2, a3, a4, a5]) (h0 : a0.oneCell' = true) (h1 : a1.oneCell' = true) (h2 : a2.oneCell' = true) (h3 : a3.oneCell' = true) (h4 : a4.oneCell' = true) (h5 : a5.oneCell' = true)
    (t : TypeId) (c0 : Array Value) (hc : c0.size = 6) (hg : w.heap[g]? = some (.cells c0 t (0, 0)))
    (h : wpList Try.prog ops Q rest (a.put o.dst undef) (w.setRow g #[a0, a1, a2, a3, a4, a5])) : wpList Try.prog ops Q (o :: rest) a w :=
  wpList_store_row hgd _ x y ho g _ hx hy t _ hg Try.sizeCh (by rw [hc]; rfl) (by simp [h0, h1, h2, h3, h4, h5]) h
def z6 : Array Value := #[.int .i64 0, .int .i64 0, .int .i64 0, .int .i64 0, .int .i64 0, .int .i64 0]
set_option maxRecDepth 100000 in
set_option maxHeartbeats 4000000 in
theorem named_any (c : ChD) (w : World) : Calls Try.prog 25 #[chV c] w fun e w' => e = .returned (chV (namD c)) ∧ Below w.heap.size w w' := by
  obtain ⟨k, sh, ot, at', out, in'⟩ := c
  obtain ⟨w1, hw1⟩ : ∃ w1, w1 = (w.alloc (.cells #[.int .i64 k, .int .i64 sh, .int .i64 ot, .int .i64 at', .int .i64 out, .int .i64 in'] 24)).alloc (.cells z6 24) := ⟨_, rfl⟩
  have B1 : Below w.heap.size w w1 := by rw [hw1]; exact ((Below.refl _ _).alloc (Nat.le_refl _) _).alloc (by simp) _
  have hA1 : w1.heap[w.heap.size]? = some (.cells #[.int .i64 k, .int .i64 sh, .int .i64 ot, .int .i64 at', .int .i64 out, .int .i64 in'] 24 (0, 0)) := by
    rw [hw1, Below.heap_alloc _ _ _ (by simp)]; exact heap_alloc_new _ _
  have hR1 : w1.heap[w.heap.size + 1]? = some (.cells z6 24 (0, 0)) := by
    rw [hw1]; have := heap_alloc_new (w.alloc (.cells #[.int .i64 k, .int .i64 sh, .int .i64 ot, .int .i64 at', .int .i64 out, .int .i64 in'] 24)) (.cells z6 24); simpa using this
  have c0 : w1.cell? ⟨w.heap.size, 0, none⟩ = some (.int .i64 k) := by rw [cell_of_row _ _ _ _ _ _ hA1]; rfl
  have c1 : w1.cell? ⟨w.heap.size, 1, none⟩ = some (.int .i64 sh) := by rw [cell_of_row _ _ _ _ _ _ hA1]; rfl
  have c2 : w1.cell? ⟨w.heap.size, 2, none⟩ = some (.int .i64 ot) := by rw [cell_of_row _ _ _ _ _ _ hA1]; rfl
  have c3 : w1.cell? ⟨w.heap.size, 3, none⟩ = some (.int .i64 at') := by rw [cell_of_row _ _ _ _ _ _ hA1]; rfl
  have c4 : w1.cell? ⟨w.heap.size, 4, none⟩ = some (.int .i64 out) := by rw [cell_of_row _ _ _ _ _ _ hA1]; rfl
  have c5 : w1.cell? ⟨w.heap.size, 5, none⟩ = some (.int .i64 in') := by rw [cell_of_row _ _ _ _ _ _ hA1]; rfl
  have HW1 := hid hw1
  have HB1 := hid B1
  have HD : Hid (namD ⟨k, sh, ot, at', out, in'⟩ = if k = 1 then ⟨k, sh, 0, at', 0, 0⟩ else if k = 2 then ⟨k, sh, ot, 0, 0, 0⟩ else if k = 3 then ⟨k, sh, 0, 0, out, in'⟩ else if k = 4 then ⟨k, sh, 0, 0, 0, 0⟩ else ⟨k, 0, 0, 0, 0, 0⟩) := hid rfl
  clear hw1 B1 hA1
  unfold z6 at HW1 hR1
  generalize namD ⟨k, sh, ot, at', out, in'⟩ = nd at *
  unfold chV
  go_enter Try.func25, Try.ntmps25
  go_upto_region 1 with fail
  rw [← HW1.out]
  clear HW1
  by_cases h1 : k = 1
  · have HE : Hid (nd = ⟨k, sh, 0, at', 0, 0⟩) := hid (by rw [HD.out, if_pos h1])
    clear HD
    subst h1
    go_wp2_with (refine wpl_storeK rfl _ _ rfl (w.heap.size + 1) _ _ _ _ _ _ rfl rfl rfl rfl rfl rfl rfl rfl _ _ rfl hR1 ?_)
    (try simp only [Exit.inBlock, Exit.then])
    refine bodyPost_ret (results_ch rfl _ _ (w.heap.size + 1) _ _ _ rfl rfl (setRow_heap _ _ _ _ _ _ hR1)) rfl ?_
    refine ⟨by rw [HE.out], below_row HB1.out (by omega) _⟩
  by_cases h2 : k = 2
  · have HE : Hid (nd = ⟨k, sh, ot, 0, 0, 0⟩) := hid (by rw [HD.out, if_neg h1, if_pos h2])
    clear HD h1
    subst h2
    go_wp2_with (refine wpl_storeK rfl _ _ rfl (w.heap.size + 1) _ _ _ _ _ _ rfl rfl rfl rfl rfl rfl rfl rfl _ _ rfl hR1 ?_)
    (try simp only [Exit.inBlock, Exit.then])
    refine bodyPost_ret (results_ch rfl _ _ (w.heap.size + 1) _ _ _ rfl rfl (setRow_heap _ _ _ _ _ _ hR1)) rfl ?_
    refine ⟨by rw [HE.out], below_row HB1.out (by omega) _⟩
  by_cases h3 : k = 3
  · have HE : Hid (nd = ⟨k, sh, 0, 0, out, in'⟩) := hid (by rw [HD.out, if_neg h1, if_neg h2, if_pos h3])
    clear HD h1 h2
    subst h3
    go_wp2_with (refine wpl_storeK rfl _ _ rfl (w.heap.size + 1) _ _ _ _ _ _ rfl rfl rfl rfl rfl rfl rfl rfl _ _ rfl hR1 ?_)
    (try simp only [Exit.inBlock, Exit.then])
    refine bodyPost_ret (results_ch rfl _ _ (w.heap.size + 1) _ _ _ rfl rfl (setRow_heap _ _ _ _ _ _ hR1)) rfl ?_
    refine ⟨by rw [HE.out], below_row HB1.out (by omega) _⟩
  by_cases h4 : k = 4
  · have HE : Hid (nd = ⟨k, sh, 0, 0, 0, 0⟩) := hid (by rw [HD.out, if_neg h1, if_neg h2, if_neg h3, if_pos h4])
    clear HD h1 h2 h3
    subst h4
    go_wp2_with (refine wpl_storeK rfl _ _ rfl (w.heap.size + 1) _ _ _ _ _ _ rfl rfl rfl rfl rfl rfl rfl rfl _ _ rfl hR1 ?_)
    (try simp only [Exit.inBlock, Exit.then])
    refine bodyPost_ret (results_ch rfl _ _ (w.heap.size + 1) _ _ _ rfl rfl (setRow_heap _ _ _ _ _ _ hR1)) rfl ?_
    refine ⟨by rw [HE.out], below_row HB1.out (by omega) _⟩
  · have HE : Hid (nd = ⟨k, 0, 0, 0, 0, 0⟩) := hid (by rw [HD.out, if_neg h1, if_neg h2, if_neg h3, if_neg h4])
    have g1 : (k == 1) = false := by simpa using h1
    have g2 : (k == 2) = false := by simpa using h2
    have g3 : (k == 3) = false := by simpa using h3
    have g4 : (k == 4) = false := by simpa using h4
    clear HD
    go_wp2_with (refine wpl_storeK rfl _ _ rfl (w.heap.size + 1) _ _ _ _ _ _ rfl rfl rfl rfl rfl rfl rfl rfl _ _ rfl hR1 ?_)
    (try simp only [Exit.inBlock, Exit.then])
    refine bodyPost_ret (results_ch rfl _ _ (w.heap.size + 1) _ _ _ rfl rfl (setRow_heap _ _ _ _ _ _ hR1)) rfl ?_
    refine ⟨by rw [HE.out], below_row HB1.out (by omega) _⟩
set_option maxHeartbeats 1600000 in
theorem settle_no (b wb mb n : Nat) (ov : Value) (D : DataW Value) (N : AtN) (W : List Pc) (X : List SX) (w : World) (h : AtM w b wb mb n ov D N W X) (ho : N.op = []) :
    Calls Try.prog 26 #[.pointer (some ⟨b, 0, none⟩)] w fun e w' => e = .returned (.int .i64 8) ∧ w' = w := by
  obtain ⟨va, vc, rfl⟩ := h.shape
  have c3 : w.cell? ⟨b, 3, none⟩ = some (.slice va 0 vc) := by have := h.cell 3; rw [ho] at this; exact this
  clear h ho
  go_enter Try.func26, Try.ntmps26
  go_wp2_with fail
  go_ret
  exact ⟨rfl, rfl⟩
set_option maxHeartbeats 1600000 in
theorem settle_yes (b wb mb n : Nat) (ov : Value) (D : DataW Value) (N : AtN) (X : List SX) (w : World) (h : At w b wb mb n ov D N X) (ho : N.op ≠ []) :
    Calls Try.prog 26 #[.pointer (some ⟨b, 0, none⟩)] w fun e w' => e = .returned (.int .i64 0) ∧ At w' b wb mb n (.slice none 0 0) D { N with op := [] } X ∧ Tr (AtR b wb mb) w w' := by
  obtain ⟨va, vc, rfl⟩ := h.m.shape
  have hpos : 0 < N.op.length := List.length_pos_iff.2 ho
  have c3 : w.cell? ⟨b, 3, none⟩ = some (.slice va N.op.length vc) := h.m.cell 3
  have f3 := h.m.fz 3
  have hz : ((N.op.length : Int) == 0) = false := by simp; omega
  have H := hid h
  have hz2 : N.op.length ≠ 0 := by omega
  clear h ho
  go_enter Try.func26, Try.ntmps26
  go_wp2_with fail
  go_ret
  refine ⟨rfl, ⟨?_, fun _ => rfl⟩, Tr.set (.inl rfl)⟩
  exact H.out.m.set 3 _ rfl (World.ownsRow_nil _ _ _ _)
end Go.Proofs.Ytnkjkaofgninnaa
