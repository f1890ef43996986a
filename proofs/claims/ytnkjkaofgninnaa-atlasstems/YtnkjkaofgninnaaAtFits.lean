/- fits, spans, members, origin: of changes but Replace. Conditions: shards and change lie in memory. -/
import Derived.Test.YtnkjkaofgninnaaAtGone2
namespace Go.Proofs.Ytnkjkaofgninnaa
open Go.RowKit Go.Maps Go.Shelf
set_option linter.unusedVariables false
set_option linter.unusedSimpArgs false

theorem shvs_part (l : List SX) (j : Nat) (h : j < l.length) : ∀ k v, l[j].c[k]? = some v → (shvs l)[j * 5 + k]? = some v := by
  induction l generalizing j with
  | nil => cases h
  | cons x l ih =>
    intro k v hk
    cases j with
    | zero =>
      rw [shvs_cons, Nat.zero_mul, Nat.zero_add]
      have hl : k < x.c.length := (List.getElem?_eq_some_iff.1 hk).1
      rw [List.getElem?_append_left hl]
      exact hk
    | succ j =>
      have := ih j (by simpa using h) k v (by simpa using hk)
      rw [shvs_cons, show (j + 1) * 5 + k = x.c.length + (j * 5 + k) from by simp [SX.c]; omega, List.getElem?_append_right (by omega)]
      simpa using this
theorem wpl_loadM {ops : Array Oper} {rest : List Oper} {o : Oper} {a : Act} {w : World} {Q : Exit → Act → World → Prop} (hgd : o.guard = none) (x : Operand) (ho : o.op = .load 46 x)
    (b f : Nat) (hx : a.eval x = .pointer (some ⟨b, f, none⟩)) (c0 c1 c2 c3 c4 : Value) (hg : w.rangeAt b f [c0, c1, c2, c3, c4])
    (h : wpList Try.prog ops Q rest (a.put o.dst (.agg #[c0, c1, c2, c3, c4])) w) : wpList Try.prog ops Q (o :: rest) a w := by
  obtain ⟨d, hd1, hd2⟩ := Try.rowSh
  exact wpList_load_mid hgd _ x ho b f hx [c0, c1, c2, c3, c4] d hg hd1 hd2 Try.sizeSh h
/-- A row of shards lies in memory. -/
structure ShR (w : World) (v : Value) (G : List SX) : Prop where
  o : w.ownsRow 0 46 5 v G.length (shvs G)
  m : ∀ x ∈ G, ShM w x.s x.mv x.pv
theorem ShR.below {w w' : World} {v : Value} {G : List SX} (h : ShR w v G) (hb : Below w.heap.size w w') : ShR w' v G := ⟨own_below h.o hb, fun x hx => (h.m x hx).below hb⟩
theorem ShR.shape {w : World} {v : Value} {G : List SX} (h : ShR w v G) (h0 : 0 < G.length) : ∃ g vc, v = .slice (some ⟨g, 0, none⟩) G.length vc := by
  obtain ⟨va, vc, rfl⟩ := own_shape h.o
  obtain ⟨g, rfl⟩ := own_some h.o h0
  exact ⟨g, vc, rfl⟩
theorem ShR.len {w : World} {va : Option Addr} {n vc : Nat} {G : List SX} (h : ShR w (.slice va n vc) G) : n = G.length := by
  obtain ⟨_, h2⟩ := h.o
  rcases h2 with ⟨e, h0⟩ | ⟨g', cap, cur, e, -⟩
  · cases e; exact h0.symm
  · cases e; rfl
theorem ShR.range {w : World} {g n vc : Nat} {G : List SX} (h : ShR w (.slice (some ⟨g, 0, none⟩) n vc) G) (j : Nat) (hj : j < G.length) : w.rangeAt g (j * 5) G[j].c := by
  have e := h.len
  subst e
  exact own_range h.o (j * 5) _ (shvs_part G j hj)
theorem ShR.at {w : World} {g n vc : Nat} {G : List SX} (h : ShR w (.slice (some ⟨g, 0, none⟩) n vc) G) (j : Nat) (hj : j < G.length) (k : Nat) (v : Value) (hv : G[j].c[k]? = some v) : w.cell? ⟨g, j * 5 + k, none⟩ = some v := h.range j hj k v hv
theorem ShR.sl {w : World} {v : Value} {G : List SX} (h : ShR w v G) (j : Nat) (hj : j < G.length) : ∃ S ma mc pa pc, G[j] = ⟨S, .slice ma S.mem.length mc, .slice pa S.past.length pc⟩ := by
  have hm := h.m _ (List.getElem_mem hj)
  obtain ⟨⟨ma, mc, e1⟩, ⟨pa, pc, e2⟩⟩ := hm.shape
  refine ⟨G[j].s, ma, mc, pa, pc, ?_⟩
  rw [← e1, ← e2]
/-- Does a change, but Replace, fit the shards that it takes away? -/
def fitB (c : ChD) (x y : ShD) : Bool := if c.k = 1 then decide (x.fr < c.at') && decide (c.at' < x.to) else if c.k = 2 then decide (y.fr = x.to) else true
set_option maxRecDepth 100000 in
set_option maxHeartbeats 4000000 in
theorem fits_one (c : ChD) (S : ShD) (mv pv v : Value) (w : World) (hk3 : c.k ≠ 3) (hk2 : c.k ≠ 2) (hG : ShR w v [⟨S, mv, pv⟩]) :
    Calls Try.prog 28 #[chV c, v] w fun e w' => e = .returned (.bool (fitB c S S)) ∧ Below w.heap.size w w' := by
  obtain ⟨g, vc, rfl⟩ := hG.shape (by simp)
  obtain ⟨⟨ma, mc, rfl⟩, ⟨pa, pc, rfl⟩⟩ := (show ShM w S mv pv from hG.m ⟨S, mv, pv⟩ (by simp)).shape
  obtain ⟨k, sh, ot, at', out, in'⟩ := c
  simp only at hk2 hk3
  have HFB : Hid (fitB ⟨k, sh, ot, at', out, in'⟩ S S = if k = 1 then decide (S.fr < at') && decide (at' < S.to) else if k = 2 then decide (S.fr = S.to) else true) := hid rfl
  obtain ⟨w1, hw1⟩ : ∃ w1, w1 = w.alloc (.cells #[.int .i64 k, .int .i64 sh, .int .i64 ot, .int .i64 at', .int .i64 out, .int .i64 in'] 24) := ⟨_, rfl⟩
  have B1 : Below w.heap.size w w1 := by rw [hw1]; exact (Below.refl _ _).alloc (Nat.le_refl _) _
  have hA1 : w1.heap[w.heap.size]? = some (.cells #[.int .i64 k, .int .i64 sh, .int .i64 ot, .int .i64 at', .int .i64 out, .int .i64 in'] 24 (0, 0)) := by rw [hw1]; exact heap_alloc_new _ _
  have HW1 := hid hw1
  have HB1 := hid B1
  have HG1 := hid (hG.below B1)
  clear hw1
  clear hG B1
  generalize fitB ⟨k, sh, ot, at', out, in'⟩ S S = r at HFB ⊢
  simp only [List.length_cons, List.length_nil, Nat.zero_add] at HG1
  simp only [List.length_cons, List.length_nil, Nat.zero_add]
  by_cases h1 : k = 1
  · rw [if_pos h1] at HFB
    subst h1
    have hRG := HG1.out.range 0 (by simp)
    unfold SX.c at hRG
    simp only [List.getElem_cons_zero, Nat.zero_mul] at hRG
    unfold chV
    go_enter Try.func28, Try.ntmps28
    go_upto_region 1 with fail
    rw [← HW1.out]
    clear HW1
    obtain ⟨C, hCe⟩ : ∃ C, C = w.heap.size := ⟨_, rfl⟩
    rw [← hCe]
    rw [← hCe] at hA1
    clear hCe
    go_upto_region 2 with (refine wpl_loadM rfl _ rfl g 0 (by go_simp) _ _ _ _ _ hRG ?_)
    clear hRG
    have hb2 : Below w1.heap.size w1 (w1.alloc (.cells #[.int .i64 S.id, .int .i64 S.fr, .int .i64 S.to, .slice ma S.mem.length mc, .slice pa S.past.length pc] 46)) := (Below.refl _ _).alloc (Nat.le_refl _) _
    have hP2 := heap_alloc_new w1 (.cells #[.int .i64 S.id, .int .i64 S.fr, .int .i64 S.to, .slice ma S.mem.length mc, .slice pa S.past.length pc] 46)
    have B2 := hid (HB1.out.trans (hb2.mono HB1.out.size))
    have HG2 := hid (HG1.out.below hb2)
    have hA2 := (hb2.block C (lt_of_block hA1)).trans hA1
    clear hb2 hA1 HG1
    generalize w1.alloc (.cells #[.int .i64 S.id, .int .i64 S.fr, .int .i64 S.to, .slice ma S.mem.length mc, .slice pa S.past.length pc] 46) = w2 at *
    generalize w1.heap.size = P at *
    have a3 : w2.cell? ⟨C, 3, none⟩ = some (.int .i64 at') := by rw [cell_of_row _ _ _ _ _ _ hA2]; rfl
    have p1 : w2.cell? ⟨P, 1, none⟩ = some (.int .i64 S.fr) := by rw [cell_of_row _ _ _ _ _ _ hP2]; rfl
    have p2 : w2.cell? ⟨P, 2, none⟩ = some (.int .i64 S.to) := by rw [cell_of_row _ _ _ _ _ _ hP2]; rfl
    clear hP2
    have a0 : w2.cell? ⟨C, 0, none⟩ = some (.int .i64 1) := by rw [cell_of_row _ _ _ _ _ _ hA2]; rfl
    clear hA2
    cases hd : decide (S.fr < at') with
    | false =>
      rw [hd] at HFB
      go_wp2_with fail
      go_ret
      exact ⟨by rw [HFB.out]; rfl, B2.out⟩
    | true =>
      rw [hd] at HFB
      go_wp2_with fail
      go_ret
      exact ⟨by rw [HFB.out]; rfl, B2.out⟩
  · rw [if_neg h1, if_neg hk2] at HFB
    have g1 : (k == 1) = false := by simpa using h1
    have g2 : (k == 2) = false := by simpa using hk2
    have g3 : (k == 3) = false := by simpa using hk3
    have hRG := HG1.out.range 0 (by simp)
    unfold SX.c at hRG
    simp only [List.getElem_cons_zero, Nat.zero_mul] at hRG
    unfold chV
    go_enter Try.func28, Try.ntmps28
    go_upto_region 1 with fail
    rw [← HW1.out]
    clear HW1
    obtain ⟨C, hCe⟩ : ∃ C, C = w.heap.size := ⟨_, rfl⟩
    rw [← hCe]
    rw [← hCe] at hA1
    clear hCe
    go_upto_region 2 with (refine wpl_loadM rfl _ rfl g 0 (by go_simp) _ _ _ _ _ hRG ?_)
    clear hRG
    have hb2 : Below w1.heap.size w1 (w1.alloc (.cells #[.int .i64 S.id, .int .i64 S.fr, .int .i64 S.to, .slice ma S.mem.length mc, .slice pa S.past.length pc] 46)) := (Below.refl _ _).alloc (Nat.le_refl _) _
    have hP2 := heap_alloc_new w1 (.cells #[.int .i64 S.id, .int .i64 S.fr, .int .i64 S.to, .slice ma S.mem.length mc, .slice pa S.past.length pc] 46)
    have B2 := hid (HB1.out.trans (hb2.mono HB1.out.size))
    have HG2 := hid (HG1.out.below hb2)
    have hA2 := (hb2.block C (lt_of_block hA1)).trans hA1
    clear hb2 hA1 HG1
    generalize w1.alloc (.cells #[.int .i64 S.id, .int .i64 S.fr, .int .i64 S.to, .slice ma S.mem.length mc, .slice pa S.past.length pc] 46) = w2 at *
    generalize w1.heap.size = P at *
    have a3 : w2.cell? ⟨C, 3, none⟩ = some (.int .i64 at') := by rw [cell_of_row _ _ _ _ _ _ hA2]; rfl
    have p1 : w2.cell? ⟨P, 1, none⟩ = some (.int .i64 S.fr) := by rw [cell_of_row _ _ _ _ _ _ hP2]; rfl
    have p2 : w2.cell? ⟨P, 2, none⟩ = some (.int .i64 S.to) := by rw [cell_of_row _ _ _ _ _ _ hP2]; rfl
    clear hP2
    have a0 : w2.cell? ⟨C, 0, none⟩ = some (.int .i64 k) := by rw [cell_of_row _ _ _ _ _ _ hA2]; rfl
    clear hA2
    go_wp2_with fail
    go_ret
    exact ⟨by rw [HFB.out]; rfl, B2.out⟩
set_option maxRecDepth 100000 in
set_option maxHeartbeats 4000000 in
theorem fits_two (c : ChD) (S T : ShD) (mv pv mw pw v : Value) (w : World) (hk2 : c.k = 2) (hG : ShR w v [⟨S, mv, pv⟩, ⟨T, mw, pw⟩]) :
    Calls Try.prog 28 #[chV c, v] w fun e w' => e = .returned (.bool (fitB c S T)) ∧ Below w.heap.size w w' := by
  obtain ⟨g, vc, rfl⟩ := hG.shape (by simp)
  obtain ⟨⟨ma, mc, rfl⟩, ⟨pa, pc, rfl⟩⟩ := (show ShM w S mv pv from hG.m ⟨S, mv, pv⟩ (by simp)).shape
  obtain ⟨k, sh, ot, at', out, in'⟩ := c
  simp only at hk2
  have HFB : Hid (fitB ⟨k, sh, ot, at', out, in'⟩ S T = decide (T.fr = S.to)) := hid (by unfold fitB; rw [if_neg (by simp only; omega), if_pos hk2])
  obtain ⟨w1, hw1⟩ : ∃ w1, w1 = w.alloc (.cells #[.int .i64 k, .int .i64 sh, .int .i64 ot, .int .i64 at', .int .i64 out, .int .i64 in'] 24) := ⟨_, rfl⟩
  have B1 : Below w.heap.size w w1 := by rw [hw1]; exact (Below.refl _ _).alloc (Nat.le_refl _) _
  have hA1 : w1.heap[w.heap.size]? = some (.cells #[.int .i64 k, .int .i64 sh, .int .i64 ot, .int .i64 at', .int .i64 out, .int .i64 in'] 24 (0, 0)) := by rw [hw1]; exact heap_alloc_new _ _
  have HW1 := hid hw1
  have HB1 := hid B1
  have HG1 := hid (hG.below B1)
  clear hw1
  clear hG B1
  generalize fitB ⟨k, sh, ot, at', out, in'⟩ S T = r at HFB ⊢
  simp only [List.length_cons, List.length_nil, Nat.zero_add, Nat.reduceAdd] at HG1
  simp only [List.length_cons, List.length_nil, Nat.zero_add, Nat.reduceAdd]
  subst hk2
  have hRG := HG1.out.range 0 (by simp)
  unfold SX.c at hRG
  simp only [List.getElem_cons_zero, Nat.zero_mul] at hRG
  unfold chV
  go_enter Try.func28, Try.ntmps28
  go_upto_region 1 with fail
  rw [← HW1.out]
  clear HW1
  obtain ⟨C, hCe⟩ : ∃ C, C = w.heap.size := ⟨_, rfl⟩
  rw [← hCe]
  rw [← hCe] at hA1
  clear hCe
  go_upto_region 2 with (refine wpl_loadM rfl _ rfl g 0 (by go_simp) _ _ _ _ _ hRG ?_)
  clear hRG
  have hb2 : Below w1.heap.size w1 (w1.alloc (.cells #[.int .i64 S.id, .int .i64 S.fr, .int .i64 S.to, .slice ma S.mem.length mc, .slice pa S.past.length pc] 46)) := (Below.refl _ _).alloc (Nat.le_refl _) _
  have hP2 := heap_alloc_new w1 (.cells #[.int .i64 S.id, .int .i64 S.fr, .int .i64 S.to, .slice ma S.mem.length mc, .slice pa S.past.length pc] 46)
  have B2 := hid (HB1.out.trans (hb2.mono HB1.out.size))
  have HG2 := hid (HG1.out.below hb2)
  have hA2 := (hb2.block C (lt_of_block hA1)).trans hA1
  clear hb2 hA1 HG1
  generalize w1.alloc (.cells #[.int .i64 S.id, .int .i64 S.fr, .int .i64 S.to, .slice ma S.mem.length mc, .slice pa S.past.length pc] 46) = w2 at *
  generalize w1.heap.size = P at *
  have a3 : w2.cell? ⟨C, 3, none⟩ = some (.int .i64 at') := by rw [cell_of_row _ _ _ _ _ _ hA2]; rfl
  have p1 : w2.cell? ⟨P, 1, none⟩ = some (.int .i64 S.fr) := by rw [cell_of_row _ _ _ _ _ _ hP2]; rfl
  have p2 : w2.cell? ⟨P, 2, none⟩ = some (.int .i64 S.to) := by rw [cell_of_row _ _ _ _ _ _ hP2]; rfl
  clear hP2
  have a0 : w2.cell? ⟨C, 0, none⟩ = some (.int .i64 2) := by rw [cell_of_row _ _ _ _ _ _ hA2]; rfl
  clear hA2
  have q1 : w2.cell? ⟨g, 6, none⟩ = some (.int .i64 T.fr) := HG2.out.at 1 (by simp) 1 _ rfl
  have HBQ : Hid ((T.fr == S.to) = decide (T.fr = S.to)) := hid (by rw [Bool.eq_iff_iff]; simp)
  go_upto_region 6 with fail
  refine wp_region_held_drew (S := fun Y => Y.cell? ⟨g, 6, none⟩ = some (.int .i64 T.fr) ∧ Y.cell? ⟨P, 2, none⟩ = some (.int .i64 S.to)) (by kernel_rfl) ⟨q1, p2⟩ (fun hHeld => ?_)
  refine wpAnyH_take (i := 0) (v := ?pv0) rfl (by kernel_rfl) (by kernel_rfl) (by kernel_rfl) (fun _ _ _ h => h) (Or.inl ⟨by rfl, ?py0⟩) (by assumption) ?pr0
  case py0 => (intro w hSw; (try dsimp only at hSw); go_simp; try with_reducible rfl)
  (try simp only [Act.put, putS])
  refine wpAnyH_take (i := 1) (v := ?pv1) rfl (by kernel_rfl) (by kernel_rfl) (by kernel_rfl) (fun _ _ _ h => h) (Or.inl ⟨by rfl, ?py1⟩) (by assumption) ?pr1
  case py1 => (intro w hSw; (try dsimp only at hSw); go_simp; try with_reducible rfl)
  (try simp only [Act.put, putS])
  refine wpAnyH_take (i := 2) (v := ?pv2) rfl (by kernel_rfl) (by kernel_rfl) (by kernel_rfl) (fun _ _ _ h => h) (Or.inl ⟨by rfl, ?py2⟩) (by assumption) ?pr2
  case py2 => (intro w hSw; (try dsimp only at hSw); go_simp; try with_reducible rfl)
  (try simp only [Act.put, putS])
  refine wpAnyH_take (i := 3) (v := ?pv3) rfl (by kernel_rfl) (by kernel_rfl) (by kernel_rfl) (fun _ _ _ h => h) (Or.inl ⟨by rfl, ?py3⟩) (by assumption) ?pr3
  case py3 => (intro w hSw; (try dsimp only at hSw); go_simp; try with_reducible rfl)
  (try simp only [Act.put, putS])
  refine wpAnyH_take (i := 4) (v := ?pv4) rfl (by kernel_rfl) (by kernel_rfl) (by kernel_rfl) (fun _ _ _ h => h) (Or.inl ⟨by rfl, ?py4⟩) (by assumption) ?pr4
  case py4 => (intro w hSw; (try dsimp only at hSw); go_simp; try with_reducible rfl)
  (try simp only [Act.put, putS])
  refine wpAnyH_take (i := 5) (v := ?pv5) rfl (by kernel_rfl) (by kernel_rfl) (by kernel_rfl) (fun _ _ _ h => h) (Or.inl ⟨by rfl, ?py5⟩) (by assumption) ?pr5
  case py5 => (intro w hSw; (try dsimp only at hSw); go_simp; try with_reducible rfl)
  (try simp only [Act.put, putS])
  refine wpAnyH_take (i := 6) (v := ?pv6) rfl (by kernel_rfl) (by kernel_rfl) (by kernel_rfl) (fun _ _ _ h => h) (Or.inl ⟨by rfl, ?py6⟩) (by assumption) ?pr6
  case py6 => (intro w hSw; (try dsimp only at hSw); go_simp; try with_reducible rfl)
  (try simp only [Act.put, putS])
  refine wpAnyH_take (i := 7) (v := ?pv7) rfl (by kernel_rfl) (by kernel_rfl) (by kernel_rfl) (fun _ _ _ h => h) (Or.inl ⟨by rfl, ?py7⟩) (by assumption) ?pr7
  case py7 => (intro w hSw; (try dsimp only at hSw); go_simp; try with_reducible rfl)
  (try simp only [Act.put, putS])
  refine wpAnyH_take (i := 8) (v := ?pv8) rfl (by kernel_rfl) (by kernel_rfl) (by kernel_rfl) (fun _ _ _ h => h) (Or.inl ⟨by rfl, ?py8⟩) (by assumption) ?pr8
  case py8 => (intro w hSw; (try dsimp only at hSw); go_simp; try with_reducible rfl)
  (try simp only [Act.put, putS])
  refine wpAnyH_take (i := 9) (v := ?pv9) rfl (by kernel_rfl) (by kernel_rfl) (by kernel_rfl) (fun _ _ _ h => h) (Or.inl ⟨by rfl, ?py9⟩) (by assumption) ?pr9
  case py9 => (intro w hSw; (try dsimp only at hSw); go_simp; try with_reducible rfl)
  (try simp only [Act.put, putS])
  refine wpAnyH_done (by kernel_rfl) ?_ _
  go_wp2_with fail
  go_ret
  exact ⟨by rw [HFB.out, ← HBQ.out]; rfl, B2.out.trans (((Below.refl _ _).drew).mono B2.out.size)⟩
end Go.Proofs.Ytnkjkaofgninnaa
