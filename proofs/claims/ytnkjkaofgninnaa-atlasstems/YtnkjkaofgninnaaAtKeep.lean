/- An empty map of shards; a shard kept. Conditions: map and shard lie in memory. -/
import Derived.Test.YtnkjkaofgninnaaAtMem
import Derived.Deep.MidRow
namespace Go.Proofs.Ytnkjkaofgninnaa
open Go.RowKit Go.Maps Go.Shelf
set_option linter.unusedVariables false
set_option linter.unusedSimpArgs false

set_option maxRecDepth 100000 in
set_option maxHeartbeats 1600000 in
theorem aempty_any (bl ep nx : Int) (w : World) :
    Calls Try.prog 40 #[.int .i64 bl, .int .i64 ep, .int .i64 nx] w fun e w' => ∃ b wb mb, e = .returned (.pointer (some ⟨b, 0, none⟩)) ∧ AtM w' b wb mb 0 (.slice none 0 0) (.map []) ⟨bl, ep, nx, []⟩ [] [] ∧ Below w.heap.size w w' ∧ ∀ q, AtR b wb mb q → w.heap.size ≤ q := by
  have hmm := @run_makeMap Try.prog
  go_enter Try.func40, Try.ntmps40
  go_wp2_with fail
  go_ret
  refine ⟨w.heap.size + 2, w.heap.size, w.heap.size + 1, by simp, ⟨?_, World.ownsRow_nil _ _ _ _, ⟨⟨none, 0, ?_, World.ownsRow_nil _ _ _ _⟩, ⟨by simp, List.Pairwise.nil⟩, by simp⟩, ?_, SM.nil, by simp⟩, ?_, ?_⟩
  · have := heap_alloc_new ((w.alloc (.cells #[.slice none 0 0] 99)).alloc (.map #[] 0)) (.cells (atC ⟨bl, ep, nx, []⟩ (.slice none 0 0) w.heap.size (w.heap.size + 1)) 64)
    simpa [atC] using this
  · rw [Below.heap_alloc _ _ _ (by simp; omega), Below.heap_alloc _ _ _ (by simp)]; exact heap_alloc_new _ _
  · have := World.ownsMap_made (w.alloc (.cells #[.slice none 0 0] 99)) Try.prog 3 RHs
    have h2 := this.alloc (.cells (atC ⟨bl, ep, nx, []⟩ (.slice none 0 0) w.heap.size (w.heap.size + 1)) 64)
    simpa [atC] using h2
  · exact (((Below.refl _ _).alloc (Nat.le_refl _) _).alloc (by simp) _).alloc (by simp; omega) _
  · rintro q (rfl | rfl | rfl) <;> omega
theorem wp_upd {o : Oper} {a : Act} {w w' : World} {K : Act → World → Prop} {Q : Exit → Act → World → Prop} {t : TypeId} (m x v : Operand) (hop : o.op = .mapUpdate t m x v) {mv key val : Value} (hm : a.eval m = mv) (hx : a.eval x = key) (hv : a.eval v = val)
    (hrun : (Instr.mapUpdate t mv key val).run Try.prog w = .ok () w') (h : K (a.put o.dst undef) w') : o.wp Try.prog a w K Q := by
  unfold Oper.wp
  simp [execOp, hop, hm, hx, hv, hrun, Result.andThen]
  exact h
theorem Try.rowSh : ∃ d : TypeDesc, Try.prog.underlying 46 = some d ∧ d.isRow = true := by
  obtain ⟨d, hd1, hd2⟩ := Try.structSh
  exact ⟨d, hd1, by cases d <;> first | rfl | (simp at hd2)⟩
theorem Try.rowSp : ∃ d : TypeDesc, Try.prog.underlying 43 = some d ∧ d.isRow = true := by
  obtain ⟨d, hd1, hd2⟩ := Try.structSp
  exact ⟨d, hd1, by cases d <;> first | rfl | (simp at hd2)⟩
theorem range_of_row {w : World} {b : Nat} {cs : Array Value} {t : TypeId} {fr : Nat × Nat} (h : w.heap[b]? = some (.cells cs t fr)) (o : Nat) (l : List Value) (hl : ∀ j v, l[j]? = some v → cs[o + j]? = some v) : w.rangeAt b o l := fun j v hv => by
  rw [cell_of_row _ _ _ _ _ _ h]; exact hl j v hv
set_option maxRecDepth 100000 in
set_option maxHeartbeats 4000000 in
theorem keep_any (b wb mb n : Nat) (ov : Value) (D : DataW Value) (N : AtN) (W : List Pc) (X : List SX) (S : ShD) (mv pv : Value) (w : World) (h : AtM w b wb mb n ov D N W X) (hn : n ≤ 1000000) (hx : ShM w S mv pv) (hi : I64 S.id) (hnew : ∀ y ∈ X, y.s.id ≠ S.id) (hl : W.length ≤ 1000000) (hs : -9223372036854775808 ≤ S.fr ∧ S.to ≤ 9223372036854775807) :
    Calls Try.prog 41 #[.pointer (some ⟨b, 0, none⟩), shV S mv pv] w fun e w' => e = .returned (.tuple #[]) ∧ ∃ W', AtM w' b wb mb (n + 1) ov (D.put (.int .i64 S.id) (.held (shV S mv pv))) N W' (⟨S, mv, pv⟩ :: X) ∧ ChP W (S.fr, S.to) [(S.fr, S.to, S.id)] W' ∧ Tr (AtR b wb mb) w w' := by
  obtain ⟨⟨mva, mvc, rfl⟩, ⟨pva, pvc, rfl⟩⟩ := hx.shape
  obtain ⟨dS, hdS1, hdS2⟩ := Try.rowSh
  obtain ⟨dP, hdP1, hdP2⟩ := Try.rowSp
  obtain ⟨w1, hw1⟩ : ∃ w1, w1 = w.alloc (.cells (shC S (.slice mva S.mem.length mvc) (.slice pva S.past.length pvc)) 46) := ⟨_, rfl⟩
  have B1 : Hid (Below w.heap.size w w1) := hid (by rw [hw1]; exact (Below.refl _ _).alloc (Nat.le_refl _) _)
  have A1 : Hid (w1.heap[w.heap.size]? = some (.cells (shC S (.slice mva S.mem.length mvc) (.slice pva S.past.length pvc)) 46 (0, 0))) := hid (by rw [hw1]; exact heap_alloc_new _ _)
  have H1 := hid (h.below B1.out)
  have HX := hid (hx.below B1.out)
  have HW1 := hid hw1
  have HN := hid hn
  have HI := hid hi
  have HNW := hid hnew
  have HWL := hid hl
  have HSP := hid hs
  have HSH : Hid (ShS (shV S (.slice mva S.mem.length mvc) (.slice pva S.past.length pvc))) := hid ⟨_, _, _, _, _, _, _, rfl⟩
  clear h hx hw1 hn hi hnew hl hs
  unfold shC at HW1
  unfold shV
  go_enter Try.func41, Try.ntmps41
  go_upto_region 1 with fail
  rw [← HW1.out]
  clear HW1
  obtain ⟨A, hAe⟩ : ∃ A, A = w.heap.size := ⟨_, rfl⟩
  rw [← hAe] at A1
  rw [← hAe]
  clear hAe
  have NA : Hid (¬ AtR b wb mb A) := hid (H1.out.nob A1.out (by decide) (by decide))
  have SW : Hid (∀ Y, w1.grownBy Y (some mb) → Y.cell? ⟨b, 5, none⟩ = some (.map (some mb)) ∧ Y.cell? ⟨A, 0, none⟩ = some (.int .i64 S.id) ∧ Y.rangeAt A 0 (shC S (.slice mva S.mem.length mvc) (.slice pva S.past.length pvc)).toList) := hid fun Y hY => by
    have h1 := (hY.block A (lt_of_block A1.out) (fun e => NA.out (by cases e; exact .inr (.inr rfl)))).trans A1.out
    have h2 := (hY.block b (lt_of_block H1.out.box) (fun e => H1.out.ne.2.1 (by cases e; rfl))).trans H1.out.box
    refine ⟨by rw [cell_of_row _ _ _ _ _ _ h2]; rfl, by rw [cell_of_row _ _ _ _ _ _ h1]; rfl, range_of_row h1 0 _ fun j v hv => by rw [Nat.zero_add]; simpa using hv⟩
  refine wp_region_held_drew (S := fun Y => Y.cell? ⟨b, 5, none⟩ = some (.map (some mb)) ∧ Y.cell? ⟨A, 0, none⟩ = some (.int .i64 S.id) ∧ Y.rangeAt A 0 (shC S (.slice mva S.mem.length mvc) (.slice pva S.past.length pvc)).toList) (by kernel_rfl) (SW.out _ ⟨rfl, rfl, rfl, Nat.le_refl _, fun _ _ _ => rfl⟩) (fun hHeld => ?_)
  refine wpAnyH_take (i := 0) (v := ?pv0) rfl (by kernel_rfl) (by kernel_rfl) (by kernel_rfl) (fun _ _ _ h => h) (Or.inl ⟨by rfl, ?py0⟩) (by assumption) ?pr0
  case py0 => (intro w hSw; (try dsimp only at hSw); go_simp; try with_reducible rfl)
  (try simp only [Act.put, putS])
  refine wpAnyH_take (i := 1) (v := ?pv1) rfl (by kernel_rfl) (by kernel_rfl) (by kernel_rfl) (fun _ _ _ h => h) (Or.inl ⟨by rfl, ?py1⟩) (by assumption) ?pr1
  case py1 => (intro w hSw; (try dsimp only at hSw); go_simp; try with_reducible rfl)
  (try simp only [Act.put, putS])
  refine wpAnyH_take (i := 2) (v := ?pv2) rfl (by kernel_rfl) (by kernel_rfl) (by kernel_rfl) (fun _ _ _ h => h) (Or.inl ⟨by rfl, ?py2⟩) (by assumption) ?pr2
  case py2 => (intro w hSw; (try dsimp only at hSw); go_simp; try with_reducible rfl)
  (try simp only [Act.put, putS])
  refine wpAnyH_take (i := 3) (v := ?pv3) rfl (by kernel_rfl) (by kernel_rfl) (by kernel_rfl) (fun _ _ _ h => h) (Or.inl ⟨by rfl, ?py3⟩) (by assumption) ?pr3
  case py3 => (intro w hSw; (try dsimp only at hSw); go_simp; try with_reducible rfl)
  (try simp only [Act.put, putS])
  refine wpAnyH_take (i := 4) (v := ?pv4) rfl (by kernel_rfl) (by kernel_rfl) (by kernel_rfl) (fun _ _ _ h => h) (Or.inl ⟨by rfl, ?py4⟩) (by assumption) ?pr4
  case py4 => (intro w hSw; (try dsimp only at hSw); go_simp; try with_reducible rfl)
  (try simp only [Act.put, putS])
  refine wpAnyH_take (i := 5) (v := ?pv5) rfl (by kernel_rfl) (by kernel_rfl) (by kernel_rfl) (fun _ _ _ h => h) (Or.inl ⟨by rfl, ?py5⟩) (by assumption) ?pr5
  case py5 => (intro w hSw; (try dsimp only at hSw); go_simp; try with_reducible rfl)
  (try simp only [Act.put, putS])
  refine wpAnyH_take (i := 6) (v := .agg (shC S (.slice mva S.mem.length mvc) (.slice pva S.past.length pvc)).toList.toArray) rfl (by kernel_rfl) (by kernel_rfl) (by kernel_rfl) (fun _ _ _ h => h) (yieldsIf_load_mid rfl _ _ rfl A 0 rfl (shC S (.slice mva S.mem.length mvc) (.slice pva S.past.length pvc)).toList dS (fun Y hY => hY.2.2) hdS1 hdS2 Try.sizeSh) (by assumption) ?_
  (try simp only [Act.put, putS])
  refine wpAnyH_ready (rs := [7]) (by kernel_rfl) (by simp) ?_
  refine AllReadyH.cons rfl (fun K hK => ?_) AllReadyH.nil
  rw [if_pos (by rfl)]
  obtain ⟨w2, hrun, ho2, hg2⟩ := H1.out.own.drew.update intK Try.underlyingMs (by have := HN.out; unfold maxLen; omega) (key_of S.id HI.out) (RHs_mk HSH.out)
  refine wp_upd _ _ _ rfl rfl rfl rfl hrun ?_
  have O2 := hid ho2
  have G2 : Hid (w1.grownBy w2 (some mb)) := hid ⟨hg2.os, hg2.tape, hg2.output, hg2.size, hg2.block⟩
  clear hrun ho2 hg2
  refine hK.out _ _ (SW.out _ G2.out) (fun hHeld => ?_)
  try clear hK K
  (try simp only [Act.put, putS])
  refine wpAnyH_done (by kernel_rfl) ?_ _
  have H2 : Hid (AtM w2 b wb mb (n + 1) ov (D.put (.int .i64 S.id) (.held (shV S (.slice mva S.mem.length mvc) (.slice pva S.past.length pvc)))) N W (⟨S, .slice mva S.mem.length mvc, .slice pva S.past.length pvc⟩ :: X)) := hid (by
    have ht : Tr (AtR b wb mb) w1 w2 := Tr.grown G2.out (.inr (.inr rfl))
    refine ⟨(G2.out.block b (lt_of_block H1.out.box) (fun e => H1.out.ne.2.1 (by cases e; rfl))).trans H1.out.box, own_tr H1.out ht H1.out.opn (by decide) (by decide), ⟨?_, H1.out.whr.can, H1.out.whr.ints⟩, O2.out, SM.put H1.out.sm ⟨S, .slice mva S.mem.length mvc, .slice pva S.past.length pvc⟩ HNW.out, ?_⟩
    · obtain ⟨va, vc, h1, h2⟩ := H1.out.whr.at'
      exact ⟨va, vc, (G2.out.block wb (lt_of_block h1) (fun e => H1.out.ne.2.2 (by cases e; rfl))).trans h1, own_tr H1.out ht h2 (by decide) (by decide)⟩
    · intro y hy
      rcases List.mem_cons.1 hy with rfl | hy
      · exact ShM.tr H1.out ht HX.out
      · exact ShM.tr H1.out ht (H1.out.mem y hy))
  have A2 : Hid (w2.heap[A]? = some (.cells (shC S (.slice mva S.mem.length mvc) (.slice pva S.past.length pvc)) 46 (0, 0))) := hid ((G2.out.block A (lt_of_block A1.out) (fun e => NA.out (by cases e; exact .inr (.inr rfl)))).trans A1.out)
  have T2 : Hid (Tr (AtR b wb mb) w w2) := hid ((Tr.below B1.out).trans (Tr.grown G2.out (.inr (.inr rfl))))
  clear SW hHeld B1 H1 HX G2 O2 A1
  go_upto_region 2 with fail
  have ST : Hid (∀ Y, w2.grownBy Y (some wb) → Y.cell? ⟨b, 4, none⟩ = some (.pointer (some ⟨wb, 0, none⟩)) ∧ Y.cell? ⟨A, 0, none⟩ = some (.int .i64 S.id) ∧ Y.rangeAt A 1 [.int .i64 S.fr, .int .i64 S.to]) := hid fun Y hY => by
    have h1 := (hY.block A (lt_of_block A2.out) (fun e => NA.out (by cases e; exact .inr (.inl rfl)))).trans A2.out
    have h2 := (hY.block b (lt_of_block H2.out.box) (fun e => H2.out.ne.1 (by cases e; rfl))).trans H2.out.box
    refine ⟨by rw [cell_of_row _ _ _ _ _ _ h2]; rfl, by rw [cell_of_row _ _ _ _ _ _ h1]; rfl, range_of_row h1 1 _ fun j v hv => ?_⟩
    match j, hv with
    | 0, hv => exact hv
    | 1, hv => exact hv
  refine wp_region_held_drew (S := fun Y => Y.cell? ⟨b, 4, none⟩ = some (.pointer (some ⟨wb, 0, none⟩)) ∧ Y.cell? ⟨A, 0, none⟩ = some (.int .i64 S.id) ∧ Y.rangeAt A 1 [.int .i64 S.fr, .int .i64 S.to]) (by kernel_rfl) (ST.out _ ⟨rfl, rfl, rfl, Nat.le_refl _, fun _ _ _ => rfl⟩) (fun hHeld => ?_)
  refine wpAnyH_take (i := 0) (v := ?rv0) rfl (by kernel_rfl) (by kernel_rfl) (by kernel_rfl) (fun _ _ _ h => h) (Or.inl ⟨by rfl, ?ry0⟩) (by assumption) ?rr0
  case ry0 => (intro w hSw; (try dsimp only at hSw); go_simp; try with_reducible rfl)
  (try simp only [Act.put, putS])
  refine wpAnyH_take (i := 1) (v := ?rv1) rfl (by kernel_rfl) (by kernel_rfl) (by kernel_rfl) (fun _ _ _ h => h) (Or.inl ⟨by rfl, ?ry1⟩) (by assumption) ?rr1
  case ry1 => (intro w hSw; (try dsimp only at hSw); go_simp; try with_reducible rfl)
  (try simp only [Act.put, putS])
  refine wpAnyH_take (i := 2) (v := ?rv2) rfl (by kernel_rfl) (by kernel_rfl) (by kernel_rfl) (fun _ _ _ h => h) (Or.inl ⟨by rfl, ?ry2⟩) (by assumption) ?rr2
  case ry2 => (intro w hSw; (try dsimp only at hSw); go_simp; try with_reducible rfl)
  (try simp only [Act.put, putS])
  refine wpAnyH_take (i := 3) (v := ?rv3) rfl (by kernel_rfl) (by kernel_rfl) (by kernel_rfl) (fun _ _ _ h => h) (Or.inl ⟨by rfl, ?ry3⟩) (by assumption) ?rr3
  case ry3 => (intro w hSw; (try dsimp only at hSw); go_simp; try with_reducible rfl)
  (try simp only [Act.put, putS])
  refine wpAnyH_take (i := 4) (v := ?rv4) rfl (by kernel_rfl) (by kernel_rfl) (by kernel_rfl) (fun _ _ _ h => h) (Or.inl ⟨by rfl, ?ry4⟩) (by assumption) ?rr4
  case ry4 => (intro w hSw; (try dsimp only at hSw); go_simp; try with_reducible rfl)
  (try simp only [Act.put, putS])
  refine wpAnyH_take (i := 5) (v := .agg #[.int .i64 S.fr, .int .i64 S.to]) rfl (by kernel_rfl) (by kernel_rfl) (by kernel_rfl) (fun _ _ _ h => h) (yieldsIf_load_mid rfl _ _ rfl A 1 (by go_simp) [.int .i64 S.fr, .int .i64 S.to] dP (fun Y hY => hY.2.2) hdP1 hdP2 Try.sizeSp) (by assumption) ?_
  (try simp only [Act.put, putS])
  refine wpAnyH_take (i := 6) (v := ?sv6) rfl (by kernel_rfl) (by kernel_rfl) (by kernel_rfl) (fun _ _ _ h => h) (Or.inl ⟨by rfl, ?sy6⟩) (by assumption) ?sr6
  case sy6 => (intro w hSw; (try dsimp only at hSw); go_simp; try with_reducible rfl)
  (try simp only [Act.put, putS])
  refine wpAnyH_take (i := 7) (v := ?sv7) rfl (by kernel_rfl) (by kernel_rfl) (by kernel_rfl) (fun _ _ _ h => h) (Or.inl ⟨by rfl, ?sy7⟩) (by assumption) ?sr7
  case sy7 => (intro w hSw; (try dsimp only at hSw); go_simp; try with_reducible rfl)
  (try simp only [Act.put, putS])
  refine wpAnyH_ready (rs := [8]) (by kernel_rfl) (by simp) ?_
  refine AllReadyH.cons rfl (fun K hK => ?_) AllReadyH.nil
  rw [if_pos (by rfl)]
  go_wp2_with fail
  refine (putM_any wb W (S.fr, S.to) S.id _ (H2.out.whr.kept ((Below.refl _ _).drew)) HWL.out HSP.out).mono ?_
  rintro e w3 ⟨rfl, W', hm3, hc3, hg3, -⟩
  have M3 := hid hm3
  have C3 := hid hc3
  have G3 : Hid (w2.grownBy w3 (some wb)) := hid ⟨hg3.os, hg3.tape, hg3.output, hg3.size, hg3.block⟩
  clear hm3 hc3 hg3
  refine hK.out _ _ (ST.out _ G3.out) (fun hHeld => ?_)
  try clear hK K
  (try simp only [Act.put, putS])
  refine wpAnyH_done (by kernel_rfl) ?_ _
  have HF : Hid (AtM w3 b wb mb (n + 1) ov (D.put (.int .i64 S.id) (.held (shV S (.slice mva S.mem.length mvc) (.slice pva S.past.length pvc)))) N W' (⟨S, .slice mva S.mem.length mvc, .slice pva S.past.length pvc⟩ :: X) ∧ Tr (AtR b wb mb) w w3) := hid (by
    have ht : Tr (AtR b wb mb) w2 w3 := Tr.grown G3.out (.inr (.inl rfl))
    refine ⟨⟨(G3.out.block b (lt_of_block H2.out.box) (fun e => H2.out.ne.1 (by cases e; rfl))).trans H2.out.box, own_tr H2.out ht H2.out.opn (by decide) (by decide), M3.out, H2.out.own.kept G3.out (fun e => H2.out.ne.2.2 (by cases e; rfl)), H2.out.sm, fun y hy => ShM.tr H2.out ht (H2.out.mem y hy)⟩, T2.out.trans ht⟩)
  go_wp2_with fail
  go_end0
  exact ⟨rfl, W', HF.out.1, C3.out, HF.out.2⟩
end Go.Proofs.Ytnkjkaofgninnaa
