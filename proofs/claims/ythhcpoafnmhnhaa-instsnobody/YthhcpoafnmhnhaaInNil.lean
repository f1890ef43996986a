/- What the calls of a table that there is not answer. -/
import Derived.Test.YthhcpoafnmhnhaaInOrdL
import Derived.Test.YthhcpoafnmhnhaaInGet
import Derived.Test.YthhcpoafnmhnhaaInEach
namespace Go.Proofs.Ythhcpoafnmhnhaa
open Go.RowKit Go.Maps Go.Shelf
attribute [local go_sem] Oper.semAt_some
set_option linter.unusedVariables false
set_option linter.unusedSimpArgs false

set_option maxRecDepth 100000 in
set_option maxHeartbeats 1600000 in
theorem known1_nil (n : Nat) (y B : Nat) (J : List Empty → World → Prop) (W : World) (hB : W.cell? ⟨B, 0, none⟩ = some (.pointer none)) (h0 : J [] W) :
    CallsIn Fence.wide n Try.prog 36 #[.func (.yield y) #[] #[], .pointer (some ⟨B, 0, none⟩)] W fun e W' => (∃ v, e = .returned v) ∧ J [] W' := by
  refine callsIn_of_wp Try.func36 rfl trivial ?_ rfl
  simp only [Try.ntmps36, List.size_toArray, List.length_cons, List.length_nil, Nat.reduceAdd, Nat.reduceSub, Array.replicate_succ, Array.replicate_zero, List.push_toArray, List.append_toArray, List.nil_append, List.cons_append]
  gi_wp2
  refine bodyPost_ret (results_none rfl _ _ _) rfl ?_
  exact ⟨⟨_, rfl⟩, h0⟩
theorem knownN_stops (n : Nat) (B : Nat) (w : World) (hB : w.heap[B]? = some (.cells #[.pointer none] 25 (0, 0))) :
    SeqStopsK Fence.wide n Try.prog 36 #[.pointer (some ⟨B, 0, none⟩)] (fun x : Empty => x.elim) KeepsWalks (fun ss => ss = []) (fun _ => False) 0 w := fun y J Jx W hW hJ _ hY h0 => by
  have hp := (hW.block B (lt_of_block hB)).trans hB
  have hcB : W.cell? ⟨B, 0, none⟩ = some (.pointer none) := by rw [cell_of_row _ _ _ _ _ _ hp]; rfl
  exact (known1_nil n y B J W hcB h0).mono fun e W' ⟨he, hj⟩ => ⟨he, .inl ⟨_, rfl, hj⟩⟩
/-- In a loop that no element comes to: all is as it was. -/
structure Idle (w1 W : World) : Prop where
  grown : Below w1.heap.size w1 W
theorem Idle.turned {w1 X Y : World} {row : Option Nat} (h : Idle w1 X) (hg : X.grownBy Y row) (hr : ∀ r, row = some r → w1.heap.size ≤ r ∧ ∃ o : Obj, X.heap[r]? = some o ∧ o.isCells = false) : Idle w1 Y :=
  ⟨h.grown.grown hg h.grown.size (fun k e => (hr k e).1)⟩
set_option maxRecDepth 100000 in
set_option maxHeartbeats 4000000 in
theorem inext_nil (lead : Int) (w : World) :
    Calls Try.prog 14 #[.pointer none, .int .i64 lead] w fun e w' => e = .returned (.int .i64 1) ∧ Below w.heap.size w w' := by
  refine (callsIn_wide (n := 3)).1 ?_
  refine callsIn_of_wp_marks Try.func14 rfl trivial ?_ rfl
  simp only [Try.ntmps14, List.size_toArray, List.length_cons, List.length_nil, Nat.reduceAdd, Nat.reduceSub, Array.replicate_succ, Array.replicate_zero, List.push_toArray, List.append_toArray, List.nil_append, List.cons_append]
  refine wpIn_wide.2 ?_
  go_upto_region 2 with fail
  obtain ⟨w0, hw0⟩ : ∃ w0, w0 = (w.alloc (.cells #[.int .i64 lead] 3)).alloc (.cells #[.int .i64 0] 3) := ⟨_, rfl⟩
  have b0 : Below w.heap.size w w0 := by rw [hw0]; exact ((Below.refl _ _).alloc (Nat.le_refl _) _).alloc (by simp) _
  have a0 : w0.heap[w.heap.size + 1]? = some (.cells #[.int .i64 0] 3 (0, 0)) := by rw [hw0]; exact heap_alloc2_new _ _ _
  rw [← hw0]
  clear hw0
  obtain ⟨A, hA⟩ : ∃ A, A = w.heap.size + 1 := ⟨_, rfl⟩
  rw [← hA] at a0
  rw [← hA]
  clear hA
  have A0 := hid a0
  have B0 := hid b0
  clear a0 b0
  go_wp2_with fail
  refine (known_any _ w0 ⟨_, rfl⟩).mono ?_
  rintro e w1 ⟨rfl, hw1⟩
  have b1 : Below w0.heap.size w0 w1 := by rw [hw1]; exact (Below.refl _ _).alloc (Nat.le_refl _) _
  have K1 : Hid (w1.heap[w0.heap.size]? = some (.cells #[.pointer none] 25 (0, 0))) := hid (by rw [hw1]; exact heap_alloc_new _ _)
  have A1 := hid ((b1.block A (lt_of_block A0.out)).trans A0.out)
  have B1 := hid (B0.out.trans (b1.mono B0.out.size))
  obtain ⟨B, hB⟩ : ∃ B, B = w0.heap.size := ⟨_, rfl⟩
  rw [← hB] at K1
  rw [← hB]
  clear hw1 b1 A0 B0 hB
  go_wp2_with fail
  refine (wpIn_wide (n := 3)).1 ?_
  refine wpIn_rangeFunc_ownH (F := Fence.wide) rfl (by omega) (gf := 36) (lb := #[.pointer (some ⟨B, 0, none⟩)]) rfl trivial (enters_of Try.func36 (by kernel_rfl) rfl)
    (knownN_stops _ B w1 K1.out) walksK_t (fun W l o o' h1 h2 h3 h4 => walksK_b (w := w1) W l o o' h1 h2 h3 h4) (Below.refl _ _) (fun x => x.elim)
    (fun pre W => Idle w1 W)
    (fun c pre W => False) ?hI ?hIx ⟨Below.refl _ _⟩
    (fun x a W => False)
    ?hAx ?assign ?body ?done ?stop
  case hI =>
    intro s X Y row h hg hr
    exact h.turned hg hr
  case hIx =>
    intro c s X Y row h hg hr
    exact h
  case hAx => exact fun x => x.elim
  case assign => exact fun _ _ x => x.elim
  case body => exact fun _ _ x => x.elim
  case stop =>
    intro Dd c pre W hD hS hF hdf
    exact hF.elim
  intro Dd xs W hD hS hM hdf
  have cA : W.cell? ⟨A, 0, none⟩ = some (.int .i64 0) := by rw [cell_of_row _ _ _ _ _ _ ((hM.grown.block A (lt_of_block A1.out)).trans A1.out)]; rfl
  have HM := hid hM
  clear hM hS
  gi_wp2
  go_wp2_with fail
  refine ⟨by simp, .inl ⟨_, _, rfl, run_takeDeferred hdf, ?_⟩⟩
  refine ⟨_, results_tmp rfl _ _ _, rfl, ?_⟩
  exact (B1.out.trans (HM.out.grown.mono B1.out.size)).trans (belowK_b (w := w) (Nat.le_refl _) W Dd _ _ (by have := B1.out.size; omega) hdf rfl rfl)
set_option maxRecDepth 100000 in
set_option maxHeartbeats 4000000 in
theorem irising_nil (w : World) :
    Calls Try.prog 22 #[.pointer none] w fun e w' => e = .returned (.slice none 0 0) ∧ Below w.heap.size w w' := by
  refine (callsIn_wide (n := 3)).1 ?_
  refine callsIn_of_wp_marks Try.func22 rfl trivial ?_ rfl
  simp only [Try.ntmps22, List.size_toArray, List.length_cons, List.length_nil, Nat.reduceAdd, Nat.reduceSub, Array.replicate_succ, Array.replicate_zero, List.push_toArray, List.append_toArray, List.nil_append, List.cons_append]
  refine wpIn_wide.2 ?_
  go_upto_region 2 with fail
  obtain ⟨w0, hw0⟩ : ∃ w0, w0 = w.alloc (.cells #[.slice none 0 0] 36) := ⟨_, rfl⟩
  have b0 : Below w.heap.size w w0 := by rw [hw0]; exact (Below.refl _ _).alloc (Nat.le_refl _) _
  have a0 : w0.heap[w.heap.size]? = some (.cells #[.slice none 0 0] 36 (0, 0)) := by rw [hw0]; exact heap_alloc_new _ _
  rw [← hw0]
  clear hw0
  obtain ⟨A, hA⟩ : ∃ A, A = w.heap.size := ⟨_, rfl⟩
  rw [← hA] at a0
  rw [← hA]
  clear hA
  have A0 := hid a0
  have B0 := hid b0
  clear a0 b0
  go_wp2_with fail
  refine (known_any _ w0 ⟨_, rfl⟩).mono ?_
  rintro e w1 ⟨rfl, hw1⟩
  have b1 : Below w0.heap.size w0 w1 := by rw [hw1]; exact (Below.refl _ _).alloc (Nat.le_refl _) _
  have K1 : Hid (w1.heap[w0.heap.size]? = some (.cells #[.pointer none] 25 (0, 0))) := hid (by rw [hw1]; exact heap_alloc_new _ _)
  have A1 := hid ((b1.block A (lt_of_block A0.out)).trans A0.out)
  have B1 := hid (B0.out.trans (b1.mono B0.out.size))
  obtain ⟨B, hB⟩ : ∃ B, B = w0.heap.size := ⟨_, rfl⟩
  rw [← hB] at K1
  rw [← hB]
  clear hw1 b1 A0 B0 hB
  go_wp2_with fail
  refine (wpIn_wide (n := 3)).1 ?_
  refine wpIn_rangeFunc_ownH (F := Fence.wide) rfl (by omega) (gf := 36) (lb := #[.pointer (some ⟨B, 0, none⟩)]) rfl trivial (enters_of Try.func36 (by kernel_rfl) rfl)
    (knownN_stops _ B w1 K1.out) walksK_t (fun W l o o' h1 h2 h3 h4 => walksK_b (w := w1) W l o o' h1 h2 h3 h4) (Below.refl _ _) (fun x => x.elim)
    (fun pre W => Idle w1 W)
    (fun c pre W => False) ?hI ?hIx ⟨Below.refl _ _⟩
    (fun x a W => False)
    ?hAx ?assign ?body ?done ?stop
  case hI =>
    intro s X Y row h hg hr
    exact h.turned hg hr
  case hIx =>
    intro c s X Y row h hg hr
    exact h
  case hAx => exact fun x => x.elim
  case assign => exact fun _ _ x => x.elim
  case body => exact fun _ _ x => x.elim
  case stop =>
    intro Dd c pre W hD hS hF hdf
    exact hF.elim
  intro Dd xs W hD hS hM hdf
  have cA : W.cell? ⟨A, 0, none⟩ = some (.slice none 0 0) := by rw [cell_of_row _ _ _ _ _ _ ((hM.grown.block A (lt_of_block A1.out)).trans A1.out)]; rfl
  have HM := hid hM
  have HDF := hid hdf
  have BW : Hid (Below w.heap.size w W) := hid (B1.out.trans (hM.grown.mono B1.out.size))
  clear hM hS hdf
  gi_wp2
  go_wp2_with fail
  refine (refsD_any _ _ [] _ (Rfs.nil _) (heap_alloc_new _ _) (by simp) (by simp)).mono ?_
  rintro e w2 ⟨va2, vc2, m, rfl, -, -, -, hb2⟩
  have bwa : Below W.heap.size W (W.alloc (.cells #[.slice none 0 0] 36)) := (Below.refl _ _).alloc (Nat.le_refl _) _
  have B2 := hid (BW.out.trans ((bwa.trans (hb2.mono bwa.size)).mono BW.out.size))
  have hdf2 : w2.heap[Dd]? = some (.deferred (some [])) := ((bwa.trans (hb2.mono bwa.size)).block Dd (lt_of_block HDF.out)).trans HDF.out
  have hDw : w.heap.size ≤ Dd := by have := B1.out.size; omega
  clear hb2 bwa cA
  have HD2 := hid hdf2
  clear hdf2
  simp only [List.length_nil]
  go_wp2_with fail
  go_loopw [5, 20] (fun lv kv wr => lv = .slice none 0 0 ∧ kv = .int .i64 0 ∧ wr = w2) (fun _ _ _ => 0)
  case atStart => exact ⟨rfl, rfl, rfl⟩
  case round =>
    obtain ⟨rfl, rfl, rfl⟩ := hrel
    go_wp2_with fail
    refine ⟨by simp, .inl ⟨_, _, rfl, run_takeDeferred HD2.out, ?_⟩⟩
    refine ⟨_, results_tmp rfl _ _ _, rfl, ?_⟩
    exact B2.out.trans (belowK_b (w := w) (Nat.le_refl _) wr Dd _ _ hDw HD2.out rfl rfl)
set_option maxRecDepth 100000 in
set_option maxHeartbeats 4000000 in
theorem iorder_nil (c : CmdD) (u : Value) (self : Int × Int) (w : World) (hu : ∃ ua un uc, u = .slice ua un uc) :
    Calls Try.prog 12 #[.pointer none, cmdV c u, .agg #[.int .i64 self.1, .int .i64 self.2]] w fun e w' => ∃ va vc, e = .returned (.tuple #[.int .i64 1, .slice va 0 vc]) ∧ Below w.heap.size w w' := by
  obtain ⟨ua, un, uc, rfl⟩ := hu
  obtain ⟨c0, c1, c2, c3, c4, cd⟩ := c
  obtain ⟨s0, s1⟩ := self
  unfold cmdV
  simp only
  refine (callsIn_wide (n := 3)).1 ?_
  refine callsIn_of_wp_marks Try.func12 rfl trivial ?_ rfl
  simp only [Try.ntmps12, List.size_toArray, List.length_cons, List.length_nil, Nat.reduceAdd, Nat.reduceSub, Array.replicate_succ, Array.replicate_zero, List.push_toArray, List.append_toArray, List.nil_append, List.cons_append]
  refine wpIn_wide.2 ?_
  go_upto_region 3 with fail
  obtain ⟨w0, hw0⟩ : ∃ w0, w0 = (((w.alloc (.cells #[.int .i64 c0, .int .i64 c1, .int .i64 c2, .int .i64 c3, .int .i64 c4, .slice ua un uc] 35)).alloc (.cells #[.int .i64 s0, .int .i64 s1] 24)).alloc (.cells #[.int .i64 0] 3)).alloc (.cells #[.slice none 0 0] 36) := ⟨_, rfl⟩
  obtain ⟨p0, q0, a0, g0, b0⟩ := heap4 w (.cells #[.int .i64 c0, .int .i64 c1, .int .i64 c2, .int .i64 c3, .int .i64 c4, .slice ua un uc] 35) (.cells #[.int .i64 s0, .int .i64 s1] 24) (.cells #[.int .i64 0] 3) (.cells #[.slice none 0 0] 36)
  rw [← hw0] at a0 g0 b0
  rw [← hw0]
  clear hw0 p0 q0
  obtain ⟨P, hP⟩ : ∃ P, P = w.heap.size := ⟨_, rfl⟩
  obtain ⟨Z, hZ⟩ : ∃ Z, Z = w.heap.size + 1 := ⟨_, rfl⟩
  obtain ⟨A, hA⟩ : ∃ A, A = w.heap.size + 1 + 1 := ⟨_, rfl⟩
  obtain ⟨G, hG⟩ : ∃ G, G = w.heap.size + 1 + 1 + 1 := ⟨_, rfl⟩
  rw [← hA] at a0
  rw [← hG] at g0
  rw [← hG, ← hA, ← hZ, ← hP]
  clear hP hZ hA hG
  have A0 := hid a0
  have G0 := hid g0
  have B0 := hid b0
  clear a0 g0 b0
  go_wp2_with fail
  refine (known_any _ w0 ⟨_, rfl⟩).mono ?_
  rintro e w1 ⟨rfl, hw1⟩
  have b1 : Below w0.heap.size w0 w1 := by rw [hw1]; exact (Below.refl _ _).alloc (Nat.le_refl _) _
  have K1 : Hid (w1.heap[w0.heap.size]? = some (.cells #[.pointer none] 25 (0, 0))) := hid (by rw [hw1]; exact heap_alloc_new _ _)
  have A1 := hid ((b1.block A (lt_of_block A0.out)).trans A0.out)
  have G1 := hid ((b1.block G (lt_of_block G0.out)).trans G0.out)
  have B1 := hid (B0.out.trans (b1.mono B0.out.size))
  obtain ⟨B, hB⟩ : ∃ B, B = w0.heap.size := ⟨_, rfl⟩
  rw [← hB] at K1
  rw [← hB]
  clear hw1 b1 A0 G0 B0 hB
  go_wp2_with fail
  refine (wpIn_wide (n := 3)).1 ?_
  refine wpIn_rangeFunc_ownH (F := Fence.wide) rfl (by omega) (gf := 36) (lb := #[.pointer (some ⟨B, 0, none⟩)]) rfl trivial (enters_of Try.func36 (by kernel_rfl) rfl)
    (knownN_stops _ B w1 K1.out) walksK_t (fun W l o o' h1 h2 h3 h4 => walksK_b (w := w1) W l o o' h1 h2 h3 h4) (Below.refl _ _) (fun x => x.elim)
    (fun pre W => Idle w1 W)
    (fun c pre W => False) ?hI ?hIx ⟨Below.refl _ _⟩
    (fun x a W => False)
    ?hAx ?assign ?body ?done ?stop
  case hI =>
    intro s X Y row h hg hr
    exact h.turned hg hr
  case hIx =>
    intro c s X Y row h hg hr
    exact h
  case hAx => exact fun x => x.elim
  case assign => exact fun _ _ x => x.elim
  case body => exact fun _ _ x => x.elim
  case stop =>
    intro Dd c pre W hD hS hF hdf
    exact hF.elim
  intro Dd xs W hD hS hM hdf
  have gA : W.cell? ⟨A, 0, none⟩ = some (.int .i64 0) := by rw [cell_of_row _ _ _ _ _ _ ((hM.grown.block A (lt_of_block A1.out)).trans A1.out)]; rfl
  have gG : W.cell? ⟨G, 0, none⟩ = some (.slice none 0 0) := by rw [cell_of_row _ _ _ _ _ _ ((hM.grown.block G (lt_of_block G1.out)).trans G1.out)]; rfl
  have HDF := hid hdf
  have BW : Hid (Below w.heap.size w W) := hid (B1.out.trans (hM.grown.mono B1.out.size))
  have hDw : w.heap.size ≤ Dd := by have := B1.out.size; omega
  have SW : Hid (∀ X, Below W.heap.size W X → X.cell? ⟨A, 0, none⟩ = some (.int .i64 0) ∧ X.cell? ⟨G, 0, none⟩ = some (.slice none 0 0)) := hid fun X hX => ⟨cell_later hX gA, cell_later hX gG⟩
  clear gA gG hM hS hdf
  gi_wp2
  go_wp2_with fail
  refine wp_region_noPanic ?_
  refine wp_region_held_drew (S := fun X => X.cell? ⟨A, 0, none⟩ = some (.int .i64 0) ∧ X.cell? ⟨G, 0, none⟩ = some (.slice none 0 0)) (by kernel_rfl) (SW.out _ ((Below.refl _ _).drew)) (fun hHeld => ?_)
  refine wpAnyH_take (i := 0) (v := ?rv0) rfl (by kernel_rfl) (by kernel_rfl) (by kernel_rfl) (fun _ _ _ h => h) (Or.inl ⟨by rfl, ?ry0⟩) (by assumption) ?rr0
  case ry0 => (intro w hSw; (try dsimp only at hSw); go_simp; try with_reducible rfl)
  (try simp only [Act.put, List.setIfInBounds_toArray, List.set_cons_zero, List.set_cons_succ, List.getElem_toArray, List.getElem_cons_succ, List.getElem_cons_zero])
  refine wpAnyH_take (i := 1) (v := ?rv1) rfl (by kernel_rfl) (by kernel_rfl) (by kernel_rfl) (fun _ _ _ h => h) (Or.inl ⟨by rfl, ?ry1⟩) (by assumption) ?rr1
  case ry1 => (intro w hSw; (try dsimp only at hSw); go_simp; try with_reducible rfl)
  (try simp only [Act.put, List.setIfInBounds_toArray, List.set_cons_zero, List.set_cons_succ, List.getElem_toArray, List.getElem_cons_succ, List.getElem_cons_zero])
  refine wpAnyH_take (i := 2) (v := ?rv2) rfl (by kernel_rfl) (by kernel_rfl) (by kernel_rfl) (fun _ _ _ h => h) (Or.inl ⟨by rfl, ?ry2⟩) (by assumption) ?rr2
  case ry2 => (intro w hSw; (try dsimp only at hSw); go_simp; try with_reducible rfl)
  (try simp only [Act.put, List.setIfInBounds_toArray, List.set_cons_zero, List.set_cons_succ, List.getElem_toArray, List.getElem_cons_succ, List.getElem_cons_zero])
  refine wpAnyH_ready (rs := [3]) (by kernel_rfl) (by simp) ?_
  refine AllReadyH.cons rfl (fun K hK => ?_) AllReadyH.nil
  rw [if_pos (by rfl)]
  go_simp
  have B5 : Hid (Below W.heap.size W ((W.alloc (.cells #[.slice none 0 0] 36)).drew)) := hid (((Below.refl _ _).alloc (Nat.le_refl _) _).drew)
  refine hK.out _ _ (SW.out _ B5.out) (fun hHeld => ?_)
  try clear hK K
  (try simp only [Act.put, List.setIfInBounds_toArray, List.set_cons_zero, List.set_cons_succ, List.getElem_toArray, List.getElem_cons_succ, List.getElem_cons_zero])
  refine wpAnyH_ready (rs := [4]) (by kernel_rfl) (by simp) ?_
  refine AllReadyH.cons rfl (fun K hK => ?_) AllReadyH.nil
  rw [if_pos (by rfl)]
  go_wp2_with fail
  refine (refsD_any _ _ [] _ (Rfs.nil _) (by exact heap_alloc_new W _) (by simp) (by simp)).mono ?_
  rintro e w6 ⟨va6, vc6, m6, rfl, -, -, -, hb6⟩
  have B6 := hid (B5.out.trans (hb6.mono B5.out.size))
  clear hb6
  refine hK.out _ _ (SW.out _ B6.out) (fun hHeld => ?_)
  try clear hK K
  (try simp only [Act.put, List.setIfInBounds_toArray, List.set_cons_zero, List.set_cons_succ, List.getElem_toArray, List.getElem_cons_succ, List.getElem_cons_zero])
  refine wpAnyH_take (i := 5) (v := ?rv5) rfl (by kernel_rfl) (by kernel_rfl) (by kernel_rfl) (fun _ _ _ h => h) (Or.inl ⟨by rfl, ?ry5⟩) (by assumption) ?rr5
  case ry5 => (intro w hSw; (try dsimp only at hSw); go_simp; try with_reducible rfl)
  (try simp only [Act.put, List.setIfInBounds_toArray, List.set_cons_zero, List.set_cons_succ, List.getElem_toArray, List.getElem_cons_succ, List.getElem_cons_zero])
  refine wpAnyH_take (i := 6) (v := ?rv6) rfl (by kernel_rfl) (by kernel_rfl) (by kernel_rfl) (fun _ _ _ h => h) (Or.inl ⟨by rfl, ?ry6⟩) (by assumption) ?rr6
  case ry6 => (intro w hSw; (try dsimp only at hSw); go_simp; try with_reducible rfl)
  (try simp only [Act.put, List.setIfInBounds_toArray, List.set_cons_zero, List.set_cons_succ, List.getElem_toArray, List.getElem_cons_succ, List.getElem_cons_zero])
  refine wpAnyH_done (by kernel_rfl) ?_ _
  simp only [NoPanic]
  go_wp2_with fail
  have hdf6 : w6.heap[Dd]? = some (.deferred (some [])) := (B6.out.block Dd (lt_of_block HDF.out)).trans HDF.out
  refine ⟨by simp, .inl ⟨_, _, rfl, run_takeDeferred hdf6, ?_⟩⟩
  refine ⟨_, results_tmp2 rfl _ _ _, va6, vc6, rfl, ?_⟩
  exact (BW.out.trans (B6.out.mono BW.out.size)).trans (belowK_b (w := w) (Nat.le_refl _) w6 Dd _ _ hDw hdf6 rfl rfl)
set_option maxHeartbeats 1600000 in
theorem ilen_nil (w : World) : Calls Try.prog 13 #[.pointer none] w fun e w' => e = .returned (.int .i64 0) ∧ w' = w := by
  go_enter Try.func13, Try.ntmps13
  go_wp2_with fail
  go_ret
  exact ⟨rfl, rfl⟩
set_option maxHeartbeats 1600000 in
theorem iclone_nil (w : World) : Calls Try.prog 15 #[.pointer none] w fun e w' => e = .returned (.pointer none) ∧ w' = w := by
  refine (callsIn_wide (n := 3)).1 ?_
  refine callsIn_of_wp_marks Try.func15 rfl trivial ?_ rfl
  simp only [Try.ntmps15, List.size_toArray, List.length_cons, List.length_nil, Nat.reduceAdd, Nat.reduceSub, Array.replicate_succ, Array.replicate_zero, List.push_toArray, List.append_toArray, List.nil_append, List.cons_append]
  refine wpIn_wide.2 ?_
  go_wp2_with fail
  exact ⟨_, results_tmp rfl _ _ _, rfl, rfl⟩
set_option maxRecDepth 100000 in
set_option maxHeartbeats 1600000 in
theorem iget_nil (r : Int × Int) (w : World) : Calls Try.prog 10 #[.pointer none, .agg #[.int .i64 r.1, .int .i64 r.2]] w fun e w' => e = .returned (.tuple #[instV zeroI (.slice none 0 0) (.slice none 0 0), .bool false]) ∧ Below w.heap.size w w' := by
  go_enter Try.func10, Try.ntmps10
  go_wp2_with fail
  refine bodyPost_ret (results_instB rfl _ _ (w.heap.size + 1) _ (instC zeroI (.slice none 0 0) (.slice none 0 0)) _ rfl (heap_alloc2_new _ _ _) rfl) rfl ⟨rfl, ?_⟩
  exact ((Below.refl _ _).alloc (Nat.le_refl _) _).alloc (by simp) _
set_option maxRecDepth 100000 in
set_option maxHeartbeats 1600000 in
theorem each1_nil (n : Nat) (hn : 1 ≤ n) (y B : Nat) (J : List Empty → World → Prop) (W : World) (hB : W.cell? ⟨B, 0, none⟩ = some (.pointer none)) (hJ : ∀ X, Below W.heap.size W X → J [] X) :
    CallsIn Fence.wide n Try.prog 21 #[.func (.yield y) #[] #[], .pointer (some ⟨B, 0, none⟩)] W fun e W' => (∃ v, e = .returned v) ∧ J [] W' := by
  refine callsIn_of_wp Try.func21 rfl trivial ?_ rfl
  simp only [Try.ntmps21, List.size_toArray, List.length_cons, List.length_nil, Nat.reduceAdd, Nat.reduceSub, Array.replicate_succ, Array.replicate_zero, List.push_toArray, List.append_toArray, List.nil_append, List.cons_append]
  gi_wp2_with (refine ⟨trivial, ?_⟩; gi_at_call 22; refine (callsIn_wide.2 (irising_nil _)).mono ?_; rintro e w1 ⟨rfl, hb1⟩)
  have J1 := hid (hJ _ hb1)
  clear hb1 hB
  gi_wp2
  gi_loopw [8] (fun i wr => i = .int .i64 0 ∧ J [] wr) (fun i _ => 0)
  case atStart => exact ⟨rfl, J1.out⟩
  case round =>
    obtain ⟨rfl, hJs⟩ := hrel
    gi_wp2
    go_end0
    exact ⟨⟨_, rfl⟩, hJs⟩
theorem eachN_stops (n : Nat) (hn : 1 ≤ n) (B : Nat) (w : World) (hB : w.heap[B]? = some (.cells #[.pointer none] 25 (0, 0))) :
    SeqStopsK Fence.wide n Try.prog 21 #[.pointer (some ⟨B, 0, none⟩)] (fun x : Empty => x.elim) KeepsWalks (fun ss => ss = []) (fun _ => False) 0 w := fun y J Jx W hW hJ _ hY h0 => by
  have hp := (hW.block B (lt_of_block hB)).trans hB
  have hcB : W.cell? ⟨B, 0, none⟩ = some (.pointer none) := by rw [cell_of_row _ _ _ _ _ _ hp]; rfl
  exact (each1_nil n hn y B J W hcB (fun X hb => hJ [] W X none h0 ⟨hb.os, hb.tape, hb.output, hb.size, fun k hk _ => hb.block k hk⟩ (fun r e => by cases e))).mono fun e W' ⟨he, hj⟩ => ⟨he, .inl ⟨_, rfl, hj⟩⟩
end Go.Proofs.Ythhcpoafnmhnhaa
