/- What Next of a table answers. Conditions: the table lies in memory. -/
import Derived.Test.YthhcpoafnmhnhaaGreatInKnown
namespace Go.Proofs.YthhcpoafnmhnhaaGreat
open Go.RowKit Go.Maps Go.Shelf
attribute [local go_sem] Oper.semAt_some
set_option linter.unusedVariables false
set_option linter.unusedSimpArgs false

def nxS (lead m : Int) (e : EnI) : Int := if e.x.ref.1 = lead then max m e.x.ref.2 else m
def nxF (lead : Int) (ss : List EnI) : Int := ss.foldl (nxS lead) 0
theorem nxF_snoc (lead : Int) (ss : List EnI) (e : EnI) : nxF lead (ss ++ [e]) = nxS lead (nxF lead ss) e := by simp [nxF]
/-- In the loop: the number lies at block A, all else is as it was. -/
structure NI (w1 : World) (A : Nat) (m : Int) (W : World) : Prop where
  box : W.heap[A]? = some (.cells #[.int .i64 m] 3 (0, 0))
  grown : w1.grownBy W (some A)
theorem NI.turned {w1 X Y : World} {A : Nat} {m : Int} {row : Option Nat} (h : NI w1 A m X) (hg : X.grownBy Y row) (hr : ∀ r, row = some r → w1.heap.size ≤ r ∧ ∃ o : Obj, X.heap[r]? = some o ∧ o.isCells = false) : NI w1 A m Y := by
  refine ⟨(hg.block A (lt_of_block h.box) ?_).trans h.box, h.grown.andThen hg fun j e => .inl (hr j e).1⟩
  intro e
  obtain ⟨o, ho, hc⟩ := (hr A e.symm).2
  rw [h.box] at ho; cases ho; cases hc
theorem NI.below {w1 X Y : World} {A : Nat} {m : Int} (h : NI w1 A m X) (hb : Below X.heap.size X Y) : NI w1 A m Y := h.turned (row := none) ⟨hb.os, hb.tape, hb.output, hb.size, fun k hk _ => hb.block k hk⟩ (fun r e => by cases e)
theorem NI.put {w1 X : World} {A : Nat} {m : Int} (h : NI w1 A m X) (m' : Int) : NI w1 A m' (X.setCell ⟨A, 0, none⟩ (.int .i64 m')) :=
  ⟨heap_setCell_same _ _ _ _ _ _ h.box, ⟨h.grown.os, h.grown.tape, h.grown.output, by simpa using h.grown.size, fun k hk hne => (Below.heap_setCell X ⟨A, 0, none⟩ _ k (fun e => hne (by rw [show k = A from e]))).trans (h.grown.block k hk hne)⟩⟩
theorem keeps_belowI {A B : World} (h : Below A.heap.size A B) : KeepsOthers A B := ⟨h.size, fun k _ hk _ => (h.block k (lt_of_block hk)).trans hk⟩
/-- The frame of a round: the entry lies in a box. -/
def AtB (n0 : Nat) (Fr : EnI → Nat → Act) (x : EnI) (a' : Act) (W : World) : Prop := ∃ q, n0 ≤ q ∧ a' = Fr x q ∧ W.heap[q]? = some (.cells x.c 31 (0, 0))
set_option maxRecDepth 100000 in
set_option maxHeartbeats 4000000 in
theorem inext_any (tb mb nn : Nat) (D : DataW Value) (lead : Int) (w : World) (hT : Tb w tb mb nn D) :
    Calls Tryz.prog 17 #[.pointer (some ⟨tb, 0, none⟩), .int .i64 lead] w fun e w' => ∃ ss, Came D (fun _ => false) ss ∧ e = .returned (.int .i64 (wrap64 (nxF lead ss + 1))) ∧ Below w.heap.size w w' := by
  have HT := hid hT
  clear hT
  refine (callsIn_wide (n := 3)).1 ?_
  refine callsIn_of_wp_marks Tryz.func17 rfl trivial ?_ rfl
  simp only [Tryz.ntmps17, List.size_toArray, List.length_cons, List.length_nil, Nat.reduceAdd, Nat.reduceSub, Array.replicate_succ, Array.replicate_zero, List.push_toArray, List.append_toArray, List.nil_append, List.cons_append]
  refine wpIn_wide.2 ?_
  go_upto_region 2 with fail
  obtain ⟨w0, hw0⟩ : ∃ w0, w0 = (w.alloc (.cells #[.int .i64 lead] 3)).alloc (.cells #[.int .i64 0] 3) := ⟨_, rfl⟩
  have b0 : Below w.heap.size w w0 := by rw [hw0]; exact ((Below.refl _ _).alloc (Nat.le_refl _) _).alloc (by simp) _
  have p0 : w0.heap[w.heap.size]? = some (.cells #[.int .i64 lead] 3 (0, 0)) := by rw [hw0]; exact heap_alloc2_old _ _ _
  have a0 : w0.heap[w.heap.size + 1]? = some (.cells #[.int .i64 0] 3 (0, 0)) := by rw [hw0]; exact heap_alloc2_new _ _ _
  rw [← hw0]
  clear hw0
  obtain ⟨A, hA⟩ : ∃ A, A = w.heap.size + 1 := ⟨_, rfl⟩
  obtain ⟨P, hP⟩ : ∃ P, P = w.heap.size := ⟨_, rfl⟩
  rw [← hA] at a0
  rw [← hP] at p0
  rw [← hA, ← hP]
  have HA := hid hA
  have HP := hid hP
  clear hA hP
  have P0 := hid p0
  have A0 := hid a0
  have B0 := hid b0
  clear p0 a0 b0
  go_wp2_with fail
  refine (known_any _ w0 ⟨_, rfl⟩).mono ?_
  rintro e w1 ⟨rfl, hw1⟩
  have b1 : Below w0.heap.size w0 w1 := by rw [hw1]; exact (Below.refl _ _).alloc (Nat.le_refl _) _
  have K1 : Hid (w1.heap[w0.heap.size]? = some (.cells #[.pointer (some ⟨tb, 0, none⟩)] 48 (0, 0))) := hid (by rw [hw1]; exact heap_alloc_new _ _)
  have P1 := hid ((b1.block P (lt_of_block P0.out)).trans P0.out)
  have A1 := hid ((b1.block A (lt_of_block A0.out)).trans A0.out)
  have B1 := hid (B0.out.trans (b1.mono B0.out.size))
  have T1 := hid (HT.out.below B1.out)
  have hlA : A < w1.heap.size := lt_of_block A1.out
  have hlP : P < w1.heap.size := lt_of_block P1.out
  have hPA : P ≠ A := by have := HA.out; have := HP.out; omega
  obtain ⟨B, hB⟩ : ∃ B, B = w0.heap.size := ⟨_, rfl⟩
  rw [← hB] at K1
  rw [← hB]
  clear hw1 b1 P0 A0 B0 hB
  go_wp2_with fail
  refine (wpIn_wide (n := 3)).1 ?_
  refine wpIn_rangeFunc_ownH (F := Fence.wide) rfl (by omega) (gf := 58) (lb := #[.pointer (some ⟨B, 0, none⟩)]) rfl trivial (enters_of Tryz.func58 (by kernel_rfl) rfl)
    (known_stops _ (by omega) B tb mb nn D w1 K1.out T1.out) walksK_t (fun W l o o' h1 h2 h3 h4 => walksK_b (w := w1) W l o o' h1 h2 h3 h4) (Below.refl _ _) (fun _ => rfl)
    (fun pre W => NI w1 A (nxF lead pre) W)
    (fun c pre W => False) ?hI ?hIx ⟨A1.out, World.grownBy.refl _ _⟩
    (AtB w1.heap.size ?Fr)
    ?hAx ?assign ?body ?done ?stop
  case hI =>
    intro s X Y row h hg hr
    exact h.turned hg hr
  case hIx =>
    intro c s X Y row h hg hr
    exact h
  case hAx =>
    rintro x a' s X Y row ⟨q, h1, h2, h3⟩ hg hr
    refine ⟨q, h1, h2, (hg.block q (lt_of_block h3) ?_).trans h3⟩
    intro e
    obtain ⟨o, ho, hc⟩ := (hr q e.symm).2
    rw [h3] at ho; cases ho; cases hc
  case assign =>
    intro y pre x W K h hK
    have hc1 : x.c.size = 16 := rfl
    have hc2 : x.c.all (·.oneCell') = true := instC_one _ _ _ rfl rfl
    have hv : x.v = .agg x.c := rfl
    rw [hv]
    clear hv
    gi_wp2_with (first | (refine wplI_storeC rfl _ _ rfl W.heap.size x.c rfl rfl hc1 hc2 _ zeroI (.slice none 0 0) (.slice none 0 0) (heap_alloc_new _ _) ?_) | gi_in)
    have hb : Below W.heap.size W ((W.alloc (.cells (instC zeroI (.slice none 0 0) (.slice none 0 0)) 31)).setRow W.heap.size x.c) := below_row ((Below.refl _ _).alloc (Nat.le_refl _) _) (Nat.le_refl _) _
    have hrow : ((W.alloc (.cells (instC zeroI (.slice none 0 0) (.slice none 0 0)) 31)).setRow W.heap.size x.c).heap[W.heap.size]? = some (.cells x.c 31 (0, 0)) := setRow_heap _ _ _ _ _ _ (heap_alloc_new _ _)
    refine hK _ _ ((keeps_belowI hb).from _) (keeps_belowI hb).walks (h.below hb) ⟨W.heap.size, h.grown.size, ?ax, hrow⟩
    case ax =>
      clear hK hb hrow
      obtain ⟨q, hq⟩ : ∃ q, q = W.heap.size := ⟨_, rfl⟩
      rw [← hq]
  case body =>
    rintro y pre x a' W hy _ hM ⟨q, hq, hfr, hx⟩ hlt'
    obtain rfl : a' = _ := hfr
    have hqA : q ≠ A := by omega
    have c0 : W.cell? ⟨q, 0, none⟩ = some (.int .i64 x.x.ref.1) := by rw [cell_of_row _ _ _ _ _ _ hx]; rfl
    have c1 : W.cell? ⟨q, 1, none⟩ = some (.int .i64 x.x.ref.2) := by rw [cell_of_row _ _ _ _ _ _ hx]; rfl
    have cA : W.cell? ⟨A, 0, none⟩ = some (.int .i64 (nxF lead pre)) := by rw [cell_of_row _ _ _ _ _ _ hM.box]; rfl
    have fA : W.frozen? ⟨A, 0, none⟩ = false := frozen_of_row _ _ _ _ _ hM.box
    have cP : W.cell? ⟨P, 0, none⟩ = some (.int .i64 lead) := by rw [cell_of_row _ _ _ _ _ _ ((hM.grown.block P hlP (by simp; omega)).trans P1.out)]; rfl
    have HM := hid hM
    have HSn := hid (nxF_snoc lead pre x)
    clear hM hx
    by_cases hl : x.x.ref.1 = lead
    · have HS2 : Hid (nxF lead (pre ++ [x]) = max (nxF lead pre) x.x.ref.2) := hid (by rw [HSn.out]; unfold nxS; rw [if_pos hl])
      gi_wp2
      all_goals
        rename_i hq2
        refine ⟨(KeepsOthers.setCell _ _ _).from _, (KeepsOthers.setCell _ _ _).walks, ?_⟩
        show NI w1 A (nxF lead (pre ++ [x])) _
        rw [HS2.out]
      · rw [show max (nxF lead pre) x.x.ref.2 = x.x.ref.2 by omega]; exact HM.out.put _
      · rw [show max (nxF lead pre) x.x.ref.2 = nxF lead pre by omega]; exact HM.out.put _
    · have HS2 : Hid (nxF lead (pre ++ [x]) = nxF lead pre) := hid (by rw [HSn.out]; unfold nxS; rw [if_neg hl])
      gi_wp2
      refine ⟨(KeepsOthers.refl _).from _, (KeepsOthers.refl _).walks, ?_⟩
      show NI w1 A (nxF lead (pre ++ [x])) _
      rw [HS2.out]; exact HM.out
  case done =>
    intro Dd xs W hD hS hM hdf
    have cA : W.cell? ⟨A, 0, none⟩ = some (.int .i64 (nxF lead xs)) := by rw [cell_of_row _ _ _ _ _ _ hM.box]; rfl
    have HM := hid hM
    have HS := hid hS
    clear hM hS
    gi_wp2
    go_wp2_with fail
    refine ⟨by simp, .inl ⟨_, _, rfl, run_takeDeferred hdf, ?_⟩⟩
    refine ⟨_, results_tmp rfl _ _ _, xs, HS.out, rfl, ?_⟩
    refine Below.trans (B1.out.grown HM.out.grown B1.out.size (fun k e => by cases e; have := HA.out; omega)) (belowK_b (w := w) (Nat.le_refl _) W Dd _ _ (by have := B1.out.size; omega) hdf rfl rfl)
  case stop =>
    intro Dd c pre W hD hS hF hdf
    exact hF.elim
end Go.Proofs.YthhcpoafnmhnhaaGreat
