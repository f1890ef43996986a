/- The change that a Step is on a map of shards: some change. Conditions: step and map lie in memory. -/
import Derived.Test.YtghjamkcedgnfaaAtDo
namespace Go.Proofs.Ytghjamkcedgnfaa
open Go.RowKit Go.Maps Go.Shelf
set_option linter.unusedVariables false
set_option linter.unusedSimpArgs false

theorem u64_mod (n : Int) : IntKind.u64.wrap n = n % 18446744073709551616 := by simp [IntKind.wrap, IntKind.bits, IntKind.signed]
theorem rest_in2 (t m : Int) (h0 : 1 ≤ m) (h1 : m ≤ 1000000000) : 0 ≤ IntKind.i64.wrap ((IntKind.u64.wrap t).tmod m) ∧ IntKind.i64.wrap ((IntKind.u64.wrap t).tmod m) < m := by
  rw [u64_mod, Int.tmod_eq_emod_of_nonneg (by omega)]
  have a := Int.emod_nonneg (t % 18446744073709551616) (b := m) (by omega)
  have b := Int.emod_lt_of_pos (t % 18446744073709551616) (b := m) (by omega)
  rw [IntWalk.i64_in _ ⟨by omega, by omega⟩]
  exact ⟨a, b⟩
def stV (c : ChD) (nr : Bool) : Value := .agg #[.int .i64 c.k, .int .i64 c.sh, .int .i64 c.ot, .int .i64 c.at', .int .i64 c.out, .int .i64 c.in', .bool nr]
/-- What Of answers. -/
def OfP (w : World) (e : Ending) (w' : World) : Prop := ∃ c : ChD, e = .returned (chV c) ∧ ChJ c ∧ Below w.heap.size w w'
theorem heap_three (w : World) (A B C : Obj) : (((w.alloc A).alloc B).alloc C).heap[w.heap.size]? = some A ∧ (((w.alloc A).alloc B).alloc C).heap[w.heap.size + 1]? = some B ∧ (((w.alloc A).alloc B).alloc C).heap[w.heap.size + 2]? = some C := by
  obtain ⟨h1, h2⟩ := heap_two w A B
  refine ⟨?_, ?_, ?_⟩
  · rw [Below.heap_alloc _ _ _ (by simp; omega)]; exact h1
  · rw [Below.heap_alloc _ _ _ (by simp)]; exact h2
  · have := heap_alloc_new ((w.alloc A).alloc B) C
    simpa using this
set_option maxRecDepth 100000 in
set_option maxHeartbeats 8000000 in
theorem of_any (c : ChD) (nr : Bool) (xb B : Nat) (rv sv : Value) (N : AtN) (Y : List SX) (w : World) (hc : ChJ c) (h : RB w xb N rv sv Y) (g : Gd B N (Y.map (·.s))) (hB : B ≤ 1000) :
    Calls Try.prog 7 #[stV c nr, .pointer (some ⟨xb, 0, none⟩)] w (OfP w) := by
  obtain ⟨k, sh, ot, at', out, in'⟩ := c
  cases nr with
  | false =>
    obtain ⟨nr, hnr⟩ : ∃ nr, nr = false := ⟨_, rfl⟩
    rw [← hnr]
    have HNR := hid hnr
    have HJ := hid hc
    clear hnr h g hc
    obtain ⟨w1, hw1⟩ : ∃ w1, w1 = ((w.alloc (.cells #[.int .i64 k, .int .i64 sh, .int .i64 ot, .int .i64 at', .int .i64 out, .int .i64 in', .bool nr] 26)).alloc (.cells z6 24)).alloc (.cells #[.int .i64 k, .int .i64 sh, .int .i64 ot, .int .i64 at', .int .i64 out, .int .i64 in'] 24) := ⟨_, rfl⟩
    obtain ⟨hC1, hR1, hA1⟩ := heap_three w (.cells #[.int .i64 k, .int .i64 sh, .int .i64 ot, .int .i64 at', .int .i64 out, .int .i64 in', .bool nr] 26) (.cells z6 24) (.cells #[.int .i64 k, .int .i64 sh, .int .i64 ot, .int .i64 at', .int .i64 out, .int .i64 in'] 24)
    rw [← hw1] at hC1 hR1 hA1
    have HB1 : Hid (Below w.heap.size w w1) := hid (by rw [hw1]; exact (((Below.refl _ _).alloc (Nat.le_refl _) _).alloc (by simp) _).alloc (by simp; omega) _)
    have HW1 := hid hw1
    have HC1 := hid hC1
    have HR1 := hid hR1
    have HA1 := hid hA1
    obtain ⟨w0, hw0⟩ : ∃ w0, w0 = (w.alloc (.cells #[.int .i64 k, .int .i64 sh, .int .i64 ot, .int .i64 at', .int .i64 out, .int .i64 in', .bool nr] 26)).alloc (.cells z6 24) := ⟨_, rfl⟩
    have hrg : w0.rangeAt w.heap.size 0 [.int .i64 k, .int .i64 sh, .int .i64 ot, .int .i64 at', .int .i64 out, .int .i64 in'] := by
      rw [hw0]
      refine range_of_row (heap_two w _ _).1 0 _ fun j v hv => ?_
      match j, hv with
      | 0, hv => exact hv
      | 1, hv => exact hv
      | 2, hv => exact hv
      | 3, hv => exact hv
      | 4, hv => exact hv
      | 5, hv => exact hv
    have HW0 := hid hw0
    have HS0 : Hid (w0.heap.size = w.heap.size + 2) := hid (by rw [hw0]; simp)
    rw [← hw0] at HW1
    clear hw1 hw0 hC1 hR1 hA1
    unfold z6 at HW0
    obtain ⟨dC, hdC1, hdC2⟩ := Try.rowCh
    unfold stV
    go_enter Try.func7, Try.ntmps7
    go_upto_region 1 with fail
    rw [← HW0.out]
    clear HW0
    go_upto_region 2 with (refine wpList_load_mid rfl _ _ rfl w.heap.size 0 (by go_simp) [.int .i64 k, .int .i64 sh, .int .i64 ot, .int .i64 at', .int .i64 out, .int .i64 in'] dC hrg hdC1 hdC2 Try.sizeCh ?_)
    rw [← HW1.out]
    rw [HS0.out]
    clear HW1 hrg HS0
    obtain ⟨C, hC⟩ : ∃ C, C = w.heap.size := ⟨_, rfl⟩
    rw [← hC] at HC1 HR1 HA1
    rw [← hC]
    have HCE : Hid (w.heap.size ≤ C) := hid (by omega)
    clear hC
    have c6 : w1.cell? ⟨C, 6, none⟩ = some (.bool nr) := (cell_of_row _ _ _ _ _ _ HC1.out).trans rfl
    obtain rfl := HNR.out
    have hA9 := HA1.out
    have hR9 := HR1.out
    have HB9 := HB1
    unfold z6 at hR9
    clear HA1 HR1
    go_wp2_with (first | (refine wpl_loadK rfl _ rfl (C + 2) rfl _ _ _ rfl hA9 ?_) | (refine wpl_storeK rfl _ _ rfl (C + 1) _ _ _ _ _ _ rfl rfl rfl rfl rfl rfl rfl rfl _ _ rfl hR9 ?_))
    (try simp only [Exit.inBlock, Exit.then])
    refine bodyPost_ret (results_ch rfl _ _ (C + 1) _ _ _ rfl rfl (setRow_heap _ _ _ _ _ _ hR9)) rfl ?_
    exact ⟨⟨_, _, _, _, _, _⟩, rfl, HJ.out, below_row HB9.out (by have := HCE.out; omega) _⟩
  | true =>
    obtain ⟨nr, hnr⟩ : ∃ nr, nr = true := ⟨_, rfl⟩
    rw [← hnr]
    have HNR := hid hnr
    have HJ := hid hc
    have H := hid h
    have G := hid g
    obtain ⟨-, sva, svc, rfl⟩ := h.shapes
    have HYL : Hid (0 < Y.length) := hid (by
      cases Y with
      | nil => have := g.bl; have h0 : (0 : Int) = N.bl := g.ch; omega
      | cons y l => simp)
    clear hnr h g hc
    obtain ⟨w1, hw1⟩ : ∃ w1, w1 = ((w.alloc (.cells #[.int .i64 k, .int .i64 sh, .int .i64 ot, .int .i64 at', .int .i64 out, .int .i64 in', .bool nr] 26)).alloc (.cells z6 24)).alloc (.cells #[.int .i64 k, .int .i64 sh, .int .i64 ot, .int .i64 at', .int .i64 out, .int .i64 in'] 24) := ⟨_, rfl⟩
    obtain ⟨hC1, hR1, hA1⟩ := heap_three w (.cells #[.int .i64 k, .int .i64 sh, .int .i64 ot, .int .i64 at', .int .i64 out, .int .i64 in', .bool nr] 26) (.cells z6 24) (.cells #[.int .i64 k, .int .i64 sh, .int .i64 ot, .int .i64 at', .int .i64 out, .int .i64 in'] 24)
    rw [← hw1] at hC1 hR1 hA1
    have HB1 : Hid (Below w.heap.size w w1) := hid (by rw [hw1]; exact (((Below.refl _ _).alloc (Nat.le_refl _) _).alloc (by simp) _).alloc (by simp; omega) _)
    have HW1 := hid hw1
    have HC1 := hid hC1
    have HR1 := hid hR1
    have HA1 := hid hA1
    obtain ⟨w0, hw0⟩ : ∃ w0, w0 = (w.alloc (.cells #[.int .i64 k, .int .i64 sh, .int .i64 ot, .int .i64 at', .int .i64 out, .int .i64 in', .bool nr] 26)).alloc (.cells z6 24) := ⟨_, rfl⟩
    have hrg : w0.rangeAt w.heap.size 0 [.int .i64 k, .int .i64 sh, .int .i64 ot, .int .i64 at', .int .i64 out, .int .i64 in'] := by
      rw [hw0]
      refine range_of_row (heap_two w _ _).1 0 _ fun j v hv => ?_
      match j, hv with
      | 0, hv => exact hv
      | 1, hv => exact hv
      | 2, hv => exact hv
      | 3, hv => exact hv
      | 4, hv => exact hv
      | 5, hv => exact hv
    have HW0 := hid hw0
    have HS0 : Hid (w0.heap.size = w.heap.size + 2) := hid (by rw [hw0]; simp)
    rw [← hw0] at HW1
    clear hw1 hw0 hC1 hR1 hA1
    unfold z6 at HW0
    obtain ⟨dC, hdC1, hdC2⟩ := Try.rowCh
    unfold stV
    go_enter Try.func7, Try.ntmps7
    go_upto_region 1 with fail
    rw [← HW0.out]
    clear HW0
    go_upto_region 2 with (refine wpList_load_mid rfl _ _ rfl w.heap.size 0 (by go_simp) [.int .i64 k, .int .i64 sh, .int .i64 ot, .int .i64 at', .int .i64 out, .int .i64 in'] dC hrg hdC1 hdC2 Try.sizeCh ?_)
    rw [← HW1.out]
    rw [HS0.out]
    clear HW1 hrg HS0
    obtain ⟨C, hC⟩ : ∃ C, C = w.heap.size := ⟨_, rfl⟩
    rw [← hC] at HC1 HR1 HA1
    rw [← hC]
    have HCE : Hid (w.heap.size ≤ C) := hid (by omega)
    clear hC
    have c6 : w1.cell? ⟨C, 6, none⟩ = some (.bool nr) := (cell_of_row _ _ _ _ _ _ HC1.out).trans rfl
    obtain rfl := HNR.out
    have a1 : w1.cell? ⟨C + 2, 1, none⟩ = some (.int .i64 sh) := (cell_of_row _ _ _ _ _ _ HA1.out).trans rfl
    have H1 := hid (H.out.below HB1.out)
    have x4 : w1.cell? ⟨xb, 4, none⟩ = some (.slice sva Y.length svc) := H1.out.cell 4
    go_upto_region 4 with fail
    refine wp_region_held_drew (S := fun Z => Z.cell? ⟨C + 2, 1, none⟩ = some (.int .i64 sh) ∧ Z.cell? ⟨xb, 4, none⟩ = some (.slice sva Y.length svc)) (by kernel_rfl) ⟨a1, x4⟩ (fun hHeld => ?_)
    have hwl : IntKind.u64.wrap (Y.length : Int) = (Y.length : Int) := IntWalk.u64_in _ ⟨by omega, by have := G.out.len; rw [List.length_map] at this; omega⟩
    have hwl0 : ¬ (Y.length : Int) = 0 := by have := HYL.out; omega
    have hyn : ¬ Y = [] := fun e => by have := HYL.out; rw [e] at this; simp at this
    refine wpAnyH_take (i := 0) (v := ?av0) rfl (by kernel_rfl) (by kernel_rfl) (by kernel_rfl) (fun _ _ _ h => h) (Or.inl ⟨by rfl, ?ay0⟩) (by assumption) ?ar0
    case ay0 => (intro w hSw; (try dsimp only at hSw); go_simp; try with_reducible rfl)
    (try simp only [Act.put, List.setIfInBounds_toArray, List.set_cons_zero, List.set_cons_succ, List.getElem_toArray, List.getElem_cons_succ, List.getElem_cons_zero])
    refine wpAnyH_take (i := 1) (v := ?av1) rfl (by kernel_rfl) (by kernel_rfl) (by kernel_rfl) (fun _ _ _ h => h) (Or.inl ⟨by rfl, ?ay1⟩) (by assumption) ?ar1
    case ay1 => (intro w hSw; (try dsimp only at hSw); go_simp; try with_reducible rfl)
    (try simp only [Act.put, List.setIfInBounds_toArray, List.set_cons_zero, List.set_cons_succ, List.getElem_toArray, List.getElem_cons_succ, List.getElem_cons_zero])
    refine wpAnyH_take (i := 2) (v := ?av2) rfl (by kernel_rfl) (by kernel_rfl) (by kernel_rfl) (fun _ _ _ h => h) (Or.inl ⟨by rfl, ?ay2⟩) (by assumption) ?ar2
    case ay2 => (intro w hSw; (try dsimp only at hSw); go_simp; try with_reducible rfl)
    (try simp only [Act.put, List.setIfInBounds_toArray, List.set_cons_zero, List.set_cons_succ, List.getElem_toArray, List.getElem_cons_succ, List.getElem_cons_zero])
    refine wpAnyH_take (i := 3) (v := ?av3) rfl (by kernel_rfl) (by kernel_rfl) (by kernel_rfl) (fun _ _ _ h => h) (Or.inl ⟨by rfl, ?ay3⟩) (by assumption) ?ar3
    case ay3 => (intro w hSw; (try dsimp only at hSw); go_simp; try with_reducible rfl)
    (try simp only [Act.put, List.setIfInBounds_toArray, List.set_cons_zero, List.set_cons_succ, List.getElem_toArray, List.getElem_cons_succ, List.getElem_cons_zero])
    refine wpAnyH_take (i := 4) (v := ?av4) rfl (by kernel_rfl) (by kernel_rfl) (by kernel_rfl) (fun _ _ _ h => h) (Or.inl ⟨by rfl, ?ay4⟩) (by assumption) ?ar4
    case ay4 => (intro w hSw; (try dsimp only at hSw); go_simp; try with_reducible rfl)
    (try simp only [Act.put, List.setIfInBounds_toArray, List.set_cons_zero, List.set_cons_succ, List.getElem_toArray, List.getElem_cons_succ, List.getElem_cons_zero])
    refine wpAnyH_take (i := 5) (v := ?av5) rfl (by kernel_rfl) (by kernel_rfl) (by kernel_rfl) (fun _ _ _ h => h) (Or.inl ⟨by rfl, ?ay5⟩) (by assumption) ?ar5
    case ay5 => (intro w hSw; (try dsimp only at hSw); go_simp; try with_reducible rfl)
    (try simp only [Act.put, List.setIfInBounds_toArray, List.set_cons_zero, List.set_cons_succ, List.getElem_toArray, List.getElem_cons_succ, List.getElem_cons_zero])
    refine wpAnyH_take (i := 6) (v := ?av6) rfl (by kernel_rfl) (by kernel_rfl) (by kernel_rfl) (fun _ _ _ h => h) (Or.inl ⟨by rfl, ?ay6⟩) (by assumption) ?ar6
    case ay6 => (intro w hSw; (try dsimp only at hSw); go_simp; try with_reducible rfl)
    (try simp only [Act.put, List.setIfInBounds_toArray, List.set_cons_zero, List.set_cons_succ, List.getElem_toArray, List.getElem_cons_succ, List.getElem_cons_zero])
    refine wpAnyH_take (i := 7) (v := ?av7) rfl (by kernel_rfl) (by kernel_rfl) (by kernel_rfl) (fun _ _ _ h => h) (Or.inl ⟨by rfl, ?ay7⟩) (by assumption) ?ar7
    case ay7 => (intro w hSw; (try dsimp only at hSw); go_simp; try with_reducible rfl)
    (try simp only [Act.put, List.setIfInBounds_toArray, List.set_cons_zero, List.set_cons_succ, List.getElem_toArray, List.getElem_cons_succ, List.getElem_cons_zero])
    refine wpAnyH_take (i := 8) (v := ?av8) rfl (by kernel_rfl) (by kernel_rfl) (by kernel_rfl) (fun _ _ _ h => h) (Or.inl ⟨by rfl, ?ay8⟩) (by assumption) ?ar8
    case ay8 => (intro w hSw; (try dsimp only at hSw); go_simp; try with_reducible rfl)
    (try simp only [Act.put, List.setIfInBounds_toArray, List.set_cons_zero, List.set_cons_succ, List.getElem_toArray, List.getElem_cons_succ, List.getElem_cons_zero])
    refine wpAnyH_take (i := 9) (v := ?av9) rfl (by kernel_rfl) (by kernel_rfl) (by kernel_rfl) (fun _ _ _ h => h) (Or.inl ⟨by rfl, ?ay9⟩) (by assumption) ?ar9
    case ay9 => (intro w hSw; (try dsimp only at hSw); go_simp; try with_reducible rfl)
    (try simp only [Act.put, List.setIfInBounds_toArray, List.set_cons_zero, List.set_cons_succ, List.getElem_toArray, List.getElem_cons_succ, List.getElem_cons_zero])
    refine wpAnyH_take (i := 10) (v := ?av10) rfl (by kernel_rfl) (by kernel_rfl) (by kernel_rfl) (fun _ _ _ h => h) (Or.inl ⟨by rfl, ?ay10⟩) (by assumption) ?ar10
    case ay10 => (intro w hSw; (try dsimp only at hSw); go_simp; try with_reducible rfl)
    (try simp only [Act.put, List.setIfInBounds_toArray, List.set_cons_zero, List.set_cons_succ, List.getElem_toArray, List.getElem_cons_succ, List.getElem_cons_zero])
    refine wpAnyH_take (i := 11) (v := ?av11) rfl (by kernel_rfl) (by kernel_rfl) (by kernel_rfl) (fun _ _ _ h => h) (Or.inl ⟨by rfl, ?ay11⟩) (by assumption) ?ar11
    case ay11 => (intro w hSw; (try dsimp only at hSw); go_simp; try with_reducible rfl)
    (try simp only [Act.put, List.setIfInBounds_toArray, List.set_cons_zero, List.set_cons_succ, List.getElem_toArray, List.getElem_cons_succ, List.getElem_cons_zero])
    refine wpAnyH_done (by kernel_rfl) ?_ _
    have hrr := rest_in2 sh (Y.length : Int) (by have := HYL.out; omega) (by have := G.out.len; rw [List.length_map] at this; omega)
    obtain ⟨i, hie⟩ : ∃ i : Nat, IntKind.i64.wrap ((IntKind.u64.wrap sh).tmod (Y.length : Int)) = (i : Int) := ⟨(IntKind.i64.wrap ((IntKind.u64.wrap sh).tmod (Y.length : Int))).toNat, by rw [Int.toNat_of_nonneg hrr.1]⟩
    have hil : (i : Int) < (Y.length : Int) := by rw [← hie]; exact hrr.2
    rw [hie]
    clear hrr hie hHeld hwl hwl0 hyn
    have HIL : Hid (i < Y.length) := hid (by omega)
    have H2 := hid (H1.out.below ((Below.refl w1.heap.size w1).drew))
    have HA2 : Hid (w1.drew.heap[C + 2]? = _) := hid HA1.out
    have HR2 : Hid (w1.drew.heap[C + 1]? = _) := hid HR1.out
    have HB2 : Hid (Below w.heap.size w w1.drew) := hid (HB1.out.drew)
    clear H1 HA1 HR1 HB1 HC1 a1 x4 c6
    generalize w1.drew = w2 at *
    obtain ⟨g, rfl⟩ : ∃ g, sva = some ⟨g, 0, none⟩ := own_some H.out.row HYL.out
    have x4 : w2.cell? ⟨xb, 4, none⟩ = some (.slice (some ⟨g, 0, none⟩) Y.length svc) := H2.out.cell 4
    have y0 : w2.cell? ⟨g, i * 5, none⟩ = some (.int .i64 Y[i].s.id) := own_cell H2.out.row (shvs_part Y i HIL.out 0 _ rfl)
    have a1 : w2.cell? ⟨C + 2, 1, none⟩ = some (.int .i64 sh) := (cell_of_row _ _ _ _ _ _ HA2.out).trans rfl
    have f1 : w2.frozen? ⟨C + 2, 1, none⟩ = false := frozen_of_row _ _ _ _ _ HA2.out
    have HID : Hid (1 ≤ Y[i].s.id ∧ I64 Y[i].s.id) := hid (by
      have := G.out.id Y[i].s (List.mem_map.2 ⟨Y[i], List.getElem_mem _, rfl⟩)
      have := G.out.nx
      exact ⟨by omega, by constructor <;> omega⟩)
    have HFT : Hid (0 ≤ Y[i].s.fr ∧ Y[i].s.fr < Y[i].s.to ∧ Y[i].s.to ≤ 256) := hid (by
      have := ChnD.mem _ _ _ G.out.ch Y[i].s (List.mem_map.2 ⟨Y[i], List.getElem_mem _, rfl⟩)
      have := G.out.bl
      omega)
    have HFC : Hid (∀ W : World, RB W xb N rv (.slice (some ⟨g, 0, none⟩) Y.length svc) Y → W.cell? ⟨g, i * 5 + 1, none⟩ = some (.int .i64 Y[i].s.fr) ∧ W.cell? ⟨g, i * 5 + 1 + 1, none⟩ = some (.int .i64 Y[i].s.to)) := hid fun W hW => ⟨own_cell hW.row (shvs_part Y i HIL.out 1 _ rfl), own_cell hW.row (shvs_part Y i HIL.out 2 _ rfl)⟩
    generalize Y[i].s.id = id at *
    generalize Y[i].s.fr = fr at *
    generalize Y[i].s.to = tt at *
    go_upto_region 6 with fail
    clear x4 y0 a1 f1
    have HA3 : Hid ((w2.setCell ⟨C + 2, 1, none⟩ (.int .i64 id)).heap[C + 2]? = some (.cells #[.int .i64 k, .int .i64 id, .int .i64 ot, .int .i64 at', .int .i64 out, .int .i64 in'] 24 (0, 0))) := hid (heap_setCell_same _ _ _ _ _ _ HA2.out)
    have HR3 : Hid ((w2.setCell ⟨C + 2, 1, none⟩ (.int .i64 id)).heap[C + 1]? = some (.cells z6 24 (0, 0))) := hid ((Below.heap_setCell _ _ _ _ (by show C + 1 ≠ C + 2; omega)).trans HR2.out)
    have HB3 : Hid (Below w.heap.size w (w2.setCell ⟨C + 2, 1, none⟩ (.int .i64 id))) := hid (below_set HB2.out (by have := HCE.out; omega))
    clear HA2 HR2 HB2 H2
    generalize w2.setCell ⟨C + 2, 1, none⟩ (.int .i64 id) = w3 at *
    have H3 := hid (H.out.below HB3.out)
    have x4 : w3.cell? ⟨xb, 4, none⟩ = some (.slice (some ⟨g, 0, none⟩) Y.length svc) := H3.out.cell 4
    have a0 : w3.cell? ⟨C + 2, 0, none⟩ = some (.int .i64 k) := (cell_of_row _ _ _ _ _ _ HA3.out).trans rfl
    have hwi : IntKind.i64.wrap ((i : Int) + 1) = (i : Int) + 1 := IntWalk.i64_in _ ⟨by omega, by have := G.out.len; rw [List.length_map] at this; omega⟩
    have hi0 : (0 : Int) ≤ (i : Int) + 1 := by omega
    by_cases h2 : k = 2
    · subst h2
      by_cases hlt : (i : Int) + 1 < (Y.length : Int)
      · have hi1 : i + 1 < Y.length := by omega
        have y1 : w3.cell? ⟨g, (i + 1) * 5, none⟩ = some (.int .i64 Y[i + 1].s.id) := own_cell H3.out.row (shvs_part Y (i + 1) hi1 0 _ rfl)
        have a2 : w3.cell? ⟨C + 2, 2, none⟩ = some (.int .i64 ot) := (cell_of_row _ _ _ _ _ _ HA3.out).trans rfl
        have f2 : w3.frozen? ⟨C + 2, 2, none⟩ = false := frozen_of_row _ _ _ _ _ HA3.out
        have HID2 : Hid (I64 Y[i + 1].s.id) := hid (by
          have := G.out.id Y[i + 1].s (List.mem_map.2 ⟨Y[i + 1], List.getElem_mem _, rfl⟩)
          have := G.out.nx
          constructor <;> omega)
        generalize Y[i + 1].s.id = id2 at *
        clear hi1
        go_upto_region 8 with fail
        clear x4 y1 a2 f2 a0
        have HA4 : Hid ((w3.setCell ⟨C + 2, 2, none⟩ (.int .i64 id2)).heap[C + 2]? = some (.cells #[.int .i64 2, .int .i64 id, .int .i64 id2, .int .i64 at', .int .i64 out, .int .i64 in'] 24 (0, 0))) := hid (heap_setCell_same _ _ _ _ _ _ HA3.out)
        have hR9 : (w3.setCell ⟨C + 2, 2, none⟩ (.int .i64 id2)).heap[C + 1]? = some (.cells z6 24 (0, 0)) := (Below.heap_setCell _ _ _ _ (by show C + 1 ≠ C + 2; omega)).trans HR3.out
        have HB9 : Hid (Below w.heap.size w (w3.setCell ⟨C + 2, 2, none⟩ (.int .i64 id2))) := hid (below_set HB3.out (by have := HCE.out; omega))
        clear HA3 HR3 HB3 H3
        generalize w3.setCell ⟨C + 2, 2, none⟩ (.int .i64 id2) = w4 at *
        have hA9 := HA4.out
        have a0 : w4.cell? ⟨C + 2, 0, none⟩ = some (.int .i64 2) := (cell_of_row _ _ _ _ _ _ HA4.out).trans rfl
        replace HJ : Hid (ChJ ⟨2, id, id2, at', out, in'⟩) := hid (by
          have hj := HJ.out
          intro x hx
          simp [numC] at hx
          rcases hx with rfl | rfl | rfl | rfl | rfl | rfl
          · exact hj _ (by simp [numC])
          · exact HID.out.2
          · exact HID2.out
          all_goals exact hj _ (by simp [numC]))
        clear HA4
        unfold z6 at hR9
        go_wp2_with (first | (refine wpl_loadK rfl _ rfl (C + 2) rfl _ _ _ rfl hA9 ?_) | (refine wpl_storeK rfl _ _ rfl (C + 1) _ _ _ _ _ _ rfl rfl rfl rfl rfl rfl rfl rfl _ _ rfl hR9 ?_))
        (try simp only [Exit.inBlock, Exit.then])
        refine bodyPost_ret (results_ch rfl _ _ (C + 1) _ _ _ rfl rfl (setRow_heap _ _ _ _ _ _ hR9)) rfl ?_
        exact ⟨⟨_, _, _, _, _, _⟩, rfl, HJ.out, below_row HB9.out (by have := HCE.out; omega) _⟩
      · have hA9 := HA3.out
        have hR9 := HR3.out
        have HB9 := HB3
        replace HJ : Hid (ChJ ⟨2, id, ot, at', out, in'⟩) := hid (by
          have hj := HJ.out
          intro x hx
          simp [numC] at hx
          rcases hx with rfl | rfl | rfl | rfl | rfl | rfl
          · exact hj _ (by simp [numC])
          · exact HID.out.2
          all_goals exact hj _ (by simp [numC]))
        unfold z6 at hR9
        go_wp2_with (first | (refine wpl_loadK rfl _ rfl (C + 2) rfl _ _ _ rfl hA9 ?_) | (refine wpl_storeK rfl _ _ rfl (C + 1) _ _ _ _ _ _ rfl rfl rfl rfl rfl rfl rfl rfl _ _ rfl hR9 ?_))
        (try simp only [Exit.inBlock, Exit.then])
        refine bodyPost_ret (results_ch rfl _ _ (C + 1) _ _ _ rfl rfl (setRow_heap _ _ _ _ _ _ hR9)) rfl ?_
        exact ⟨⟨_, _, _, _, _, _⟩, rfl, HJ.out, below_row HB9.out (by have := HCE.out; omega) _⟩
    replace HJ : Hid (ChJ ⟨k, id, ot, at', out, in'⟩) := hid (by
      have hj := HJ.out
      intro x hx
      simp [numC] at hx
      rcases hx with rfl | rfl | rfl | rfl | rfl | rfl
      · exact hj _ (by simp [numC])
      · exact HID.out.2
      all_goals exact hj _ (by simp [numC]))
    have g2 : (k == 2) = false := by simpa using h2
    by_cases h1 : k = 1
    · subst h1
      clear h2
      obtain ⟨y1, y2⟩ := HFC.out w3 H3.out
      have a3 : w3.cell? ⟨C + 2, 3, none⟩ = some (.int .i64 at') := (cell_of_row _ _ _ _ _ _ HA3.out).trans rfl
      have f3 : w3.frozen? ⟨C + 2, 3, none⟩ = false := frozen_of_row _ _ _ _ _ HA3.out
      have hs1 : IntKind.i64.wrap (tt - fr) = tt - fr := IntWalk.i64_in _ ⟨by have := HFT.out; omega, by have := HFT.out; omega⟩
      have hs2 : IntKind.i64.wrap (tt - fr + 1) = tt - fr + 1 := IntWalk.i64_in _ ⟨by have := HFT.out; omega, by have := HFT.out; omega⟩
      have hs3 : IntKind.u64.wrap (tt - fr + 1) = tt - fr + 1 := IntWalk.u64_in _ ⟨by have := HFT.out; omega, by have := HFT.out; omega⟩
      have hs4 : ¬ tt - fr + 1 = 0 := by have := HFT.out; omega
      have HRR := hid (rest_in2 at' (tt - fr + 1) (by have := HFT.out; omega) (by have := HFT.out; omega))
      have HSV : Hid (∀ v : Int, (w3.setCell ⟨C + 2, 3, none⟩ (.int .i64 v)).drew.cell? ⟨g, i * 5 + 1, none⟩ = some (.int .i64 fr) ∧ (w3.setCell ⟨C + 2, 3, none⟩ (.int .i64 v)).drew.cell? ⟨g, i * 5 + 1 + 1, none⟩ = some (.int .i64 tt) ∧ (w3.setCell ⟨C + 2, 3, none⟩ (.int .i64 v)).drew.cell? ⟨xb, 4, none⟩ = some (.slice (some ⟨g, 0, none⟩) Y.length svc)) := hid fun v => by
        have h4 := H.out.below ((below_set HB3.out (i := 3) (v := .int .i64 v) (show w.heap.size ≤ C + 2 by have := HCE.out; omega)).drew)
        exact ⟨(HFC.out _ h4).1, (HFC.out _ h4).2, h4.cell 4⟩
      go_upto_region 9 with fail
      refine wp_region_held_drew (S := fun Z => Z.cell? ⟨g, i * 5 + 1, none⟩ = some (.int .i64 fr) ∧ Z.cell? ⟨g, i * 5 + 1 + 1, none⟩ = some (.int .i64 tt) ∧ Z.cell? ⟨xb, 4, none⟩ = some (.slice (some ⟨g, 0, none⟩) Y.length svc)) (by kernel_rfl) ⟨y1, y2, x4⟩ (fun hHeld => ?_)
      refine wpAnyH_take (i := 0) (v := ?bv0) rfl (by kernel_rfl) (by kernel_rfl) (by kernel_rfl) (fun _ _ _ h => h) (Or.inl ⟨by rfl, ?by0⟩) (by assumption) ?br0
      case by0 => (intro w hSw; (try dsimp only at hSw); go_simp; try with_reducible rfl)
      (try simp only [Act.put, List.setIfInBounds_toArray, List.set_cons_zero, List.set_cons_succ, List.getElem_toArray, List.getElem_cons_succ, List.getElem_cons_zero])
      refine wpAnyH_take (i := 1) (v := ?bv1) rfl (by kernel_rfl) (by kernel_rfl) (by kernel_rfl) (fun _ _ _ h => h) (Or.inl ⟨by rfl, ?by1⟩) (by assumption) ?br1
      case by1 => (intro w hSw; (try dsimp only at hSw); go_simp; try with_reducible rfl)
      (try simp only [Act.put, List.setIfInBounds_toArray, List.set_cons_zero, List.set_cons_succ, List.getElem_toArray, List.getElem_cons_succ, List.getElem_cons_zero])
      refine wpAnyH_take (i := 2) (v := ?bv2) rfl (by kernel_rfl) (by kernel_rfl) (by kernel_rfl) (fun _ _ _ h => h) (Or.inl ⟨by rfl, ?by2⟩) (by assumption) ?br2
      case by2 => (intro w hSw; (try dsimp only at hSw); go_simp; try with_reducible rfl)
      (try simp only [Act.put, List.setIfInBounds_toArray, List.set_cons_zero, List.set_cons_succ, List.getElem_toArray, List.getElem_cons_succ, List.getElem_cons_zero])
      refine wpAnyH_take (i := 3) (v := ?bv3) rfl (by kernel_rfl) (by kernel_rfl) (by kernel_rfl) (fun _ _ _ h => h) (Or.inl ⟨by rfl, ?by3⟩) (by assumption) ?br3
      case by3 => (intro w hSw; (try dsimp only at hSw); go_simp; try with_reducible rfl)
      (try simp only [Act.put, List.setIfInBounds_toArray, List.set_cons_zero, List.set_cons_succ, List.getElem_toArray, List.getElem_cons_succ, List.getElem_cons_zero])
      refine wpAnyH_take (i := 4) (v := ?bv4) rfl (by kernel_rfl) (by kernel_rfl) (by kernel_rfl) (fun _ _ _ h => h) (Or.inl ⟨by rfl, ?by4⟩) (by assumption) ?br4
      case by4 => (intro w hSw; (try dsimp only at hSw); go_simp; try with_reducible rfl)
      (try simp only [Act.put, List.setIfInBounds_toArray, List.set_cons_zero, List.set_cons_succ, List.getElem_toArray, List.getElem_cons_succ, List.getElem_cons_zero])
      refine wpAnyH_take (i := 5) (v := ?bv5) rfl (by kernel_rfl) (by kernel_rfl) (by kernel_rfl) (fun _ _ _ h => h) (Or.inl ⟨by rfl, ?by5⟩) (by assumption) ?br5
      case by5 => (intro w hSw; (try dsimp only at hSw); go_simp; try with_reducible rfl)
      (try simp only [Act.put, List.setIfInBounds_toArray, List.set_cons_zero, List.set_cons_succ, List.getElem_toArray, List.getElem_cons_succ, List.getElem_cons_zero])
      refine wpAnyH_take (i := 6) (v := ?bv6) rfl (by kernel_rfl) (by kernel_rfl) (by kernel_rfl) (fun _ _ _ h => h) (Or.inl ⟨by rfl, ?by6⟩) (by assumption) ?br6
      case by6 => (intro w hSw; (try dsimp only at hSw); go_simp; try with_reducible rfl)
      (try simp only [Act.put, List.setIfInBounds_toArray, List.set_cons_zero, List.set_cons_succ, List.getElem_toArray, List.getElem_cons_succ, List.getElem_cons_zero])
      refine wpAnyH_take (i := 7) (v := ?bv7) rfl (by kernel_rfl) (by kernel_rfl) (by kernel_rfl) (fun _ _ _ h => h) (Or.inl ⟨by rfl, ?by7⟩) (by assumption) ?br7
      case by7 => (intro w hSw; (try dsimp only at hSw); go_simp; try with_reducible rfl)
      (try simp only [Act.put, List.setIfInBounds_toArray, List.set_cons_zero, List.set_cons_succ, List.getElem_toArray, List.getElem_cons_succ, List.getElem_cons_zero])
      refine wpAnyH_take (i := 8) (v := ?bv8) rfl (by kernel_rfl) (by kernel_rfl) (by kernel_rfl) (fun _ _ _ h => h) (Or.inl ⟨by rfl, ?by8⟩) (by assumption) ?br8
      case by8 => (intro w hSw; (try dsimp only at hSw); go_simp; try with_reducible rfl)
      (try simp only [Act.put, List.setIfInBounds_toArray, List.set_cons_zero, List.set_cons_succ, List.getElem_toArray, List.getElem_cons_succ, List.getElem_cons_zero])
      refine wpAnyH_take (i := 9) (v := ?bv9) rfl (by kernel_rfl) (by kernel_rfl) (by kernel_rfl) (fun _ _ _ h => h) (Or.inl ⟨by rfl, ?by9⟩) (by assumption) ?br9
      case by9 => (intro w hSw; (try dsimp only at hSw); go_simp; try with_reducible rfl)
      (try simp only [Act.put, List.setIfInBounds_toArray, List.set_cons_zero, List.set_cons_succ, List.getElem_toArray, List.getElem_cons_succ, List.getElem_cons_zero])
      refine wpAnyH_take (i := 12) (v := ?bv12) rfl (by kernel_rfl) (by kernel_rfl) (by kernel_rfl) (fun _ _ _ h => h) (Or.inl ⟨by rfl, ?by12⟩) (by assumption) ?br12
      case by12 => (intro w hSw; (try dsimp only at hSw); go_simp; try with_reducible rfl)
      (try simp only [Act.put, List.setIfInBounds_toArray, List.set_cons_zero, List.set_cons_succ, List.getElem_toArray, List.getElem_cons_succ, List.getElem_cons_zero])
      refine wpAnyH_take (i := 13) (v := ?bv13) rfl (by kernel_rfl) (by kernel_rfl) (by kernel_rfl) (fun _ _ _ h => h) (Or.inl ⟨by rfl, ?by13⟩) (by assumption) ?br13
      case by13 => (intro w hSw; (try dsimp only at hSw); go_simp; try with_reducible rfl)
      (try simp only [Act.put, List.setIfInBounds_toArray, List.set_cons_zero, List.set_cons_succ, List.getElem_toArray, List.getElem_cons_succ, List.getElem_cons_zero])
      refine wpAnyH_take (i := 14) (v := ?bv14) rfl (by kernel_rfl) (by kernel_rfl) (by kernel_rfl) (fun _ _ _ h => h) (Or.inl ⟨by rfl, ?by14⟩) (by assumption) ?br14
      case by14 => (intro w hSw; (try dsimp only at hSw); go_simp; try with_reducible rfl)
      (try simp only [Act.put, List.setIfInBounds_toArray, List.set_cons_zero, List.set_cons_succ, List.getElem_toArray, List.getElem_cons_succ, List.getElem_cons_zero])
      refine wpAnyH_take (i := 15) (v := ?bv15) rfl (by kernel_rfl) (by kernel_rfl) (by kernel_rfl) (fun _ _ _ h => h) (Or.inl ⟨by rfl, ?by15⟩) (by assumption) ?br15
      case by15 => (intro w hSw; (try dsimp only at hSw); go_simp; try with_reducible rfl)
      (try simp only [Act.put, List.setIfInBounds_toArray, List.set_cons_zero, List.set_cons_succ, List.getElem_toArray, List.getElem_cons_succ, List.getElem_cons_zero])
      refine wpAnyH_take (i := 16) (v := ?bv16) rfl (by kernel_rfl) (by kernel_rfl) (by kernel_rfl) (fun _ _ _ h => h) (Or.inl ⟨by rfl, ?by16⟩) (by assumption) ?br16
      case by16 => (intro w hSw; (try dsimp only at hSw); go_simp; try with_reducible rfl)
      (try simp only [Act.put, List.setIfInBounds_toArray, List.set_cons_zero, List.set_cons_succ, List.getElem_toArray, List.getElem_cons_succ, List.getElem_cons_zero])
      refine wpAnyH_take (i := 17) (v := ?bv17) rfl (by kernel_rfl) (by kernel_rfl) (by kernel_rfl) (fun _ _ _ h => h) (Or.inl ⟨by rfl, ?by17⟩) (by assumption) ?br17
      case by17 => (intro w hSw; (try dsimp only at hSw); go_simp; try with_reducible rfl)
      (try simp only [Act.put, List.setIfInBounds_toArray, List.set_cons_zero, List.set_cons_succ, List.getElem_toArray, List.getElem_cons_succ, List.getElem_cons_zero])
      refine wpAnyH_take (i := 18) (v := ?bv18) rfl (by kernel_rfl) (by kernel_rfl) (by kernel_rfl) (fun _ _ _ h => h) (Or.inl ⟨by rfl, ?by18⟩) (by assumption) ?br18
      case by18 => (intro w hSw; (try dsimp only at hSw); go_simp; try with_reducible rfl)
      (try simp only [Act.put, List.setIfInBounds_toArray, List.set_cons_zero, List.set_cons_succ, List.getElem_toArray, List.getElem_cons_succ, List.getElem_cons_zero])
      refine wpAnyH_take (i := 19) (v := ?bv19) rfl (by kernel_rfl) (by kernel_rfl) (by kernel_rfl) (fun _ _ _ h => h) (Or.inl ⟨by rfl, ?by19⟩) (by assumption) ?br19
      case by19 => (intro w hSw; (try dsimp only at hSw); go_simp; try with_reducible rfl)
      (try simp only [Act.put, List.setIfInBounds_toArray, List.set_cons_zero, List.set_cons_succ, List.getElem_toArray, List.getElem_cons_succ, List.getElem_cons_zero])
      refine wpAnyH_take (i := 20) (v := ?bv20) rfl (by kernel_rfl) (by kernel_rfl) (by kernel_rfl) (fun _ _ _ h => h) (Or.inl ⟨by rfl, ?by20⟩) (by assumption) ?br20
      case by20 => (intro w hSw; (try dsimp only at hSw); go_simp; try with_reducible rfl)
      (try simp only [Act.put, List.setIfInBounds_toArray, List.set_cons_zero, List.set_cons_succ, List.getElem_toArray, List.getElem_cons_succ, List.getElem_cons_zero])
      refine wpAnyH_take (i := 21) (v := ?bv21) rfl (by kernel_rfl) (by kernel_rfl) (by kernel_rfl) (fun _ _ _ h => h) (Or.inl ⟨by rfl, ?by21⟩) (by assumption) ?br21
      case by21 => (intro w hSw; (try dsimp only at hSw); go_simp; try with_reducible rfl)
      (try simp only [Act.put, List.setIfInBounds_toArray, List.set_cons_zero, List.set_cons_succ, List.getElem_toArray, List.getElem_cons_succ, List.getElem_cons_zero])
      refine wpAnyH_take (i := 22) (v := ?bv22) rfl (by kernel_rfl) (by kernel_rfl) (by kernel_rfl) (fun _ _ _ h => h) (Or.inl ⟨by rfl, ?by22⟩) (by assumption) ?br22
      case by22 => (intro w hSw; (try dsimp only at hSw); go_simp; try with_reducible rfl)
      (try simp only [Act.put, List.setIfInBounds_toArray, List.set_cons_zero, List.set_cons_succ, List.getElem_toArray, List.getElem_cons_succ, List.getElem_cons_zero])
      refine wpAnyH_take (i := 23) (v := ?bv23) rfl (by kernel_rfl) (by kernel_rfl) (by kernel_rfl) (fun _ _ _ h => h) (Or.inl ⟨by rfl, ?by23⟩) (by assumption) ?br23
      case by23 => (intro w hSw; (try dsimp only at hSw); go_simp; try with_reducible rfl)
      (try simp only [Act.put, List.setIfInBounds_toArray, List.set_cons_zero, List.set_cons_succ, List.getElem_toArray, List.getElem_cons_succ, List.getElem_cons_zero])
      refine wpAnyH_take (i := 24) (v := ?bv24) rfl (by kernel_rfl) (by kernel_rfl) (by kernel_rfl) (fun _ _ _ h => h) (Or.inl ⟨by rfl, ?by24⟩) (by assumption) ?br24
      case by24 => (intro w hSw; (try dsimp only at hSw); go_simp; try with_reducible rfl)
      (try simp only [Act.put, List.setIfInBounds_toArray, List.set_cons_zero, List.set_cons_succ, List.getElem_toArray, List.getElem_cons_succ, List.getElem_cons_zero])
      refine wpAnyH_take (i := 25) (v := ?bv25) rfl (by kernel_rfl) (by kernel_rfl) (by kernel_rfl) (fun _ _ _ h => h) (Or.inl ⟨by rfl, ?by25⟩) (by assumption) ?br25
      case by25 => (intro w hSw; (try dsimp only at hSw); go_simp; try with_reducible rfl)
      (try simp only [Act.put, List.setIfInBounds_toArray, List.set_cons_zero, List.set_cons_succ, List.getElem_toArray, List.getElem_cons_succ, List.getElem_cons_zero])
      refine wpAnyH_take (i := 26) (v := ?bv26) rfl (by kernel_rfl) (by kernel_rfl) (by kernel_rfl) (fun _ _ _ h => h) (Or.inl ⟨by rfl, ?by26⟩) (by assumption) ?br26
      case by26 => (intro w hSw; (try dsimp only at hSw); go_simp; try with_reducible rfl)
      (try simp only [Act.put, List.setIfInBounds_toArray, List.set_cons_zero, List.set_cons_succ, List.getElem_toArray, List.getElem_cons_succ, List.getElem_cons_zero])
      refine wpAnyH_take (i := 27) (v := ?bv27) rfl (by kernel_rfl) (by kernel_rfl) (by kernel_rfl) (fun _ _ _ h => h) (Or.inl ⟨by rfl, ?by27⟩) (by assumption) ?br27
      case by27 => (intro w hSw; (try dsimp only at hSw); go_simp; try with_reducible rfl)
      (try simp only [Act.put, List.setIfInBounds_toArray, List.set_cons_zero, List.set_cons_succ, List.getElem_toArray, List.getElem_cons_succ, List.getElem_cons_zero])
      refine wpAnyH_take (i := 28) (v := ?bv28) rfl (by kernel_rfl) (by kernel_rfl) (by kernel_rfl) (fun _ _ _ h => h) (Or.inl ⟨by rfl, ?by28⟩) (by assumption) ?br28
      case by28 => (intro w hSw; (try dsimp only at hSw); go_simp; try with_reducible rfl)
      (try simp only [Act.put, List.setIfInBounds_toArray, List.set_cons_zero, List.set_cons_succ, List.getElem_toArray, List.getElem_cons_succ, List.getElem_cons_zero])
      refine wpAnyH_take (i := 29) (v := ?bv29) rfl (by kernel_rfl) (by kernel_rfl) (by kernel_rfl) (fun _ _ _ h => h) (Or.inl ⟨by rfl, ?by29⟩) (by assumption) ?br29
      case by29 => (intro w hSw; (try dsimp only at hSw); go_simp; try with_reducible rfl)
      (try simp only [Act.put, List.setIfInBounds_toArray, List.set_cons_zero, List.set_cons_succ, List.getElem_toArray, List.getElem_cons_succ, List.getElem_cons_zero])
      refine wpAnyH_take (i := 30) (v := ?bv30) rfl (by kernel_rfl) (by kernel_rfl) (by kernel_rfl) (fun _ _ _ h => h) (Or.inl ⟨by rfl, ?by30⟩) (by assumption) ?br30
      case by30 => (intro w hSw; (try dsimp only at hSw); go_simp; try with_reducible rfl)
      (try simp only [Act.put, List.setIfInBounds_toArray, List.set_cons_zero, List.set_cons_succ, List.getElem_toArray, List.getElem_cons_succ, List.getElem_cons_zero])
      refine wpAnyH_take (i := 31) (v := ?bv31) rfl (by kernel_rfl) (by kernel_rfl) (by kernel_rfl) (fun _ _ _ h => h) (Or.inl ⟨by rfl, ?by31⟩) (by assumption) ?br31
      case by31 => (intro w hSw; (try dsimp only at hSw); go_simp; try with_reducible rfl)
      (try simp only [Act.put, List.setIfInBounds_toArray, List.set_cons_zero, List.set_cons_succ, List.getElem_toArray, List.getElem_cons_succ, List.getElem_cons_zero])
      refine wpAnyH_take (i := 32) (v := ?bv32) rfl (by kernel_rfl) (by kernel_rfl) (by kernel_rfl) (fun _ _ _ h => h) (Or.inl ⟨by rfl, ?by32⟩) (by assumption) ?br32
      case by32 => (intro w hSw; (try dsimp only at hSw); go_simp; try with_reducible rfl)
      (try simp only [Act.put, List.setIfInBounds_toArray, List.set_cons_zero, List.set_cons_succ, List.getElem_toArray, List.getElem_cons_succ, List.getElem_cons_zero])
      refine wpAnyH_ready (rs := [10]) (by kernel_rfl) (by simp) ?_
      refine AllReadyH.cons rfl (fun K hK => ?_) AllReadyH.nil
      rw [if_pos (by rfl)]
      go_simp
      refine hK.out _ _ hHeld (fun hHeld => ?_)
      try clear hK K
      (try simp only [Act.put, List.setIfInBounds_toArray, List.set_cons_zero, List.set_cons_succ, List.getElem_toArray, List.getElem_cons_succ, List.getElem_cons_zero])
      refine wpAnyH_take (i := 11) (v := ?bv11) rfl (by kernel_rfl) (by kernel_rfl) (by kernel_rfl) (fun _ _ _ h => h) (Or.inl ⟨by rfl, ?by11⟩) (by assumption) ?br11
      case by11 => (intro w hSw; (try dsimp only at hSw); go_simp; try with_reducible rfl)
      (try simp only [Act.put, List.setIfInBounds_toArray, List.set_cons_zero, List.set_cons_succ, List.getElem_toArray, List.getElem_cons_succ, List.getElem_cons_zero])
      refine wpAnyH_take (i := 33) (v := ?bv33) rfl (by kernel_rfl) (by kernel_rfl) (by kernel_rfl) (fun _ _ _ h => h) (Or.inl ⟨by rfl, ?by33⟩) (by assumption) ?br33
      case by33 => (intro w hSw; (try dsimp only at hSw); go_simp; try with_reducible rfl)
      (try simp only [Act.put, List.setIfInBounds_toArray, List.set_cons_zero, List.set_cons_succ, List.getElem_toArray, List.getElem_cons_succ, List.getElem_cons_zero])
      refine wpAnyH_take (i := 34) (v := ?bv34) rfl (by kernel_rfl) (by kernel_rfl) (by kernel_rfl) (fun _ _ _ h => h) (Or.inl ⟨by rfl, ?by34⟩) (by assumption) ?br34
      case by34 => (intro w hSw; (try dsimp only at hSw); go_simp; try with_reducible rfl)
      (try simp only [Act.put, List.setIfInBounds_toArray, List.set_cons_zero, List.set_cons_succ, List.getElem_toArray, List.getElem_cons_succ, List.getElem_cons_zero])
      refine wpAnyH_take (i := 35) (v := ?bv35) rfl (by kernel_rfl) (by kernel_rfl) (by kernel_rfl) (fun _ _ _ h => h) (Or.inl ⟨by rfl, ?by35⟩) (by assumption) ?br35
      case by35 => (intro w hSw; (try dsimp only at hSw); go_simp; try with_reducible rfl)
      (try simp only [Act.put, List.setIfInBounds_toArray, List.set_cons_zero, List.set_cons_succ, List.getElem_toArray, List.getElem_cons_succ, List.getElem_cons_zero])
      refine wpAnyH_take (i := 36) (v := ?bv36) rfl (by kernel_rfl) (by kernel_rfl) (by kernel_rfl) (fun _ _ _ h => h) (Or.inl ⟨by rfl, ?by36⟩) (by assumption) ?br36
      case by36 => (intro w hSw; (try dsimp only at hSw); go_simp; try with_reducible rfl)
      (try simp only [Act.put, List.setIfInBounds_toArray, List.set_cons_zero, List.set_cons_succ, List.getElem_toArray, List.getElem_cons_succ, List.getElem_cons_zero])
      refine wpAnyH_ready (rs := [37]) (by kernel_rfl) (by simp) ?_
      refine AllReadyH.cons rfl (fun K hK => ?_) AllReadyH.nil
      rw [if_pos (by rfl)]
      go_simp
      refine hK.out _ _ (HSV.out _) (fun hHeld => ?_)
      try clear hK K
      (try simp only [Act.put, List.setIfInBounds_toArray, List.set_cons_zero, List.set_cons_succ, List.getElem_toArray, List.getElem_cons_succ, List.getElem_cons_zero])
      refine wpAnyH_done (by kernel_rfl) ?_ _
      obtain ⟨v, hv⟩ : ∃ v, v = IntKind.i64.wrap (fr + IntKind.i64.wrap ((IntKind.u64.wrap at').tmod (tt - fr + 1))) := ⟨_, rfl⟩
      have HV : Hid (I64 v) := hid (by
        have h1 := HRR.out
        have h2 := HFT.out
        rw [hv, IntWalk.i64_in _ ⟨by omega, by omega⟩]
        constructor <;> omega)
      rw [← hv]
      clear hv hHeld y1 y2 a3 f3 hs1 hs2 hs3 hs4 x4 a0
      have HA4 : Hid ((w3.setCell ⟨C + 2, 3, none⟩ (.int .i64 v)).drew.heap[C + 2]? = some (.cells #[.int .i64 1, .int .i64 id, .int .i64 ot, .int .i64 v, .int .i64 out, .int .i64 in'] 24 (0, 0))) := hid (heap_setCell_same _ _ _ _ _ _ HA3.out)
      have hR9 : (w3.setCell ⟨C + 2, 3, none⟩ (.int .i64 v)).drew.heap[C + 1]? = some (.cells z6 24 (0, 0)) := (Below.heap_setCell _ _ _ _ (by show C + 1 ≠ C + 2; omega)).trans HR3.out
      have HB9 : Hid (Below w.heap.size w (w3.setCell ⟨C + 2, 3, none⟩ (.int .i64 v)).drew) := hid (below_set HB3.out (by have := HCE.out; omega)).drew
      clear HA3 HR3 HB3 H3
      generalize (w3.setCell ⟨C + 2, 3, none⟩ (.int .i64 v)).drew = w4 at *
      have hA9 := HA4.out
      have a0 : w4.cell? ⟨C + 2, 0, none⟩ = some (.int .i64 1) := (cell_of_row _ _ _ _ _ _ HA4.out).trans rfl
      replace HJ : Hid (ChJ ⟨1, id, ot, v, out, in'⟩) := hid (by
        have hj := HJ.out
        intro x hx
        simp [numC] at hx
        rcases hx with rfl | rfl | rfl | rfl | rfl | rfl
        · exact hj _ (by simp [numC])
        · exact HID.out.2
        · exact hj _ (by simp [numC])
        · exact HV.out
        all_goals exact hj _ (by simp [numC]))
      clear HA4
      unfold z6 at hR9
      go_wp2_with (first | (refine wpl_loadK rfl _ rfl (C + 2) rfl _ _ _ rfl hA9 ?_) | (refine wpl_storeK rfl _ _ rfl (C + 1) _ _ _ _ _ _ rfl rfl rfl rfl rfl rfl rfl rfl _ _ rfl hR9 ?_))
      (try simp only [Exit.inBlock, Exit.then])
      refine bodyPost_ret (results_ch rfl _ _ (C + 1) _ _ _ rfl rfl (setRow_heap _ _ _ _ _ _ hR9)) rfl ?_
      exact ⟨⟨_, _, _, _, _, _⟩, rfl, HJ.out, below_row HB9.out (by have := HCE.out; omega) _⟩
    have g1 : (k == 1) = false := by simpa using h1
    by_cases h5 : k = 5
    · subst h5
      have hA3 := HA3.out
      go_upto_region 12 with (refine wpl_storeK rfl _ _ rfl (C + 2) _ _ _ _ _ _ rfl rfl rfl rfl rfl rfl rfl rfl _ _ rfl hA3 ?_)
      clear hA3 x4 a0
      have HA4 : Hid ((w3.setRow (C + 2) #[.int .i64 5, .int .i64 0, .int .i64 0, .int .i64 0, .int .i64 0, .int .i64 0]).heap[C + 2]? = some (.cells #[.int .i64 5, .int .i64 0, .int .i64 0, .int .i64 0, .int .i64 0, .int .i64 0] 24 (0, 0))) := hid (setRow_heap _ _ _ _ _ _ HA3.out)
      have hR9 : (w3.setRow (C + 2) #[.int .i64 5, .int .i64 0, .int .i64 0, .int .i64 0, .int .i64 0, .int .i64 0]).heap[C + 1]? = some (.cells z6 24 (0, 0)) := (setRow_other _ _ _ _ (by omega)).trans HR3.out
      have HB9 : Hid (Below w.heap.size w (w3.setRow (C + 2) #[.int .i64 5, .int .i64 0, .int .i64 0, .int .i64 0, .int .i64 0, .int .i64 0])) := hid (below_row HB3.out (by have := HCE.out; omega) _)
      clear HA3 HR3 HB3 H3
      generalize w3.setRow (C + 2) #[.int .i64 5, .int .i64 0, .int .i64 0, .int .i64 0, .int .i64 0, .int .i64 0] = w4 at *
      have hA9 := HA4.out
      replace HJ : Hid (ChJ ⟨5, 0, 0, 0, 0, 0⟩) := hid (by
        intro x hx
        simp [numC] at hx
        rcases hx with rfl | rfl <;> constructor <;> omega)
      clear HA4
      unfold z6 at hR9
      go_wp2_with (first | (refine wpl_loadK rfl _ rfl (C + 2) rfl _ _ _ rfl hA9 ?_) | (refine wpl_storeK rfl _ _ rfl (C + 1) _ _ _ _ _ _ rfl rfl rfl rfl rfl rfl rfl rfl _ _ rfl hR9 ?_))
      (try simp only [Exit.inBlock, Exit.then])
      refine bodyPost_ret (results_ch rfl _ _ (C + 1) _ _ _ rfl rfl (setRow_heap _ _ _ _ _ _ hR9)) rfl ?_
      exact ⟨⟨_, _, _, _, _, _⟩, rfl, HJ.out, below_row HB9.out (by have := HCE.out; omega) _⟩
    · have g5 : (k == 5) = false := by simpa using h5
      have hA9 := HA3.out
      have hR9 := HR3.out
      have HB9 := HB3
      unfold z6 at hR9
      go_wp2_with (first | (refine wpl_loadK rfl _ rfl (C + 2) rfl _ _ _ rfl hA9 ?_) | (refine wpl_storeK rfl _ _ rfl (C + 1) _ _ _ _ _ _ rfl rfl rfl rfl rfl rfl rfl rfl _ _ rfl hR9 ?_))
      (try simp only [Exit.inBlock, Exit.then])
      refine bodyPost_ret (results_ch rfl _ _ (C + 1) _ _ _ rfl rfl (setRow_heap _ _ _ _ _ _ hR9)) rfl ?_
      exact ⟨⟨_, _, _, _, _, _⟩, rfl, HJ.out, below_row HB9.out (by have := HCE.out; omega) _⟩
end Go.Proofs.Ytghjamkcedgnfaa
