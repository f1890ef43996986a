/- For any two spans and any two numbers: a write that comes behind a later one of its client has no effect on the blocks of that one, and on the others has its own. -/
import Derived.Test.YtappdhgabbjoiaaBkAll
import Derived.Test.YtappdhgabbjoiaaBkOnceF
import Derived.Test.YtappdhgabbjoiaaBkMark
import Derived.Test.YtappdhgabbjoiaaBkSmall
import Derived.Test.YtappdhgabbjoiaaBkLives
import Derived.Test.YtappdhgabbjoiaaBkPlay
import Derived.Test.YtappdhgabbjoiaaBkLateF
namespace Go.Proofs.Ytappdhgabbjoiaa
open Go.RowKit
set_option linter.unusedVariables false
set_option linter.unusedSimpArgs false

/-- A command's box in a loop that appends texts to it: all else stays. -/
structure LB (W0 : World) (P : Nat) (sq a b : Int) (s : ByteArray) (i : Nat) (va : Option Addr) (vc : Nat) (W : World) : Prop where
  box : W.heap[P]? = some (.cells #[.int .i64 2, .int .i64 2, .int .i64 sq, .int .i64 a, .int .i64 b, .slice va i vc] 35 (0, 0))
  row : W.ownsRow W0.heap.size 9 1 (.slice va i vc) i (tvs (List.replicate i s))
  but : ButR (fun k => k = P) W0 W
theorem LB.more {W0 W W2 : World} {P : Nat} {sq a b : Int} {s : ByteArray} {i : Nat} {va va' : Option Addr} {vc vc' : Nat} (h : LB W0 P sq a b s i va vc W) (hP : P < W0.heap.size)
    (hg : (W.alloc (.cells #[.string s] 9)).grownBy W2 (Value.slice va i vc).ownBlock) (ho : W2.ownsRow W0.heap.size 9 1 (.slice va' (i + 1) vc') (i + 1) (tvs (List.replicate i s) ++ [.string s])) :
    W2.heap[P]? = some (.cells #[.int .i64 2, .int .i64 2, .int .i64 sq, .int .i64 a, .int .i64 b, .slice va i vc] 35 (0, 0)) ∧ LB W0 P sq a b s (i + 1) va' vc' (W2.setCell ⟨P, 5, none⟩ (.slice va' (i + 1) vc')) := by
  have low : ∀ q, q < W0.heap.size → W2.heap[q]? = W.heap[q]? := fun q hq => (hg.block q (by have := h.but.size; simp; omega) (fun e => by have := (h.row.lt q e.symm).1; omega)).trans (Below.heap_alloc _ _ _ (by have := h.but.size; omega))
  have hb := (low P hP).trans h.box
  have k : Kt [35] W2 (W2.setCell ⟨P, 5, none⟩ (.slice va' (i + 1) vc')) := (Kt.refl _ _).set P 5 _ hb (by simp)
  refine ⟨hb, ⟨by rw [heap_setCell_same W2 P 5 _ 35 _ hb]; simp, ?_, ?_⟩⟩
  · have e : tvs (List.replicate (i + 1) s) = tvs (List.replicate i s) ++ [.string s] := by rw [List.replicate_succ', tvs_snoc]
    rw [e]; exact own_kt ho k (by decide)
  · refine ⟨hg.os.trans h.but.os, hg.tape.trans h.but.tape, hg.output.trans h.but.output, by have := hg.size; have := h.but.size; simp at *; omega, fun q hq hn => ?_⟩
    rw [Below.heap_setCell W2 ⟨P, 5, none⟩ _ q (fun e => hn e), low q hq]
    exact h.but.block q hq hn
/-- Behind the first statement: the two small spans in their boxes. -/
def Late1 (w1 : World) (Fr : Int → Int → Int → Int → Nat → Nat → Act) : Exit → Act → World → Prop
  | .normal, a, W => ∃ y1 y2 z1 z2 P7 P8, a = Fr y1 y2 z1 z2 P7 P8 ∧ W.heap[P7]? = some (.cells #[.int .i64 y1, .int .i64 y2] 23 (0, 0)) ∧ W.heap[P8]? = some (.cells #[.int .i64 z1, .int .i64 z2] 23 (0, 0)) ∧ (P7 ≠ P8 ∧ w1.heap.size ≤ P7 ∧ w1.heap.size ≤ P8) ∧ mayBeB (y1, y2) = true ∧ mayBeB (z1, z2) = true ∧ Below w1.heap.size w1 W
  | _, _, _ => False
/-- Behind the second statement. -/
def Late2 (w1 : World) (y1 xx z1 zz : Int) (P7 P8 : Nat) (Fr : Act) : Exit → Act → World → Prop
  | .normal, a, W => a = Fr ∧ W.heap[P7]? = some (.cells #[.int .i64 y1, .int .i64 xx] 23 (0, 0)) ∧ W.heap[P8]? = some (.cells #[.int .i64 z1, .int .i64 zz] 23 (0, 0)) ∧ Below w1.heap.size w1 W
  | _, _, _ => False
set_option maxRecDepth 100000 in
set_option maxHeartbeats 16000000 in
theorem late_any (x o : Sp) (kk : Int × Int) (w : World) :
    Calls Try.prog 5 #[.agg #[.int .i64 x.1, .int .i64 x.2], .agg #[.int .i64 o.1, .int .i64 o.2], .agg #[.int .i64 kk.1, .int .i64 kk.2]] w fun e w' => e = .returned (.bool true) ∧ Below w.heap.size w w' := by
  obtain ⟨f, t⟩ := x
  obtain ⟨f2, t2⟩ := o
  obtain ⟨k0, k1⟩ := kk
  simp only
  obtain ⟨w1, hw1⟩ : ∃ w1, w1 = ((w.alloc (.cells #[.int .i64 f, .int .i64 t] 23)).alloc (.cells #[.int .i64 f2, .int .i64 t2] 23)).alloc (.cells #[.int .i64 k0, .int .i64 k1] 46) := ⟨_, rfl⟩
  have hb1 : Below w.heap.size w w1 := by rw [hw1]; exact (((Below.refl _ _).alloc (Nat.le_refl _) _).alloc (by simp) _).alloc (by simp; omega) _
  have hh := heap3 w (.cells #[.int .i64 f, .int .i64 t] 23) (.cells #[.int .i64 f2, .int .i64 t2] 23) (.cells #[.int .i64 k0, .int .i64 k1] 46)
  rw [← hw1] at hh
  have HW1 := hid hw1
  have B1 := hid hb1
  clear hw1 hb1
  go_enter Try.func5, Try.ntmps5
  go_upto_region 1 with fail
  rw [← HW1.out]
  obtain ⟨A, hA⟩ : ∃ A, A = w.heap.size := ⟨_, rfl⟩
  obtain ⟨C, hC⟩ : ∃ C, C = w.heap.size + 1 := ⟨_, rfl⟩
  obtain ⟨Kb, hKb⟩ : ∃ K, K = w.heap.size + 1 + 1 := ⟨_, rfl⟩
  rw [← hKb, ← hC, ← hA] at hh ⊢
  clear hA hC hKb HW1
  have SW : Hid (∀ X, Below w1.heap.size w1 X → X.cell? ⟨A, 0, none⟩ = some (.int .i64 f) ∧ X.cell? ⟨A, 1, none⟩ = some (.int .i64 t) ∧ X.cell? ⟨C, 0, none⟩ = some (.int .i64 f2) ∧ X.cell? ⟨C, 1, none⟩ = some (.int .i64 t2) ∧ X.cell? ⟨Kb, 0, none⟩ = some (.int .i64 k0) ∧ X.cell? ⟨Kb, 1, none⟩ = some (.int .i64 k1)) := hid fun X hX => by
    have h1 := (hX.block A (lt_of_block hh.1)).trans hh.1
    have h2 := (hX.block C (lt_of_block hh.2.1)).trans hh.2.1
    have h3 := (hX.block Kb (lt_of_block hh.2.2)).trans hh.2.2
    refine ⟨?_, ?_, ?_, ?_, ?_, ?_⟩ <;> first | (rw [cell_of_row _ _ _ _ _ _ h1]; rfl) | (rw [cell_of_row _ _ _ _ _ _ h2]; rfl) | (rw [cell_of_row _ _ _ _ _ _ h3]; rfl)
  clear hh
  refine Code.wp_mono (Q := Late1 w1 ?Fr) ?imp ?reg
  case reg =>
    refine wp_region_held_drew (S := fun X => X.cell? ⟨A, 0, none⟩ = some (.int .i64 f) ∧ X.cell? ⟨A, 1, none⟩ = some (.int .i64 t) ∧ X.cell? ⟨C, 0, none⟩ = some (.int .i64 f2) ∧ X.cell? ⟨C, 1, none⟩ = some (.int .i64 t2) ∧ X.cell? ⟨Kb, 0, none⟩ = some (.int .i64 k0) ∧ X.cell? ⟨Kb, 1, none⟩ = some (.int .i64 k1)) (by kernel_rfl) (SW.out _ ((Below.refl _ _).drew)) (fun hHeld => ?_)
    obtain ⟨Y, hY⟩ : ∃ Y, Y = w1.drew := ⟨_, rfl⟩
    have BX : Hid (Below w1.heap.size w1 Y) := hid (by rw [hY]; exact (Below.refl _ _).drew)
    rw [← hY] at hHeld ⊢
    clear hY
    refine wpAnyH_take (i := 0) (v := ?rv0) rfl (by kernel_rfl) (by kernel_rfl) (by kernel_rfl) (fun _ _ _ h => h) (Or.inl ⟨by rfl, ?ry0⟩) (by assumption) ?rr0
    case ry0 => (intro w hSw; (try dsimp only at hSw); go_simp; try with_reducible rfl)
    (try simp only [Act.put, List.setIfInBounds_toArray, List.set_cons_zero, List.set_cons_succ, List.getElem_toArray, List.getElem_cons_succ, List.getElem_cons_zero])
    refine wpAnyH_take (i := 2) (v := ?rv2) rfl (by kernel_rfl) (by kernel_rfl) (by kernel_rfl) (fun _ _ _ h => h) (Or.inl ⟨by rfl, ?ry2⟩) (by assumption) ?rr2
    case ry2 => (intro w hSw; (try dsimp only at hSw); go_simp; try with_reducible rfl)
    (try simp only [Act.put, List.setIfInBounds_toArray, List.set_cons_zero, List.set_cons_succ, List.getElem_toArray, List.getElem_cons_succ, List.getElem_cons_zero])
    refine wpAnyH_ready (rs := [1, 4, 5]) (by kernel_rfl) (by simp) ?_
    refine AllReadyH.cons rfl (fun K hK => ?_) (AllReadyH.cons rfl (fun K hK => ?_) (AllReadyH.cons rfl (fun K hK => ?_) AllReadyH.nil))
    · rw [if_pos (by rfl)]
      go_wp2_with fail
      refine (small_any (f, t) _).mono ?_
      rintro e Y ⟨⟨y1, y2⟩, rfl, hym, bXY⟩
      have HYm := hid hym
      (try replace H7 := hid ((bXY.block P7 (lt_of_block H7.out)).trans H7.out))
      (try replace H8 := hid ((bXY.block P8 (lt_of_block H8.out)).trans H8.out))
      replace BX := hid (BX.out.trans (bXY.mono BX.out.size))
      refine hK.out _ _ (SW.out _ BX.out) (fun hHeld => ?_)
      clear bXY hym
      clear hK K
      (try simp only [Act.put, List.setIfInBounds_toArray, List.set_cons_zero, List.set_cons_succ, List.getElem_toArray, List.getElem_cons_succ, List.getElem_cons_zero])
      refine wpAnyH_ready (rs := [3, 4, 5]) (by kernel_rfl) (by simp) ?_
      refine AllReadyH.cons rfl (fun K hK => ?_) (AllReadyH.cons rfl (fun K hK => ?_) (AllReadyH.cons rfl (fun K hK => ?_) AllReadyH.nil))
      · rw [if_pos (by rfl)]
        go_wp2_with fail
        refine (small_any (f2, t2) _).mono ?_
        rintro e Y ⟨⟨z1, z2⟩, rfl, hzm, bXY⟩
        have HZm := hid hzm
        (try replace H7 := hid ((bXY.block P7 (lt_of_block H7.out)).trans H7.out))
        (try replace H8 := hid ((bXY.block P8 (lt_of_block H8.out)).trans H8.out))
        replace BX := hid (BX.out.trans (bXY.mono BX.out.size))
        refine hK.out _ _ (SW.out _ BX.out) (fun hHeld => ?_)
        clear bXY hzm
        clear hK K
        (try simp only [Act.put, List.setIfInBounds_toArray, List.set_cons_zero, List.set_cons_succ, List.getElem_toArray, List.getElem_cons_succ, List.getElem_cons_zero])
        refine wpAnyH_ready (rs := [4, 5]) (by kernel_rfl) (by simp) ?_
        refine AllReadyH.cons rfl (fun K hK => ?_) (AllReadyH.cons rfl (fun K hK => ?_) AllReadyH.nil)
        · rw [if_pos (by rfl)]
          go_simp
          obtain ⟨P7, hP7⟩ : ∃ P, P = Y.heap.size := ⟨_, rfl⟩
          (try have H78 : P7 ≠ P8 := by have := lt_of_block H8.out; omega)
          have HPw7 : Hid (w1.heap.size ≤ P7) := hid (by rw [hP7]; exact BX.out.size)
          have bXY : Below Y.heap.size Y (Y.alloc (.cells #[.int .i64 0, .int .i64 0] 23)) := (Below.refl _ _).alloc (Nat.le_refl _) _
          have H7 := hid (heap_alloc_new Y (.cells #[.int .i64 0, .int .i64 0] 23))
          rw [← hP7] at H7 ⊢
          (try replace H8 := hid ((bXY.block P8 (lt_of_block H8.out)).trans H8.out))
          replace BX := hid (BX.out.trans (bXY.mono BX.out.size))
          clear hP7 bXY
          refine hK.out _ _ (SW.out _ BX.out) (fun hHeld => ?_)
          generalize Y.alloc (.cells #[.int .i64 0, .int .i64 0] 23) = Z at *
          clear hK K
          try clear Y
          obtain ⟨Y, hY⟩ : ∃ Y, Y = Z := ⟨_, rfl⟩
          subst hY
          have K : True := trivial
          have hK : True := trivial
          clear hK K
          (try simp only [Act.put, List.setIfInBounds_toArray, List.set_cons_zero, List.set_cons_succ, List.getElem_toArray, List.getElem_cons_succ, List.getElem_cons_zero])
          refine wpAnyH_ready (rs := [5]) (by kernel_rfl) (by simp) ?_
          refine AllReadyH.cons rfl (fun K hK => ?_) AllReadyH.nil
          rw [if_pos (by rfl)]
          go_simp
          obtain ⟨P8, hP8⟩ : ∃ P, P = Y.heap.size := ⟨_, rfl⟩
          (try have H78 : P7 ≠ P8 := by have := lt_of_block H7.out; omega)
          have HPw8 : Hid (w1.heap.size ≤ P8) := hid (by rw [hP8]; exact BX.out.size)
          have bXY : Below Y.heap.size Y (Y.alloc (.cells #[.int .i64 0, .int .i64 0] 23)) := (Below.refl _ _).alloc (Nat.le_refl _) _
          have H8 := hid (heap_alloc_new Y (.cells #[.int .i64 0, .int .i64 0] 23))
          rw [← hP8] at H8 ⊢
          (try replace H7 := hid ((bXY.block P7 (lt_of_block H7.out)).trans H7.out))
          replace BX := hid (BX.out.trans (bXY.mono BX.out.size))
          clear hP8 bXY
          refine hK.out _ _ (SW.out _ BX.out) (fun hHeld => ?_)
          generalize Y.alloc (.cells #[.int .i64 0, .int .i64 0] 23) = Z at *
          clear hK K
          try clear Y
          obtain ⟨Y, hY⟩ : ∃ Y, Y = Z := ⟨_, rfl⟩
          subst hY
          have K : True := trivial
          have hK : True := trivial
          clear hK K
          (try simp only [Act.put, List.setIfInBounds_toArray, List.set_cons_zero, List.set_cons_succ, List.getElem_toArray, List.getElem_cons_succ, List.getElem_cons_zero])
          refine wpAnyH_ready (rs := [6]) (by kernel_rfl) (by simp) ?_
          refine AllReadyH.cons rfl (fun K hK => ?_) AllReadyH.nil
          rw [if_pos (by rfl)]
          have c0 : Y.cell? ⟨P7, 0, none⟩ = some (.int .i64 0) := by rw [cell_of_row _ _ _ _ _ _ H7.out]; rfl
          have c1 : Y.cell? ⟨P7, 1, none⟩ = some (.int .i64 0) := by rw [cell_of_row _ _ _ _ _ _ H7.out]; rfl
          have f0 : Y.frozen? ⟨P7, 0, none⟩ = false := by simp [World.frozen?, H7.out]
          have f1 : Y.frozen? ⟨P7, 1, none⟩ = false := by simp [World.frozen?, H7.out]
          go_simp
          have e1 := heap_setCell_same Y P7 0 _ 23 (.int .i64 y1) H7.out
          have e2 := heap_setCell_same (Y.setCell ⟨P7, 0, none⟩ (.int .i64 y1)) P7 1 _ 23 (.int .i64 y2) e1
          have e3 : ((Y.setCell ⟨P7, 0, none⟩ (.int .i64 y1)).setCell ⟨P7, 1, none⟩ (.int .i64 y2)).heap[P8]? = Y.heap[P8]? := (Below.heap_setCell _ ⟨P7, 1, none⟩ _ P8 (fun e => H78 (e.symm))).trans (Below.heap_setCell _ ⟨P7, 0, none⟩ _ P8 (fun e => H78 (e.symm)))
          replace H8 := hid (e3.trans H8.out)
          replace BX := hid ((BX.out.setCell (p := ⟨P7, 0, none⟩) HPw7.out (.int .i64 y1)).setCell (p := ⟨P7, 1, none⟩) HPw7.out (.int .i64 y2))
          replace H7 : Hid (((Y.setCell ⟨P7, 0, none⟩ (.int .i64 y1)).setCell ⟨P7, 1, none⟩ (.int .i64 y2)).heap[P7]? = some (.cells #[.int .i64 y1, .int .i64 y2] 23 (0, 0))) := hid (by rw [e2]; simp)
          refine hK.out _ _ (SW.out _ BX.out) (fun hHeld => ?_)
          clear e1 e2 e3 c0 c1 f0 f1
          generalize (Y.setCell ⟨P7, 0, none⟩ (.int .i64 y1)).setCell ⟨P7, 1, none⟩ (.int .i64 y2) = Z at *
          clear hK K
          try clear Y
          obtain ⟨Y, hY⟩ : ∃ Y, Y = Z := ⟨_, rfl⟩
          subst hY
          have K : True := trivial
          have hK : True := trivial
          clear hK K
          (try simp only [Act.put, List.setIfInBounds_toArray, List.set_cons_zero, List.set_cons_succ, List.getElem_toArray, List.getElem_cons_succ, List.getElem_cons_zero])
          refine wpAnyH_ready (rs := [7]) (by kernel_rfl) (by simp) ?_
          refine AllReadyH.cons rfl (fun K hK => ?_) AllReadyH.nil
          rw [if_pos (by rfl)]
          have c0 : Y.cell? ⟨P8, 0, none⟩ = some (.int .i64 0) := by rw [cell_of_row _ _ _ _ _ _ H8.out]; rfl
          have c1 : Y.cell? ⟨P8, 1, none⟩ = some (.int .i64 0) := by rw [cell_of_row _ _ _ _ _ _ H8.out]; rfl
          have f0 : Y.frozen? ⟨P8, 0, none⟩ = false := by simp [World.frozen?, H8.out]
          have f1 : Y.frozen? ⟨P8, 1, none⟩ = false := by simp [World.frozen?, H8.out]
          go_simp
          have e1 := heap_setCell_same Y P8 0 _ 23 (.int .i64 z1) H8.out
          have e2 := heap_setCell_same (Y.setCell ⟨P8, 0, none⟩ (.int .i64 z1)) P8 1 _ 23 (.int .i64 z2) e1
          have e3 : ((Y.setCell ⟨P8, 0, none⟩ (.int .i64 z1)).setCell ⟨P8, 1, none⟩ (.int .i64 z2)).heap[P7]? = Y.heap[P7]? := (Below.heap_setCell _ ⟨P8, 1, none⟩ _ P7 (fun e => H78 (e))).trans (Below.heap_setCell _ ⟨P8, 0, none⟩ _ P7 (fun e => H78 (e)))
          replace H7 := hid (e3.trans H7.out)
          replace BX := hid ((BX.out.setCell (p := ⟨P8, 0, none⟩) HPw8.out (.int .i64 z1)).setCell (p := ⟨P8, 1, none⟩) HPw8.out (.int .i64 z2))
          replace H8 : Hid (((Y.setCell ⟨P8, 0, none⟩ (.int .i64 z1)).setCell ⟨P8, 1, none⟩ (.int .i64 z2)).heap[P8]? = some (.cells #[.int .i64 z1, .int .i64 z2] 23 (0, 0))) := hid (by rw [e2]; simp)
          refine hK.out _ _ (SW.out _ BX.out) (fun hHeld => ?_)
          clear e1 e2 e3 c0 c1 f0 f1
          generalize (Y.setCell ⟨P8, 0, none⟩ (.int .i64 z1)).setCell ⟨P8, 1, none⟩ (.int .i64 z2) = Z at *
          clear hK K
          try clear Y
          obtain ⟨Y, hY⟩ : ∃ Y, Y = Z := ⟨_, rfl⟩
          subst hY
          have K : True := trivial
          have hK : True := trivial
          clear hK K
          (try simp only [Act.put, List.setIfInBounds_toArray, List.set_cons_zero, List.set_cons_succ, List.getElem_toArray, List.getElem_cons_succ, List.getElem_cons_zero])
          refine wpAnyH_done (by kernel_rfl) ?_ _
          refine ⟨y1, y2, z1, z2, P7, P8, ?_, H7.out, H8.out, ⟨H78, HPw7.out, HPw8.out⟩, HYm.out, HZm.out, BX.out⟩
          with_reducible rfl
        · rw [if_pos (by rfl)]
          go_simp
          obtain ⟨P8, hP8⟩ : ∃ P, P = Y.heap.size := ⟨_, rfl⟩
          (try have H78 : P7 ≠ P8 := by have := lt_of_block H7.out; omega)
          have HPw8 : Hid (w1.heap.size ≤ P8) := hid (by rw [hP8]; exact BX.out.size)
          have bXY : Below Y.heap.size Y (Y.alloc (.cells #[.int .i64 0, .int .i64 0] 23)) := (Below.refl _ _).alloc (Nat.le_refl _) _
          have H8 := hid (heap_alloc_new Y (.cells #[.int .i64 0, .int .i64 0] 23))
          rw [← hP8] at H8 ⊢
          (try replace H7 := hid ((bXY.block P7 (lt_of_block H7.out)).trans H7.out))
          replace BX := hid (BX.out.trans (bXY.mono BX.out.size))
          clear hP8 bXY
          refine hK.out _ _ (SW.out _ BX.out) (fun hHeld => ?_)
          generalize Y.alloc (.cells #[.int .i64 0, .int .i64 0] 23) = Z at *
          clear hK K
          try clear Y
          obtain ⟨Y, hY⟩ : ∃ Y, Y = Z := ⟨_, rfl⟩
          subst hY
          have K : True := trivial
          have hK : True := trivial
          clear hK K
          (try simp only [Act.put, List.setIfInBounds_toArray, List.set_cons_zero, List.set_cons_succ, List.getElem_toArray, List.getElem_cons_succ, List.getElem_cons_zero])
          refine wpAnyH_ready (rs := [4]) (by kernel_rfl) (by simp) ?_
          refine AllReadyH.cons rfl (fun K hK => ?_) AllReadyH.nil
          rw [if_pos (by rfl)]
          go_simp
          obtain ⟨P7, hP7⟩ : ∃ P, P = Y.heap.size := ⟨_, rfl⟩
          (try have H78 : P7 ≠ P8 := by have := lt_of_block H8.out; omega)
          have HPw7 : Hid (w1.heap.size ≤ P7) := hid (by rw [hP7]; exact BX.out.size)
          have bXY : Below Y.heap.size Y (Y.alloc (.cells #[.int .i64 0, .int .i64 0] 23)) := (Below.refl _ _).alloc (Nat.le_refl _) _
          have H7 := hid (heap_alloc_new Y (.cells #[.int .i64 0, .int .i64 0] 23))
          rw [← hP7] at H7 ⊢
          (try replace H8 := hid ((bXY.block P8 (lt_of_block H8.out)).trans H8.out))
          replace BX := hid (BX.out.trans (bXY.mono BX.out.size))
          clear hP7 bXY
          refine hK.out _ _ (SW.out _ BX.out) (fun hHeld => ?_)
          generalize Y.alloc (.cells #[.int .i64 0, .int .i64 0] 23) = Z at *
          clear hK K
          try clear Y
          obtain ⟨Y, hY⟩ : ∃ Y, Y = Z := ⟨_, rfl⟩
          subst hY
          have K : True := trivial
          have hK : True := trivial
          clear hK K
          (try simp only [Act.put, List.setIfInBounds_toArray, List.set_cons_zero, List.set_cons_succ, List.getElem_toArray, List.getElem_cons_succ, List.getElem_cons_zero])
          refine wpAnyH_ready (rs := [6]) (by kernel_rfl) (by simp) ?_
          refine AllReadyH.cons rfl (fun K hK => ?_) AllReadyH.nil
          rw [if_pos (by rfl)]
          have c0 : Y.cell? ⟨P7, 0, none⟩ = some (.int .i64 0) := by rw [cell_of_row _ _ _ _ _ _ H7.out]; rfl
          have c1 : Y.cell? ⟨P7, 1, none⟩ = some (.int .i64 0) := by rw [cell_of_row _ _ _ _ _ _ H7.out]; rfl
          have f0 : Y.frozen? ⟨P7, 0, none⟩ = false := by simp [World.frozen?, H7.out]
          have f1 : Y.frozen? ⟨P7, 1, none⟩ = false := by simp [World.frozen?, H7.out]
          go_simp
          have e1 := heap_setCell_same Y P7 0 _ 23 (.int .i64 y1) H7.out
          have e2 := heap_setCell_same (Y.setCell ⟨P7, 0, none⟩ (.int .i64 y1)) P7 1 _ 23 (.int .i64 y2) e1
          have e3 : ((Y.setCell ⟨P7, 0, none⟩ (.int .i64 y1)).setCell ⟨P7, 1, none⟩ (.int .i64 y2)).heap[P8]? = Y.heap[P8]? := (Below.heap_setCell _ ⟨P7, 1, none⟩ _ P8 (fun e => H78 (e.symm))).trans (Below.heap_setCell _ ⟨P7, 0, none⟩ _ P8 (fun e => H78 (e.symm)))
          replace H8 := hid (e3.trans H8.out)
          replace BX := hid ((BX.out.setCell (p := ⟨P7, 0, none⟩) HPw7.out (.int .i64 y1)).setCell (p := ⟨P7, 1, none⟩) HPw7.out (.int .i64 y2))
          replace H7 : Hid (((Y.setCell ⟨P7, 0, none⟩ (.int .i64 y1)).setCell ⟨P7, 1, none⟩ (.int .i64 y2)).heap[P7]? = some (.cells #[.int .i64 y1, .int .i64 y2] 23 (0, 0))) := hid (by rw [e2]; simp)
          refine hK.out _ _ (SW.out _ BX.out) (fun hHeld => ?_)
          clear e1 e2 e3 c0 c1 f0 f1
          generalize (Y.setCell ⟨P7, 0, none⟩ (.int .i64 y1)).setCell ⟨P7, 1, none⟩ (.int .i64 y2) = Z at *
          clear hK K
          try clear Y
          obtain ⟨Y, hY⟩ : ∃ Y, Y = Z := ⟨_, rfl⟩
          subst hY
          have K : True := trivial
          have hK : True := trivial
          clear hK K
          (try simp only [Act.put, List.setIfInBounds_toArray, List.set_cons_zero, List.set_cons_succ, List.getElem_toArray, List.getElem_cons_succ, List.getElem_cons_zero])
          refine wpAnyH_ready (rs := [7]) (by kernel_rfl) (by simp) ?_
          refine AllReadyH.cons rfl (fun K hK => ?_) AllReadyH.nil
          rw [if_pos (by rfl)]
          have c0 : Y.cell? ⟨P8, 0, none⟩ = some (.int .i64 0) := by rw [cell_of_row _ _ _ _ _ _ H8.out]; rfl
          have c1 : Y.cell? ⟨P8, 1, none⟩ = some (.int .i64 0) := by rw [cell_of_row _ _ _ _ _ _ H8.out]; rfl
          have f0 : Y.frozen? ⟨P8, 0, none⟩ = false := by simp [World.frozen?, H8.out]
          have f1 : Y.frozen? ⟨P8, 1, none⟩ = false := by simp [World.frozen?, H8.out]
          go_simp
          have e1 := heap_setCell_same Y P8 0 _ 23 (.int .i64 z1) H8.out
          have e2 := heap_setCell_same (Y.setCell ⟨P8, 0, none⟩ (.int .i64 z1)) P8 1 _ 23 (.int .i64 z2) e1
          have e3 : ((Y.setCell ⟨P8, 0, none⟩ (.int .i64 z1)).setCell ⟨P8, 1, none⟩ (.int .i64 z2)).heap[P7]? = Y.heap[P7]? := (Below.heap_setCell _ ⟨P8, 1, none⟩ _ P7 (fun e => H78 (e))).trans (Below.heap_setCell _ ⟨P8, 0, none⟩ _ P7 (fun e => H78 (e)))
          replace H7 := hid (e3.trans H7.out)
          replace BX := hid ((BX.out.setCell (p := ⟨P8, 0, none⟩) HPw8.out (.int .i64 z1)).setCell (p := ⟨P8, 1, none⟩) HPw8.out (.int .i64 z2))
          replace H8 : Hid (((Y.setCell ⟨P8, 0, none⟩ (.int .i64 z1)).setCell ⟨P8, 1, none⟩ (.int .i64 z2)).heap[P8]? = some (.cells #[.int .i64 z1, .int .i64 z2] 23 (0, 0))) := hid (by rw [e2]; simp)
          refine hK.out _ _ (SW.out _ BX.out) (fun hHeld => ?_)
          clear e1 e2 e3 c0 c1 f0 f1
          generalize (Y.setCell ⟨P8, 0, none⟩ (.int .i64 z1)).setCell ⟨P8, 1, none⟩ (.int .i64 z2) = Z at *
          clear hK K
          try clear Y
          obtain ⟨Y, hY⟩ : ∃ Y, Y = Z := ⟨_, rfl⟩
          subst hY
          have K : True := trivial
          have hK : True := trivial
          clear hK K
          (try simp only [Act.put, List.setIfInBounds_toArray, List.set_cons_zero, List.set_cons_succ, List.getElem_toArray, List.getElem_cons_succ, List.getElem_cons_zero])
          refine wpAnyH_done (by kernel_rfl) ?_ _
          refine ⟨y1, y2, z1, z2, P7, P8, ?_, H7.out, H8.out, ⟨H78, HPw7.out, HPw8.out⟩, HYm.out, HZm.out, BX.out⟩
          with_reducible rfl
      · rw [if_pos (by rfl)]
        go_simp
        obtain ⟨P7, hP7⟩ : ∃ P, P = Y.heap.size := ⟨_, rfl⟩
        (try have H78 : P7 ≠ P8 := by have := lt_of_block H8.out; omega)
        have HPw7 : Hid (w1.heap.size ≤ P7) := hid (by rw [hP7]; exact BX.out.size)
        have bXY : Below Y.heap.size Y (Y.alloc (.cells #[.int .i64 0, .int .i64 0] 23)) := (Below.refl _ _).alloc (Nat.le_refl _) _
        have H7 := hid (heap_alloc_new Y (.cells #[.int .i64 0, .int .i64 0] 23))
        rw [← hP7] at H7 ⊢
        (try replace H8 := hid ((bXY.block P8 (lt_of_block H8.out)).trans H8.out))
        replace BX := hid (BX.out.trans (bXY.mono BX.out.size))
        clear hP7 bXY
        refine hK.out _ _ (SW.out _ BX.out) (fun hHeld => ?_)
        generalize Y.alloc (.cells #[.int .i64 0, .int .i64 0] 23) = Z at *
        clear hK K
        try clear Y
        obtain ⟨Y, hY⟩ : ∃ Y, Y = Z := ⟨_, rfl⟩
        subst hY
        have K : True := trivial
        have hK : True := trivial
        clear hK K
        (try simp only [Act.put, List.setIfInBounds_toArray, List.set_cons_zero, List.set_cons_succ, List.getElem_toArray, List.getElem_cons_succ, List.getElem_cons_zero])
        refine wpAnyH_ready (rs := [3, 5]) (by kernel_rfl) (by simp) ?_
        refine AllReadyH.cons rfl (fun K hK => ?_) (AllReadyH.cons rfl (fun K hK => ?_) AllReadyH.nil)
        · rw [if_pos (by rfl)]
          go_wp2_with fail
          refine (small_any (f2, t2) _).mono ?_
          rintro e Y ⟨⟨z1, z2⟩, rfl, hzm, bXY⟩
          have HZm := hid hzm
          (try replace H7 := hid ((bXY.block P7 (lt_of_block H7.out)).trans H7.out))
          (try replace H8 := hid ((bXY.block P8 (lt_of_block H8.out)).trans H8.out))
          replace BX := hid (BX.out.trans (bXY.mono BX.out.size))
          refine hK.out _ _ (SW.out _ BX.out) (fun hHeld => ?_)
          clear bXY hzm
          clear hK K
          (try simp only [Act.put, List.setIfInBounds_toArray, List.set_cons_zero, List.set_cons_succ, List.getElem_toArray, List.getElem_cons_succ, List.getElem_cons_zero])
          refine wpAnyH_ready (rs := [5]) (by kernel_rfl) (by simp) ?_
          refine AllReadyH.cons rfl (fun K hK => ?_) AllReadyH.nil
          rw [if_pos (by rfl)]
          go_simp
          obtain ⟨P8, hP8⟩ : ∃ P, P = Y.heap.size := ⟨_, rfl⟩
          (try have H78 : P7 ≠ P8 := by have := lt_of_block H7.out; omega)
          have HPw8 : Hid (w1.heap.size ≤ P8) := hid (by rw [hP8]; exact BX.out.size)
          have bXY : Below Y.heap.size Y (Y.alloc (.cells #[.int .i64 0, .int .i64 0] 23)) := (Below.refl _ _).alloc (Nat.le_refl _) _
          have H8 := hid (heap_alloc_new Y (.cells #[.int .i64 0, .int .i64 0] 23))
          rw [← hP8] at H8 ⊢
          (try replace H7 := hid ((bXY.block P7 (lt_of_block H7.out)).trans H7.out))
          replace BX := hid (BX.out.trans (bXY.mono BX.out.size))
          clear hP8 bXY
          refine hK.out _ _ (SW.out _ BX.out) (fun hHeld => ?_)
          generalize Y.alloc (.cells #[.int .i64 0, .int .i64 0] 23) = Z at *
          clear hK K
          try clear Y
          obtain ⟨Y, hY⟩ : ∃ Y, Y = Z := ⟨_, rfl⟩
          subst hY
          have K : True := trivial
          have hK : True := trivial
          clear hK K
          (try simp only [Act.put, List.setIfInBounds_toArray, List.set_cons_zero, List.set_cons_succ, List.getElem_toArray, List.getElem_cons_succ, List.getElem_cons_zero])
          refine wpAnyH_ready (rs := [6]) (by kernel_rfl) (by simp) ?_
          refine AllReadyH.cons rfl (fun K hK => ?_) AllReadyH.nil
          rw [if_pos (by rfl)]
          have c0 : Y.cell? ⟨P7, 0, none⟩ = some (.int .i64 0) := by rw [cell_of_row _ _ _ _ _ _ H7.out]; rfl
          have c1 : Y.cell? ⟨P7, 1, none⟩ = some (.int .i64 0) := by rw [cell_of_row _ _ _ _ _ _ H7.out]; rfl
          have f0 : Y.frozen? ⟨P7, 0, none⟩ = false := by simp [World.frozen?, H7.out]
          have f1 : Y.frozen? ⟨P7, 1, none⟩ = false := by simp [World.frozen?, H7.out]
          go_simp
          have e1 := heap_setCell_same Y P7 0 _ 23 (.int .i64 y1) H7.out
          have e2 := heap_setCell_same (Y.setCell ⟨P7, 0, none⟩ (.int .i64 y1)) P7 1 _ 23 (.int .i64 y2) e1
          have e3 : ((Y.setCell ⟨P7, 0, none⟩ (.int .i64 y1)).setCell ⟨P7, 1, none⟩ (.int .i64 y2)).heap[P8]? = Y.heap[P8]? := (Below.heap_setCell _ ⟨P7, 1, none⟩ _ P8 (fun e => H78 (e.symm))).trans (Below.heap_setCell _ ⟨P7, 0, none⟩ _ P8 (fun e => H78 (e.symm)))
          replace H8 := hid (e3.trans H8.out)
          replace BX := hid ((BX.out.setCell (p := ⟨P7, 0, none⟩) HPw7.out (.int .i64 y1)).setCell (p := ⟨P7, 1, none⟩) HPw7.out (.int .i64 y2))
          replace H7 : Hid (((Y.setCell ⟨P7, 0, none⟩ (.int .i64 y1)).setCell ⟨P7, 1, none⟩ (.int .i64 y2)).heap[P7]? = some (.cells #[.int .i64 y1, .int .i64 y2] 23 (0, 0))) := hid (by rw [e2]; simp)
          refine hK.out _ _ (SW.out _ BX.out) (fun hHeld => ?_)
          clear e1 e2 e3 c0 c1 f0 f1
          generalize (Y.setCell ⟨P7, 0, none⟩ (.int .i64 y1)).setCell ⟨P7, 1, none⟩ (.int .i64 y2) = Z at *
          clear hK K
          try clear Y
          obtain ⟨Y, hY⟩ : ∃ Y, Y = Z := ⟨_, rfl⟩
          subst hY
          have K : True := trivial
          have hK : True := trivial
          clear hK K
          (try simp only [Act.put, List.setIfInBounds_toArray, List.set_cons_zero, List.set_cons_succ, List.getElem_toArray, List.getElem_cons_succ, List.getElem_cons_zero])
          refine wpAnyH_ready (rs := [7]) (by kernel_rfl) (by simp) ?_
          refine AllReadyH.cons rfl (fun K hK => ?_) AllReadyH.nil
          rw [if_pos (by rfl)]
          have c0 : Y.cell? ⟨P8, 0, none⟩ = some (.int .i64 0) := by rw [cell_of_row _ _ _ _ _ _ H8.out]; rfl
          have c1 : Y.cell? ⟨P8, 1, none⟩ = some (.int .i64 0) := by rw [cell_of_row _ _ _ _ _ _ H8.out]; rfl
          have f0 : Y.frozen? ⟨P8, 0, none⟩ = false := by simp [World.frozen?, H8.out]
          have f1 : Y.frozen? ⟨P8, 1, none⟩ = false := by simp [World.frozen?, H8.out]
          go_simp
          have e1 := heap_setCell_same Y P8 0 _ 23 (.int .i64 z1) H8.out
          have e2 := heap_setCell_same (Y.setCell ⟨P8, 0, none⟩ (.int .i64 z1)) P8 1 _ 23 (.int .i64 z2) e1
          have e3 : ((Y.setCell ⟨P8, 0, none⟩ (.int .i64 z1)).setCell ⟨P8, 1, none⟩ (.int .i64 z2)).heap[P7]? = Y.heap[P7]? := (Below.heap_setCell _ ⟨P8, 1, none⟩ _ P7 (fun e => H78 (e))).trans (Below.heap_setCell _ ⟨P8, 0, none⟩ _ P7 (fun e => H78 (e)))
          replace H7 := hid (e3.trans H7.out)
          replace BX := hid ((BX.out.setCell (p := ⟨P8, 0, none⟩) HPw8.out (.int .i64 z1)).setCell (p := ⟨P8, 1, none⟩) HPw8.out (.int .i64 z2))
          replace H8 : Hid (((Y.setCell ⟨P8, 0, none⟩ (.int .i64 z1)).setCell ⟨P8, 1, none⟩ (.int .i64 z2)).heap[P8]? = some (.cells #[.int .i64 z1, .int .i64 z2] 23 (0, 0))) := hid (by rw [e2]; simp)
          refine hK.out _ _ (SW.out _ BX.out) (fun hHeld => ?_)
          clear e1 e2 e3 c0 c1 f0 f1
          generalize (Y.setCell ⟨P8, 0, none⟩ (.int .i64 z1)).setCell ⟨P8, 1, none⟩ (.int .i64 z2) = Z at *
          clear hK K
          try clear Y
          obtain ⟨Y, hY⟩ : ∃ Y, Y = Z := ⟨_, rfl⟩
          subst hY
          have K : True := trivial
          have hK : True := trivial
          clear hK K
          (try simp only [Act.put, List.setIfInBounds_toArray, List.set_cons_zero, List.set_cons_succ, List.getElem_toArray, List.getElem_cons_succ, List.getElem_cons_zero])
          refine wpAnyH_done (by kernel_rfl) ?_ _
          refine ⟨y1, y2, z1, z2, P7, P8, ?_, H7.out, H8.out, ⟨H78, HPw7.out, HPw8.out⟩, HYm.out, HZm.out, BX.out⟩
          with_reducible rfl
        · rw [if_pos (by rfl)]
          go_simp
          obtain ⟨P8, hP8⟩ : ∃ P, P = Y.heap.size := ⟨_, rfl⟩
          (try have H78 : P7 ≠ P8 := by have := lt_of_block H7.out; omega)
          have HPw8 : Hid (w1.heap.size ≤ P8) := hid (by rw [hP8]; exact BX.out.size)
          have bXY : Below Y.heap.size Y (Y.alloc (.cells #[.int .i64 0, .int .i64 0] 23)) := (Below.refl _ _).alloc (Nat.le_refl _) _
          have H8 := hid (heap_alloc_new Y (.cells #[.int .i64 0, .int .i64 0] 23))
          rw [← hP8] at H8 ⊢
          (try replace H7 := hid ((bXY.block P7 (lt_of_block H7.out)).trans H7.out))
          replace BX := hid (BX.out.trans (bXY.mono BX.out.size))
          clear hP8 bXY
          refine hK.out _ _ (SW.out _ BX.out) (fun hHeld => ?_)
          generalize Y.alloc (.cells #[.int .i64 0, .int .i64 0] 23) = Z at *
          clear hK K
          try clear Y
          obtain ⟨Y, hY⟩ : ∃ Y, Y = Z := ⟨_, rfl⟩
          subst hY
          have K : True := trivial
          have hK : True := trivial
          clear hK K
          (try simp only [Act.put, List.setIfInBounds_toArray, List.set_cons_zero, List.set_cons_succ, List.getElem_toArray, List.getElem_cons_succ, List.getElem_cons_zero])
          refine wpAnyH_ready (rs := [3]) (by kernel_rfl) (by simp) ?_
          refine AllReadyH.cons rfl (fun K hK => ?_) AllReadyH.nil
          rw [if_pos (by rfl)]
          go_wp2_with fail
          refine (small_any (f2, t2) _).mono ?_
          rintro e Y ⟨⟨z1, z2⟩, rfl, hzm, bXY⟩
          have HZm := hid hzm
          (try replace H7 := hid ((bXY.block P7 (lt_of_block H7.out)).trans H7.out))
          (try replace H8 := hid ((bXY.block P8 (lt_of_block H8.out)).trans H8.out))
          replace BX := hid (BX.out.trans (bXY.mono BX.out.size))
          refine hK.out _ _ (SW.out _ BX.out) (fun hHeld => ?_)
          clear bXY hzm
          clear hK K
          (try simp only [Act.put, List.setIfInBounds_toArray, List.set_cons_zero, List.set_cons_succ, List.getElem_toArray, List.getElem_cons_succ, List.getElem_cons_zero])
          refine wpAnyH_ready (rs := [6]) (by kernel_rfl) (by simp) ?_
          refine AllReadyH.cons rfl (fun K hK => ?_) AllReadyH.nil
          rw [if_pos (by rfl)]
          have c0 : Y.cell? ⟨P7, 0, none⟩ = some (.int .i64 0) := by rw [cell_of_row _ _ _ _ _ _ H7.out]; rfl
          have c1 : Y.cell? ⟨P7, 1, none⟩ = some (.int .i64 0) := by rw [cell_of_row _ _ _ _ _ _ H7.out]; rfl
          have f0 : Y.frozen? ⟨P7, 0, none⟩ = false := by simp [World.frozen?, H7.out]
          have f1 : Y.frozen? ⟨P7, 1, none⟩ = false := by simp [World.frozen?, H7.out]
          go_simp
          have e1 := heap_setCell_same Y P7 0 _ 23 (.int .i64 y1) H7.out
          have e2 := heap_setCell_same (Y.setCell ⟨P7, 0, none⟩ (.int .i64 y1)) P7 1 _ 23 (.int .i64 y2) e1
          have e3 : ((Y.setCell ⟨P7, 0, none⟩ (.int .i64 y1)).setCell ⟨P7, 1, none⟩ (.int .i64 y2)).heap[P8]? = Y.heap[P8]? := (Below.heap_setCell _ ⟨P7, 1, none⟩ _ P8 (fun e => H78 (e.symm))).trans (Below.heap_setCell _ ⟨P7, 0, none⟩ _ P8 (fun e => H78 (e.symm)))
          replace H8 := hid (e3.trans H8.out)
          replace BX := hid ((BX.out.setCell (p := ⟨P7, 0, none⟩) HPw7.out (.int .i64 y1)).setCell (p := ⟨P7, 1, none⟩) HPw7.out (.int .i64 y2))
          replace H7 : Hid (((Y.setCell ⟨P7, 0, none⟩ (.int .i64 y1)).setCell ⟨P7, 1, none⟩ (.int .i64 y2)).heap[P7]? = some (.cells #[.int .i64 y1, .int .i64 y2] 23 (0, 0))) := hid (by rw [e2]; simp)
          refine hK.out _ _ (SW.out _ BX.out) (fun hHeld => ?_)
          clear e1 e2 e3 c0 c1 f0 f1
          generalize (Y.setCell ⟨P7, 0, none⟩ (.int .i64 y1)).setCell ⟨P7, 1, none⟩ (.int .i64 y2) = Z at *
          clear hK K
          try clear Y
          obtain ⟨Y, hY⟩ : ∃ Y, Y = Z := ⟨_, rfl⟩
          subst hY
          have K : True := trivial
          have hK : True := trivial
          clear hK K
          (try simp only [Act.put, List.setIfInBounds_toArray, List.set_cons_zero, List.set_cons_succ, List.getElem_toArray, List.getElem_cons_succ, List.getElem_cons_zero])
          refine wpAnyH_ready (rs := [7]) (by kernel_rfl) (by simp) ?_
          refine AllReadyH.cons rfl (fun K hK => ?_) AllReadyH.nil
          rw [if_pos (by rfl)]
          have c0 : Y.cell? ⟨P8, 0, none⟩ = some (.int .i64 0) := by rw [cell_of_row _ _ _ _ _ _ H8.out]; rfl
          have c1 : Y.cell? ⟨P8, 1, none⟩ = some (.int .i64 0) := by rw [cell_of_row _ _ _ _ _ _ H8.out]; rfl
          have f0 : Y.frozen? ⟨P8, 0, none⟩ = false := by simp [World.frozen?, H8.out]
          have f1 : Y.frozen? ⟨P8, 1, none⟩ = false := by simp [World.frozen?, H8.out]
          go_simp
          have e1 := heap_setCell_same Y P8 0 _ 23 (.int .i64 z1) H8.out
          have e2 := heap_setCell_same (Y.setCell ⟨P8, 0, none⟩ (.int .i64 z1)) P8 1 _ 23 (.int .i64 z2) e1
          have e3 : ((Y.setCell ⟨P8, 0, none⟩ (.int .i64 z1)).setCell ⟨P8, 1, none⟩ (.int .i64 z2)).heap[P7]? = Y.heap[P7]? := (Below.heap_setCell _ ⟨P8, 1, none⟩ _ P7 (fun e => H78 (e))).trans (Below.heap_setCell _ ⟨P8, 0, none⟩ _ P7 (fun e => H78 (e)))
          replace H7 := hid (e3.trans H7.out)
          replace BX := hid ((BX.out.setCell (p := ⟨P8, 0, none⟩) HPw8.out (.int .i64 z1)).setCell (p := ⟨P8, 1, none⟩) HPw8.out (.int .i64 z2))
          replace H8 : Hid (((Y.setCell ⟨P8, 0, none⟩ (.int .i64 z1)).setCell ⟨P8, 1, none⟩ (.int .i64 z2)).heap[P8]? = some (.cells #[.int .i64 z1, .int .i64 z2] 23 (0, 0))) := hid (by rw [e2]; simp)
          refine hK.out _ _ (SW.out _ BX.out) (fun hHeld => ?_)
          clear e1 e2 e3 c0 c1 f0 f1
          generalize (Y.setCell ⟨P8, 0, none⟩ (.int .i64 z1)).setCell ⟨P8, 1, none⟩ (.int .i64 z2) = Z at *
          clear hK K
          try clear Y
          obtain ⟨Y, hY⟩ : ∃ Y, Y = Z := ⟨_, rfl⟩
          subst hY
          have K : True := trivial
          have hK : True := trivial
          clear hK K
          (try simp only [Act.put, List.setIfInBounds_toArray, List.set_cons_zero, List.set_cons_succ, List.getElem_toArray, List.getElem_cons_succ, List.getElem_cons_zero])
          refine wpAnyH_done (by kernel_rfl) ?_ _
          refine ⟨y1, y2, z1, z2, P7, P8, ?_, H7.out, H8.out, ⟨H78, HPw7.out, HPw8.out⟩, HYm.out, HZm.out, BX.out⟩
          with_reducible rfl
      · rw [if_pos (by rfl)]
        go_simp
        obtain ⟨P8, hP8⟩ : ∃ P, P = Y.heap.size := ⟨_, rfl⟩
        (try have H78 : P7 ≠ P8 := by have := lt_of_block H7.out; omega)
        have HPw8 : Hid (w1.heap.size ≤ P8) := hid (by rw [hP8]; exact BX.out.size)
        have bXY : Below Y.heap.size Y (Y.alloc (.cells #[.int .i64 0, .int .i64 0] 23)) := (Below.refl _ _).alloc (Nat.le_refl _) _
        have H8 := hid (heap_alloc_new Y (.cells #[.int .i64 0, .int .i64 0] 23))
        rw [← hP8] at H8 ⊢
        (try replace H7 := hid ((bXY.block P7 (lt_of_block H7.out)).trans H7.out))
        replace BX := hid (BX.out.trans (bXY.mono BX.out.size))
        clear hP8 bXY
        refine hK.out _ _ (SW.out _ BX.out) (fun hHeld => ?_)
        generalize Y.alloc (.cells #[.int .i64 0, .int .i64 0] 23) = Z at *
        clear hK K
        try clear Y
        obtain ⟨Y, hY⟩ : ∃ Y, Y = Z := ⟨_, rfl⟩
        subst hY
        have K : True := trivial
        have hK : True := trivial
        clear hK K
        (try simp only [Act.put, List.setIfInBounds_toArray, List.set_cons_zero, List.set_cons_succ, List.getElem_toArray, List.getElem_cons_succ, List.getElem_cons_zero])
        refine wpAnyH_ready (rs := [3, 4]) (by kernel_rfl) (by simp) ?_
        refine AllReadyH.cons rfl (fun K hK => ?_) (AllReadyH.cons rfl (fun K hK => ?_) AllReadyH.nil)
        · rw [if_pos (by rfl)]
          go_wp2_with fail
          refine (small_any (f2, t2) _).mono ?_
          rintro e Y ⟨⟨z1, z2⟩, rfl, hzm, bXY⟩
          have HZm := hid hzm
          (try replace H7 := hid ((bXY.block P7 (lt_of_block H7.out)).trans H7.out))
          (try replace H8 := hid ((bXY.block P8 (lt_of_block H8.out)).trans H8.out))
          replace BX := hid (BX.out.trans (bXY.mono BX.out.size))
          refine hK.out _ _ (SW.out _ BX.out) (fun hHeld => ?_)
          clear bXY hzm
          clear hK K
          (try simp only [Act.put, List.setIfInBounds_toArray, List.set_cons_zero, List.set_cons_succ, List.getElem_toArray, List.getElem_cons_succ, List.getElem_cons_zero])
          refine wpAnyH_ready (rs := [4]) (by kernel_rfl) (by simp) ?_
          refine AllReadyH.cons rfl (fun K hK => ?_) AllReadyH.nil
          rw [if_pos (by rfl)]
          go_simp
          obtain ⟨P7, hP7⟩ : ∃ P, P = Y.heap.size := ⟨_, rfl⟩
          (try have H78 : P7 ≠ P8 := by have := lt_of_block H8.out; omega)
          have HPw7 : Hid (w1.heap.size ≤ P7) := hid (by rw [hP7]; exact BX.out.size)
          have bXY : Below Y.heap.size Y (Y.alloc (.cells #[.int .i64 0, .int .i64 0] 23)) := (Below.refl _ _).alloc (Nat.le_refl _) _
          have H7 := hid (heap_alloc_new Y (.cells #[.int .i64 0, .int .i64 0] 23))
          rw [← hP7] at H7 ⊢
          (try replace H8 := hid ((bXY.block P8 (lt_of_block H8.out)).trans H8.out))
          replace BX := hid (BX.out.trans (bXY.mono BX.out.size))
          clear hP7 bXY
          refine hK.out _ _ (SW.out _ BX.out) (fun hHeld => ?_)
          generalize Y.alloc (.cells #[.int .i64 0, .int .i64 0] 23) = Z at *
          clear hK K
          try clear Y
          obtain ⟨Y, hY⟩ : ∃ Y, Y = Z := ⟨_, rfl⟩
          subst hY
          have K : True := trivial
          have hK : True := trivial
          clear hK K
          (try simp only [Act.put, List.setIfInBounds_toArray, List.set_cons_zero, List.set_cons_succ, List.getElem_toArray, List.getElem_cons_succ, List.getElem_cons_zero])
          refine wpAnyH_ready (rs := [6]) (by kernel_rfl) (by simp) ?_
          refine AllReadyH.cons rfl (fun K hK => ?_) AllReadyH.nil
          rw [if_pos (by rfl)]
          have c0 : Y.cell? ⟨P7, 0, none⟩ = some (.int .i64 0) := by rw [cell_of_row _ _ _ _ _ _ H7.out]; rfl
          have c1 : Y.cell? ⟨P7, 1, none⟩ = some (.int .i64 0) := by rw [cell_of_row _ _ _ _ _ _ H7.out]; rfl
          have f0 : Y.frozen? ⟨P7, 0, none⟩ = false := by simp [World.frozen?, H7.out]
          have f1 : Y.frozen? ⟨P7, 1, none⟩ = false := by simp [World.frozen?, H7.out]
          go_simp
          have e1 := heap_setCell_same Y P7 0 _ 23 (.int .i64 y1) H7.out
          have e2 := heap_setCell_same (Y.setCell ⟨P7, 0, none⟩ (.int .i64 y1)) P7 1 _ 23 (.int .i64 y2) e1
          have e3 : ((Y.setCell ⟨P7, 0, none⟩ (.int .i64 y1)).setCell ⟨P7, 1, none⟩ (.int .i64 y2)).heap[P8]? = Y.heap[P8]? := (Below.heap_setCell _ ⟨P7, 1, none⟩ _ P8 (fun e => H78 (e.symm))).trans (Below.heap_setCell _ ⟨P7, 0, none⟩ _ P8 (fun e => H78 (e.symm)))
          replace H8 := hid (e3.trans H8.out)
          replace BX := hid ((BX.out.setCell (p := ⟨P7, 0, none⟩) HPw7.out (.int .i64 y1)).setCell (p := ⟨P7, 1, none⟩) HPw7.out (.int .i64 y2))
          replace H7 : Hid (((Y.setCell ⟨P7, 0, none⟩ (.int .i64 y1)).setCell ⟨P7, 1, none⟩ (.int .i64 y2)).heap[P7]? = some (.cells #[.int .i64 y1, .int .i64 y2] 23 (0, 0))) := hid (by rw [e2]; simp)
          refine hK.out _ _ (SW.out _ BX.out) (fun hHeld => ?_)
          clear e1 e2 e3 c0 c1 f0 f1
          generalize (Y.setCell ⟨P7, 0, none⟩ (.int .i64 y1)).setCell ⟨P7, 1, none⟩ (.int .i64 y2) = Z at *
          clear hK K
          try clear Y
          obtain ⟨Y, hY⟩ : ∃ Y, Y = Z := ⟨_, rfl⟩
          subst hY
          have K : True := trivial
          have hK : True := trivial
          clear hK K
          (try simp only [Act.put, List.setIfInBounds_toArray, List.set_cons_zero, List.set_cons_succ, List.getElem_toArray, List.getElem_cons_succ, List.getElem_cons_zero])
          refine wpAnyH_ready (rs := [7]) (by kernel_rfl) (by simp) ?_
          refine AllReadyH.cons rfl (fun K hK => ?_) AllReadyH.nil
          rw [if_pos (by rfl)]
          have c0 : Y.cell? ⟨P8, 0, none⟩ = some (.int .i64 0) := by rw [cell_of_row _ _ _ _ _ _ H8.out]; rfl
          have c1 : Y.cell? ⟨P8, 1, none⟩ = some (.int .i64 0) := by rw [cell_of_row _ _ _ _ _ _ H8.out]; rfl
          have f0 : Y.frozen? ⟨P8, 0, none⟩ = false := by simp [World.frozen?, H8.out]
          have f1 : Y.frozen? ⟨P8, 1, none⟩ = false := by simp [World.frozen?, H8.out]
          go_simp
          have e1 := heap_setCell_same Y P8 0 _ 23 (.int .i64 z1) H8.out
          have e2 := heap_setCell_same (Y.setCell ⟨P8, 0, none⟩ (.int .i64 z1)) P8 1 _ 23 (.int .i64 z2) e1
          have e3 : ((Y.setCell ⟨P8, 0, none⟩ (.int .i64 z1)).setCell ⟨P8, 1, none⟩ (.int .i64 z2)).heap[P7]? = Y.heap[P7]? := (Below.heap_setCell _ ⟨P8, 1, none⟩ _ P7 (fun e => H78 (e))).trans (Below.heap_setCell _ ⟨P8, 0, none⟩ _ P7 (fun e => H78 (e)))
          replace H7 := hid (e3.trans H7.out)
          replace BX := hid ((BX.out.setCell (p := ⟨P8, 0, none⟩) HPw8.out (.int .i64 z1)).setCell (p := ⟨P8, 1, none⟩) HPw8.out (.int .i64 z2))
          replace H8 : Hid (((Y.setCell ⟨P8, 0, none⟩ (.int .i64 z1)).setCell ⟨P8, 1, none⟩ (.int .i64 z2)).heap[P8]? = some (.cells #[.int .i64 z1, .int .i64 z2] 23 (0, 0))) := hid (by rw [e2]; simp)
          refine hK.out _ _ (SW.out _ BX.out) (fun hHeld => ?_)
          clear e1 e2 e3 c0 c1 f0 f1
          generalize (Y.setCell ⟨P8, 0, none⟩ (.int .i64 z1)).setCell ⟨P8, 1, none⟩ (.int .i64 z2) = Z at *
          clear hK K
          try clear Y
          obtain ⟨Y, hY⟩ : ∃ Y, Y = Z := ⟨_, rfl⟩
          subst hY
          have K : True := trivial
          have hK : True := trivial
          clear hK K
          (try simp only [Act.put, List.setIfInBounds_toArray, List.set_cons_zero, List.set_cons_succ, List.getElem_toArray, List.getElem_cons_succ, List.getElem_cons_zero])
          refine wpAnyH_done (by kernel_rfl) ?_ _
          refine ⟨y1, y2, z1, z2, P7, P8, ?_, H7.out, H8.out, ⟨H78, HPw7.out, HPw8.out⟩, HYm.out, HZm.out, BX.out⟩
          with_reducible rfl
        · rw [if_pos (by rfl)]
          go_simp
          obtain ⟨P7, hP7⟩ : ∃ P, P = Y.heap.size := ⟨_, rfl⟩
          (try have H78 : P7 ≠ P8 := by have := lt_of_block H8.out; omega)
          have HPw7 : Hid (w1.heap.size ≤ P7) := hid (by rw [hP7]; exact BX.out.size)
          have bXY : Below Y.heap.size Y (Y.alloc (.cells #[.int .i64 0, .int .i64 0] 23)) := (Below.refl _ _).alloc (Nat.le_refl _) _
          have H7 := hid (heap_alloc_new Y (.cells #[.int .i64 0, .int .i64 0] 23))
          rw [← hP7] at H7 ⊢
          (try replace H8 := hid ((bXY.block P8 (lt_of_block H8.out)).trans H8.out))
          replace BX := hid (BX.out.trans (bXY.mono BX.out.size))
          clear hP7 bXY
          refine hK.out _ _ (SW.out _ BX.out) (fun hHeld => ?_)
          generalize Y.alloc (.cells #[.int .i64 0, .int .i64 0] 23) = Z at *
          clear hK K
          try clear Y
          obtain ⟨Y, hY⟩ : ∃ Y, Y = Z := ⟨_, rfl⟩
          subst hY
          have K : True := trivial
          have hK : True := trivial
          clear hK K
          (try simp only [Act.put, List.setIfInBounds_toArray, List.set_cons_zero, List.set_cons_succ, List.getElem_toArray, List.getElem_cons_succ, List.getElem_cons_zero])
          refine wpAnyH_ready (rs := [3]) (by kernel_rfl) (by simp) ?_
          refine AllReadyH.cons rfl (fun K hK => ?_) AllReadyH.nil
          rw [if_pos (by rfl)]
          go_wp2_with fail
          refine (small_any (f2, t2) _).mono ?_
          rintro e Y ⟨⟨z1, z2⟩, rfl, hzm, bXY⟩
          have HZm := hid hzm
          (try replace H7 := hid ((bXY.block P7 (lt_of_block H7.out)).trans H7.out))
          (try replace H8 := hid ((bXY.block P8 (lt_of_block H8.out)).trans H8.out))
          replace BX := hid (BX.out.trans (bXY.mono BX.out.size))
          refine hK.out _ _ (SW.out _ BX.out) (fun hHeld => ?_)
          clear bXY hzm
          clear hK K
          (try simp only [Act.put, List.setIfInBounds_toArray, List.set_cons_zero, List.set_cons_succ, List.getElem_toArray, List.getElem_cons_succ, List.getElem_cons_zero])
          refine wpAnyH_ready (rs := [6]) (by kernel_rfl) (by simp) ?_
          refine AllReadyH.cons rfl (fun K hK => ?_) AllReadyH.nil
          rw [if_pos (by rfl)]
          have c0 : Y.cell? ⟨P7, 0, none⟩ = some (.int .i64 0) := by rw [cell_of_row _ _ _ _ _ _ H7.out]; rfl
          have c1 : Y.cell? ⟨P7, 1, none⟩ = some (.int .i64 0) := by rw [cell_of_row _ _ _ _ _ _ H7.out]; rfl
          have f0 : Y.frozen? ⟨P7, 0, none⟩ = false := by simp [World.frozen?, H7.out]
          have f1 : Y.frozen? ⟨P7, 1, none⟩ = false := by simp [World.frozen?, H7.out]
          go_simp
          have e1 := heap_setCell_same Y P7 0 _ 23 (.int .i64 y1) H7.out
          have e2 := heap_setCell_same (Y.setCell ⟨P7, 0, none⟩ (.int .i64 y1)) P7 1 _ 23 (.int .i64 y2) e1
          have e3 : ((Y.setCell ⟨P7, 0, none⟩ (.int .i64 y1)).setCell ⟨P7, 1, none⟩ (.int .i64 y2)).heap[P8]? = Y.heap[P8]? := (Below.heap_setCell _ ⟨P7, 1, none⟩ _ P8 (fun e => H78 (e.symm))).trans (Below.heap_setCell _ ⟨P7, 0, none⟩ _ P8 (fun e => H78 (e.symm)))
          replace H8 := hid (e3.trans H8.out)
          replace BX := hid ((BX.out.setCell (p := ⟨P7, 0, none⟩) HPw7.out (.int .i64 y1)).setCell (p := ⟨P7, 1, none⟩) HPw7.out (.int .i64 y2))
          replace H7 : Hid (((Y.setCell ⟨P7, 0, none⟩ (.int .i64 y1)).setCell ⟨P7, 1, none⟩ (.int .i64 y2)).heap[P7]? = some (.cells #[.int .i64 y1, .int .i64 y2] 23 (0, 0))) := hid (by rw [e2]; simp)
          refine hK.out _ _ (SW.out _ BX.out) (fun hHeld => ?_)
          clear e1 e2 e3 c0 c1 f0 f1
          generalize (Y.setCell ⟨P7, 0, none⟩ (.int .i64 y1)).setCell ⟨P7, 1, none⟩ (.int .i64 y2) = Z at *
          clear hK K
          try clear Y
          obtain ⟨Y, hY⟩ : ∃ Y, Y = Z := ⟨_, rfl⟩
          subst hY
          have K : True := trivial
          have hK : True := trivial
          clear hK K
          (try simp only [Act.put, List.setIfInBounds_toArray, List.set_cons_zero, List.set_cons_succ, List.getElem_toArray, List.getElem_cons_succ, List.getElem_cons_zero])
          refine wpAnyH_ready (rs := [7]) (by kernel_rfl) (by simp) ?_
          refine AllReadyH.cons rfl (fun K hK => ?_) AllReadyH.nil
          rw [if_pos (by rfl)]
          have c0 : Y.cell? ⟨P8, 0, none⟩ = some (.int .i64 0) := by rw [cell_of_row _ _ _ _ _ _ H8.out]; rfl
          have c1 : Y.cell? ⟨P8, 1, none⟩ = some (.int .i64 0) := by rw [cell_of_row _ _ _ _ _ _ H8.out]; rfl
          have f0 : Y.frozen? ⟨P8, 0, none⟩ = false := by simp [World.frozen?, H8.out]
          have f1 : Y.frozen? ⟨P8, 1, none⟩ = false := by simp [World.frozen?, H8.out]
          go_simp
          have e1 := heap_setCell_same Y P8 0 _ 23 (.int .i64 z1) H8.out
          have e2 := heap_setCell_same (Y.setCell ⟨P8, 0, none⟩ (.int .i64 z1)) P8 1 _ 23 (.int .i64 z2) e1
          have e3 : ((Y.setCell ⟨P8, 0, none⟩ (.int .i64 z1)).setCell ⟨P8, 1, none⟩ (.int .i64 z2)).heap[P7]? = Y.heap[P7]? := (Below.heap_setCell _ ⟨P8, 1, none⟩ _ P7 (fun e => H78 (e))).trans (Below.heap_setCell _ ⟨P8, 0, none⟩ _ P7 (fun e => H78 (e)))
          replace H7 := hid (e3.trans H7.out)
          replace BX := hid ((BX.out.setCell (p := ⟨P8, 0, none⟩) HPw8.out (.int .i64 z1)).setCell (p := ⟨P8, 1, none⟩) HPw8.out (.int .i64 z2))
          replace H8 : Hid (((Y.setCell ⟨P8, 0, none⟩ (.int .i64 z1)).setCell ⟨P8, 1, none⟩ (.int .i64 z2)).heap[P8]? = some (.cells #[.int .i64 z1, .int .i64 z2] 23 (0, 0))) := hid (by rw [e2]; simp)
          refine hK.out _ _ (SW.out _ BX.out) (fun hHeld => ?_)
          clear e1 e2 e3 c0 c1 f0 f1
          generalize (Y.setCell ⟨P8, 0, none⟩ (.int .i64 z1)).setCell ⟨P8, 1, none⟩ (.int .i64 z2) = Z at *
          clear hK K
          try clear Y
          obtain ⟨Y, hY⟩ : ∃ Y, Y = Z := ⟨_, rfl⟩
          subst hY
          have K : True := trivial
          have hK : True := trivial
          clear hK K
          (try simp only [Act.put, List.setIfInBounds_toArray, List.set_cons_zero, List.set_cons_succ, List.getElem_toArray, List.getElem_cons_succ, List.getElem_cons_zero])
          refine wpAnyH_done (by kernel_rfl) ?_ _
          refine ⟨y1, y2, z1, z2, P7, P8, ?_, H7.out, H8.out, ⟨H78, HPw7.out, HPw8.out⟩, HYm.out, HZm.out, BX.out⟩
          with_reducible rfl
    · rw [if_pos (by rfl)]
      go_simp
      obtain ⟨P7, hP7⟩ : ∃ P, P = Y.heap.size := ⟨_, rfl⟩
      (try have H78 : P7 ≠ P8 := by have := lt_of_block H8.out; omega)
      have HPw7 : Hid (w1.heap.size ≤ P7) := hid (by rw [hP7]; exact BX.out.size)
      have bXY : Below Y.heap.size Y (Y.alloc (.cells #[.int .i64 0, .int .i64 0] 23)) := (Below.refl _ _).alloc (Nat.le_refl _) _
      have H7 := hid (heap_alloc_new Y (.cells #[.int .i64 0, .int .i64 0] 23))
      rw [← hP7] at H7 ⊢
      (try replace H8 := hid ((bXY.block P8 (lt_of_block H8.out)).trans H8.out))
      replace BX := hid (BX.out.trans (bXY.mono BX.out.size))
      clear hP7 bXY
      refine hK.out _ _ (SW.out _ BX.out) (fun hHeld => ?_)
      generalize Y.alloc (.cells #[.int .i64 0, .int .i64 0] 23) = Z at *
      clear hK K
      try clear Y
      obtain ⟨Y, hY⟩ : ∃ Y, Y = Z := ⟨_, rfl⟩
      subst hY
      have K : True := trivial
      have hK : True := trivial
      clear hK K
      (try simp only [Act.put, List.setIfInBounds_toArray, List.set_cons_zero, List.set_cons_succ, List.getElem_toArray, List.getElem_cons_succ, List.getElem_cons_zero])
      refine wpAnyH_ready (rs := [1, 5]) (by kernel_rfl) (by simp) ?_
      refine AllReadyH.cons rfl (fun K hK => ?_) (AllReadyH.cons rfl (fun K hK => ?_) AllReadyH.nil)
      · rw [if_pos (by rfl)]
        go_wp2_with fail
        refine (small_any (f, t) _).mono ?_
        rintro e Y ⟨⟨y1, y2⟩, rfl, hym, bXY⟩
        have HYm := hid hym
        (try replace H7 := hid ((bXY.block P7 (lt_of_block H7.out)).trans H7.out))
        (try replace H8 := hid ((bXY.block P8 (lt_of_block H8.out)).trans H8.out))
        replace BX := hid (BX.out.trans (bXY.mono BX.out.size))
        refine hK.out _ _ (SW.out _ BX.out) (fun hHeld => ?_)
        clear bXY hym
        clear hK K
        (try simp only [Act.put, List.setIfInBounds_toArray, List.set_cons_zero, List.set_cons_succ, List.getElem_toArray, List.getElem_cons_succ, List.getElem_cons_zero])
        refine wpAnyH_ready (rs := [3, 5]) (by kernel_rfl) (by simp) ?_
        refine AllReadyH.cons rfl (fun K hK => ?_) (AllReadyH.cons rfl (fun K hK => ?_) AllReadyH.nil)
        · rw [if_pos (by rfl)]
          go_wp2_with fail
          refine (small_any (f2, t2) _).mono ?_
          rintro e Y ⟨⟨z1, z2⟩, rfl, hzm, bXY⟩
          have HZm := hid hzm
          (try replace H7 := hid ((bXY.block P7 (lt_of_block H7.out)).trans H7.out))
          (try replace H8 := hid ((bXY.block P8 (lt_of_block H8.out)).trans H8.out))
          replace BX := hid (BX.out.trans (bXY.mono BX.out.size))
          refine hK.out _ _ (SW.out _ BX.out) (fun hHeld => ?_)
          clear bXY hzm
          clear hK K
          (try simp only [Act.put, List.setIfInBounds_toArray, List.set_cons_zero, List.set_cons_succ, List.getElem_toArray, List.getElem_cons_succ, List.getElem_cons_zero])
          refine wpAnyH_ready (rs := [5]) (by kernel_rfl) (by simp) ?_
          refine AllReadyH.cons rfl (fun K hK => ?_) AllReadyH.nil
          rw [if_pos (by rfl)]
          go_simp
          obtain ⟨P8, hP8⟩ : ∃ P, P = Y.heap.size := ⟨_, rfl⟩
          (try have H78 : P7 ≠ P8 := by have := lt_of_block H7.out; omega)
          have HPw8 : Hid (w1.heap.size ≤ P8) := hid (by rw [hP8]; exact BX.out.size)
          have bXY : Below Y.heap.size Y (Y.alloc (.cells #[.int .i64 0, .int .i64 0] 23)) := (Below.refl _ _).alloc (Nat.le_refl _) _
          have H8 := hid (heap_alloc_new Y (.cells #[.int .i64 0, .int .i64 0] 23))
          rw [← hP8] at H8 ⊢
          (try replace H7 := hid ((bXY.block P7 (lt_of_block H7.out)).trans H7.out))
          replace BX := hid (BX.out.trans (bXY.mono BX.out.size))
          clear hP8 bXY
          refine hK.out _ _ (SW.out _ BX.out) (fun hHeld => ?_)
          generalize Y.alloc (.cells #[.int .i64 0, .int .i64 0] 23) = Z at *
          clear hK K
          try clear Y
          obtain ⟨Y, hY⟩ : ∃ Y, Y = Z := ⟨_, rfl⟩
          subst hY
          have K : True := trivial
          have hK : True := trivial
          clear hK K
          (try simp only [Act.put, List.setIfInBounds_toArray, List.set_cons_zero, List.set_cons_succ, List.getElem_toArray, List.getElem_cons_succ, List.getElem_cons_zero])
          refine wpAnyH_ready (rs := [6]) (by kernel_rfl) (by simp) ?_
          refine AllReadyH.cons rfl (fun K hK => ?_) AllReadyH.nil
          rw [if_pos (by rfl)]
          have c0 : Y.cell? ⟨P7, 0, none⟩ = some (.int .i64 0) := by rw [cell_of_row _ _ _ _ _ _ H7.out]; rfl
          have c1 : Y.cell? ⟨P7, 1, none⟩ = some (.int .i64 0) := by rw [cell_of_row _ _ _ _ _ _ H7.out]; rfl
          have f0 : Y.frozen? ⟨P7, 0, none⟩ = false := by simp [World.frozen?, H7.out]
          have f1 : Y.frozen? ⟨P7, 1, none⟩ = false := by simp [World.frozen?, H7.out]
          go_simp
          have e1 := heap_setCell_same Y P7 0 _ 23 (.int .i64 y1) H7.out
          have e2 := heap_setCell_same (Y.setCell ⟨P7, 0, none⟩ (.int .i64 y1)) P7 1 _ 23 (.int .i64 y2) e1
          have e3 : ((Y.setCell ⟨P7, 0, none⟩ (.int .i64 y1)).setCell ⟨P7, 1, none⟩ (.int .i64 y2)).heap[P8]? = Y.heap[P8]? := (Below.heap_setCell _ ⟨P7, 1, none⟩ _ P8 (fun e => H78 (e.symm))).trans (Below.heap_setCell _ ⟨P7, 0, none⟩ _ P8 (fun e => H78 (e.symm)))
          replace H8 := hid (e3.trans H8.out)
          replace BX := hid ((BX.out.setCell (p := ⟨P7, 0, none⟩) HPw7.out (.int .i64 y1)).setCell (p := ⟨P7, 1, none⟩) HPw7.out (.int .i64 y2))
          replace H7 : Hid (((Y.setCell ⟨P7, 0, none⟩ (.int .i64 y1)).setCell ⟨P7, 1, none⟩ (.int .i64 y2)).heap[P7]? = some (.cells #[.int .i64 y1, .int .i64 y2] 23 (0, 0))) := hid (by rw [e2]; simp)
          refine hK.out _ _ (SW.out _ BX.out) (fun hHeld => ?_)
          clear e1 e2 e3 c0 c1 f0 f1
          generalize (Y.setCell ⟨P7, 0, none⟩ (.int .i64 y1)).setCell ⟨P7, 1, none⟩ (.int .i64 y2) = Z at *
          clear hK K
          try clear Y
          obtain ⟨Y, hY⟩ : ∃ Y, Y = Z := ⟨_, rfl⟩
          subst hY
          have K : True := trivial
          have hK : True := trivial
          clear hK K
          (try simp only [Act.put, List.setIfInBounds_toArray, List.set_cons_zero, List.set_cons_succ, List.getElem_toArray, List.getElem_cons_succ, List.getElem_cons_zero])
          refine wpAnyH_ready (rs := [7]) (by kernel_rfl) (by simp) ?_
          refine AllReadyH.cons rfl (fun K hK => ?_) AllReadyH.nil
          rw [if_pos (by rfl)]
          have c0 : Y.cell? ⟨P8, 0, none⟩ = some (.int .i64 0) := by rw [cell_of_row _ _ _ _ _ _ H8.out]; rfl
          have c1 : Y.cell? ⟨P8, 1, none⟩ = some (.int .i64 0) := by rw [cell_of_row _ _ _ _ _ _ H8.out]; rfl
          have f0 : Y.frozen? ⟨P8, 0, none⟩ = false := by simp [World.frozen?, H8.out]
          have f1 : Y.frozen? ⟨P8, 1, none⟩ = false := by simp [World.frozen?, H8.out]
          go_simp
          have e1 := heap_setCell_same Y P8 0 _ 23 (.int .i64 z1) H8.out
          have e2 := heap_setCell_same (Y.setCell ⟨P8, 0, none⟩ (.int .i64 z1)) P8 1 _ 23 (.int .i64 z2) e1
          have e3 : ((Y.setCell ⟨P8, 0, none⟩ (.int .i64 z1)).setCell ⟨P8, 1, none⟩ (.int .i64 z2)).heap[P7]? = Y.heap[P7]? := (Below.heap_setCell _ ⟨P8, 1, none⟩ _ P7 (fun e => H78 (e))).trans (Below.heap_setCell _ ⟨P8, 0, none⟩ _ P7 (fun e => H78 (e)))
          replace H7 := hid (e3.trans H7.out)
          replace BX := hid ((BX.out.setCell (p := ⟨P8, 0, none⟩) HPw8.out (.int .i64 z1)).setCell (p := ⟨P8, 1, none⟩) HPw8.out (.int .i64 z2))
          replace H8 : Hid (((Y.setCell ⟨P8, 0, none⟩ (.int .i64 z1)).setCell ⟨P8, 1, none⟩ (.int .i64 z2)).heap[P8]? = some (.cells #[.int .i64 z1, .int .i64 z2] 23 (0, 0))) := hid (by rw [e2]; simp)
          refine hK.out _ _ (SW.out _ BX.out) (fun hHeld => ?_)
          clear e1 e2 e3 c0 c1 f0 f1
          generalize (Y.setCell ⟨P8, 0, none⟩ (.int .i64 z1)).setCell ⟨P8, 1, none⟩ (.int .i64 z2) = Z at *
          clear hK K
          try clear Y
          obtain ⟨Y, hY⟩ : ∃ Y, Y = Z := ⟨_, rfl⟩
          subst hY
          have K : True := trivial
          have hK : True := trivial
          clear hK K
          (try simp only [Act.put, List.setIfInBounds_toArray, List.set_cons_zero, List.set_cons_succ, List.getElem_toArray, List.getElem_cons_succ, List.getElem_cons_zero])
          refine wpAnyH_done (by kernel_rfl) ?_ _
          refine ⟨y1, y2, z1, z2, P7, P8, ?_, H7.out, H8.out, ⟨H78, HPw7.out, HPw8.out⟩, HYm.out, HZm.out, BX.out⟩
          with_reducible rfl
        · rw [if_pos (by rfl)]
          go_simp
          obtain ⟨P8, hP8⟩ : ∃ P, P = Y.heap.size := ⟨_, rfl⟩
          (try have H78 : P7 ≠ P8 := by have := lt_of_block H7.out; omega)
          have HPw8 : Hid (w1.heap.size ≤ P8) := hid (by rw [hP8]; exact BX.out.size)
          have bXY : Below Y.heap.size Y (Y.alloc (.cells #[.int .i64 0, .int .i64 0] 23)) := (Below.refl _ _).alloc (Nat.le_refl _) _
          have H8 := hid (heap_alloc_new Y (.cells #[.int .i64 0, .int .i64 0] 23))
          rw [← hP8] at H8 ⊢
          (try replace H7 := hid ((bXY.block P7 (lt_of_block H7.out)).trans H7.out))
          replace BX := hid (BX.out.trans (bXY.mono BX.out.size))
          clear hP8 bXY
          refine hK.out _ _ (SW.out _ BX.out) (fun hHeld => ?_)
          generalize Y.alloc (.cells #[.int .i64 0, .int .i64 0] 23) = Z at *
          clear hK K
          try clear Y
          obtain ⟨Y, hY⟩ : ∃ Y, Y = Z := ⟨_, rfl⟩
          subst hY
          have K : True := trivial
          have hK : True := trivial
          clear hK K
          (try simp only [Act.put, List.setIfInBounds_toArray, List.set_cons_zero, List.set_cons_succ, List.getElem_toArray, List.getElem_cons_succ, List.getElem_cons_zero])
          refine wpAnyH_ready (rs := [3]) (by kernel_rfl) (by simp) ?_
          refine AllReadyH.cons rfl (fun K hK => ?_) AllReadyH.nil
          rw [if_pos (by rfl)]
          go_wp2_with fail
          refine (small_any (f2, t2) _).mono ?_
          rintro e Y ⟨⟨z1, z2⟩, rfl, hzm, bXY⟩
          have HZm := hid hzm
          (try replace H7 := hid ((bXY.block P7 (lt_of_block H7.out)).trans H7.out))
          (try replace H8 := hid ((bXY.block P8 (lt_of_block H8.out)).trans H8.out))
          replace BX := hid (BX.out.trans (bXY.mono BX.out.size))
          refine hK.out _ _ (SW.out _ BX.out) (fun hHeld => ?_)
          clear bXY hzm
          clear hK K
          (try simp only [Act.put, List.setIfInBounds_toArray, List.set_cons_zero, List.set_cons_succ, List.getElem_toArray, List.getElem_cons_succ, List.getElem_cons_zero])
          refine wpAnyH_ready (rs := [6]) (by kernel_rfl) (by simp) ?_
          refine AllReadyH.cons rfl (fun K hK => ?_) AllReadyH.nil
          rw [if_pos (by rfl)]
          have c0 : Y.cell? ⟨P7, 0, none⟩ = some (.int .i64 0) := by rw [cell_of_row _ _ _ _ _ _ H7.out]; rfl
          have c1 : Y.cell? ⟨P7, 1, none⟩ = some (.int .i64 0) := by rw [cell_of_row _ _ _ _ _ _ H7.out]; rfl
          have f0 : Y.frozen? ⟨P7, 0, none⟩ = false := by simp [World.frozen?, H7.out]
          have f1 : Y.frozen? ⟨P7, 1, none⟩ = false := by simp [World.frozen?, H7.out]
          go_simp
          have e1 := heap_setCell_same Y P7 0 _ 23 (.int .i64 y1) H7.out
          have e2 := heap_setCell_same (Y.setCell ⟨P7, 0, none⟩ (.int .i64 y1)) P7 1 _ 23 (.int .i64 y2) e1
          have e3 : ((Y.setCell ⟨P7, 0, none⟩ (.int .i64 y1)).setCell ⟨P7, 1, none⟩ (.int .i64 y2)).heap[P8]? = Y.heap[P8]? := (Below.heap_setCell _ ⟨P7, 1, none⟩ _ P8 (fun e => H78 (e.symm))).trans (Below.heap_setCell _ ⟨P7, 0, none⟩ _ P8 (fun e => H78 (e.symm)))
          replace H8 := hid (e3.trans H8.out)
          replace BX := hid ((BX.out.setCell (p := ⟨P7, 0, none⟩) HPw7.out (.int .i64 y1)).setCell (p := ⟨P7, 1, none⟩) HPw7.out (.int .i64 y2))
          replace H7 : Hid (((Y.setCell ⟨P7, 0, none⟩ (.int .i64 y1)).setCell ⟨P7, 1, none⟩ (.int .i64 y2)).heap[P7]? = some (.cells #[.int .i64 y1, .int .i64 y2] 23 (0, 0))) := hid (by rw [e2]; simp)
          refine hK.out _ _ (SW.out _ BX.out) (fun hHeld => ?_)
          clear e1 e2 e3 c0 c1 f0 f1
          generalize (Y.setCell ⟨P7, 0, none⟩ (.int .i64 y1)).setCell ⟨P7, 1, none⟩ (.int .i64 y2) = Z at *
          clear hK K
          try clear Y
          obtain ⟨Y, hY⟩ : ∃ Y, Y = Z := ⟨_, rfl⟩
          subst hY
          have K : True := trivial
          have hK : True := trivial
          clear hK K
          (try simp only [Act.put, List.setIfInBounds_toArray, List.set_cons_zero, List.set_cons_succ, List.getElem_toArray, List.getElem_cons_succ, List.getElem_cons_zero])
          refine wpAnyH_ready (rs := [7]) (by kernel_rfl) (by simp) ?_
          refine AllReadyH.cons rfl (fun K hK => ?_) AllReadyH.nil
          rw [if_pos (by rfl)]
          have c0 : Y.cell? ⟨P8, 0, none⟩ = some (.int .i64 0) := by rw [cell_of_row _ _ _ _ _ _ H8.out]; rfl
          have c1 : Y.cell? ⟨P8, 1, none⟩ = some (.int .i64 0) := by rw [cell_of_row _ _ _ _ _ _ H8.out]; rfl
          have f0 : Y.frozen? ⟨P8, 0, none⟩ = false := by simp [World.frozen?, H8.out]
          have f1 : Y.frozen? ⟨P8, 1, none⟩ = false := by simp [World.frozen?, H8.out]
          go_simp
          have e1 := heap_setCell_same Y P8 0 _ 23 (.int .i64 z1) H8.out
          have e2 := heap_setCell_same (Y.setCell ⟨P8, 0, none⟩ (.int .i64 z1)) P8 1 _ 23 (.int .i64 z2) e1
          have e3 : ((Y.setCell ⟨P8, 0, none⟩ (.int .i64 z1)).setCell ⟨P8, 1, none⟩ (.int .i64 z2)).heap[P7]? = Y.heap[P7]? := (Below.heap_setCell _ ⟨P8, 1, none⟩ _ P7 (fun e => H78 (e))).trans (Below.heap_setCell _ ⟨P8, 0, none⟩ _ P7 (fun e => H78 (e)))
          replace H7 := hid (e3.trans H7.out)
          replace BX := hid ((BX.out.setCell (p := ⟨P8, 0, none⟩) HPw8.out (.int .i64 z1)).setCell (p := ⟨P8, 1, none⟩) HPw8.out (.int .i64 z2))
          replace H8 : Hid (((Y.setCell ⟨P8, 0, none⟩ (.int .i64 z1)).setCell ⟨P8, 1, none⟩ (.int .i64 z2)).heap[P8]? = some (.cells #[.int .i64 z1, .int .i64 z2] 23 (0, 0))) := hid (by rw [e2]; simp)
          refine hK.out _ _ (SW.out _ BX.out) (fun hHeld => ?_)
          clear e1 e2 e3 c0 c1 f0 f1
          generalize (Y.setCell ⟨P8, 0, none⟩ (.int .i64 z1)).setCell ⟨P8, 1, none⟩ (.int .i64 z2) = Z at *
          clear hK K
          try clear Y
          obtain ⟨Y, hY⟩ : ∃ Y, Y = Z := ⟨_, rfl⟩
          subst hY
          have K : True := trivial
          have hK : True := trivial
          clear hK K
          (try simp only [Act.put, List.setIfInBounds_toArray, List.set_cons_zero, List.set_cons_succ, List.getElem_toArray, List.getElem_cons_succ, List.getElem_cons_zero])
          refine wpAnyH_done (by kernel_rfl) ?_ _
          refine ⟨y1, y2, z1, z2, P7, P8, ?_, H7.out, H8.out, ⟨H78, HPw7.out, HPw8.out⟩, HYm.out, HZm.out, BX.out⟩
          with_reducible rfl
      · rw [if_pos (by rfl)]
        go_simp
        obtain ⟨P8, hP8⟩ : ∃ P, P = Y.heap.size := ⟨_, rfl⟩
        (try have H78 : P7 ≠ P8 := by have := lt_of_block H7.out; omega)
        have HPw8 : Hid (w1.heap.size ≤ P8) := hid (by rw [hP8]; exact BX.out.size)
        have bXY : Below Y.heap.size Y (Y.alloc (.cells #[.int .i64 0, .int .i64 0] 23)) := (Below.refl _ _).alloc (Nat.le_refl _) _
        have H8 := hid (heap_alloc_new Y (.cells #[.int .i64 0, .int .i64 0] 23))
        rw [← hP8] at H8 ⊢
        (try replace H7 := hid ((bXY.block P7 (lt_of_block H7.out)).trans H7.out))
        replace BX := hid (BX.out.trans (bXY.mono BX.out.size))
        clear hP8 bXY
        refine hK.out _ _ (SW.out _ BX.out) (fun hHeld => ?_)
        generalize Y.alloc (.cells #[.int .i64 0, .int .i64 0] 23) = Z at *
        clear hK K
        try clear Y
        obtain ⟨Y, hY⟩ : ∃ Y, Y = Z := ⟨_, rfl⟩
        subst hY
        have K : True := trivial
        have hK : True := trivial
        clear hK K
        (try simp only [Act.put, List.setIfInBounds_toArray, List.set_cons_zero, List.set_cons_succ, List.getElem_toArray, List.getElem_cons_succ, List.getElem_cons_zero])
        refine wpAnyH_ready (rs := [1]) (by kernel_rfl) (by simp) ?_
        refine AllReadyH.cons rfl (fun K hK => ?_) AllReadyH.nil
        rw [if_pos (by rfl)]
        go_wp2_with fail
        refine (small_any (f, t) _).mono ?_
        rintro e Y ⟨⟨y1, y2⟩, rfl, hym, bXY⟩
        have HYm := hid hym
        (try replace H7 := hid ((bXY.block P7 (lt_of_block H7.out)).trans H7.out))
        (try replace H8 := hid ((bXY.block P8 (lt_of_block H8.out)).trans H8.out))
        replace BX := hid (BX.out.trans (bXY.mono BX.out.size))
        refine hK.out _ _ (SW.out _ BX.out) (fun hHeld => ?_)
        clear bXY hym
        clear hK K
        (try simp only [Act.put, List.setIfInBounds_toArray, List.set_cons_zero, List.set_cons_succ, List.getElem_toArray, List.getElem_cons_succ, List.getElem_cons_zero])
        refine wpAnyH_ready (rs := [3]) (by kernel_rfl) (by simp) ?_
        refine AllReadyH.cons rfl (fun K hK => ?_) AllReadyH.nil
        rw [if_pos (by rfl)]
        go_wp2_with fail
        refine (small_any (f2, t2) _).mono ?_
        rintro e Y ⟨⟨z1, z2⟩, rfl, hzm, bXY⟩
        have HZm := hid hzm
        (try replace H7 := hid ((bXY.block P7 (lt_of_block H7.out)).trans H7.out))
        (try replace H8 := hid ((bXY.block P8 (lt_of_block H8.out)).trans H8.out))
        replace BX := hid (BX.out.trans (bXY.mono BX.out.size))
        refine hK.out _ _ (SW.out _ BX.out) (fun hHeld => ?_)
        clear bXY hzm
        clear hK K
        (try simp only [Act.put, List.setIfInBounds_toArray, List.set_cons_zero, List.set_cons_succ, List.getElem_toArray, List.getElem_cons_succ, List.getElem_cons_zero])
        refine wpAnyH_ready (rs := [6]) (by kernel_rfl) (by simp) ?_
        refine AllReadyH.cons rfl (fun K hK => ?_) AllReadyH.nil
        rw [if_pos (by rfl)]
        have c0 : Y.cell? ⟨P7, 0, none⟩ = some (.int .i64 0) := by rw [cell_of_row _ _ _ _ _ _ H7.out]; rfl
        have c1 : Y.cell? ⟨P7, 1, none⟩ = some (.int .i64 0) := by rw [cell_of_row _ _ _ _ _ _ H7.out]; rfl
        have f0 : Y.frozen? ⟨P7, 0, none⟩ = false := by simp [World.frozen?, H7.out]
        have f1 : Y.frozen? ⟨P7, 1, none⟩ = false := by simp [World.frozen?, H7.out]
        go_simp
        have e1 := heap_setCell_same Y P7 0 _ 23 (.int .i64 y1) H7.out
        have e2 := heap_setCell_same (Y.setCell ⟨P7, 0, none⟩ (.int .i64 y1)) P7 1 _ 23 (.int .i64 y2) e1
        have e3 : ((Y.setCell ⟨P7, 0, none⟩ (.int .i64 y1)).setCell ⟨P7, 1, none⟩ (.int .i64 y2)).heap[P8]? = Y.heap[P8]? := (Below.heap_setCell _ ⟨P7, 1, none⟩ _ P8 (fun e => H78 (e.symm))).trans (Below.heap_setCell _ ⟨P7, 0, none⟩ _ P8 (fun e => H78 (e.symm)))
        replace H8 := hid (e3.trans H8.out)
        replace BX := hid ((BX.out.setCell (p := ⟨P7, 0, none⟩) HPw7.out (.int .i64 y1)).setCell (p := ⟨P7, 1, none⟩) HPw7.out (.int .i64 y2))
        replace H7 : Hid (((Y.setCell ⟨P7, 0, none⟩ (.int .i64 y1)).setCell ⟨P7, 1, none⟩ (.int .i64 y2)).heap[P7]? = some (.cells #[.int .i64 y1, .int .i64 y2] 23 (0, 0))) := hid (by rw [e2]; simp)
        refine hK.out _ _ (SW.out _ BX.out) (fun hHeld => ?_)
        clear e1 e2 e3 c0 c1 f0 f1
        generalize (Y.setCell ⟨P7, 0, none⟩ (.int .i64 y1)).setCell ⟨P7, 1, none⟩ (.int .i64 y2) = Z at *
        clear hK K
        try clear Y
        obtain ⟨Y, hY⟩ : ∃ Y, Y = Z := ⟨_, rfl⟩
        subst hY
        have K : True := trivial
        have hK : True := trivial
        clear hK K
        (try simp only [Act.put, List.setIfInBounds_toArray, List.set_cons_zero, List.set_cons_succ, List.getElem_toArray, List.getElem_cons_succ, List.getElem_cons_zero])
        refine wpAnyH_ready (rs := [7]) (by kernel_rfl) (by simp) ?_
        refine AllReadyH.cons rfl (fun K hK => ?_) AllReadyH.nil
        rw [if_pos (by rfl)]
        have c0 : Y.cell? ⟨P8, 0, none⟩ = some (.int .i64 0) := by rw [cell_of_row _ _ _ _ _ _ H8.out]; rfl
        have c1 : Y.cell? ⟨P8, 1, none⟩ = some (.int .i64 0) := by rw [cell_of_row _ _ _ _ _ _ H8.out]; rfl
        have f0 : Y.frozen? ⟨P8, 0, none⟩ = false := by simp [World.frozen?, H8.out]
        have f1 : Y.frozen? ⟨P8, 1, none⟩ = false := by simp [World.frozen?, H8.out]
        go_simp
        have e1 := heap_setCell_same Y P8 0 _ 23 (.int .i64 z1) H8.out
        have e2 := heap_setCell_same (Y.setCell ⟨P8, 0, none⟩ (.int .i64 z1)) P8 1 _ 23 (.int .i64 z2) e1
        have e3 : ((Y.setCell ⟨P8, 0, none⟩ (.int .i64 z1)).setCell ⟨P8, 1, none⟩ (.int .i64 z2)).heap[P7]? = Y.heap[P7]? := (Below.heap_setCell _ ⟨P8, 1, none⟩ _ P7 (fun e => H78 (e))).trans (Below.heap_setCell _ ⟨P8, 0, none⟩ _ P7 (fun e => H78 (e)))
        replace H7 := hid (e3.trans H7.out)
        replace BX := hid ((BX.out.setCell (p := ⟨P8, 0, none⟩) HPw8.out (.int .i64 z1)).setCell (p := ⟨P8, 1, none⟩) HPw8.out (.int .i64 z2))
        replace H8 : Hid (((Y.setCell ⟨P8, 0, none⟩ (.int .i64 z1)).setCell ⟨P8, 1, none⟩ (.int .i64 z2)).heap[P8]? = some (.cells #[.int .i64 z1, .int .i64 z2] 23 (0, 0))) := hid (by rw [e2]; simp)
        refine hK.out _ _ (SW.out _ BX.out) (fun hHeld => ?_)
        clear e1 e2 e3 c0 c1 f0 f1
        generalize (Y.setCell ⟨P8, 0, none⟩ (.int .i64 z1)).setCell ⟨P8, 1, none⟩ (.int .i64 z2) = Z at *
        clear hK K
        try clear Y
        obtain ⟨Y, hY⟩ : ∃ Y, Y = Z := ⟨_, rfl⟩
        subst hY
        have K : True := trivial
        have hK : True := trivial
        clear hK K
        (try simp only [Act.put, List.setIfInBounds_toArray, List.set_cons_zero, List.set_cons_succ, List.getElem_toArray, List.getElem_cons_succ, List.getElem_cons_zero])
        refine wpAnyH_done (by kernel_rfl) ?_ _
        refine ⟨y1, y2, z1, z2, P7, P8, ?_, H7.out, H8.out, ⟨H78, HPw7.out, HPw8.out⟩, HYm.out, HZm.out, BX.out⟩
        with_reducible rfl
    · rw [if_pos (by rfl)]
      go_simp
      obtain ⟨P8, hP8⟩ : ∃ P, P = Y.heap.size := ⟨_, rfl⟩
      (try have H78 : P7 ≠ P8 := by have := lt_of_block H7.out; omega)
      have HPw8 : Hid (w1.heap.size ≤ P8) := hid (by rw [hP8]; exact BX.out.size)
      have bXY : Below Y.heap.size Y (Y.alloc (.cells #[.int .i64 0, .int .i64 0] 23)) := (Below.refl _ _).alloc (Nat.le_refl _) _
      have H8 := hid (heap_alloc_new Y (.cells #[.int .i64 0, .int .i64 0] 23))
      rw [← hP8] at H8 ⊢
      (try replace H7 := hid ((bXY.block P7 (lt_of_block H7.out)).trans H7.out))
      replace BX := hid (BX.out.trans (bXY.mono BX.out.size))
      clear hP8 bXY
      refine hK.out _ _ (SW.out _ BX.out) (fun hHeld => ?_)
      generalize Y.alloc (.cells #[.int .i64 0, .int .i64 0] 23) = Z at *
      clear hK K
      try clear Y
      obtain ⟨Y, hY⟩ : ∃ Y, Y = Z := ⟨_, rfl⟩
      subst hY
      have K : True := trivial
      have hK : True := trivial
      clear hK K
      (try simp only [Act.put, List.setIfInBounds_toArray, List.set_cons_zero, List.set_cons_succ, List.getElem_toArray, List.getElem_cons_succ, List.getElem_cons_zero])
      refine wpAnyH_ready (rs := [1, 4]) (by kernel_rfl) (by simp) ?_
      refine AllReadyH.cons rfl (fun K hK => ?_) (AllReadyH.cons rfl (fun K hK => ?_) AllReadyH.nil)
      · rw [if_pos (by rfl)]
        go_wp2_with fail
        refine (small_any (f, t) _).mono ?_
        rintro e Y ⟨⟨y1, y2⟩, rfl, hym, bXY⟩
        have HYm := hid hym
        (try replace H7 := hid ((bXY.block P7 (lt_of_block H7.out)).trans H7.out))
        (try replace H8 := hid ((bXY.block P8 (lt_of_block H8.out)).trans H8.out))
        replace BX := hid (BX.out.trans (bXY.mono BX.out.size))
        refine hK.out _ _ (SW.out _ BX.out) (fun hHeld => ?_)
        clear bXY hym
        clear hK K
        (try simp only [Act.put, List.setIfInBounds_toArray, List.set_cons_zero, List.set_cons_succ, List.getElem_toArray, List.getElem_cons_succ, List.getElem_cons_zero])
        refine wpAnyH_ready (rs := [3, 4]) (by kernel_rfl) (by simp) ?_
        refine AllReadyH.cons rfl (fun K hK => ?_) (AllReadyH.cons rfl (fun K hK => ?_) AllReadyH.nil)
        · rw [if_pos (by rfl)]
          go_wp2_with fail
          refine (small_any (f2, t2) _).mono ?_
          rintro e Y ⟨⟨z1, z2⟩, rfl, hzm, bXY⟩
          have HZm := hid hzm
          (try replace H7 := hid ((bXY.block P7 (lt_of_block H7.out)).trans H7.out))
          (try replace H8 := hid ((bXY.block P8 (lt_of_block H8.out)).trans H8.out))
          replace BX := hid (BX.out.trans (bXY.mono BX.out.size))
          refine hK.out _ _ (SW.out _ BX.out) (fun hHeld => ?_)
          clear bXY hzm
          clear hK K
          (try simp only [Act.put, List.setIfInBounds_toArray, List.set_cons_zero, List.set_cons_succ, List.getElem_toArray, List.getElem_cons_succ, List.getElem_cons_zero])
          refine wpAnyH_ready (rs := [4]) (by kernel_rfl) (by simp) ?_
          refine AllReadyH.cons rfl (fun K hK => ?_) AllReadyH.nil
          rw [if_pos (by rfl)]
          go_simp
          obtain ⟨P7, hP7⟩ : ∃ P, P = Y.heap.size := ⟨_, rfl⟩
          (try have H78 : P7 ≠ P8 := by have := lt_of_block H8.out; omega)
          have HPw7 : Hid (w1.heap.size ≤ P7) := hid (by rw [hP7]; exact BX.out.size)
          have bXY : Below Y.heap.size Y (Y.alloc (.cells #[.int .i64 0, .int .i64 0] 23)) := (Below.refl _ _).alloc (Nat.le_refl _) _
          have H7 := hid (heap_alloc_new Y (.cells #[.int .i64 0, .int .i64 0] 23))
          rw [← hP7] at H7 ⊢
          (try replace H8 := hid ((bXY.block P8 (lt_of_block H8.out)).trans H8.out))
          replace BX := hid (BX.out.trans (bXY.mono BX.out.size))
          clear hP7 bXY
          refine hK.out _ _ (SW.out _ BX.out) (fun hHeld => ?_)
          generalize Y.alloc (.cells #[.int .i64 0, .int .i64 0] 23) = Z at *
          clear hK K
          try clear Y
          obtain ⟨Y, hY⟩ : ∃ Y, Y = Z := ⟨_, rfl⟩
          subst hY
          have K : True := trivial
          have hK : True := trivial
          clear hK K
          (try simp only [Act.put, List.setIfInBounds_toArray, List.set_cons_zero, List.set_cons_succ, List.getElem_toArray, List.getElem_cons_succ, List.getElem_cons_zero])
          refine wpAnyH_ready (rs := [6]) (by kernel_rfl) (by simp) ?_
          refine AllReadyH.cons rfl (fun K hK => ?_) AllReadyH.nil
          rw [if_pos (by rfl)]
          have c0 : Y.cell? ⟨P7, 0, none⟩ = some (.int .i64 0) := by rw [cell_of_row _ _ _ _ _ _ H7.out]; rfl
          have c1 : Y.cell? ⟨P7, 1, none⟩ = some (.int .i64 0) := by rw [cell_of_row _ _ _ _ _ _ H7.out]; rfl
          have f0 : Y.frozen? ⟨P7, 0, none⟩ = false := by simp [World.frozen?, H7.out]
          have f1 : Y.frozen? ⟨P7, 1, none⟩ = false := by simp [World.frozen?, H7.out]
          go_simp
          have e1 := heap_setCell_same Y P7 0 _ 23 (.int .i64 y1) H7.out
          have e2 := heap_setCell_same (Y.setCell ⟨P7, 0, none⟩ (.int .i64 y1)) P7 1 _ 23 (.int .i64 y2) e1
          have e3 : ((Y.setCell ⟨P7, 0, none⟩ (.int .i64 y1)).setCell ⟨P7, 1, none⟩ (.int .i64 y2)).heap[P8]? = Y.heap[P8]? := (Below.heap_setCell _ ⟨P7, 1, none⟩ _ P8 (fun e => H78 (e.symm))).trans (Below.heap_setCell _ ⟨P7, 0, none⟩ _ P8 (fun e => H78 (e.symm)))
          replace H8 := hid (e3.trans H8.out)
          replace BX := hid ((BX.out.setCell (p := ⟨P7, 0, none⟩) HPw7.out (.int .i64 y1)).setCell (p := ⟨P7, 1, none⟩) HPw7.out (.int .i64 y2))
          replace H7 : Hid (((Y.setCell ⟨P7, 0, none⟩ (.int .i64 y1)).setCell ⟨P7, 1, none⟩ (.int .i64 y2)).heap[P7]? = some (.cells #[.int .i64 y1, .int .i64 y2] 23 (0, 0))) := hid (by rw [e2]; simp)
          refine hK.out _ _ (SW.out _ BX.out) (fun hHeld => ?_)
          clear e1 e2 e3 c0 c1 f0 f1
          generalize (Y.setCell ⟨P7, 0, none⟩ (.int .i64 y1)).setCell ⟨P7, 1, none⟩ (.int .i64 y2) = Z at *
          clear hK K
          try clear Y
          obtain ⟨Y, hY⟩ : ∃ Y, Y = Z := ⟨_, rfl⟩
          subst hY
          have K : True := trivial
          have hK : True := trivial
          clear hK K
          (try simp only [Act.put, List.setIfInBounds_toArray, List.set_cons_zero, List.set_cons_succ, List.getElem_toArray, List.getElem_cons_succ, List.getElem_cons_zero])
          refine wpAnyH_ready (rs := [7]) (by kernel_rfl) (by simp) ?_
          refine AllReadyH.cons rfl (fun K hK => ?_) AllReadyH.nil
          rw [if_pos (by rfl)]
          have c0 : Y.cell? ⟨P8, 0, none⟩ = some (.int .i64 0) := by rw [cell_of_row _ _ _ _ _ _ H8.out]; rfl
          have c1 : Y.cell? ⟨P8, 1, none⟩ = some (.int .i64 0) := by rw [cell_of_row _ _ _ _ _ _ H8.out]; rfl
          have f0 : Y.frozen? ⟨P8, 0, none⟩ = false := by simp [World.frozen?, H8.out]
          have f1 : Y.frozen? ⟨P8, 1, none⟩ = false := by simp [World.frozen?, H8.out]
          go_simp
          have e1 := heap_setCell_same Y P8 0 _ 23 (.int .i64 z1) H8.out
          have e2 := heap_setCell_same (Y.setCell ⟨P8, 0, none⟩ (.int .i64 z1)) P8 1 _ 23 (.int .i64 z2) e1
          have e3 : ((Y.setCell ⟨P8, 0, none⟩ (.int .i64 z1)).setCell ⟨P8, 1, none⟩ (.int .i64 z2)).heap[P7]? = Y.heap[P7]? := (Below.heap_setCell _ ⟨P8, 1, none⟩ _ P7 (fun e => H78 (e))).trans (Below.heap_setCell _ ⟨P8, 0, none⟩ _ P7 (fun e => H78 (e)))
          replace H7 := hid (e3.trans H7.out)
          replace BX := hid ((BX.out.setCell (p := ⟨P8, 0, none⟩) HPw8.out (.int .i64 z1)).setCell (p := ⟨P8, 1, none⟩) HPw8.out (.int .i64 z2))
          replace H8 : Hid (((Y.setCell ⟨P8, 0, none⟩ (.int .i64 z1)).setCell ⟨P8, 1, none⟩ (.int .i64 z2)).heap[P8]? = some (.cells #[.int .i64 z1, .int .i64 z2] 23 (0, 0))) := hid (by rw [e2]; simp)
          refine hK.out _ _ (SW.out _ BX.out) (fun hHeld => ?_)
          clear e1 e2 e3 c0 c1 f0 f1
          generalize (Y.setCell ⟨P8, 0, none⟩ (.int .i64 z1)).setCell ⟨P8, 1, none⟩ (.int .i64 z2) = Z at *
          clear hK K
          try clear Y
          obtain ⟨Y, hY⟩ : ∃ Y, Y = Z := ⟨_, rfl⟩
          subst hY
          have K : True := trivial
          have hK : True := trivial
          clear hK K
          (try simp only [Act.put, List.setIfInBounds_toArray, List.set_cons_zero, List.set_cons_succ, List.getElem_toArray, List.getElem_cons_succ, List.getElem_cons_zero])
          refine wpAnyH_done (by kernel_rfl) ?_ _
          refine ⟨y1, y2, z1, z2, P7, P8, ?_, H7.out, H8.out, ⟨H78, HPw7.out, HPw8.out⟩, HYm.out, HZm.out, BX.out⟩
          with_reducible rfl
        · rw [if_pos (by rfl)]
          go_simp
          obtain ⟨P7, hP7⟩ : ∃ P, P = Y.heap.size := ⟨_, rfl⟩
          (try have H78 : P7 ≠ P8 := by have := lt_of_block H8.out; omega)
          have HPw7 : Hid (w1.heap.size ≤ P7) := hid (by rw [hP7]; exact BX.out.size)
          have bXY : Below Y.heap.size Y (Y.alloc (.cells #[.int .i64 0, .int .i64 0] 23)) := (Below.refl _ _).alloc (Nat.le_refl _) _
          have H7 := hid (heap_alloc_new Y (.cells #[.int .i64 0, .int .i64 0] 23))
          rw [← hP7] at H7 ⊢
          (try replace H8 := hid ((bXY.block P8 (lt_of_block H8.out)).trans H8.out))
          replace BX := hid (BX.out.trans (bXY.mono BX.out.size))
          clear hP7 bXY
          refine hK.out _ _ (SW.out _ BX.out) (fun hHeld => ?_)
          generalize Y.alloc (.cells #[.int .i64 0, .int .i64 0] 23) = Z at *
          clear hK K
          try clear Y
          obtain ⟨Y, hY⟩ : ∃ Y, Y = Z := ⟨_, rfl⟩
          subst hY
          have K : True := trivial
          have hK : True := trivial
          clear hK K
          (try simp only [Act.put, List.setIfInBounds_toArray, List.set_cons_zero, List.set_cons_succ, List.getElem_toArray, List.getElem_cons_succ, List.getElem_cons_zero])
          refine wpAnyH_ready (rs := [3]) (by kernel_rfl) (by simp) ?_
          refine AllReadyH.cons rfl (fun K hK => ?_) AllReadyH.nil
          rw [if_pos (by rfl)]
          go_wp2_with fail
          refine (small_any (f2, t2) _).mono ?_
          rintro e Y ⟨⟨z1, z2⟩, rfl, hzm, bXY⟩
          have HZm := hid hzm
          (try replace H7 := hid ((bXY.block P7 (lt_of_block H7.out)).trans H7.out))
          (try replace H8 := hid ((bXY.block P8 (lt_of_block H8.out)).trans H8.out))
          replace BX := hid (BX.out.trans (bXY.mono BX.out.size))
          refine hK.out _ _ (SW.out _ BX.out) (fun hHeld => ?_)
          clear bXY hzm
          clear hK K
          (try simp only [Act.put, List.setIfInBounds_toArray, List.set_cons_zero, List.set_cons_succ, List.getElem_toArray, List.getElem_cons_succ, List.getElem_cons_zero])
          refine wpAnyH_ready (rs := [6]) (by kernel_rfl) (by simp) ?_
          refine AllReadyH.cons rfl (fun K hK => ?_) AllReadyH.nil
          rw [if_pos (by rfl)]
          have c0 : Y.cell? ⟨P7, 0, none⟩ = some (.int .i64 0) := by rw [cell_of_row _ _ _ _ _ _ H7.out]; rfl
          have c1 : Y.cell? ⟨P7, 1, none⟩ = some (.int .i64 0) := by rw [cell_of_row _ _ _ _ _ _ H7.out]; rfl
          have f0 : Y.frozen? ⟨P7, 0, none⟩ = false := by simp [World.frozen?, H7.out]
          have f1 : Y.frozen? ⟨P7, 1, none⟩ = false := by simp [World.frozen?, H7.out]
          go_simp
          have e1 := heap_setCell_same Y P7 0 _ 23 (.int .i64 y1) H7.out
          have e2 := heap_setCell_same (Y.setCell ⟨P7, 0, none⟩ (.int .i64 y1)) P7 1 _ 23 (.int .i64 y2) e1
          have e3 : ((Y.setCell ⟨P7, 0, none⟩ (.int .i64 y1)).setCell ⟨P7, 1, none⟩ (.int .i64 y2)).heap[P8]? = Y.heap[P8]? := (Below.heap_setCell _ ⟨P7, 1, none⟩ _ P8 (fun e => H78 (e.symm))).trans (Below.heap_setCell _ ⟨P7, 0, none⟩ _ P8 (fun e => H78 (e.symm)))
          replace H8 := hid (e3.trans H8.out)
          replace BX := hid ((BX.out.setCell (p := ⟨P7, 0, none⟩) HPw7.out (.int .i64 y1)).setCell (p := ⟨P7, 1, none⟩) HPw7.out (.int .i64 y2))
          replace H7 : Hid (((Y.setCell ⟨P7, 0, none⟩ (.int .i64 y1)).setCell ⟨P7, 1, none⟩ (.int .i64 y2)).heap[P7]? = some (.cells #[.int .i64 y1, .int .i64 y2] 23 (0, 0))) := hid (by rw [e2]; simp)
          refine hK.out _ _ (SW.out _ BX.out) (fun hHeld => ?_)
          clear e1 e2 e3 c0 c1 f0 f1
          generalize (Y.setCell ⟨P7, 0, none⟩ (.int .i64 y1)).setCell ⟨P7, 1, none⟩ (.int .i64 y2) = Z at *
          clear hK K
          try clear Y
          obtain ⟨Y, hY⟩ : ∃ Y, Y = Z := ⟨_, rfl⟩
          subst hY
          have K : True := trivial
          have hK : True := trivial
          clear hK K
          (try simp only [Act.put, List.setIfInBounds_toArray, List.set_cons_zero, List.set_cons_succ, List.getElem_toArray, List.getElem_cons_succ, List.getElem_cons_zero])
          refine wpAnyH_ready (rs := [7]) (by kernel_rfl) (by simp) ?_
          refine AllReadyH.cons rfl (fun K hK => ?_) AllReadyH.nil
          rw [if_pos (by rfl)]
          have c0 : Y.cell? ⟨P8, 0, none⟩ = some (.int .i64 0) := by rw [cell_of_row _ _ _ _ _ _ H8.out]; rfl
          have c1 : Y.cell? ⟨P8, 1, none⟩ = some (.int .i64 0) := by rw [cell_of_row _ _ _ _ _ _ H8.out]; rfl
          have f0 : Y.frozen? ⟨P8, 0, none⟩ = false := by simp [World.frozen?, H8.out]
          have f1 : Y.frozen? ⟨P8, 1, none⟩ = false := by simp [World.frozen?, H8.out]
          go_simp
          have e1 := heap_setCell_same Y P8 0 _ 23 (.int .i64 z1) H8.out
          have e2 := heap_setCell_same (Y.setCell ⟨P8, 0, none⟩ (.int .i64 z1)) P8 1 _ 23 (.int .i64 z2) e1
          have e3 : ((Y.setCell ⟨P8, 0, none⟩ (.int .i64 z1)).setCell ⟨P8, 1, none⟩ (.int .i64 z2)).heap[P7]? = Y.heap[P7]? := (Below.heap_setCell _ ⟨P8, 1, none⟩ _ P7 (fun e => H78 (e))).trans (Below.heap_setCell _ ⟨P8, 0, none⟩ _ P7 (fun e => H78 (e)))
          replace H7 := hid (e3.trans H7.out)
          replace BX := hid ((BX.out.setCell (p := ⟨P8, 0, none⟩) HPw8.out (.int .i64 z1)).setCell (p := ⟨P8, 1, none⟩) HPw8.out (.int .i64 z2))
          replace H8 : Hid (((Y.setCell ⟨P8, 0, none⟩ (.int .i64 z1)).setCell ⟨P8, 1, none⟩ (.int .i64 z2)).heap[P8]? = some (.cells #[.int .i64 z1, .int .i64 z2] 23 (0, 0))) := hid (by rw [e2]; simp)
          refine hK.out _ _ (SW.out _ BX.out) (fun hHeld => ?_)
          clear e1 e2 e3 c0 c1 f0 f1
          generalize (Y.setCell ⟨P8, 0, none⟩ (.int .i64 z1)).setCell ⟨P8, 1, none⟩ (.int .i64 z2) = Z at *
          clear hK K
          try clear Y
          obtain ⟨Y, hY⟩ : ∃ Y, Y = Z := ⟨_, rfl⟩
          subst hY
          have K : True := trivial
          have hK : True := trivial
          clear hK K
          (try simp only [Act.put, List.setIfInBounds_toArray, List.set_cons_zero, List.set_cons_succ, List.getElem_toArray, List.getElem_cons_succ, List.getElem_cons_zero])
          refine wpAnyH_done (by kernel_rfl) ?_ _
          refine ⟨y1, y2, z1, z2, P7, P8, ?_, H7.out, H8.out, ⟨H78, HPw7.out, HPw8.out⟩, HYm.out, HZm.out, BX.out⟩
          with_reducible rfl
      · rw [if_pos (by rfl)]
        go_simp
        obtain ⟨P7, hP7⟩ : ∃ P, P = Y.heap.size := ⟨_, rfl⟩
        (try have H78 : P7 ≠ P8 := by have := lt_of_block H8.out; omega)
        have HPw7 : Hid (w1.heap.size ≤ P7) := hid (by rw [hP7]; exact BX.out.size)
        have bXY : Below Y.heap.size Y (Y.alloc (.cells #[.int .i64 0, .int .i64 0] 23)) := (Below.refl _ _).alloc (Nat.le_refl _) _
        have H7 := hid (heap_alloc_new Y (.cells #[.int .i64 0, .int .i64 0] 23))
        rw [← hP7] at H7 ⊢
        (try replace H8 := hid ((bXY.block P8 (lt_of_block H8.out)).trans H8.out))
        replace BX := hid (BX.out.trans (bXY.mono BX.out.size))
        clear hP7 bXY
        refine hK.out _ _ (SW.out _ BX.out) (fun hHeld => ?_)
        generalize Y.alloc (.cells #[.int .i64 0, .int .i64 0] 23) = Z at *
        clear hK K
        try clear Y
        obtain ⟨Y, hY⟩ : ∃ Y, Y = Z := ⟨_, rfl⟩
        subst hY
        have K : True := trivial
        have hK : True := trivial
        clear hK K
        (try simp only [Act.put, List.setIfInBounds_toArray, List.set_cons_zero, List.set_cons_succ, List.getElem_toArray, List.getElem_cons_succ, List.getElem_cons_zero])
        refine wpAnyH_ready (rs := [1]) (by kernel_rfl) (by simp) ?_
        refine AllReadyH.cons rfl (fun K hK => ?_) AllReadyH.nil
        rw [if_pos (by rfl)]
        go_wp2_with fail
        refine (small_any (f, t) _).mono ?_
        rintro e Y ⟨⟨y1, y2⟩, rfl, hym, bXY⟩
        have HYm := hid hym
        (try replace H7 := hid ((bXY.block P7 (lt_of_block H7.out)).trans H7.out))
        (try replace H8 := hid ((bXY.block P8 (lt_of_block H8.out)).trans H8.out))
        replace BX := hid (BX.out.trans (bXY.mono BX.out.size))
        refine hK.out _ _ (SW.out _ BX.out) (fun hHeld => ?_)
        clear bXY hym
        clear hK K
        (try simp only [Act.put, List.setIfInBounds_toArray, List.set_cons_zero, List.set_cons_succ, List.getElem_toArray, List.getElem_cons_succ, List.getElem_cons_zero])
        refine wpAnyH_ready (rs := [3]) (by kernel_rfl) (by simp) ?_
        refine AllReadyH.cons rfl (fun K hK => ?_) AllReadyH.nil
        rw [if_pos (by rfl)]
        go_wp2_with fail
        refine (small_any (f2, t2) _).mono ?_
        rintro e Y ⟨⟨z1, z2⟩, rfl, hzm, bXY⟩
        have HZm := hid hzm
        (try replace H7 := hid ((bXY.block P7 (lt_of_block H7.out)).trans H7.out))
        (try replace H8 := hid ((bXY.block P8 (lt_of_block H8.out)).trans H8.out))
        replace BX := hid (BX.out.trans (bXY.mono BX.out.size))
        refine hK.out _ _ (SW.out _ BX.out) (fun hHeld => ?_)
        clear bXY hzm
        clear hK K
        (try simp only [Act.put, List.setIfInBounds_toArray, List.set_cons_zero, List.set_cons_succ, List.getElem_toArray, List.getElem_cons_succ, List.getElem_cons_zero])
        refine wpAnyH_ready (rs := [6]) (by kernel_rfl) (by simp) ?_
        refine AllReadyH.cons rfl (fun K hK => ?_) AllReadyH.nil
        rw [if_pos (by rfl)]
        have c0 : Y.cell? ⟨P7, 0, none⟩ = some (.int .i64 0) := by rw [cell_of_row _ _ _ _ _ _ H7.out]; rfl
        have c1 : Y.cell? ⟨P7, 1, none⟩ = some (.int .i64 0) := by rw [cell_of_row _ _ _ _ _ _ H7.out]; rfl
        have f0 : Y.frozen? ⟨P7, 0, none⟩ = false := by simp [World.frozen?, H7.out]
        have f1 : Y.frozen? ⟨P7, 1, none⟩ = false := by simp [World.frozen?, H7.out]
        go_simp
        have e1 := heap_setCell_same Y P7 0 _ 23 (.int .i64 y1) H7.out
        have e2 := heap_setCell_same (Y.setCell ⟨P7, 0, none⟩ (.int .i64 y1)) P7 1 _ 23 (.int .i64 y2) e1
        have e3 : ((Y.setCell ⟨P7, 0, none⟩ (.int .i64 y1)).setCell ⟨P7, 1, none⟩ (.int .i64 y2)).heap[P8]? = Y.heap[P8]? := (Below.heap_setCell _ ⟨P7, 1, none⟩ _ P8 (fun e => H78 (e.symm))).trans (Below.heap_setCell _ ⟨P7, 0, none⟩ _ P8 (fun e => H78 (e.symm)))
        replace H8 := hid (e3.trans H8.out)
        replace BX := hid ((BX.out.setCell (p := ⟨P7, 0, none⟩) HPw7.out (.int .i64 y1)).setCell (p := ⟨P7, 1, none⟩) HPw7.out (.int .i64 y2))
        replace H7 : Hid (((Y.setCell ⟨P7, 0, none⟩ (.int .i64 y1)).setCell ⟨P7, 1, none⟩ (.int .i64 y2)).heap[P7]? = some (.cells #[.int .i64 y1, .int .i64 y2] 23 (0, 0))) := hid (by rw [e2]; simp)
        refine hK.out _ _ (SW.out _ BX.out) (fun hHeld => ?_)
        clear e1 e2 e3 c0 c1 f0 f1
        generalize (Y.setCell ⟨P7, 0, none⟩ (.int .i64 y1)).setCell ⟨P7, 1, none⟩ (.int .i64 y2) = Z at *
        clear hK K
        try clear Y
        obtain ⟨Y, hY⟩ : ∃ Y, Y = Z := ⟨_, rfl⟩
        subst hY
        have K : True := trivial
        have hK : True := trivial
        clear hK K
        (try simp only [Act.put, List.setIfInBounds_toArray, List.set_cons_zero, List.set_cons_succ, List.getElem_toArray, List.getElem_cons_succ, List.getElem_cons_zero])
        refine wpAnyH_ready (rs := [7]) (by kernel_rfl) (by simp) ?_
        refine AllReadyH.cons rfl (fun K hK => ?_) AllReadyH.nil
        rw [if_pos (by rfl)]
        have c0 : Y.cell? ⟨P8, 0, none⟩ = some (.int .i64 0) := by rw [cell_of_row _ _ _ _ _ _ H8.out]; rfl
        have c1 : Y.cell? ⟨P8, 1, none⟩ = some (.int .i64 0) := by rw [cell_of_row _ _ _ _ _ _ H8.out]; rfl
        have f0 : Y.frozen? ⟨P8, 0, none⟩ = false := by simp [World.frozen?, H8.out]
        have f1 : Y.frozen? ⟨P8, 1, none⟩ = false := by simp [World.frozen?, H8.out]
        go_simp
        have e1 := heap_setCell_same Y P8 0 _ 23 (.int .i64 z1) H8.out
        have e2 := heap_setCell_same (Y.setCell ⟨P8, 0, none⟩ (.int .i64 z1)) P8 1 _ 23 (.int .i64 z2) e1
        have e3 : ((Y.setCell ⟨P8, 0, none⟩ (.int .i64 z1)).setCell ⟨P8, 1, none⟩ (.int .i64 z2)).heap[P7]? = Y.heap[P7]? := (Below.heap_setCell _ ⟨P8, 1, none⟩ _ P7 (fun e => H78 (e))).trans (Below.heap_setCell _ ⟨P8, 0, none⟩ _ P7 (fun e => H78 (e)))
        replace H7 := hid (e3.trans H7.out)
        replace BX := hid ((BX.out.setCell (p := ⟨P8, 0, none⟩) HPw8.out (.int .i64 z1)).setCell (p := ⟨P8, 1, none⟩) HPw8.out (.int .i64 z2))
        replace H8 : Hid (((Y.setCell ⟨P8, 0, none⟩ (.int .i64 z1)).setCell ⟨P8, 1, none⟩ (.int .i64 z2)).heap[P8]? = some (.cells #[.int .i64 z1, .int .i64 z2] 23 (0, 0))) := hid (by rw [e2]; simp)
        refine hK.out _ _ (SW.out _ BX.out) (fun hHeld => ?_)
        clear e1 e2 e3 c0 c1 f0 f1
        generalize (Y.setCell ⟨P8, 0, none⟩ (.int .i64 z1)).setCell ⟨P8, 1, none⟩ (.int .i64 z2) = Z at *
        clear hK K
        try clear Y
        obtain ⟨Y, hY⟩ : ∃ Y, Y = Z := ⟨_, rfl⟩
        subst hY
        have K : True := trivial
        have hK : True := trivial
        clear hK K
        (try simp only [Act.put, List.setIfInBounds_toArray, List.set_cons_zero, List.set_cons_succ, List.getElem_toArray, List.getElem_cons_succ, List.getElem_cons_zero])
        refine wpAnyH_done (by kernel_rfl) ?_ _
        refine ⟨y1, y2, z1, z2, P7, P8, ?_, H7.out, H8.out, ⟨H78, HPw7.out, HPw8.out⟩, HYm.out, HZm.out, BX.out⟩
        with_reducible rfl
  intro e a' W hq
  cases e <;> first | exact (hq : False).elim | skip
  obtain ⟨y1, y2, z1, z2, P7, P8, rfl, h7, h8, ⟨H78, hP7w, hP8w⟩, hym, hzm, hbW⟩ := hq
  (try simp only [Exit.then])
  have hy : 0 ≤ y1 ∧ y2 ≤ 256 ∧ y1 < y2 := by unfold mayBeB at hym; simp only [Bool.and_eq_true, Bool.not_eq_true', decide_eq_true_eq, decide_eq_false_iff_not] at hym; omega
  have hz : 0 ≤ z1 ∧ z2 ≤ 256 ∧ z1 < z2 := by unfold mayBeB at hzm; simp only [Bool.and_eq_true, Bool.not_eq_true', decide_eq_true_eq, decide_eq_false_iff_not] at hzm; omega
  have wy : IntKind.i64.wrap (y1 + 16) = y1 + 16 := IntWalk.i64_in _ ⟨by omega, by omega⟩
  have wz : IntKind.i64.wrap (z1 + 16) = z1 + 16 := IntWalk.i64_in _ ⟨by omega, by omega⟩
  obtain ⟨xx, hxx⟩ : ∃ xx, (if y1 + 16 < y2 then y1 + 16 else y2) = xx := ⟨_, rfl⟩
  obtain ⟨zz, hzz⟩ : ∃ zz, (if z1 + 16 < z2 then z1 + 16 else z2) = zz := ⟨_, rfl⟩
  have hxb : y1 < xx ∧ xx ≤ y1 + 16 ∧ xx ≤ 256 := by rw [← hxx]; split <;> omega
  have hzb : z1 < zz ∧ zz ≤ z1 + 16 ∧ zz ≤ 256 := by rw [← hzz]; split <;> omega
  have HPw7 := hid hP7w
  have HPw8 := hid hP8w
  have H70 := hid h7
  have H80 := hid h8
  have BW0 := hid hbW
  clear h7 h8 hP7w hP8w hym hzm hbW
  go_upto_region 2 with fail
  refine Code.wp_mono (Q := Late2 w1 y1 xx z1 zz P7 P8 ?Fr2) ?imp2 ?reg2
  case reg2 =>
    refine wp_region_held_drew (S := fun X => X.cell? ⟨P7, 0, none⟩ = some (.int .i64 y1) ∧ X.cell? ⟨P8, 0, none⟩ = some (.int .i64 z1)) (by kernel_rfl) ⟨by show W.cell? _ = _; rw [cell_of_row _ _ _ _ _ _ H70.out]; rfl, by show W.cell? _ = _; rw [cell_of_row _ _ _ _ _ _ H80.out]; rfl⟩ (fun hHeld => ?_)
    obtain ⟨Y, hY⟩ : ∃ Y, Y = W.drew := ⟨_, rfl⟩
    have BX : Hid (Below w1.heap.size w1 Y) := hid (by rw [hY]; exact BW0.out.drew)
    have H7 : Hid (Y.heap[P7]? = some (.cells #[.int .i64 y1, .int .i64 y2] 23 (0, 0))) := hid (by rw [hY]; exact H70.out)
    have H8 : Hid (Y.heap[P8]? = some (.cells #[.int .i64 z1, .int .i64 z2] 23 (0, 0))) := hid (by rw [hY]; exact H80.out)
    rw [← hY] at hHeld ⊢
    clear hY
    refine wpAnyH_take (i := 0) (v := ?mv0) rfl (by kernel_rfl) (by kernel_rfl) (by kernel_rfl) (fun _ _ _ h => h) (Or.inl ⟨by rfl, ?my0⟩) (by assumption) ?mr0
    case my0 => (intro w hSw; (try dsimp only at hSw); go_simp; try with_reducible rfl)
    (try simp only [Act.put, List.setIfInBounds_toArray, List.set_cons_zero, List.set_cons_succ, List.getElem_toArray, List.getElem_cons_succ, List.getElem_cons_zero])
    refine wpAnyH_take (i := 2) (v := ?mv2) rfl (by kernel_rfl) (by kernel_rfl) (by kernel_rfl) (fun _ _ _ h => h) (Or.inl ⟨by rfl, ?my2⟩) (by assumption) ?mr2
    case my2 => (intro w hSw; (try dsimp only at hSw); go_simp; try with_reducible rfl)
    (try simp only [Act.put, List.setIfInBounds_toArray, List.set_cons_zero, List.set_cons_succ, List.getElem_toArray, List.getElem_cons_succ, List.getElem_cons_zero])
    refine wpAnyH_take (i := 3) (v := ?mv3) rfl (by kernel_rfl) (by kernel_rfl) (by kernel_rfl) (fun _ _ _ h => h) (Or.inl ⟨by rfl, ?my3⟩) (by assumption) ?mr3
    case my3 => (intro w hSw; (try dsimp only at hSw); go_simp; try with_reducible rfl)
    (try simp only [Act.put, List.setIfInBounds_toArray, List.set_cons_zero, List.set_cons_succ, List.getElem_toArray, List.getElem_cons_succ, List.getElem_cons_zero])
    refine wpAnyH_take (i := 4) (v := ?mv4) rfl (by kernel_rfl) (by kernel_rfl) (by kernel_rfl) (fun _ _ _ h => h) (Or.inl ⟨by rfl, ?my4⟩) (by assumption) ?mr4
    case my4 => (intro w hSw; (try dsimp only at hSw); go_simp; try with_reducible rfl)
    (try simp only [Act.put, List.setIfInBounds_toArray, List.set_cons_zero, List.set_cons_succ, List.getElem_toArray, List.getElem_cons_succ, List.getElem_cons_zero])
    refine wpAnyH_take (i := 6) (v := ?mv6) rfl (by kernel_rfl) (by kernel_rfl) (by kernel_rfl) (fun _ _ _ h => h) (Or.inl ⟨by rfl, ?my6⟩) (by assumption) ?mr6
    case my6 => (intro w hSw; (try dsimp only at hSw); go_simp; try with_reducible rfl)
    (try simp only [Act.put, List.setIfInBounds_toArray, List.set_cons_zero, List.set_cons_succ, List.getElem_toArray, List.getElem_cons_succ, List.getElem_cons_zero])
    refine wpAnyH_take (i := 8) (v := ?mv8) rfl (by kernel_rfl) (by kernel_rfl) (by kernel_rfl) (fun _ _ _ h => h) (Or.inl ⟨by rfl, ?my8⟩) (by assumption) ?mr8
    case my8 => (intro w hSw; (try dsimp only at hSw); go_simp; try with_reducible rfl)
    (try simp only [Act.put, List.setIfInBounds_toArray, List.set_cons_zero, List.set_cons_succ, List.getElem_toArray, List.getElem_cons_succ, List.getElem_cons_zero])
    refine wpAnyH_take (i := 9) (v := ?mv9) rfl (by kernel_rfl) (by kernel_rfl) (by kernel_rfl) (fun _ _ _ h => h) (Or.inl ⟨by rfl, ?my9⟩) (by assumption) ?mr9
    case my9 => (intro w hSw; (try dsimp only at hSw); go_simp; try with_reducible rfl)
    (try simp only [Act.put, List.setIfInBounds_toArray, List.set_cons_zero, List.set_cons_succ, List.getElem_toArray, List.getElem_cons_succ, List.getElem_cons_zero])
    refine wpAnyH_take (i := 10) (v := ?mv10) rfl (by kernel_rfl) (by kernel_rfl) (by kernel_rfl) (fun _ _ _ h => h) (Or.inl ⟨by rfl, ?my10⟩) (by assumption) ?mr10
    case my10 => (intro w hSw; (try dsimp only at hSw); go_simp; try with_reducible rfl)
    (try simp only [Act.put, List.setIfInBounds_toArray, List.set_cons_zero, List.set_cons_succ, List.getElem_toArray, List.getElem_cons_succ, List.getElem_cons_zero])
    refine wpAnyH_ready (rs := [1, 7]) (by kernel_rfl) (by simp) ?_
    refine AllReadyH.cons rfl (fun K hK => ?_) (AllReadyH.cons rfl (fun K hK => ?_) AllReadyH.nil)
    · rw [if_pos (by rfl)]
      have cld : Y.cell? ⟨P7, 1, none⟩ = some (.int .i64 y2) := by rw [cell_of_row _ _ _ _ _ _ H7.out]; rfl
      go_simp
      refine hK.out _ _ hHeld (fun hHeld => ?_)
      clear cld
      clear hK K
      (try simp only [Act.put, List.setIfInBounds_toArray, List.set_cons_zero, List.set_cons_succ, List.getElem_toArray, List.getElem_cons_succ, List.getElem_cons_zero])
      refine wpAnyH_take (i := 5) (v := (.int .i64 xx)) rfl (by kernel_rfl) (by kernel_rfl) (by kernel_rfl) (fun _ _ _ h => h) (Or.inl ⟨by rfl, ?pay5⟩) (by assumption) ?par5
      case pay5 => (intro w hSw; (try dsimp only at hSw); go_simp; try with_reducible rfl)
      (try simp only [Act.put, List.setIfInBounds_toArray, List.set_cons_zero, List.set_cons_succ, List.getElem_toArray, List.getElem_cons_succ, List.getElem_cons_zero])
      refine wpAnyH_take (i := 12) (v := ?pav12) rfl (by kernel_rfl) (by kernel_rfl) (by kernel_rfl) (fun _ _ _ h => h) (Or.inl ⟨by rfl, ?pay12⟩) (by assumption) ?par12
      case pay12 => (intro w hSw; (try dsimp only at hSw); go_simp; try with_reducible rfl)
      (try simp only [Act.put, List.setIfInBounds_toArray, List.set_cons_zero, List.set_cons_succ, List.getElem_toArray, List.getElem_cons_succ, List.getElem_cons_zero])
      refine wpAnyH_ready (rs := [7, 13]) (by kernel_rfl) (by simp) ?_
      refine AllReadyH.cons rfl (fun K hK => ?_) (AllReadyH.cons rfl (fun K hK => ?_) AllReadyH.nil)
      · rw [if_pos (by rfl)]
        have cld : Y.cell? ⟨P8, 1, none⟩ = some (.int .i64 z2) := by rw [cell_of_row _ _ _ _ _ _ H8.out]; rfl
        go_simp
        refine hK.out _ _ hHeld (fun hHeld => ?_)
        clear cld
        clear hK K
        (try simp only [Act.put, List.setIfInBounds_toArray, List.set_cons_zero, List.set_cons_succ, List.getElem_toArray, List.getElem_cons_succ, List.getElem_cons_zero])
        refine wpAnyH_take (i := 11) (v := (.int .i64 zz)) rfl (by kernel_rfl) (by kernel_rfl) (by kernel_rfl) (fun _ _ _ h => h) (Or.inl ⟨by rfl, ?pcy11⟩) (by assumption) ?pcr11
        case pcy11 => (intro w hSw; (try dsimp only at hSw); go_simp; try with_reducible rfl)
        (try simp only [Act.put, List.setIfInBounds_toArray, List.set_cons_zero, List.set_cons_succ, List.getElem_toArray, List.getElem_cons_succ, List.getElem_cons_zero])
        refine wpAnyH_ready (rs := [13]) (by kernel_rfl) (by simp) ?_
        refine AllReadyH.cons rfl (fun K hK => ?_) AllReadyH.nil
        rw [if_pos (by rfl)]
        have c1 : Y.cell? ⟨P7, 1, none⟩ = some (.int .i64 y2) := by rw [cell_of_row _ _ _ _ _ _ H7.out]; rfl
        have f1 : Y.frozen? ⟨P7, 1, none⟩ = false := by simp [World.frozen?, H7.out]
        go_simp
        have e2 := heap_setCell_same Y P7 1 _ 23 (.int .i64 xx) H7.out
        have e3 : (Y.setCell ⟨P7, 1, none⟩ (.int .i64 xx)).heap[P8]? = Y.heap[P8]? := Below.heap_setCell _ ⟨P7, 1, none⟩ _ P8 (fun e => H78 (e.symm))
        replace H8 := hid (e3.trans H8.out)
        replace BX := hid (BX.out.setCell (p := ⟨P7, 1, none⟩) HPw7.out (.int .i64 xx))
        replace H7 : Hid ((Y.setCell ⟨P7, 1, none⟩ (.int .i64 xx)).heap[P7]? = some (.cells #[.int .i64 y1, .int .i64 xx] 23 (0, 0))) := hid (by rw [e2]; simp)
        refine hK.out _ _ ⟨by rw [cell_of_row _ _ _ _ _ _ H7.out]; rfl, by rw [cell_of_row _ _ _ _ _ _ H8.out]; rfl⟩ (fun hHeld => ?_)
        clear e2 e3 c1 f1
        generalize Y.setCell ⟨P7, 1, none⟩ (.int .i64 xx) = Z at *
        clear hK K
        try clear Y
        obtain ⟨Y, hY⟩ : ∃ Y, Y = Z := ⟨_, rfl⟩
        subst hY
        have K : True := trivial
        have hK : True := trivial
        clear hK K
        (try simp only [Act.put, List.setIfInBounds_toArray, List.set_cons_zero, List.set_cons_succ, List.getElem_toArray, List.getElem_cons_succ, List.getElem_cons_zero])
        refine wpAnyH_take (i := 14) (v := ?pdv14) rfl (by kernel_rfl) (by kernel_rfl) (by kernel_rfl) (fun _ _ _ h => h) (Or.inl ⟨by rfl, ?pdy14⟩) (by assumption) ?pdr14
        case pdy14 => (intro w hSw; (try dsimp only at hSw); go_simp; try with_reducible rfl)
        (try simp only [Act.put, List.setIfInBounds_toArray, List.set_cons_zero, List.set_cons_succ, List.getElem_toArray, List.getElem_cons_succ, List.getElem_cons_zero])
        refine wpAnyH_ready (rs := [15]) (by kernel_rfl) (by simp) ?_
        refine AllReadyH.cons rfl (fun K hK => ?_) AllReadyH.nil
        rw [if_pos (by rfl)]
        have c1 : Y.cell? ⟨P8, 1, none⟩ = some (.int .i64 z2) := by rw [cell_of_row _ _ _ _ _ _ H8.out]; rfl
        have f1 : Y.frozen? ⟨P8, 1, none⟩ = false := by simp [World.frozen?, H8.out]
        go_simp
        have e2 := heap_setCell_same Y P8 1 _ 23 (.int .i64 zz) H8.out
        have e3 : (Y.setCell ⟨P8, 1, none⟩ (.int .i64 zz)).heap[P7]? = Y.heap[P7]? := Below.heap_setCell _ ⟨P8, 1, none⟩ _ P7 (fun e => H78 (e))
        replace H7 := hid (e3.trans H7.out)
        replace BX := hid (BX.out.setCell (p := ⟨P8, 1, none⟩) HPw8.out (.int .i64 zz))
        replace H8 : Hid ((Y.setCell ⟨P8, 1, none⟩ (.int .i64 zz)).heap[P8]? = some (.cells #[.int .i64 z1, .int .i64 zz] 23 (0, 0))) := hid (by rw [e2]; simp)
        refine hK.out _ _ ⟨by rw [cell_of_row _ _ _ _ _ _ H7.out]; rfl, by rw [cell_of_row _ _ _ _ _ _ H8.out]; rfl⟩ (fun hHeld => ?_)
        clear e2 e3 c1 f1
        generalize Y.setCell ⟨P8, 1, none⟩ (.int .i64 zz) = Z at *
        clear hK K
        try clear Y
        obtain ⟨Y, hY⟩ : ∃ Y, Y = Z := ⟨_, rfl⟩
        subst hY
        have K : True := trivial
        have hK : True := trivial
        clear hK K
        (try simp only [Act.put, List.setIfInBounds_toArray, List.set_cons_zero, List.set_cons_succ, List.getElem_toArray, List.getElem_cons_succ, List.getElem_cons_zero])
        refine wpAnyH_done (by kernel_rfl) ?_ _
        refine ⟨?_, H7.out, H8.out, BX.out⟩
        with_reducible rfl
      · rw [if_pos (by rfl)]
        have c1 : Y.cell? ⟨P7, 1, none⟩ = some (.int .i64 y2) := by rw [cell_of_row _ _ _ _ _ _ H7.out]; rfl
        have f1 : Y.frozen? ⟨P7, 1, none⟩ = false := by simp [World.frozen?, H7.out]
        go_simp
        have e2 := heap_setCell_same Y P7 1 _ 23 (.int .i64 xx) H7.out
        have e3 : (Y.setCell ⟨P7, 1, none⟩ (.int .i64 xx)).heap[P8]? = Y.heap[P8]? := Below.heap_setCell _ ⟨P7, 1, none⟩ _ P8 (fun e => H78 (e.symm))
        replace H8 := hid (e3.trans H8.out)
        replace BX := hid (BX.out.setCell (p := ⟨P7, 1, none⟩) HPw7.out (.int .i64 xx))
        replace H7 : Hid ((Y.setCell ⟨P7, 1, none⟩ (.int .i64 xx)).heap[P7]? = some (.cells #[.int .i64 y1, .int .i64 xx] 23 (0, 0))) := hid (by rw [e2]; simp)
        refine hK.out _ _ ⟨by rw [cell_of_row _ _ _ _ _ _ H7.out]; rfl, by rw [cell_of_row _ _ _ _ _ _ H8.out]; rfl⟩ (fun hHeld => ?_)
        clear e2 e3 c1 f1
        generalize Y.setCell ⟨P7, 1, none⟩ (.int .i64 xx) = Z at *
        clear hK K
        try clear Y
        obtain ⟨Y, hY⟩ : ∃ Y, Y = Z := ⟨_, rfl⟩
        subst hY
        have K : True := trivial
        have hK : True := trivial
        clear hK K
        (try simp only [Act.put, List.setIfInBounds_toArray, List.set_cons_zero, List.set_cons_succ, List.getElem_toArray, List.getElem_cons_succ, List.getElem_cons_zero])
        refine wpAnyH_ready (rs := [7]) (by kernel_rfl) (by simp) ?_
        refine AllReadyH.cons rfl (fun K hK => ?_) AllReadyH.nil
        rw [if_pos (by rfl)]
        have cld : Y.cell? ⟨P8, 1, none⟩ = some (.int .i64 z2) := by rw [cell_of_row _ _ _ _ _ _ H8.out]; rfl
        go_simp
        refine hK.out _ _ hHeld (fun hHeld => ?_)
        clear cld
        clear hK K
        (try simp only [Act.put, List.setIfInBounds_toArray, List.set_cons_zero, List.set_cons_succ, List.getElem_toArray, List.getElem_cons_succ, List.getElem_cons_zero])
        refine wpAnyH_take (i := 11) (v := (.int .i64 zz)) rfl (by kernel_rfl) (by kernel_rfl) (by kernel_rfl) (fun _ _ _ h => h) (Or.inl ⟨by rfl, ?qcy11⟩) (by assumption) ?qcr11
        case qcy11 => (intro w hSw; (try dsimp only at hSw); go_simp; try with_reducible rfl)
        (try simp only [Act.put, List.setIfInBounds_toArray, List.set_cons_zero, List.set_cons_succ, List.getElem_toArray, List.getElem_cons_succ, List.getElem_cons_zero])
        refine wpAnyH_take (i := 14) (v := ?qcv14) rfl (by kernel_rfl) (by kernel_rfl) (by kernel_rfl) (fun _ _ _ h => h) (Or.inl ⟨by rfl, ?qcy14⟩) (by assumption) ?qcr14
        case qcy14 => (intro w hSw; (try dsimp only at hSw); go_simp; try with_reducible rfl)
        (try simp only [Act.put, List.setIfInBounds_toArray, List.set_cons_zero, List.set_cons_succ, List.getElem_toArray, List.getElem_cons_succ, List.getElem_cons_zero])
        refine wpAnyH_ready (rs := [15]) (by kernel_rfl) (by simp) ?_
        refine AllReadyH.cons rfl (fun K hK => ?_) AllReadyH.nil
        rw [if_pos (by rfl)]
        have c1 : Y.cell? ⟨P8, 1, none⟩ = some (.int .i64 z2) := by rw [cell_of_row _ _ _ _ _ _ H8.out]; rfl
        have f1 : Y.frozen? ⟨P8, 1, none⟩ = false := by simp [World.frozen?, H8.out]
        go_simp
        have e2 := heap_setCell_same Y P8 1 _ 23 (.int .i64 zz) H8.out
        have e3 : (Y.setCell ⟨P8, 1, none⟩ (.int .i64 zz)).heap[P7]? = Y.heap[P7]? := Below.heap_setCell _ ⟨P8, 1, none⟩ _ P7 (fun e => H78 (e))
        replace H7 := hid (e3.trans H7.out)
        replace BX := hid (BX.out.setCell (p := ⟨P8, 1, none⟩) HPw8.out (.int .i64 zz))
        replace H8 : Hid ((Y.setCell ⟨P8, 1, none⟩ (.int .i64 zz)).heap[P8]? = some (.cells #[.int .i64 z1, .int .i64 zz] 23 (0, 0))) := hid (by rw [e2]; simp)
        refine hK.out _ _ ⟨by rw [cell_of_row _ _ _ _ _ _ H7.out]; rfl, by rw [cell_of_row _ _ _ _ _ _ H8.out]; rfl⟩ (fun hHeld => ?_)
        clear e2 e3 c1 f1
        generalize Y.setCell ⟨P8, 1, none⟩ (.int .i64 zz) = Z at *
        clear hK K
        try clear Y
        obtain ⟨Y, hY⟩ : ∃ Y, Y = Z := ⟨_, rfl⟩
        subst hY
        have K : True := trivial
        have hK : True := trivial
        clear hK K
        (try simp only [Act.put, List.setIfInBounds_toArray, List.set_cons_zero, List.set_cons_succ, List.getElem_toArray, List.getElem_cons_succ, List.getElem_cons_zero])
        refine wpAnyH_done (by kernel_rfl) ?_ _
        refine ⟨?_, H7.out, H8.out, BX.out⟩
        with_reducible rfl
    · rw [if_pos (by rfl)]
      have cld : Y.cell? ⟨P8, 1, none⟩ = some (.int .i64 z2) := by rw [cell_of_row _ _ _ _ _ _ H8.out]; rfl
      go_simp
      refine hK.out _ _ hHeld (fun hHeld => ?_)
      clear cld
      clear hK K
      (try simp only [Act.put, List.setIfInBounds_toArray, List.set_cons_zero, List.set_cons_succ, List.getElem_toArray, List.getElem_cons_succ, List.getElem_cons_zero])
      refine wpAnyH_take (i := 11) (v := (.int .i64 zz)) rfl (by kernel_rfl) (by kernel_rfl) (by kernel_rfl) (fun _ _ _ h => h) (Or.inl ⟨by rfl, ?ray11⟩) (by assumption) ?rar11
      case ray11 => (intro w hSw; (try dsimp only at hSw); go_simp; try with_reducible rfl)
      (try simp only [Act.put, List.setIfInBounds_toArray, List.set_cons_zero, List.set_cons_succ, List.getElem_toArray, List.getElem_cons_succ, List.getElem_cons_zero])
      refine wpAnyH_ready (rs := [1]) (by kernel_rfl) (by simp) ?_
      refine AllReadyH.cons rfl (fun K hK => ?_) AllReadyH.nil
      rw [if_pos (by rfl)]
      have cld : Y.cell? ⟨P7, 1, none⟩ = some (.int .i64 y2) := by rw [cell_of_row _ _ _ _ _ _ H7.out]; rfl
      go_simp
      refine hK.out _ _ hHeld (fun hHeld => ?_)
      clear cld
      clear hK K
      (try simp only [Act.put, List.setIfInBounds_toArray, List.set_cons_zero, List.set_cons_succ, List.getElem_toArray, List.getElem_cons_succ, List.getElem_cons_zero])
      refine wpAnyH_take (i := 5) (v := (.int .i64 xx)) rfl (by kernel_rfl) (by kernel_rfl) (by kernel_rfl) (fun _ _ _ h => h) (Or.inl ⟨by rfl, ?rby5⟩) (by assumption) ?rbr5
      case rby5 => (intro w hSw; (try dsimp only at hSw); go_simp; try with_reducible rfl)
      (try simp only [Act.put, List.setIfInBounds_toArray, List.set_cons_zero, List.set_cons_succ, List.getElem_toArray, List.getElem_cons_succ, List.getElem_cons_zero])
      refine wpAnyH_take (i := 12) (v := ?rbv12) rfl (by kernel_rfl) (by kernel_rfl) (by kernel_rfl) (fun _ _ _ h => h) (Or.inl ⟨by rfl, ?rby12⟩) (by assumption) ?rbr12
      case rby12 => (intro w hSw; (try dsimp only at hSw); go_simp; try with_reducible rfl)
      (try simp only [Act.put, List.setIfInBounds_toArray, List.set_cons_zero, List.set_cons_succ, List.getElem_toArray, List.getElem_cons_succ, List.getElem_cons_zero])
      refine wpAnyH_ready (rs := [13]) (by kernel_rfl) (by simp) ?_
      refine AllReadyH.cons rfl (fun K hK => ?_) AllReadyH.nil
      rw [if_pos (by rfl)]
      have c1 : Y.cell? ⟨P7, 1, none⟩ = some (.int .i64 y2) := by rw [cell_of_row _ _ _ _ _ _ H7.out]; rfl
      have f1 : Y.frozen? ⟨P7, 1, none⟩ = false := by simp [World.frozen?, H7.out]
      go_simp
      have e2 := heap_setCell_same Y P7 1 _ 23 (.int .i64 xx) H7.out
      have e3 : (Y.setCell ⟨P7, 1, none⟩ (.int .i64 xx)).heap[P8]? = Y.heap[P8]? := Below.heap_setCell _ ⟨P7, 1, none⟩ _ P8 (fun e => H78 (e.symm))
      replace H8 := hid (e3.trans H8.out)
      replace BX := hid (BX.out.setCell (p := ⟨P7, 1, none⟩) HPw7.out (.int .i64 xx))
      replace H7 : Hid ((Y.setCell ⟨P7, 1, none⟩ (.int .i64 xx)).heap[P7]? = some (.cells #[.int .i64 y1, .int .i64 xx] 23 (0, 0))) := hid (by rw [e2]; simp)
      refine hK.out _ _ ⟨by rw [cell_of_row _ _ _ _ _ _ H7.out]; rfl, by rw [cell_of_row _ _ _ _ _ _ H8.out]; rfl⟩ (fun hHeld => ?_)
      clear e2 e3 c1 f1
      generalize Y.setCell ⟨P7, 1, none⟩ (.int .i64 xx) = Z at *
      clear hK K
      try clear Y
      obtain ⟨Y, hY⟩ : ∃ Y, Y = Z := ⟨_, rfl⟩
      subst hY
      have K : True := trivial
      have hK : True := trivial
      clear hK K
      (try simp only [Act.put, List.setIfInBounds_toArray, List.set_cons_zero, List.set_cons_succ, List.getElem_toArray, List.getElem_cons_succ, List.getElem_cons_zero])
      refine wpAnyH_take (i := 14) (v := ?rcv14) rfl (by kernel_rfl) (by kernel_rfl) (by kernel_rfl) (fun _ _ _ h => h) (Or.inl ⟨by rfl, ?rcy14⟩) (by assumption) ?rcr14
      case rcy14 => (intro w hSw; (try dsimp only at hSw); go_simp; try with_reducible rfl)
      (try simp only [Act.put, List.setIfInBounds_toArray, List.set_cons_zero, List.set_cons_succ, List.getElem_toArray, List.getElem_cons_succ, List.getElem_cons_zero])
      refine wpAnyH_ready (rs := [15]) (by kernel_rfl) (by simp) ?_
      refine AllReadyH.cons rfl (fun K hK => ?_) AllReadyH.nil
      rw [if_pos (by rfl)]
      have c1 : Y.cell? ⟨P8, 1, none⟩ = some (.int .i64 z2) := by rw [cell_of_row _ _ _ _ _ _ H8.out]; rfl
      have f1 : Y.frozen? ⟨P8, 1, none⟩ = false := by simp [World.frozen?, H8.out]
      go_simp
      have e2 := heap_setCell_same Y P8 1 _ 23 (.int .i64 zz) H8.out
      have e3 : (Y.setCell ⟨P8, 1, none⟩ (.int .i64 zz)).heap[P7]? = Y.heap[P7]? := Below.heap_setCell _ ⟨P8, 1, none⟩ _ P7 (fun e => H78 (e))
      replace H7 := hid (e3.trans H7.out)
      replace BX := hid (BX.out.setCell (p := ⟨P8, 1, none⟩) HPw8.out (.int .i64 zz))
      replace H8 : Hid ((Y.setCell ⟨P8, 1, none⟩ (.int .i64 zz)).heap[P8]? = some (.cells #[.int .i64 z1, .int .i64 zz] 23 (0, 0))) := hid (by rw [e2]; simp)
      refine hK.out _ _ ⟨by rw [cell_of_row _ _ _ _ _ _ H7.out]; rfl, by rw [cell_of_row _ _ _ _ _ _ H8.out]; rfl⟩ (fun hHeld => ?_)
      clear e2 e3 c1 f1
      generalize Y.setCell ⟨P8, 1, none⟩ (.int .i64 zz) = Z at *
      clear hK K
      try clear Y
      obtain ⟨Y, hY⟩ : ∃ Y, Y = Z := ⟨_, rfl⟩
      subst hY
      have K : True := trivial
      have hK : True := trivial
      clear hK K
      (try simp only [Act.put, List.setIfInBounds_toArray, List.set_cons_zero, List.set_cons_succ, List.getElem_toArray, List.getElem_cons_succ, List.getElem_cons_zero])
      refine wpAnyH_done (by kernel_rfl) ?_ _
      refine ⟨?_, H7.out, H8.out, BX.out⟩
      with_reducible rfl
  clear H70 H80 BW0 wy wz hxx hzz
  intro e a' W hq
  cases e <;> first | exact (hq : False).elim | skip
  obtain ⟨rfl, h7, h8, hbW⟩ := hq
  (try simp only [Exit.then])
  have H7 := hid h7
  have H8 := hid h8
  have BW := hid hbW
  clear h7 h8 hbW
  obtain ⟨-, -, -, -, kk0, kk1⟩ := SW.out W BW.out
  go_upto_region 5 with fail
  obtain ⟨E, hE⟩ : ∃ E, E = wrap64 (1 + wrap64 ((IntKind.u64.wrap k0).tmod 1000000)) := ⟨_, rfl⟩
  rw [← hE]
  obtain ⟨Lt, hLt⟩ : ∃ Lt, Lt = wrap64 (wrap64 (E + 1) + wrap64 ((IntKind.u64.wrap k1).tmod 1000000)) := ⟨_, rfl⟩
  rw [← hLt]
  have hEb : 1 ≤ E ∧ E ≤ 1000000 := by
    have := rest_in2 k0 1000000 (by omega) (by omega)
    rw [hE, IntWalk.wrap64_in _ (by omega)]; omega
  have hLb : E < Lt ∧ Lt ≤ 2000001 := by
    have := rest_in2 k1 1000000 (by omega) (by omega)
    rw [hLt, IntWalk.wrap64_in (E + 1) (by omega), IntWalk.wrap64_in _ (by omega)]; omega
  clear hE hLt kk0 kk1
  go_wp2_with fail
  refine (new_yes (0, 256) W (by kernel_rfl)).mono ?_
  rintro e w3 ⟨b, g, rfl, hbw, hgw, hst3, hb3⟩
  have H73 := hid ((hb3.block P7 (lt_of_block H7.out)).trans H7.out)
  have H83 := hid ((hb3.block P8 (lt_of_block H8.out)).trans H8.out)
  have B3 := hid (BW.out.trans (hb3.mono BW.out.size))
  have HBG : Hid (w1.heap.size ≤ b ∧ w1.heap.size ≤ g) := hid ⟨Nat.le_trans BW.out.size hbw, Nat.le_trans BW.out.size hgw⟩
  have HPb7 : Hid (¬ (P7 = b ∨ P7 = g)) := hid (by have := lt_of_block H7.out; omega)
  have HPb8 : Hid (¬ (P8 = b ∨ P8 = g)) := hid (by have := lt_of_block H8.out; omega)
  simp only at hst3
  obtain ⟨S0, hS0⟩ : ∃ S0, S0 = (⟨0, 256, false, List.replicate (256 - 0 : Int).toNat zeroC⟩ : StD) := ⟨_, rfl⟩
  rw [← hS0] at hst3
  have HS0 := hid hS0
  have ST3 := hid hst3
  clear hS0 hst3 hb3 hbw hgw H7 H8 BW
  obtain ⟨n1, hn1⟩ : ∃ n : Nat, xx - y1 = n := ⟨(xx - y1).toNat, by omega⟩
  obtain ⟨n2, hn2⟩ : ∃ n : Nat, zz - z1 = n := ⟨(zz - z1).toNat, by omega⟩
  have hw1 : IntKind.i64.wrap (xx - y1) = (n1 : Int) := by rw [IntWalk.i64_in _ ⟨by omega, by omega⟩]; exact hn1
  have hw2 : IntKind.i64.wrap (zz - z1) = (n2 : Int) := by rw [IntWalk.i64_in _ ⟨by omega, by omega⟩]; exact hn2
  have HN1 := hid (show xx = y1 + (n1 : Int) by omega)
  have HN2 := hid (show zz = z1 + (n2 : Int) by omega)
  have hb1 : 0 < n1 ∧ n1 ≤ 16 := by omega
  have hb2 : 0 < n2 ∧ n2 ≤ 16 := by omega
  clear hn1 hn2
  have p0 : w3.cell? ⟨P7, 0, none⟩ = some (.int .i64 y1) := by rw [cell_of_row _ _ _ _ _ _ H73.out]; rfl
  have p1 : w3.cell? ⟨P7, 1, none⟩ = some (.int .i64 xx) := by rw [cell_of_row _ _ _ _ _ _ H73.out]; rfl
  obtain ⟨w4, hw4⟩ : ∃ w4, w4 = w3.alloc (.cells #[.int .i64 2, .int .i64 2, .int .i64 Lt, .int .i64 y1, .int .i64 xx, .slice none 0 0] 35) := ⟨_, rfl⟩
  have b4 : Below w3.heap.size w3 w4 := by rw [hw4]; exact (Below.refl _ _).alloc (Nat.le_refl _) _
  have h44 : w4.heap[w3.heap.size]? = some (.cells #[.int .i64 2, .int .i64 2, .int .i64 Lt, .int .i64 y1, .int .i64 xx, .slice none 0 0] 35 (0, 0)) := by rw [hw4]; exact heap_alloc_new _ _
  have HW4 := hid hw4
  clear hw4
  go_upto_region 9 with fail
  rw [← HW4.out]
  obtain ⟨PC, hPC⟩ : ∃ P, P = w3.heap.size := ⟨_, rfl⟩
  rw [← hPC] at h44
  rw [← hPC]
  have HPCw : Hid (PC = w3.heap.size) := hid hPC
  clear hPC HW4 p0 p1
  have H74 := hid ((b4.block P7 (lt_of_block H73.out)).trans H73.out)
  have H84 := hid ((b4.block P8 (lt_of_block H83.out)).trans H83.out)
  have p0 : w4.cell? ⟨P8, 0, none⟩ = some (.int .i64 z1) := by rw [cell_of_row _ _ _ _ _ _ H84.out]; rfl
  have p1 : w4.cell? ⟨P8, 1, none⟩ = some (.int .i64 zz) := by rw [cell_of_row _ _ _ _ _ _ H84.out]; rfl
  obtain ⟨w5, hw5⟩ : ∃ w5, w5 = w4.alloc (.cells #[.int .i64 2, .int .i64 2, .int .i64 E, .int .i64 z1, .int .i64 zz, .slice none 0 0] 35) := ⟨_, rfl⟩
  have b5 : Below w4.heap.size w4 w5 := by rw [hw5]; exact (Below.refl _ _).alloc (Nat.le_refl _) _
  have h55 : w5.heap[w4.heap.size]? = some (.cells #[.int .i64 2, .int .i64 2, .int .i64 E, .int .i64 z1, .int .i64 zz, .slice none 0 0] 35 (0, 0)) := by rw [hw5]; exact heap_alloc_new _ _
  have HW5 := hid hw5
  clear hw5
  go_upto_region 10 with fail
  rw [← HW5.out]
  obtain ⟨PD, hPD⟩ : ∃ P, P = w4.heap.size := ⟨_, rfl⟩
  rw [← hPD] at h55
  rw [← hPD]
  have hPCD : PC < PD := by rw [hPD]; exact lt_of_block h44
  have H75 := hid ((b5.block P7 (lt_of_block H74.out)).trans H74.out)
  have H85 := hid ((b5.block P8 (lt_of_block H84.out)).trans H84.out)
  have hC5 := (b5.block PC (lt_of_block h44)).trans h44
  have B5 := hid ((B3.out.trans (b4.mono B3.out.size)).trans (b5.mono (B3.out.trans (b4.mono B3.out.size)).size))
  have ST5 := hid ((ST3.out.below b4).below b5)
  have HPlPC : Hid (PC < w5.heap.size) := hid (lt_of_block hC5)
  have HPlPD0 : Hid (PD < w5.heap.size) := hid (lt_of_block h55)
  have LBPC : Hid (LB w5 PC Lt y1 xx tLater 0 none 0 w5) := hid ⟨hC5, World.ownsRow_nil _ _ _ _, ⟨rfl, rfl, rfl, Nat.le_refl _, fun _ _ _ => rfl⟩⟩
  have HD5 := hid h55
  have HP78 : Hid (P7 ≠ PC ∧ P8 ≠ PC ∧ P7 ≠ PD ∧ P8 ≠ PD) := hid (by
    have a1 := lt_of_block H73.out
    have a2 := lt_of_block H83.out
    have a3 := HPCw.out
    omega)
  have HP7b : Hid (¬ (P7 = b ∨ P7 = g)) := hid (HPb7.out)
  have HP8b : Hid (¬ (P8 = b ∨ P8 = g)) := hid (HPb8.out)
  have HBl : Hid (b ≠ PC ∧ b ≠ PD ∧ g ≠ PC ∧ g ≠ PD) := hid (by
    have a1 := ST3.out.lt
    have a3 := HPCw.out
    omega)
  have HPCw1 : Hid (w1.heap.size ≤ PC) := hid (by have := B3.out.size; have := HPCw.out; omega)
  clear hPD HW5 p0 p1 h44 h55 hC5 b4 b5 H73 H83 H74 H84 ST3 B3 HPCw
  have p0 : w5.cell? ⟨P7, 0, none⟩ = some (.int .i64 y1) := by rw [cell_of_row _ _ _ _ _ _ H75.out]; rfl
  have p1 : w5.cell? ⟨P7, 1, none⟩ = some (.int .i64 xx) := by rw [cell_of_row _ _ _ _ _ _ H75.out]; rfl
  go_wp2_with fail
  clear p0 p1
  go_loopw [82] (fun iv wr => ∃ (i : Nat) (va : Option Addr) (vc : Nat), iv = .int .i64 i ∧ i ≤ n1 ∧ LB w5 PC Lt y1 xx tLater i va vc wr) (fun iv _ => n1 - (intOf iv).toNat)
  case atStart => exact ⟨0, _, _, rfl, Nat.zero_le _, LBPC.out⟩
  case round =>
    obtain ⟨i, va, vc, rfl, hi, hLB⟩ := hrel
    have HLB := hid hLB
    clear hLB
    by_cases hlt : i < n1
    · have hltI : (i : Int) < (n1 : Int) := by omega
      have c5 : wr.cell? ⟨PC, 5, none⟩ = some (.slice va i vc) := by rw [cell_of_row _ _ _ _ _ _ HLB.out.box]; rfl
      have HT := hid (own_below HLB.out.row ((Below.refl _ _).alloc (Nat.le_refl _) (.cells #[.string tLater] 9)))
      have HYs : Hid (∀ j u, [Value.string tLater][j]? = some u → (wr.alloc (.cells #[.string tLater] 9)).cell? ⟨wr.heap.size, j, none⟩ = some u) := hid (by
        intro j u hj
        match j with
        | 0 => simp at hj; subst hj; rw [cell_of_row _ _ _ _ _ _ (heap_alloc_new _ _)]; rfl
        | j + 1 => simp at hj)
      have hsz : w5.heap.size ≤ wr.heap.size := HLB.out.but.size
      have HP : Hid (PC < w5.heap.size) := HPlPC
      go_wp2_with (at_builtin; refine wpl_app rowStr rfl _ _ rfl w5.heap.size (.slice va i vc) i (tvs (List.replicate i tLater)) rfl HT.out wr.heap.size 1 1 [.string tLater] rfl rfl HYs.out (by simp [Value.oneCell']) (by omega) (by simp; omega) ?_; intro va' vc' w2 ho2 hg2; have HMM := hid (HLB.out.more HP.out hg2 ho2); have d5 : w2.cell? ⟨PC, 5, none⟩ = some (.slice va i vc) := (by rw [cell_of_row _ _ _ _ _ _ HMM.out.1]; rfl); have f5 : w2.frozen? ⟨PC, 5, none⟩ = false := (by simp [World.frozen?, HMM.out.1]); clear ho2 hg2)
      go_roundw
      case rel => exact ⟨i + 1, _, _, by go_num, by omega, HMM.out.2⟩
      case measure => simp [intOf]; omega
    · have hltI : ¬ (i : Int) < (n1 : Int) := by omega
      have hin : n1 = i := by omega
      subst hin
      clear hltI
      obtain ⟨w6, hw6⟩ : ∃ w6, w6 = wr := ⟨_, rfl⟩
      rw [← hw6] at HLB ⊢
      clear hw6
      have LC6 := HLB
      have H76 := hid ((LC6.out.but.block P7 (lt_of_block H75.out) HP78.out.1).trans H75.out)
      have H86 := hid ((LC6.out.but.block P8 (lt_of_block H85.out) HP78.out.2.1).trans H85.out)
      have HD6 := hid ((LC6.out.but.block PD (lt_of_block HD5.out) (by omega)).trans HD5.out)
      have ST6 := hid (ST5.out.kept (LC6.out.but.block b ST5.out.lt.1 HBl.out.1) (LC6.out.but.block g ST5.out.lt.2.1 HBl.out.2.2.1))
      have B6 := hid (B5.out.trans (LC6.out.but.below B5.out.size (fun k e => by rw [e]; exact HPCw1.out)))
      have HPlPD : Hid (PD < w6.heap.size) := hid (lt_of_block HD6.out)
      have LBPD : Hid (LB w6 PD E z1 zz tEarly 0 none 0 w6) := hid ⟨HD6.out, World.ownsRow_nil _ _ _ _, ⟨rfl, rfl, rfl, Nat.le_refl _, fun _ _ _ => rfl⟩⟩
      have HGl : Hid (g < w5.heap.size) := hid ST5.out.lt.2.1
      have HBb : Hid (b < w5.heap.size) := hid ST5.out.lt.1
      have HS56 := hid LC6.out.but.size
      obtain ⟨vaC, vcC, hvC⟩ : ∃ a c, (Value.slice va n1 vc) = .slice a n1 c := ⟨_, _, rfl⟩
      cases hvC
      clear HLB H75 H85 HD5 ST5 B5 LBPC HPlPC
      have p0 : w6.cell? ⟨P8, 0, none⟩ = some (.int .i64 z1) := by rw [cell_of_row _ _ _ _ _ _ H86.out]; rfl
      have p1 : w6.cell? ⟨P8, 1, none⟩ = some (.int .i64 zz) := by rw [cell_of_row _ _ _ _ _ _ H86.out]; rfl
      go_wp2_with fail
      clear p0 p1
      go_loopw [95] (fun iv wr => ∃ (i : Nat) (vd : Option Addr) (ve : Nat), iv = .int .i64 i ∧ i ≤ n2 ∧ LB w6 PD E z1 zz tEarly i vd ve wr) (fun iv _ => n2 - (intOf iv).toNat)
      case atStart => exact ⟨0, _, _, rfl, Nat.zero_le _, LBPD.out⟩
      case round =>
        obtain ⟨i, vd, ve, rfl, hi, hLB⟩ := hrel
        have HLB := hid hLB
        clear hLB
        by_cases hlt : i < n2
        · have hltI : (i : Int) < (n2 : Int) := by omega
          have c5 : wr.cell? ⟨PD, 5, none⟩ = some (.slice vd i ve) := by rw [cell_of_row _ _ _ _ _ _ HLB.out.box]; rfl
          have HT := hid (own_below HLB.out.row ((Below.refl _ _).alloc (Nat.le_refl _) (.cells #[.string tEarly] 9)))
          have HYs : Hid (∀ j u, [Value.string tEarly][j]? = some u → (wr.alloc (.cells #[.string tEarly] 9)).cell? ⟨wr.heap.size, j, none⟩ = some u) := hid (by
            intro j u hj
            match j with
            | 0 => simp at hj; subst hj; rw [cell_of_row _ _ _ _ _ _ (heap_alloc_new _ _)]; rfl
            | j + 1 => simp at hj)
          have hsz : w6.heap.size ≤ wr.heap.size := HLB.out.but.size
          have HP : Hid (PD < w6.heap.size) := HPlPD
          go_wp2_with (at_builtin; refine wpl_app rowStr rfl _ _ rfl w6.heap.size (.slice vd i ve) i (tvs (List.replicate i tEarly)) rfl HT.out wr.heap.size 1 1 [.string tEarly] rfl rfl HYs.out (by simp [Value.oneCell']) (by omega) (by simp; omega) ?_; intro va' vc' w2 ho2 hg2; have HMM := hid (HLB.out.more HP.out hg2 ho2); have d5 : w2.cell? ⟨PD, 5, none⟩ = some (.slice vd i ve) := (by rw [cell_of_row _ _ _ _ _ _ HMM.out.1]; rfl); have f5 : w2.frozen? ⟨PD, 5, none⟩ = false := (by simp [World.frozen?, HMM.out.1]); clear ho2 hg2)
          go_roundw
          case rel => exact ⟨i + 1, _, _, by go_num, by omega, HMM.out.2⟩
          case measure => simp [intOf]; omega
        · have hltI : ¬ (i : Int) < (n2 : Int) := by omega
          have hin : n2 = i := by omega
          subst hin
          clear hltI
          obtain ⟨w7, hw7⟩ : ∃ w7, w7 = wr := ⟨_, rfl⟩
          rw [← hw7] at HLB ⊢
          clear hw7
          have LD7 := HLB
          have H77 := hid ((LD7.out.but.block P7 (lt_of_block H76.out) HP78.out.2.2.1).trans H76.out)
          have H87 := hid ((LD7.out.but.block P8 (lt_of_block H86.out) HP78.out.2.2.2).trans H86.out)
          have HC7 := hid ((LD7.out.but.block PC (lt_of_block LC6.out.box) (by omega)).trans LC6.out.box)
          have ST7 := hid (ST6.out.kept (LD7.out.but.block b ST6.out.lt.1 HBl.out.2.1) (LD7.out.but.block g ST6.out.lt.2.1 HBl.out.2.2.2))
          have B7 := hid (B6.out.trans (LD7.out.but.below B6.out.size (fun k e => by rw [e]; exact Nat.le_trans HPCw1.out (Nat.le_of_lt hPCD))))
          have RC7 : Hid (w7.ownsRow w5.heap.size 9 1 (.slice va n1 vc) n1 (tvs (List.replicate n1 tLater))) := hid (own_kept LC6.out.row fun q cs hq hh => LD7.out.but.block q (lt_of_block hh) (fun e => by
            subst e; rw [HD6.out] at hh; cases hh))
          have RD7 := hid LD7.out.row
          have HDB := hid LD7.out.box
          clear HLB LD7 LC6 H76 H86 HD6 ST6 B6 LBPD HPlPD
          obtain ⟨S1, S2, e1, e2, e3, e4, e5⟩ := late_next S0 HS0.out Lt E y1 xx z1 zz n1 n2 (by omega) ⟨hy.1, hxb.2.2, HN1.out, hb1.1, hb1.2⟩ ⟨hz.1, hzb.2.2, HN2.out, hb2.1, hb2.2⟩
          have HPL := hid e5
          have TC := hid (strs_own (l := List.replicate n1 tLater) (by simpa using RC7.out))
          have TD := hid (strs_own (l := List.replicate n2 tEarly) (by simpa using RD7.out))
          have HA1 : Hid (∀ (h1 : St w7 b g S0), Calls Try.prog 14 #[.pointer (some ⟨b, 0, none⟩), .agg #[.int .i64 2, .int .i64 2, .int .i64 Lt, .int .i64 y1, .int .i64 xx, .slice va n1 vc]] w7 fun e w' => ∃ va' vc' ok, e = .returned (.tuple #[.agg #[.bool ok, .slice va' 0 vc'], .int .i64 0]) ∧ St w' b g S1 ∧ ButR (fun k => k = b ∨ k = g) w7 w') := hid fun h1 => by
            have h := apply_any b g S0 ⟨2, 2, Lt, y1, xx, List.replicate n1 tLater⟩ (.slice va n1 vc) w7 h1 ⟨TC.out, by simp; omega, fun s hs => by rw [List.eq_of_mem_replicate hs]; decide⟩ (fun a n cp e hn => by cases e; have := (RC7.out.lt a.block rfl).1; have := HGl.out; omega)
            unfold ApP cmdV at h
            have hd : dataOf S0 ⟨2, 2, Lt, y1, xx, List.replicate n1 tLater⟩ = [] := by unfold dataOf; rw [if_neg (fun h => absurd h.2 (by show ¬ (2 : Int) = 1; decide))]
            rw [e1, e3, hd] at h
            refine h.mono ?_
            rintro e w' ⟨va', vc', rfl, -, hs, hb⟩
            exact ⟨va', vc', _, rfl, hs, hb⟩
          have HA2 : Hid (∀ W' (h1 : St W' b g S1) (hB : ButR (fun k => k = b ∨ k = g) w7 W'), Calls Try.prog 14 #[.pointer (some ⟨b, 0, none⟩), .agg #[.int .i64 2, .int .i64 2, .int .i64 E, .int .i64 z1, .int .i64 zz, .slice vd n2 ve]] W' fun e w' => ∃ va' vc' ok, e = .returned (.tuple #[.agg #[.bool ok, .slice va' 0 vc'], .int .i64 0]) ∧ St w' b g S2 ∧ ButR (fun k => k = b ∨ k = g) W' w') := hid fun W' h1 hB => by
            have hrow : W'.ownsRow w6.heap.size 9 1 (.slice vd n2 ve) n2 (tvs (List.replicate n2 tEarly)) := own_kept RD7.out fun q cs hq hh => hB.block q (lt_of_block hh) (by
              have := (RD7.out.lt q hq).1; have := HGl.out; have := HBb.out; have := HS56.out; omega)
            have h := apply_any b g S1 ⟨2, 2, E, z1, zz, List.replicate n2 tEarly⟩ (.slice vd n2 ve) W' h1 ⟨strs_own (l := List.replicate n2 tEarly) (by simpa using hrow), by simp; omega, fun s hs => by rw [List.eq_of_mem_replicate hs]; decide⟩ (fun a n cp e hn => by cases e; have := (hrow.lt a.block rfl).1; have := HGl.out; have := HS56.out; omega)
            unfold ApP cmdV at h
            have hd : dataOf S1 ⟨2, 2, E, z1, zz, List.replicate n2 tEarly⟩ = [] := by unfold dataOf; rw [if_neg (fun h => absurd h.2 (by show ¬ (2 : Int) = 1; decide))]
            rw [e2, e4, hd] at h
            refine h.mono ?_
            rintro e w' ⟨va', vc', rfl, -, hs, hb⟩
            exact ⟨va', vc', _, rfl, hs, hb⟩
          clear e1 e2 e3 e4 e5 TC TD
          have q0 : w7.cell? ⟨PC, 0, none⟩ = some (.int .i64 2) := by rw [cell_of_row _ _ _ _ _ _ HC7.out]; rfl
          have q1 : w7.cell? ⟨PC, 1, none⟩ = some (.int .i64 2) := by rw [cell_of_row _ _ _ _ _ _ HC7.out]; rfl
          have q2 : w7.cell? ⟨PC, 2, none⟩ = some (.int .i64 Lt) := by rw [cell_of_row _ _ _ _ _ _ HC7.out]; rfl
          have q3 : w7.cell? ⟨PC, 3, none⟩ = some (.int .i64 y1) := by rw [cell_of_row _ _ _ _ _ _ HC7.out]; rfl
          have q4 : w7.cell? ⟨PC, 4, none⟩ = some (.int .i64 xx) := by rw [cell_of_row _ _ _ _ _ _ HC7.out]; rfl
          have q5 : w7.cell? ⟨PC, 5, none⟩ = some (.slice va n1 vc) := by rw [cell_of_row _ _ _ _ _ _ HC7.out]; rfl
          go_wp2_with fail
          refine (HA1.out ST7.out).mono ?_
          rintro e w8 ⟨va8, vc8, ok8, rfl, hst8, hbut8⟩
          have HD8 := hid ((hbut8.block PD (lt_of_block HDB.out) (by have := HBl.out; omega)).trans HDB.out)
          have H78' := hid ((hbut8.block P7 (lt_of_block H77.out) HP7b.out).trans H77.out)
          have H88' := hid ((hbut8.block P8 (lt_of_block H87.out) HP8b.out).trans H87.out)
          have B8 := hid (B7.out.trans (hbut8.below B7.out.size (by rintro k (rfl | rfl); exact HBG.out.1; exact HBG.out.2)))
          have ST8 := hid hst8
          have BU8 := hid hbut8
          clear hst8 hbut8 q0 q1 q2 q3 q4 q5 HA1 HC7 H77 H87 HDB B7 ST7
          obtain ⟨w9, hw9⟩ : ∃ w9, w9 = w8.alloc (.cells #[.bool ok8, .slice va8 0 vc8] 38) := ⟨_, rfl⟩
          have b9 : Below w8.heap.size w8 w9 := by rw [hw9]; exact (Below.refl _ _).alloc (Nat.le_refl _) _
          have HW9 := hid hw9
          have HD9 := hid ((b9.block PD (lt_of_block HD8.out)).trans HD8.out)
          have H79 := hid ((b9.block P7 (lt_of_block H78'.out)).trans H78'.out)
          have H89 := hid ((b9.block P8 (lt_of_block H88'.out)).trans H88'.out)
          have B9 := hid (B8.out.trans (b9.mono B8.out.size))
          have ST9 := hid (ST8.out.below b9)
          have BU9 := hid (BU8.out.trans (ButR.of_below b9))
          clear hw9 b9 HD8 H78' H88' B8 ST8 BU8
          go_upto_region 19 with fail
          rw [← HW9.out]
          obtain ⟨Br, hBr⟩ : ∃ Br, Br = w8.heap.size := ⟨_, rfl⟩
          rw [← hBr]
          clear hBr HW9
          have q0 : w9.cell? ⟨PD, 0, none⟩ = some (.int .i64 2) := by rw [cell_of_row _ _ _ _ _ _ HD9.out]; rfl
          have q1 : w9.cell? ⟨PD, 1, none⟩ = some (.int .i64 2) := by rw [cell_of_row _ _ _ _ _ _ HD9.out]; rfl
          have q2 : w9.cell? ⟨PD, 2, none⟩ = some (.int .i64 E) := by rw [cell_of_row _ _ _ _ _ _ HD9.out]; rfl
          have q3 : w9.cell? ⟨PD, 3, none⟩ = some (.int .i64 z1) := by rw [cell_of_row _ _ _ _ _ _ HD9.out]; rfl
          have q4 : w9.cell? ⟨PD, 4, none⟩ = some (.int .i64 zz) := by rw [cell_of_row _ _ _ _ _ _ HD9.out]; rfl
          have q5 : w9.cell? ⟨PD, 5, none⟩ = some (.slice vd n2 ve) := by rw [cell_of_row _ _ _ _ _ _ HD9.out]; rfl
          go_wp2_with fail
          refine (HA2.out w9 ST9.out BU9.out).mono ?_
          rintro e w10 ⟨va10, vc10, ok10, rfl, hst10, hbut10⟩
          have H7x := hid ((hbut10.block P7 (lt_of_block H79.out) HP7b.out).trans H79.out)
          have H8x := hid ((hbut10.block P8 (lt_of_block H89.out) HP8b.out).trans H89.out)
          have B10 := hid (B9.out.trans (hbut10.below B9.out.size (by rintro k (rfl | rfl); exact HBG.out.1; exact HBG.out.2)))
          have ST10 := hid hst10
          clear hst10 hbut10 q0 q1 q2 q3 q4 q5 HA2 HD9 H79 H89 B9 ST9 BU9
          go_wp2_with fail
          generalize hwL : World.alloc w10 _ = wL
          have bL : Below w10.heap.size w10 wL := by rw [← hwL]; exact (Below.refl _ _).alloc (Nat.le_refl _) _
          have H7L := hid ((bL.block P7 (lt_of_block H7x.out)).trans H7x.out)
          have H8L := hid ((bL.block P8 (lt_of_block H8x.out)).trans H8x.out)
          have BL := hid (B10.out.trans (bL.mono B10.out.size))
          have STL := hid (ST10.out.below bL)
          clear hwL bL H7x H8x B10 ST10
          go_loopw [19, 20, 21, 22, 23, 24, 25, 121] (fun _ _ _ _ _ _ _ kv wk => ∃ k : Nat, kv = .int .i64 k ∧ k ≤ 256 ∧ Below wL.heap.size wL wk) (fun _ _ _ _ _ _ _ kv _ => 256 - (intOf kv).toNat)
          case atStart => exact ⟨0, rfl, by omega, Below.refl _ _⟩
          case round =>
            obtain ⟨k, rfl, hk, hbk⟩ := hrel
            have HBK := hid hbk
            clear hbk
            by_cases hk2 : k < 256
            · have hkI : (k : Int) < 256 := by omega
              obtain ⟨hT, hM⟩ := HPL.out k hk2
              obtain ⟨tx, htx⟩ : ∃ tx, blockT S2 k = tx := ⟨_, rfl⟩
              obtain ⟨mk, hmk⟩ : ∃ mk, markN S2 k 2 = mk := ⟨_, rfl⟩
              rw [htx] at hT
              rw [hmk] at hM
              have HT := hid htx
              have HMm := hid hmk
              have HTX := hid hT
              have HMX := hid hM
              clear hT hM htx hmk
              go_wp2_with fail
              refine (block_any b g S2 k _ (STL.out.below HBK.out)).mono ?_
              rintro e w11 ⟨rfl, hb11⟩
              rw [HT.out]
              have B11 := hid (HBK.out.trans (hb11.mono HBK.out.size))
              clear hb11
              go_wp2_with fail
              refine (mark_any b g S2 k 2 w11 (STL.out.below B11.out)).mono ?_
              rintro e w12 ⟨rfl, hb12⟩
              rw [HMm.out]
              have B12 := hid (B11.out.trans (hb12.mono B11.out.size))
              clear hb12 HT HMm
              have h7k := (B12.out.block P7 (lt_of_block H7L.out)).trans H7L.out
              have h8k := (B12.out.block P8 (lt_of_block H8L.out)).trans H8L.out
              have p70 : w12.cell? ⟨P7, 0, none⟩ = some (.int .i64 y1) := by rw [cell_of_row _ _ _ _ _ _ h7k]; rfl
              have p71 : w12.cell? ⟨P7, 1, none⟩ = some (.int .i64 xx) := by rw [cell_of_row _ _ _ _ _ _ h7k]; rfl
              have p80 : w12.cell? ⟨P8, 0, none⟩ = some (.int .i64 z1) := by rw [cell_of_row _ _ _ _ _ _ h8k]; rfl
              have p81 : w12.cell? ⟨P8, 1, none⟩ = some (.int .i64 zz) := by rw [cell_of_row _ _ _ _ _ _ h8k]; rfl
              clear h7k h8k
              by_cases hin : y1 ≤ (k : Int) ∧ (k : Int) < xx
              · have g1 : decide (y1 ≤ (k : Int)) = true := decide_eq_true hin.1
                have g2 : decide ((k : Int) < xx) = true := decide_eq_true hin.2
                have t1 := HTX.out
                have t2 := HMX.out
                rw [if_pos hin] at t1 t2
                unfold tLater at t1
                subst t1 t2
                clear hin HTX HMX
                go_wp2_with fail
                go_roundw
                case rel => exact ⟨k + 1, by go_num, by omega, B12.out⟩
                case measure => simp [intOf]; omega
              · have t1 := HTX.out
                have t2 := HMX.out
                rw [if_neg hin] at t1 t2
                clear HTX HMX
                by_cases hin2 : z1 ≤ (k : Int) ∧ (k : Int) < zz
                · have g3 : decide (z1 ≤ (k : Int)) = true := decide_eq_true hin2.1
                  have g4 : decide ((k : Int) < zz) = true := decide_eq_true hin2.2
                  rw [if_pos hin2] at t1 t2
                  unfold tEarly at t1
                  subst t1 t2
                  by_cases h1 : y1 ≤ (k : Int)
                  · have g1 : decide (y1 ≤ (k : Int)) = true := decide_eq_true h1
                    have g2 : decide ((k : Int) < xx) = false := decide_eq_false (by omega)
                    clear hin hin2 h1
                    go_wp2_with fail
                    go_roundw
                    case rel => exact ⟨k + 1, by go_num, by omega, B12.out⟩
                    case measure => simp [intOf]; omega
                  · have g1 : decide (y1 ≤ (k : Int)) = false := decide_eq_false h1
                    clear hin hin2 h1
                    go_wp2_with fail
                    go_roundw
                    case rel => exact ⟨k + 1, by go_num, by omega, B12.out⟩
                    case measure => simp [intOf]; omega
                · rw [if_neg hin2] at t1 t2
                  subst t1 t2
                  by_cases h1 : y1 ≤ (k : Int)
                  · have g1 : decide (y1 ≤ (k : Int)) = true := decide_eq_true h1
                    have g2 : decide ((k : Int) < xx) = false := decide_eq_false (by omega)
                    by_cases h3 : z1 ≤ (k : Int)
                    · have g3 : decide (z1 ≤ (k : Int)) = true := decide_eq_true h3
                      have g4 : decide ((k : Int) < zz) = false := decide_eq_false (by omega)
                      clear hin hin2 h1 h3
                      go_wp2_with fail
                      go_roundw
                      case rel => exact ⟨k + 1, by go_num, by omega, B12.out⟩
                      case measure => simp [intOf]; omega
                    · have g3 : decide (z1 ≤ (k : Int)) = false := decide_eq_false h3
                      clear hin hin2 h1 h3
                      go_wp2_with fail
                      go_roundw
                      case rel => exact ⟨k + 1, by go_num, by omega, B12.out⟩
                      case measure => simp [intOf]; omega
                  · have g1 : decide (y1 ≤ (k : Int)) = false := decide_eq_false h1
                    by_cases h3 : z1 ≤ (k : Int)
                    · have g3 : decide (z1 ≤ (k : Int)) = true := decide_eq_true h3
                      have g4 : decide ((k : Int) < zz) = false := decide_eq_false (by omega)
                      clear hin hin2 h1 h3
                      go_wp2_with fail
                      go_roundw
                      case rel => exact ⟨k + 1, by go_num, by omega, B12.out⟩
                      case measure => simp [intOf]; omega
                    · have g3 : decide (z1 ≤ (k : Int)) = false := decide_eq_false h3
                      clear hin hin2 h1 h3
                      go_wp2_with fail
                      go_roundw
                      case rel => exact ⟨k + 1, by go_num, by omega, B12.out⟩
                      case measure => simp [intOf]; omega
            · have hkI : ¬ (k : Int) < 256 := by omega
              go_wp2_with fail
              refine (lives_any _).mono ?_
              rintro e w13 ⟨rfl, hb13⟩
              have BK := hid (BL.out.trans (HBK.out.mono BL.out.size))
              have B13 := hid (BK.out.trans (hb13.mono BK.out.size))
              clear hb13
              go_wp2_with fail
              go_ret
              exact ⟨rfl, B1.out.trans (B13.out.mono B1.out.size)⟩
end Go.Proofs.Ytappdhgabbjoiaa
