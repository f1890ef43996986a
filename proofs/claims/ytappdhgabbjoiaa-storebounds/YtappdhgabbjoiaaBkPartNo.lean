/- What Part of a store refuses. -/
import Derived.Test.YtappdhgabbjoiaaBkStore
import Derived.Deep.RegionHeld3
import Derived.Deep.CutBlock
import Derived.Deep.CutRange
namespace Go.Proofs.Ytappdhgabbjoiaa
open Go.RowKit
attribute [local go_sem] Oper.semAt_some

set_option maxRecDepth 100000 in
set_option maxHeartbeats 1600000 in
theorem part_no (b g : Nat) (S : StD) (x : Sp) (w : World) (hS : St w b g S) (he : decide (x.2 ≤ x.1) = true) :
    Calls Try.prog 24 #[.pointer (some ⟨b, 0, none⟩), .agg #[.int .i64 x.1, .int .i64 x.2]] w fun e w' => e = .returned (.tuple #[.pointer none, .int .i64 1]) ∧ Below w.heap.size w w' := by
  obtain ⟨f, t⟩ := x
  simp only at he
  have HS := hid hS
  have hlt := hS.lt
  clear hS
  obtain ⟨w0, hw0⟩ : ∃ w0, w0 = w.alloc (.cells #[.int .i64 f, .int .i64 t] 23) := ⟨_, rfl⟩
  have hb0 : Below w.heap.size w w0 := by rw [hw0]; exact (Below.refl _ _).alloc (Nat.le_refl _) _
  have h30 : w0.heap[w.heap.size]? = some (.cells #[.int .i64 f, .int .i64 t] 23 (0, 0)) := by rw [hw0]; exact heap_alloc_new _ _
  have HW0 := hid hw0
  have B0 := hid hb0
  clear hw0 hb0
  go_enter Try.func24, Try.ntmps24
  go_upto_region 3 with fail
  rw [← HW0.out]
  obtain ⟨B3, hB3⟩ : ∃ B, B = w.heap.size := ⟨_, rfl⟩
  rw [← hB3] at h30 ⊢
  have hbB : b < B3 := by omega
  clear HW0 hB3
  have q0 : w0.cell? ⟨B3, 0, none⟩ = some (.int .i64 f) := by rw [cell_of_row _ _ _ _ _ _ h30]; rfl
  have q1 : w0.cell? ⟨B3, 1, none⟩ = some (.int .i64 t) := by rw [cell_of_row _ _ _ _ _ _ h30]; rfl
  have H30 := hid h30
  clear h30
  go_wp2_with fail
  refine (bempty_any (f, t) w0).mono ?_
  rintro e w1 ⟨rfl, hb1⟩
  simp only [he]
  have B1 := hid (B0.out.trans (hb1.mono B0.out.size))
  have H31 := hid ((hb1.block B3 (lt_of_block H30.out)).trans H30.out)
  clear hb1 q0 q1 H30
  go_wp2_with fail
  go_ret2
  exact ⟨rfl, B1.out⟩
set_option linter.unusedSimpArgs false in
set_option maxRecDepth 100000 in
set_option maxHeartbeats 1600000 in
theorem part_out (b g : Nat) (S : StD) (x : Sp) (w : World) (hS : St w b g S) (he : decide (x.2 ≤ x.1) = false) (hh : (decide (S.from' ≤ x.1) && decide (x.2 ≤ S.to)) = false) :
    Calls Try.prog 24 #[.pointer (some ⟨b, 0, none⟩), .agg #[.int .i64 x.1, .int .i64 x.2]] w fun e w' => e = .returned (.tuple #[.pointer none, .int .i64 9]) ∧ Below w.heap.size w w' := by
  have HH := hid hh
  clear hh
  obtain ⟨f, t⟩ := x
  simp only at he
  have HS := hid hS
  have hlt := hS.lt
  clear hS
  obtain ⟨w0, hw0⟩ : ∃ w0, w0 = w.alloc (.cells #[.int .i64 f, .int .i64 t] 23) := ⟨_, rfl⟩
  have hb0 : Below w.heap.size w w0 := by rw [hw0]; exact (Below.refl _ _).alloc (Nat.le_refl _) _
  have h30 : w0.heap[w.heap.size]? = some (.cells #[.int .i64 f, .int .i64 t] 23 (0, 0)) := by rw [hw0]; exact heap_alloc_new _ _
  have HW0 := hid hw0
  have B0 := hid hb0
  clear hw0 hb0
  go_enter Try.func24, Try.ntmps24
  go_upto_region 3 with fail
  rw [← HW0.out]
  obtain ⟨B3, hB3⟩ : ∃ B, B = w.heap.size := ⟨_, rfl⟩
  rw [← hB3] at h30 ⊢
  have hbB : b < B3 := by omega
  clear HW0 hB3
  have q0 : w0.cell? ⟨B3, 0, none⟩ = some (.int .i64 f) := by rw [cell_of_row _ _ _ _ _ _ h30]; rfl
  have q1 : w0.cell? ⟨B3, 1, none⟩ = some (.int .i64 t) := by rw [cell_of_row _ _ _ _ _ _ h30]; rfl
  have H30 := hid h30
  clear h30
  go_wp2_with fail
  refine (bempty_any (f, t) w0).mono ?_
  rintro e w1 ⟨rfl, hb1⟩
  simp only [he]
  have B1 := hid (B0.out.trans (hb1.mono B0.out.size))
  have H31 := hid ((hb1.block B3 (lt_of_block H30.out)).trans H30.out)
  clear hb1 q0 q1 H30
  have hh := HH.out
  (try simp only at hh)
  clear HH
  obtain ⟨s0, s1, -, -⟩ := (HS.out.below B1.out).cellsAt
  have SW : Hid (∀ X, Below w1.heap.size w1 X → X.cell? ⟨B3, 0, none⟩ = some (.int .i64 f) ∧ X.cell? ⟨B3, 1, none⟩ = some (.int .i64 t) ∧ X.cell? ⟨b, 0, none⟩ = some (.int .i64 S.from') ∧ X.cell? ⟨b, 1, none⟩ = some (.int .i64 S.to)) := hid fun X hX => by
    have hb := (hX.block B3 (lt_of_block H31.out)).trans H31.out
    exact ⟨by rw [cell_of_row _ _ _ _ _ _ hb]; rfl, by rw [cell_of_row _ _ _ _ _ _ hb]; rfl, cell_later hX s0, cell_later hX s1⟩
  clear s0 s1
  go_upto_region 5 with fail
  refine wp_region_held_drew (S := fun X => X.cell? ⟨B3, 0, none⟩ = some (.int .i64 f) ∧ X.cell? ⟨B3, 1, none⟩ = some (.int .i64 t) ∧ X.cell? ⟨b, 0, none⟩ = some (.int .i64 S.from') ∧ X.cell? ⟨b, 1, none⟩ = some (.int .i64 S.to)) (by kernel_rfl) (SW.out _ ((Below.refl _ _).drew)) (fun hHeld => ?_)
  refine wpAnyH_take (i := 0) (v := ?rv0) rfl (by kernel_rfl) (by kernel_rfl) (by kernel_rfl) (fun _ _ _ h => h) (Or.inl ⟨by rfl, ?ry0⟩) (by assumption) ?rr0
  case ry0 => (intro w hSw; (try dsimp only at hSw); go_simp; try with_reducible rfl)
  (try simp only [Act.put, List.setIfInBounds_toArray, List.set_cons_zero, List.set_cons_succ, List.getElem_toArray, List.getElem_cons_succ, List.getElem_cons_zero])
  refine wpAnyH_take (i := 1) (v := ?rv1) rfl (by kernel_rfl) (by kernel_rfl) (by kernel_rfl) (fun _ _ _ h => h) (Or.inl ⟨by rfl, ?ry1⟩) (by assumption) ?rr1
  case ry1 => (intro w hSw; (try dsimp only at hSw); go_simp; try with_reducible rfl)
  (try simp only [Act.put, List.setIfInBounds_toArray, List.set_cons_zero, List.set_cons_succ, List.getElem_toArray, List.getElem_cons_succ, List.getElem_cons_zero])
  refine wpAnyH_take (i := 2) (v := ?rv2) rfl (by kernel_rfl) (by kernel_rfl) (by kernel_rfl) (fun _ _ _ h => h) (Or.inl ⟨by rfl, ?ry2⟩) (by assumption) ?rr2
  case ry2 => (intro w hSw; (try dsimp only at hSw); go_simp; try with_reducible rfl)
  (try simp only [Act.put, List.setIfInBounds_toArray, List.set_cons_zero, List.set_cons_succ, List.getElem_toArray, List.getElem_cons_succ, List.getElem_cons_zero])
  refine wpAnyH_take (i := 3) (v := ?rv3) rfl (by kernel_rfl) (by kernel_rfl) (by kernel_rfl) (fun _ _ _ h => h) (Or.inl ⟨by rfl, ?ry3⟩) (by assumption) ?rr3
  case ry3 => (intro w hSw; (try dsimp only at hSw); go_simp; try with_reducible rfl)
  (try simp only [Act.put, List.setIfInBounds_toArray, List.set_cons_zero, List.set_cons_succ, List.getElem_toArray, List.getElem_cons_succ, List.getElem_cons_zero])
  refine wpAnyH_take (i := 4) (v := ?rv4) rfl (by kernel_rfl) (by kernel_rfl) (by kernel_rfl) (fun _ _ _ h => h) (Or.inl ⟨by rfl, ?ry4⟩) (by assumption) ?rr4
  case ry4 => (intro w hSw; (try dsimp only at hSw); go_simp; try with_reducible rfl)
  (try simp only [Act.put, List.setIfInBounds_toArray, List.set_cons_zero, List.set_cons_succ, List.getElem_toArray, List.getElem_cons_succ, List.getElem_cons_zero])
  refine wpAnyH_ready (rs := [5]) (by kernel_rfl) (by simp) ?_
  refine AllReadyH.cons rfl (fun K hK => ?_) AllReadyH.nil
  rw [if_pos (by rfl)]
  go_wp2_with fail
  refine (holds_any (S.from', S.to) (f, t) _).mono ?_
  rintro e w2 ⟨rfl, hb2⟩
  simp only [hh]
  have B2 : Hid (Below w1.heap.size w1 w2) := hid (((Below.refl _ _).drew).trans hb2)
  clear hb2
  refine hK.out _ _ (SW.out _ B2.out) (fun hHeld => ?_)
  try clear hK K
  (try simp only [Act.put, List.setIfInBounds_toArray, List.set_cons_zero, List.set_cons_succ, List.getElem_toArray, List.getElem_cons_succ, List.getElem_cons_zero])
  refine wpAnyH_take (i := 6) (v := ?rv6) rfl (by kernel_rfl) (by kernel_rfl) (by kernel_rfl) (fun _ _ _ h => h) (Or.inl ⟨by rfl, ?ry6⟩) (by assumption) ?rr6
  case ry6 => (intro w hSw; (try dsimp only at hSw); go_simp; try with_reducible rfl)
  (try simp only [Act.put, List.setIfInBounds_toArray, List.set_cons_zero, List.set_cons_succ, List.getElem_toArray, List.getElem_cons_succ, List.getElem_cons_zero])
  refine wpAnyH_done (by kernel_rfl) ?_ _
  go_wp2_with fail
  go_ret2
  exact ⟨rfl, B1.out.trans (B2.out.mono B1.out.size)⟩
end Go.Proofs.Ytappdhgabbjoiaa
