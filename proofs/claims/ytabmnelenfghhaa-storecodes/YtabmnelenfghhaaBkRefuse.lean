/- What Apply of a store refuses, and what a frozen one answers. -/
import Derived.Test.YtabmnelenfghhaaBkFreeze
namespace Go.Proofs.Ytabmnelenfghhaa
open Go.RowKit Go.Shelf

set_option linter.unusedSimpArgs false in
set_option maxRecDepth 100000 in
set_option maxHeartbeats 1000000 in
theorem apply_no (b g : Nat) (S : StD) (c : CmdD) (u : Value) (w : World) (hS : St w b g S) (hu : CmdOk w c u) (hm : mayB c = false) :
    Calls Try.prog 25 #[.pointer (some ⟨b, 0, none⟩), cmdV c u] w fun e w' => e = .returned (.tuple #[.agg #[.bool false, .slice none 0 0], .int .i64 1]) ∧ St w' b g S ∧ w.grownBy w' none ∧ KeepsOthers w w' := by
  have HMB := hid hm
  clear hm
  have HS := hid hS
  have HU := hid hu
  obtain ⟨ua, uc, rfl⟩ := hu.u.shape
  have hlt := hS.lt
  obtain ⟨s0, s1, s2, cap, s3⟩ := hS.cellsAt
  clear hS hu s3
  have hMay := hid fun W (hW : CmdOk W c (.slice ua c.data.length uc)) => may_any c _ W hW
  obtain ⟨op, client, seq, cf, ct, data⟩ := c
  have HSP := hid (fun W => spanOf_any ⟨op, client, seq, cf, ct, data⟩ ua data.length uc W)
  unfold cmdV at HSP hMay ⊢
  simp only at HSP hMay ⊢
  obtain ⟨w0, hw0⟩ : ∃ w0, w0 = (w.alloc (.cells #[.int .i64 op, .int .i64 client, .int .i64 seq, .int .i64 cf, .int .i64 ct, .slice ua data.length uc] 24)).alloc (.cells #[.bool false, .slice none 0 0] 60) := ⟨_, rfl⟩
  have hb0 : Below w.heap.size w w0 := by rw [hw0]; exact ((Below.refl _ _).alloc (Nat.le_refl _) _).alloc (by simp) _
  have h30 : w0.heap[w.heap.size]? = some (.cells #[.int .i64 op, .int .i64 client, .int .i64 seq, .int .i64 cf, .int .i64 ct, .slice ua data.length uc] 24 (0, 0)) := by rw [hw0]; exact heap_alloc2_old _ _ _
  have h40 : w0.heap[w.heap.size + 1]? = some (.cells #[.bool false, .slice none 0 0] 60 (0, 0)) := by rw [hw0]; exact heap_alloc2_new _ _ _
  have K0 : Hid (KeepsOthers w w0) := hid (by rw [hw0]; exact (KeepsOthers.alloc _ _).trans (KeepsOthers.alloc _ _))
  have HW0 := hid hw0
  clear hw0
  go_enter Try.func25, Try.ntmps25
  go_upto_region 3 with fail
  rw [← HW0.out]
  obtain ⟨B3, hB3⟩ : ∃ B, B = w.heap.size := ⟨_, rfl⟩
  obtain ⟨B4, hB4⟩ : ∃ B, B = w.heap.size + 1 := ⟨_, rfl⟩
  rw [← hB3] at h30
  rw [← hB4] at h40
  rw [← hB4, ← hB3]
  have hgB : g < B3 ∧ b < B3 ∧ B3 < B4 ∧ b < B4 ∧ g < B4 := by omega
  have hwB : w.heap.size ≤ B3 ∧ w.heap.size ≤ B4 := by omega
  clear hB3 hB4 HW0
  have q0 : w0.cell? ⟨B3, 0, none⟩ = some (.int .i64 op) := by rw [cell_of_row _ _ _ _ _ _ h30]; rfl
  have q1 : w0.cell? ⟨B3, 1, none⟩ = some (.int .i64 client) := by rw [cell_of_row _ _ _ _ _ _ h30]; rfl
  have q2 : w0.cell? ⟨B3, 2, none⟩ = some (.int .i64 seq) := by rw [cell_of_row _ _ _ _ _ _ h30]; rfl
  have q3 : w0.cell? ⟨B3, 3, none⟩ = some (.int .i64 cf) := by rw [cell_of_row _ _ _ _ _ _ h30]; rfl
  have q4 : w0.cell? ⟨B3, 4, none⟩ = some (.int .i64 ct) := by rw [cell_of_row _ _ _ _ _ _ h30]; rfl
  have q5 : w0.cell? ⟨B3, 5, none⟩ = some (.slice ua data.length uc) := by rw [cell_of_row _ _ _ _ _ _ h30]; rfl
  have H30 := hid h30
  have H40 := hid h40
  have B0 := hid hb0
  clear h30 h40 hb0
  go_wp2_with fail
  refine (hMay.out w0 (HU.out.below B0.out)).mono ?_
  rintro e w1 ⟨rfl, hb1⟩
  have H31 := hid ((hb1.block B3 (lt_of_block H30.out)).trans H30.out)
  have H41 := hid ((hb1.block B4 (lt_of_block H40.out)).trans H40.out)
  have B1 := hid (B0.out.trans (hb1.mono B0.out.size))
  clear hb1 q0 q1 q2 q3 q4 q5 H30 H40 B0 hMay
  have hm := HMB.out
  rw [hm]
  clear hm HMB
  have BX := B1
  have H4X := H41
  have h4e : w1.heap[B4]? = _ := H4X.out
  have d0 : w1.cell? ⟨B4, 0, none⟩ = some (.bool false) := by rw [cell_of_row _ _ _ _ _ _ h4e]; rfl
  have d1 : w1.cell? ⟨B4, 1, none⟩ = some (.slice none 0 0) := by rw [cell_of_row _ _ _ _ _ _ h4e]; rfl
  have e0 : w1.frozen? ⟨B4, 0, none⟩ = false := by simp [World.frozen?, h4e]
  have e1 : w1.frozen? ⟨B4, 1, none⟩ = false := by simp [World.frozen?, h4e]
  have GX : Hid (w.grownBy w1 none) := hid ⟨BX.out.os, BX.out.tape, BX.out.output, BX.out.size, fun q hq _ => BX.out.block q hq⟩
  have KX : Hid (KeepsOthers w w1) := hid (keeps_below BX.out)
  have STX := hid (HS.out.below BX.out)
  clear h4e
  go_wp2_with fail
  have hE := reply_endB (w := w) (.bool false) (.slice none 0 0) H4X.out STX.out (by omega) GX.out KX.out (by omega)
  (try simp only [Exit.inBlock, Exit.then])
  refine bodyPost_ret (results_reply rfl _ _ B4 _ _ _ _ rfl hE.1) rfl ?_
  exact ⟨rfl, hE.2⟩
set_option linter.unusedSimpArgs false in
set_option maxRecDepth 100000 in
set_option maxHeartbeats 1000000 in
theorem apply_out (b g : Nat) (S : StD) (c : CmdD) (u : Value) (w : World) (hS : St w b g S) (hu : CmdOk w c u) (hm : mayB c = true) (hcl : isClB c.op = true) (hin : (decide (S.from' ≤ c.from') && decide (c.to ≤ S.to)) = false) :
    Calls Try.prog 25 #[.pointer (some ⟨b, 0, none⟩), cmdV c u] w fun e w' => e = .returned (.tuple #[.agg #[.bool false, .slice none 0 0], .int .i64 9]) ∧ St w' b g S ∧ w.grownBy w' none ∧ KeepsOthers w w' := by
  have HMB := hid hm
  have HIN := hid hin
  have HCL := hid hcl
  clear hm hin hcl
  have HS := hid hS
  have HU := hid hu
  obtain ⟨ua, uc, rfl⟩ := hu.u.shape
  have hlt := hS.lt
  obtain ⟨s0, s1, s2, cap, s3⟩ := hS.cellsAt
  clear hS hu s3
  have hMay := hid fun W (hW : CmdOk W c (.slice ua c.data.length uc)) => may_any c _ W hW
  obtain ⟨op, client, seq, cf, ct, data⟩ := c
  have HSP := hid (fun W => spanOf_any ⟨op, client, seq, cf, ct, data⟩ ua data.length uc W)
  unfold cmdV at HSP hMay ⊢
  simp only at HSP hMay ⊢
  obtain ⟨w0, hw0⟩ : ∃ w0, w0 = (w.alloc (.cells #[.int .i64 op, .int .i64 client, .int .i64 seq, .int .i64 cf, .int .i64 ct, .slice ua data.length uc] 24)).alloc (.cells #[.bool false, .slice none 0 0] 60) := ⟨_, rfl⟩
  have hb0 : Below w.heap.size w w0 := by rw [hw0]; exact ((Below.refl _ _).alloc (Nat.le_refl _) _).alloc (by simp) _
  have h30 : w0.heap[w.heap.size]? = some (.cells #[.int .i64 op, .int .i64 client, .int .i64 seq, .int .i64 cf, .int .i64 ct, .slice ua data.length uc] 24 (0, 0)) := by rw [hw0]; exact heap_alloc2_old _ _ _
  have h40 : w0.heap[w.heap.size + 1]? = some (.cells #[.bool false, .slice none 0 0] 60 (0, 0)) := by rw [hw0]; exact heap_alloc2_new _ _ _
  have K0 : Hid (KeepsOthers w w0) := hid (by rw [hw0]; exact (KeepsOthers.alloc _ _).trans (KeepsOthers.alloc _ _))
  have HW0 := hid hw0
  clear hw0
  go_enter Try.func25, Try.ntmps25
  go_upto_region 3 with fail
  rw [← HW0.out]
  obtain ⟨B3, hB3⟩ : ∃ B, B = w.heap.size := ⟨_, rfl⟩
  obtain ⟨B4, hB4⟩ : ∃ B, B = w.heap.size + 1 := ⟨_, rfl⟩
  rw [← hB3] at h30
  rw [← hB4] at h40
  rw [← hB4, ← hB3]
  have hgB : g < B3 ∧ b < B3 ∧ B3 < B4 ∧ b < B4 ∧ g < B4 := by omega
  have hwB : w.heap.size ≤ B3 ∧ w.heap.size ≤ B4 := by omega
  clear hB3 hB4 HW0
  have q0 : w0.cell? ⟨B3, 0, none⟩ = some (.int .i64 op) := by rw [cell_of_row _ _ _ _ _ _ h30]; rfl
  have q1 : w0.cell? ⟨B3, 1, none⟩ = some (.int .i64 client) := by rw [cell_of_row _ _ _ _ _ _ h30]; rfl
  have q2 : w0.cell? ⟨B3, 2, none⟩ = some (.int .i64 seq) := by rw [cell_of_row _ _ _ _ _ _ h30]; rfl
  have q3 : w0.cell? ⟨B3, 3, none⟩ = some (.int .i64 cf) := by rw [cell_of_row _ _ _ _ _ _ h30]; rfl
  have q4 : w0.cell? ⟨B3, 4, none⟩ = some (.int .i64 ct) := by rw [cell_of_row _ _ _ _ _ _ h30]; rfl
  have q5 : w0.cell? ⟨B3, 5, none⟩ = some (.slice ua data.length uc) := by rw [cell_of_row _ _ _ _ _ _ h30]; rfl
  have H30 := hid h30
  have H40 := hid h40
  have B0 := hid hb0
  clear h30 h40 hb0
  go_wp2_with fail
  refine (hMay.out w0 (HU.out.below B0.out)).mono ?_
  rintro e w1 ⟨rfl, hb1⟩
  have H31 := hid ((hb1.block B3 (lt_of_block H30.out)).trans H30.out)
  have H41 := hid ((hb1.block B4 (lt_of_block H40.out)).trans H40.out)
  have B1 := hid (B0.out.trans (hb1.mono B0.out.size))
  clear hb1 q0 q1 q2 q3 q4 q5 H30 H40 B0 hMay
  have hm := HMB.out
  have hcl := HCL.out
  have hin := HIN.out
  (try simp only at hin); (try simp only at hcl)
  rw [hm]
  clear hm HMB HIN HCL
  have SW : Hid (∀ X, Below w1.heap.size w1 X → X.cell? ⟨B3, 0, none⟩ = some (.int .i64 op) ∧ X.cell? ⟨B3, 1, none⟩ = some (.int .i64 client) ∧ X.cell? ⟨B3, 2, none⟩ = some (.int .i64 seq) ∧ X.cell? ⟨B3, 3, none⟩ = some (.int .i64 cf) ∧ X.cell? ⟨B3, 4, none⟩ = some (.int .i64 ct) ∧ X.cell? ⟨B3, 5, none⟩ = some (.slice ua data.length uc) ∧ X.cell? ⟨b, 0, none⟩ = some (.int .i64 S.from') ∧ X.cell? ⟨b, 1, none⟩ = some (.int .i64 S.to) ∧ X.cell? ⟨b, 2, none⟩ = some (.bool S.fr)) := hid fun X hX => by
    have hb := (hX.block B3 (lt_of_block H31.out)).trans H31.out
    refine ⟨by rw [cell_of_row _ _ _ _ _ _ hb]; rfl, by rw [cell_of_row _ _ _ _ _ _ hb]; rfl, by rw [cell_of_row _ _ _ _ _ _ hb]; rfl, by rw [cell_of_row _ _ _ _ _ _ hb]; rfl, by rw [cell_of_row _ _ _ _ _ _ hb]; rfl, by rw [cell_of_row _ _ _ _ _ _ hb]; rfl, cell_later hX (cell_later B1.out s0), cell_later hX (cell_later B1.out s1), cell_later hX (cell_later B1.out s2)⟩
  clear s0 s1 s2
  go_upto_region 5 with fail
  refine wp_region_held_drew (S := fun X => X.cell? ⟨B3, 0, none⟩ = some (.int .i64 op) ∧ X.cell? ⟨B3, 1, none⟩ = some (.int .i64 client) ∧ X.cell? ⟨B3, 2, none⟩ = some (.int .i64 seq) ∧ X.cell? ⟨B3, 3, none⟩ = some (.int .i64 cf) ∧ X.cell? ⟨B3, 4, none⟩ = some (.int .i64 ct) ∧ X.cell? ⟨B3, 5, none⟩ = some (.slice ua data.length uc) ∧ X.cell? ⟨b, 0, none⟩ = some (.int .i64 S.from') ∧ X.cell? ⟨b, 1, none⟩ = some (.int .i64 S.to) ∧ X.cell? ⟨b, 2, none⟩ = some (.bool S.fr)) (by kernel_rfl) (SW.out _ ((Below.refl _ _).drew)) (fun hHeld => ?_)
  refine wpAnyH_take (i := 0) (v := ?rv0) rfl (by kernel_rfl) (by kernel_rfl) (by kernel_rfl) (fun _ _ _ h => h) (Or.inl ⟨by rfl, ?ry0⟩) (by assumption) ?rr0
  case ry0 => (intro w hSw; (try dsimp only at hSw); go_simp; try with_reducible rfl)
  (try simp only [Act.put, List.setIfInBounds_toArray, List.set_cons_zero, List.set_cons_succ, List.getElem_toArray, List.getElem_cons_succ, List.getElem_cons_zero])
  refine wpAnyH_take (i := 1) (v := ?rv1) rfl (by kernel_rfl) (by kernel_rfl) (by kernel_rfl) (fun _ _ _ h => h) (Or.inl ⟨by rfl, ?ry1⟩) (by assumption) ?rr1
  case ry1 => (intro w hSw; (try dsimp only at hSw); go_simp; try with_reducible rfl)
  (try simp only [Act.put, List.setIfInBounds_toArray, List.set_cons_zero, List.set_cons_succ, List.getElem_toArray, List.getElem_cons_succ, List.getElem_cons_zero])
  refine wpAnyH_ready (rs := [2]) (by kernel_rfl) (by simp) ?_
  refine AllReadyH.cons rfl (fun K hK => ?_) AllReadyH.nil
  rw [if_pos (by rfl)]
  go_wp2_with fail
  refine (isClients_any op _).mono ?_
  rintro e w2 ⟨rfl, hw2⟩
  rw [hcl]
  have B2 : Hid (Below w1.heap.size w1 w2) := hid (by rw [hw2]; exact (Below.refl _ _).drew)
  clear hw2
  refine hK.out _ _ (SW.out _ B2.out) (fun hHeld => ?_)
  try clear hK K
  (try simp only [Act.put, List.setIfInBounds_toArray, List.set_cons_zero, List.set_cons_succ, List.getElem_toArray, List.getElem_cons_succ, List.getElem_cons_zero])
  refine wpAnyH_take (i := 3) (v := ?rv3) rfl (by kernel_rfl) (by kernel_rfl) (by kernel_rfl) (fun _ _ _ h => h) (Or.inl ⟨by rfl, ?ry3⟩) (by assumption) ?rr3
  case ry3 => (intro w hSw; (try dsimp only at hSw); go_simp; try with_reducible rfl)
  (try simp only [Act.put, List.setIfInBounds_toArray, List.set_cons_zero, List.set_cons_succ, List.getElem_toArray, List.getElem_cons_succ, List.getElem_cons_zero])
  refine wpAnyH_take (i := 4) (v := ?rv4) rfl (by kernel_rfl) (by kernel_rfl) (by kernel_rfl) (fun _ _ _ h => h) (Or.inl ⟨by rfl, ?ry4⟩) (by assumption) ?rr4
  case ry4 => (intro w hSw; (try dsimp only at hSw); go_simp; try with_reducible rfl)
  (try simp only [Act.put, List.setIfInBounds_toArray, List.set_cons_zero, List.set_cons_succ, List.getElem_toArray, List.getElem_cons_succ, List.getElem_cons_zero])
  refine wpAnyH_take (i := 5) (v := ?rv5) rfl (by kernel_rfl) (by kernel_rfl) (by kernel_rfl) (fun _ _ _ h => h) (Or.inl ⟨by rfl, ?ry5⟩) (by assumption) ?rr5
  case ry5 => (intro w hSw; (try dsimp only at hSw); go_simp; try with_reducible rfl)
  (try simp only [Act.put, List.setIfInBounds_toArray, List.set_cons_zero, List.set_cons_succ, List.getElem_toArray, List.getElem_cons_succ, List.getElem_cons_zero])
  refine wpAnyH_take (i := 6) (v := ?rv6) rfl (by kernel_rfl) (by kernel_rfl) (by kernel_rfl) (fun _ _ _ h => h) (Or.inl ⟨by rfl, ?ry6⟩) (by assumption) ?rr6
  case ry6 => (intro w hSw; (try dsimp only at hSw); go_simp; try with_reducible rfl)
  (try simp only [Act.put, List.setIfInBounds_toArray, List.set_cons_zero, List.set_cons_succ, List.getElem_toArray, List.getElem_cons_succ, List.getElem_cons_zero])
  refine wpAnyH_take (i := 7) (v := ?rv7) rfl (by kernel_rfl) (by kernel_rfl) (by kernel_rfl) (fun _ _ _ h => h) (Or.inl ⟨by rfl, ?ry7⟩) (by assumption) ?rr7
  case ry7 => (intro w hSw; (try dsimp only at hSw); go_simp; try with_reducible rfl)
  (try simp only [Act.put, List.setIfInBounds_toArray, List.set_cons_zero, List.set_cons_succ, List.getElem_toArray, List.getElem_cons_succ, List.getElem_cons_zero])
  refine wpAnyH_take (i := 8) (v := ?rv8) rfl (by kernel_rfl) (by kernel_rfl) (by kernel_rfl) (fun _ _ _ h => h) (Or.inl ⟨by rfl, ?ry8⟩) (by assumption) ?rr8
  case ry8 => (intro w hSw; (try dsimp only at hSw); go_simp; try with_reducible rfl)
  (try simp only [Act.put, List.setIfInBounds_toArray, List.set_cons_zero, List.set_cons_succ, List.getElem_toArray, List.getElem_cons_succ, List.getElem_cons_zero])
  refine wpAnyH_ready (rs := [9]) (by kernel_rfl) (by simp) ?_
  refine AllReadyH.cons rfl (fun K hK => ?_) AllReadyH.nil
  rw [if_pos (by rfl)]
  go_wp2_with fail
  refine (HSP.out _).mono ?_
  rintro e w5 ⟨rfl, hb5⟩
  have B5 : Hid (Below w1.heap.size w1 w5) := hid (B2.out.trans (hb5.mono B2.out.size))
  clear hb5
  refine hK.out _ _ (SW.out _ B5.out) (fun hHeld => ?_)
  try clear hK K
  (try simp only [Act.put, List.setIfInBounds_toArray, List.set_cons_zero, List.set_cons_succ, List.getElem_toArray, List.getElem_cons_succ, List.getElem_cons_zero])
  refine wpAnyH_ready (rs := [10]) (by kernel_rfl) (by simp) ?_
  refine AllReadyH.cons rfl (fun K hK => ?_) AllReadyH.nil
  rw [if_pos (by rfl)]
  go_wp2_with fail
  refine (holds_any (S.from', S.to) (cf, ct) _).mono ?_
  rintro e w6 ⟨rfl, hb6⟩
  rw [hin]
  have B6 : Hid (Below w1.heap.size w1 w6) := hid (B5.out.trans (hb6.mono B5.out.size))
  clear hb6
  refine hK.out _ _ (SW.out _ B6.out) (fun hHeld => ?_)
  try clear hK K
  (try simp only [Act.put, List.setIfInBounds_toArray, List.set_cons_zero, List.set_cons_succ, List.getElem_toArray, List.getElem_cons_succ, List.getElem_cons_zero])
  refine wpAnyH_take (i := 11) (v := ?rv11) rfl (by kernel_rfl) (by kernel_rfl) (by kernel_rfl) (fun _ _ _ h => h) (Or.inl ⟨by rfl, ?ry11⟩) (by assumption) ?rr11
  case ry11 => (intro w hSw; (try dsimp only at hSw); go_simp; try with_reducible rfl)
  (try simp only [Act.put, List.setIfInBounds_toArray, List.set_cons_zero, List.set_cons_succ, List.getElem_toArray, List.getElem_cons_succ, List.getElem_cons_zero])
  refine wpAnyH_take (i := 12) (v := ?rv12) rfl (by kernel_rfl) (by kernel_rfl) (by kernel_rfl) (fun _ _ _ h => h) (Or.inl ⟨by rfl, ?ry12⟩) (by assumption) ?rr12
  case ry12 => (intro w hSw; (try dsimp only at hSw); go_simp; try with_reducible rfl)
  (try simp only [Act.put, List.setIfInBounds_toArray, List.set_cons_zero, List.set_cons_succ, List.getElem_toArray, List.getElem_cons_succ, List.getElem_cons_zero])
  refine wpAnyH_done (by kernel_rfl) ?_ _
  have BX := hid (B1.out.trans (B6.out.mono B1.out.size))
  have H4X := hid ((B6.out.block B4 (lt_of_block H41.out)).trans H41.out)
  clear hHeld SW B2 B5 H31 H41
  have h4e : w6.heap[B4]? = _ := H4X.out
  have d0 : w6.cell? ⟨B4, 0, none⟩ = some (.bool false) := by rw [cell_of_row _ _ _ _ _ _ h4e]; rfl
  have d1 : w6.cell? ⟨B4, 1, none⟩ = some (.slice none 0 0) := by rw [cell_of_row _ _ _ _ _ _ h4e]; rfl
  have e0 : w6.frozen? ⟨B4, 0, none⟩ = false := by simp [World.frozen?, h4e]
  have e1 : w6.frozen? ⟨B4, 1, none⟩ = false := by simp [World.frozen?, h4e]
  have GX : Hid (w.grownBy w6 none) := hid ⟨BX.out.os, BX.out.tape, BX.out.output, BX.out.size, fun q hq _ => BX.out.block q hq⟩
  have KX : Hid (KeepsOthers w w6) := hid (keeps_below BX.out)
  have STX := hid (HS.out.below BX.out)
  clear h4e
  go_wp2_with fail
  have hE := reply_endB (w := w) (.bool false) (.slice none 0 0) H4X.out STX.out (by omega) GX.out KX.out (by omega)
  (try simp only [Exit.inBlock, Exit.then])
  refine bodyPost_ret (results_reply rfl _ _ B4 _ _ _ _ rfl hE.1) rfl ?_
  exact ⟨rfl, hE.2⟩
set_option linter.unusedSimpArgs false in
set_option maxRecDepth 100000 in
set_option maxHeartbeats 1000000 in
theorem apply_frozenC (b g : Nat) (S : StD) (c : CmdD) (u : Value) (w : World) (hS : St w b g S) (hu : CmdOk w c u) (hm : mayB c = true) (hcl : isClB c.op = true) (hin : (decide (S.from' ≤ c.from') && decide (c.to ≤ S.to)) = true) (hfr : S.fr = true) :
    Calls Try.prog 25 #[.pointer (some ⟨b, 0, none⟩), cmdV c u] w fun e w' => e = .returned (.tuple #[.agg #[.bool false, .slice none 0 0], .int .i64 0]) ∧ St w' b g S ∧ w.grownBy w' none ∧ KeepsOthers w w' := by
  have HMB := hid hm
  have HIN := hid hin
  have HCL := hid hcl
  have HFR := hid hfr
  clear hm hin hcl hfr
  have HS := hid hS
  have HU := hid hu
  obtain ⟨ua, uc, rfl⟩ := hu.u.shape
  have hlt := hS.lt
  obtain ⟨s0, s1, s2, cap, s3⟩ := hS.cellsAt
  clear hS hu s3
  have hMay := hid fun W (hW : CmdOk W c (.slice ua c.data.length uc)) => may_any c _ W hW
  obtain ⟨op, client, seq, cf, ct, data⟩ := c
  have HSP := hid (fun W => spanOf_any ⟨op, client, seq, cf, ct, data⟩ ua data.length uc W)
  unfold cmdV at HSP hMay ⊢
  simp only at HSP hMay ⊢
  obtain ⟨w0, hw0⟩ : ∃ w0, w0 = (w.alloc (.cells #[.int .i64 op, .int .i64 client, .int .i64 seq, .int .i64 cf, .int .i64 ct, .slice ua data.length uc] 24)).alloc (.cells #[.bool false, .slice none 0 0] 60) := ⟨_, rfl⟩
  have hb0 : Below w.heap.size w w0 := by rw [hw0]; exact ((Below.refl _ _).alloc (Nat.le_refl _) _).alloc (by simp) _
  have h30 : w0.heap[w.heap.size]? = some (.cells #[.int .i64 op, .int .i64 client, .int .i64 seq, .int .i64 cf, .int .i64 ct, .slice ua data.length uc] 24 (0, 0)) := by rw [hw0]; exact heap_alloc2_old _ _ _
  have h40 : w0.heap[w.heap.size + 1]? = some (.cells #[.bool false, .slice none 0 0] 60 (0, 0)) := by rw [hw0]; exact heap_alloc2_new _ _ _
  have K0 : Hid (KeepsOthers w w0) := hid (by rw [hw0]; exact (KeepsOthers.alloc _ _).trans (KeepsOthers.alloc _ _))
  have HW0 := hid hw0
  clear hw0
  go_enter Try.func25, Try.ntmps25
  go_upto_region 3 with fail
  rw [← HW0.out]
  obtain ⟨B3, hB3⟩ : ∃ B, B = w.heap.size := ⟨_, rfl⟩
  obtain ⟨B4, hB4⟩ : ∃ B, B = w.heap.size + 1 := ⟨_, rfl⟩
  rw [← hB3] at h30
  rw [← hB4] at h40
  rw [← hB4, ← hB3]
  have hgB : g < B3 ∧ b < B3 ∧ B3 < B4 ∧ b < B4 ∧ g < B4 := by omega
  have hwB : w.heap.size ≤ B3 ∧ w.heap.size ≤ B4 := by omega
  clear hB3 hB4 HW0
  have q0 : w0.cell? ⟨B3, 0, none⟩ = some (.int .i64 op) := by rw [cell_of_row _ _ _ _ _ _ h30]; rfl
  have q1 : w0.cell? ⟨B3, 1, none⟩ = some (.int .i64 client) := by rw [cell_of_row _ _ _ _ _ _ h30]; rfl
  have q2 : w0.cell? ⟨B3, 2, none⟩ = some (.int .i64 seq) := by rw [cell_of_row _ _ _ _ _ _ h30]; rfl
  have q3 : w0.cell? ⟨B3, 3, none⟩ = some (.int .i64 cf) := by rw [cell_of_row _ _ _ _ _ _ h30]; rfl
  have q4 : w0.cell? ⟨B3, 4, none⟩ = some (.int .i64 ct) := by rw [cell_of_row _ _ _ _ _ _ h30]; rfl
  have q5 : w0.cell? ⟨B3, 5, none⟩ = some (.slice ua data.length uc) := by rw [cell_of_row _ _ _ _ _ _ h30]; rfl
  have H30 := hid h30
  have H40 := hid h40
  have B0 := hid hb0
  clear h30 h40 hb0
  go_wp2_with fail
  refine (hMay.out w0 (HU.out.below B0.out)).mono ?_
  rintro e w1 ⟨rfl, hb1⟩
  have H31 := hid ((hb1.block B3 (lt_of_block H30.out)).trans H30.out)
  have H41 := hid ((hb1.block B4 (lt_of_block H40.out)).trans H40.out)
  have B1 := hid (B0.out.trans (hb1.mono B0.out.size))
  clear hb1 q0 q1 q2 q3 q4 q5 H30 H40 B0 hMay
  have hm := HMB.out
  have hcl := HCL.out
  have hin := HIN.out
  (try simp only at hin); (try simp only at hcl)
  rw [hm]
  clear hm HMB HIN HCL
  have SW : Hid (∀ X, Below w1.heap.size w1 X → X.cell? ⟨B3, 0, none⟩ = some (.int .i64 op) ∧ X.cell? ⟨B3, 1, none⟩ = some (.int .i64 client) ∧ X.cell? ⟨B3, 2, none⟩ = some (.int .i64 seq) ∧ X.cell? ⟨B3, 3, none⟩ = some (.int .i64 cf) ∧ X.cell? ⟨B3, 4, none⟩ = some (.int .i64 ct) ∧ X.cell? ⟨B3, 5, none⟩ = some (.slice ua data.length uc) ∧ X.cell? ⟨b, 0, none⟩ = some (.int .i64 S.from') ∧ X.cell? ⟨b, 1, none⟩ = some (.int .i64 S.to) ∧ X.cell? ⟨b, 2, none⟩ = some (.bool S.fr)) := hid fun X hX => by
    have hb := (hX.block B3 (lt_of_block H31.out)).trans H31.out
    refine ⟨by rw [cell_of_row _ _ _ _ _ _ hb]; rfl, by rw [cell_of_row _ _ _ _ _ _ hb]; rfl, by rw [cell_of_row _ _ _ _ _ _ hb]; rfl, by rw [cell_of_row _ _ _ _ _ _ hb]; rfl, by rw [cell_of_row _ _ _ _ _ _ hb]; rfl, by rw [cell_of_row _ _ _ _ _ _ hb]; rfl, cell_later hX (cell_later B1.out s0), cell_later hX (cell_later B1.out s1), cell_later hX (cell_later B1.out s2)⟩
  clear s0 s1 s2
  go_upto_region 5 with fail
  refine wp_region_held_drew (S := fun X => X.cell? ⟨B3, 0, none⟩ = some (.int .i64 op) ∧ X.cell? ⟨B3, 1, none⟩ = some (.int .i64 client) ∧ X.cell? ⟨B3, 2, none⟩ = some (.int .i64 seq) ∧ X.cell? ⟨B3, 3, none⟩ = some (.int .i64 cf) ∧ X.cell? ⟨B3, 4, none⟩ = some (.int .i64 ct) ∧ X.cell? ⟨B3, 5, none⟩ = some (.slice ua data.length uc) ∧ X.cell? ⟨b, 0, none⟩ = some (.int .i64 S.from') ∧ X.cell? ⟨b, 1, none⟩ = some (.int .i64 S.to) ∧ X.cell? ⟨b, 2, none⟩ = some (.bool S.fr)) (by kernel_rfl) (SW.out _ ((Below.refl _ _).drew)) (fun hHeld => ?_)
  refine wpAnyH_take (i := 0) (v := ?rv0) rfl (by kernel_rfl) (by kernel_rfl) (by kernel_rfl) (fun _ _ _ h => h) (Or.inl ⟨by rfl, ?ry0⟩) (by assumption) ?rr0
  case ry0 => (intro w hSw; (try dsimp only at hSw); go_simp; try with_reducible rfl)
  (try simp only [Act.put, List.setIfInBounds_toArray, List.set_cons_zero, List.set_cons_succ, List.getElem_toArray, List.getElem_cons_succ, List.getElem_cons_zero])
  refine wpAnyH_take (i := 1) (v := ?rv1) rfl (by kernel_rfl) (by kernel_rfl) (by kernel_rfl) (fun _ _ _ h => h) (Or.inl ⟨by rfl, ?ry1⟩) (by assumption) ?rr1
  case ry1 => (intro w hSw; (try dsimp only at hSw); go_simp; try with_reducible rfl)
  (try simp only [Act.put, List.setIfInBounds_toArray, List.set_cons_zero, List.set_cons_succ, List.getElem_toArray, List.getElem_cons_succ, List.getElem_cons_zero])
  refine wpAnyH_ready (rs := [2]) (by kernel_rfl) (by simp) ?_
  refine AllReadyH.cons rfl (fun K hK => ?_) AllReadyH.nil
  rw [if_pos (by rfl)]
  go_wp2_with fail
  refine (isClients_any op _).mono ?_
  rintro e w2 ⟨rfl, hw2⟩
  rw [hcl]
  have B2 : Hid (Below w1.heap.size w1 w2) := hid (by rw [hw2]; exact (Below.refl _ _).drew)
  clear hw2
  refine hK.out _ _ (SW.out _ B2.out) (fun hHeld => ?_)
  try clear hK K
  (try simp only [Act.put, List.setIfInBounds_toArray, List.set_cons_zero, List.set_cons_succ, List.getElem_toArray, List.getElem_cons_succ, List.getElem_cons_zero])
  refine wpAnyH_take (i := 3) (v := ?rv3) rfl (by kernel_rfl) (by kernel_rfl) (by kernel_rfl) (fun _ _ _ h => h) (Or.inl ⟨by rfl, ?ry3⟩) (by assumption) ?rr3
  case ry3 => (intro w hSw; (try dsimp only at hSw); go_simp; try with_reducible rfl)
  (try simp only [Act.put, List.setIfInBounds_toArray, List.set_cons_zero, List.set_cons_succ, List.getElem_toArray, List.getElem_cons_succ, List.getElem_cons_zero])
  refine wpAnyH_take (i := 4) (v := ?rv4) rfl (by kernel_rfl) (by kernel_rfl) (by kernel_rfl) (fun _ _ _ h => h) (Or.inl ⟨by rfl, ?ry4⟩) (by assumption) ?rr4
  case ry4 => (intro w hSw; (try dsimp only at hSw); go_simp; try with_reducible rfl)
  (try simp only [Act.put, List.setIfInBounds_toArray, List.set_cons_zero, List.set_cons_succ, List.getElem_toArray, List.getElem_cons_succ, List.getElem_cons_zero])
  refine wpAnyH_take (i := 5) (v := ?rv5) rfl (by kernel_rfl) (by kernel_rfl) (by kernel_rfl) (fun _ _ _ h => h) (Or.inl ⟨by rfl, ?ry5⟩) (by assumption) ?rr5
  case ry5 => (intro w hSw; (try dsimp only at hSw); go_simp; try with_reducible rfl)
  (try simp only [Act.put, List.setIfInBounds_toArray, List.set_cons_zero, List.set_cons_succ, List.getElem_toArray, List.getElem_cons_succ, List.getElem_cons_zero])
  refine wpAnyH_take (i := 6) (v := ?rv6) rfl (by kernel_rfl) (by kernel_rfl) (by kernel_rfl) (fun _ _ _ h => h) (Or.inl ⟨by rfl, ?ry6⟩) (by assumption) ?rr6
  case ry6 => (intro w hSw; (try dsimp only at hSw); go_simp; try with_reducible rfl)
  (try simp only [Act.put, List.setIfInBounds_toArray, List.set_cons_zero, List.set_cons_succ, List.getElem_toArray, List.getElem_cons_succ, List.getElem_cons_zero])
  refine wpAnyH_take (i := 7) (v := ?rv7) rfl (by kernel_rfl) (by kernel_rfl) (by kernel_rfl) (fun _ _ _ h => h) (Or.inl ⟨by rfl, ?ry7⟩) (by assumption) ?rr7
  case ry7 => (intro w hSw; (try dsimp only at hSw); go_simp; try with_reducible rfl)
  (try simp only [Act.put, List.setIfInBounds_toArray, List.set_cons_zero, List.set_cons_succ, List.getElem_toArray, List.getElem_cons_succ, List.getElem_cons_zero])
  refine wpAnyH_take (i := 8) (v := ?rv8) rfl (by kernel_rfl) (by kernel_rfl) (by kernel_rfl) (fun _ _ _ h => h) (Or.inl ⟨by rfl, ?ry8⟩) (by assumption) ?rr8
  case ry8 => (intro w hSw; (try dsimp only at hSw); go_simp; try with_reducible rfl)
  (try simp only [Act.put, List.setIfInBounds_toArray, List.set_cons_zero, List.set_cons_succ, List.getElem_toArray, List.getElem_cons_succ, List.getElem_cons_zero])
  refine wpAnyH_ready (rs := [9]) (by kernel_rfl) (by simp) ?_
  refine AllReadyH.cons rfl (fun K hK => ?_) AllReadyH.nil
  rw [if_pos (by rfl)]
  go_wp2_with fail
  refine (HSP.out _).mono ?_
  rintro e w5 ⟨rfl, hb5⟩
  have B5 : Hid (Below w1.heap.size w1 w5) := hid (B2.out.trans (hb5.mono B2.out.size))
  clear hb5
  refine hK.out _ _ (SW.out _ B5.out) (fun hHeld => ?_)
  try clear hK K
  (try simp only [Act.put, List.setIfInBounds_toArray, List.set_cons_zero, List.set_cons_succ, List.getElem_toArray, List.getElem_cons_succ, List.getElem_cons_zero])
  refine wpAnyH_ready (rs := [10]) (by kernel_rfl) (by simp) ?_
  refine AllReadyH.cons rfl (fun K hK => ?_) AllReadyH.nil
  rw [if_pos (by rfl)]
  go_wp2_with fail
  refine (holds_any (S.from', S.to) (cf, ct) _).mono ?_
  rintro e w6 ⟨rfl, hb6⟩
  rw [hin]
  have B6 : Hid (Below w1.heap.size w1 w6) := hid (B5.out.trans (hb6.mono B5.out.size))
  clear hb6
  refine hK.out _ _ (SW.out _ B6.out) (fun hHeld => ?_)
  try clear hK K
  (try simp only [Act.put, List.setIfInBounds_toArray, List.set_cons_zero, List.set_cons_succ, List.getElem_toArray, List.getElem_cons_succ, List.getElem_cons_zero])
  refine wpAnyH_take (i := 11) (v := ?rv11) rfl (by kernel_rfl) (by kernel_rfl) (by kernel_rfl) (fun _ _ _ h => h) (Or.inl ⟨by rfl, ?ry11⟩) (by assumption) ?rr11
  case ry11 => (intro w hSw; (try dsimp only at hSw); go_simp; try with_reducible rfl)
  (try simp only [Act.put, List.setIfInBounds_toArray, List.set_cons_zero, List.set_cons_succ, List.getElem_toArray, List.getElem_cons_succ, List.getElem_cons_zero])
  refine wpAnyH_take (i := 12) (v := ?rv12) rfl (by kernel_rfl) (by kernel_rfl) (by kernel_rfl) (fun _ _ _ h => h) (Or.inl ⟨by rfl, ?ry12⟩) (by assumption) ?rr12
  case ry12 => (intro w hSw; (try dsimp only at hSw); go_simp; try with_reducible rfl)
  (try simp only [Act.put, List.setIfInBounds_toArray, List.set_cons_zero, List.set_cons_succ, List.getElem_toArray, List.getElem_cons_succ, List.getElem_cons_zero])
  refine wpAnyH_done (by kernel_rfl) ?_ _
  have BX := hid (B1.out.trans (B6.out.mono B1.out.size))
  have H4X := hid ((B6.out.block B4 (lt_of_block H41.out)).trans H41.out)
  obtain ⟨-, -, -, -, -, -, -, -, zf⟩ := SW.out w6 B6.out
  rw [HFR.out] at zf
  clear hHeld SW B2 B5 H31 H41
  have h4e : w6.heap[B4]? = _ := H4X.out
  have d0 : w6.cell? ⟨B4, 0, none⟩ = some (.bool false) := by rw [cell_of_row _ _ _ _ _ _ h4e]; rfl
  have d1 : w6.cell? ⟨B4, 1, none⟩ = some (.slice none 0 0) := by rw [cell_of_row _ _ _ _ _ _ h4e]; rfl
  have e0 : w6.frozen? ⟨B4, 0, none⟩ = false := by simp [World.frozen?, h4e]
  have e1 : w6.frozen? ⟨B4, 1, none⟩ = false := by simp [World.frozen?, h4e]
  have GX : Hid (w.grownBy w6 none) := hid ⟨BX.out.os, BX.out.tape, BX.out.output, BX.out.size, fun q hq _ => BX.out.block q hq⟩
  have KX : Hid (KeepsOthers w w6) := hid (keeps_below BX.out)
  have STX := hid (HS.out.below BX.out)
  clear h4e
  go_wp2_with fail
  have hE := reply_endB (w := w) (.bool false) (.slice none 0 0) H4X.out STX.out (by omega) GX.out KX.out (by omega)
  (try simp only [Exit.inBlock, Exit.then])
  refine bodyPost_ret (results_reply rfl _ _ B4 _ _ _ _ rfl hE.1) rfl ?_
  exact ⟨rfl, hE.2⟩
set_option linter.unusedSimpArgs false in
set_option maxRecDepth 100000 in
set_option maxHeartbeats 1000000 in
theorem apply_frozenO (b g : Nat) (S : StD) (c : CmdD) (u : Value) (w : World) (hS : St w b g S) (hu : CmdOk w c u) (hm : mayB c = true) (hcl : isClB c.op = false) (hfr : S.fr = true) :
    Calls Try.prog 25 #[.pointer (some ⟨b, 0, none⟩), cmdV c u] w fun e w' => e = .returned (.tuple #[.agg #[.bool false, .slice none 0 0], .int .i64 0]) ∧ St w' b g S ∧ w.grownBy w' none ∧ KeepsOthers w w' := by
  have HMB := hid hm
  have HCL := hid hcl
  have HFR := hid hfr
  clear hm hcl hfr
  have HS := hid hS
  have HU := hid hu
  obtain ⟨ua, uc, rfl⟩ := hu.u.shape
  have hlt := hS.lt
  obtain ⟨s0, s1, s2, cap, s3⟩ := hS.cellsAt
  clear hS hu s3
  have hMay := hid fun W (hW : CmdOk W c (.slice ua c.data.length uc)) => may_any c _ W hW
  obtain ⟨op, client, seq, cf, ct, data⟩ := c
  have HSP := hid (fun W => spanOf_any ⟨op, client, seq, cf, ct, data⟩ ua data.length uc W)
  unfold cmdV at HSP hMay ⊢
  simp only at HSP hMay ⊢
  obtain ⟨w0, hw0⟩ : ∃ w0, w0 = (w.alloc (.cells #[.int .i64 op, .int .i64 client, .int .i64 seq, .int .i64 cf, .int .i64 ct, .slice ua data.length uc] 24)).alloc (.cells #[.bool false, .slice none 0 0] 60) := ⟨_, rfl⟩
  have hb0 : Below w.heap.size w w0 := by rw [hw0]; exact ((Below.refl _ _).alloc (Nat.le_refl _) _).alloc (by simp) _
  have h30 : w0.heap[w.heap.size]? = some (.cells #[.int .i64 op, .int .i64 client, .int .i64 seq, .int .i64 cf, .int .i64 ct, .slice ua data.length uc] 24 (0, 0)) := by rw [hw0]; exact heap_alloc2_old _ _ _
  have h40 : w0.heap[w.heap.size + 1]? = some (.cells #[.bool false, .slice none 0 0] 60 (0, 0)) := by rw [hw0]; exact heap_alloc2_new _ _ _
  have K0 : Hid (KeepsOthers w w0) := hid (by rw [hw0]; exact (KeepsOthers.alloc _ _).trans (KeepsOthers.alloc _ _))
  have HW0 := hid hw0
  clear hw0
  go_enter Try.func25, Try.ntmps25
  go_upto_region 3 with fail
  rw [← HW0.out]
  obtain ⟨B3, hB3⟩ : ∃ B, B = w.heap.size := ⟨_, rfl⟩
  obtain ⟨B4, hB4⟩ : ∃ B, B = w.heap.size + 1 := ⟨_, rfl⟩
  rw [← hB3] at h30
  rw [← hB4] at h40
  rw [← hB4, ← hB3]
  have hgB : g < B3 ∧ b < B3 ∧ B3 < B4 ∧ b < B4 ∧ g < B4 := by omega
  have hwB : w.heap.size ≤ B3 ∧ w.heap.size ≤ B4 := by omega
  clear hB3 hB4 HW0
  have q0 : w0.cell? ⟨B3, 0, none⟩ = some (.int .i64 op) := by rw [cell_of_row _ _ _ _ _ _ h30]; rfl
  have q1 : w0.cell? ⟨B3, 1, none⟩ = some (.int .i64 client) := by rw [cell_of_row _ _ _ _ _ _ h30]; rfl
  have q2 : w0.cell? ⟨B3, 2, none⟩ = some (.int .i64 seq) := by rw [cell_of_row _ _ _ _ _ _ h30]; rfl
  have q3 : w0.cell? ⟨B3, 3, none⟩ = some (.int .i64 cf) := by rw [cell_of_row _ _ _ _ _ _ h30]; rfl
  have q4 : w0.cell? ⟨B3, 4, none⟩ = some (.int .i64 ct) := by rw [cell_of_row _ _ _ _ _ _ h30]; rfl
  have q5 : w0.cell? ⟨B3, 5, none⟩ = some (.slice ua data.length uc) := by rw [cell_of_row _ _ _ _ _ _ h30]; rfl
  have H30 := hid h30
  have H40 := hid h40
  have B0 := hid hb0
  clear h30 h40 hb0
  go_wp2_with fail
  refine (hMay.out w0 (HU.out.below B0.out)).mono ?_
  rintro e w1 ⟨rfl, hb1⟩
  have H31 := hid ((hb1.block B3 (lt_of_block H30.out)).trans H30.out)
  have H41 := hid ((hb1.block B4 (lt_of_block H40.out)).trans H40.out)
  have B1 := hid (B0.out.trans (hb1.mono B0.out.size))
  clear hb1 q0 q1 q2 q3 q4 q5 H30 H40 B0 hMay
  have hm := HMB.out
  have hcl := HCL.out
  (try simp only at hcl)
  rw [hm]
  clear hm HMB HCL
  have SW : Hid (∀ X, Below w1.heap.size w1 X → X.cell? ⟨B3, 0, none⟩ = some (.int .i64 op) ∧ X.cell? ⟨B3, 1, none⟩ = some (.int .i64 client) ∧ X.cell? ⟨B3, 2, none⟩ = some (.int .i64 seq) ∧ X.cell? ⟨B3, 3, none⟩ = some (.int .i64 cf) ∧ X.cell? ⟨B3, 4, none⟩ = some (.int .i64 ct) ∧ X.cell? ⟨B3, 5, none⟩ = some (.slice ua data.length uc) ∧ X.cell? ⟨b, 0, none⟩ = some (.int .i64 S.from') ∧ X.cell? ⟨b, 1, none⟩ = some (.int .i64 S.to) ∧ X.cell? ⟨b, 2, none⟩ = some (.bool S.fr)) := hid fun X hX => by
    have hb := (hX.block B3 (lt_of_block H31.out)).trans H31.out
    refine ⟨by rw [cell_of_row _ _ _ _ _ _ hb]; rfl, by rw [cell_of_row _ _ _ _ _ _ hb]; rfl, by rw [cell_of_row _ _ _ _ _ _ hb]; rfl, by rw [cell_of_row _ _ _ _ _ _ hb]; rfl, by rw [cell_of_row _ _ _ _ _ _ hb]; rfl, by rw [cell_of_row _ _ _ _ _ _ hb]; rfl, cell_later hX (cell_later B1.out s0), cell_later hX (cell_later B1.out s1), cell_later hX (cell_later B1.out s2)⟩
  clear s0 s1 s2
  go_upto_region 5 with fail
  refine wp_region_held_drew (S := fun X => X.cell? ⟨B3, 0, none⟩ = some (.int .i64 op) ∧ X.cell? ⟨B3, 1, none⟩ = some (.int .i64 client) ∧ X.cell? ⟨B3, 2, none⟩ = some (.int .i64 seq) ∧ X.cell? ⟨B3, 3, none⟩ = some (.int .i64 cf) ∧ X.cell? ⟨B3, 4, none⟩ = some (.int .i64 ct) ∧ X.cell? ⟨B3, 5, none⟩ = some (.slice ua data.length uc) ∧ X.cell? ⟨b, 0, none⟩ = some (.int .i64 S.from') ∧ X.cell? ⟨b, 1, none⟩ = some (.int .i64 S.to) ∧ X.cell? ⟨b, 2, none⟩ = some (.bool S.fr)) (by kernel_rfl) (SW.out _ ((Below.refl _ _).drew)) (fun hHeld => ?_)
  refine wpAnyH_take (i := 0) (v := ?rv0) rfl (by kernel_rfl) (by kernel_rfl) (by kernel_rfl) (fun _ _ _ h => h) (Or.inl ⟨by rfl, ?ry0⟩) (by assumption) ?rr0
  case ry0 => (intro w hSw; (try dsimp only at hSw); go_simp; try with_reducible rfl)
  (try simp only [Act.put, List.setIfInBounds_toArray, List.set_cons_zero, List.set_cons_succ, List.getElem_toArray, List.getElem_cons_succ, List.getElem_cons_zero])
  refine wpAnyH_take (i := 1) (v := ?rv1) rfl (by kernel_rfl) (by kernel_rfl) (by kernel_rfl) (fun _ _ _ h => h) (Or.inl ⟨by rfl, ?ry1⟩) (by assumption) ?rr1
  case ry1 => (intro w hSw; (try dsimp only at hSw); go_simp; try with_reducible rfl)
  (try simp only [Act.put, List.setIfInBounds_toArray, List.set_cons_zero, List.set_cons_succ, List.getElem_toArray, List.getElem_cons_succ, List.getElem_cons_zero])
  refine wpAnyH_ready (rs := [2]) (by kernel_rfl) (by simp) ?_
  refine AllReadyH.cons rfl (fun K hK => ?_) AllReadyH.nil
  rw [if_pos (by rfl)]
  go_wp2_with fail
  refine (isClients_any op _).mono ?_
  rintro e w2 ⟨rfl, hw2⟩
  rw [hcl]
  have B2 : Hid (Below w1.heap.size w1 w2) := hid (by rw [hw2]; exact (Below.refl _ _).drew)
  clear hw2
  refine hK.out _ _ (SW.out _ B2.out) (fun hHeld => ?_)
  try clear hK K
  (try simp only [Act.put, List.setIfInBounds_toArray, List.set_cons_zero, List.set_cons_succ, List.getElem_toArray, List.getElem_cons_succ, List.getElem_cons_zero])
  refine wpAnyH_take (i := 3) (v := ?rv3) rfl (by kernel_rfl) (by kernel_rfl) (by kernel_rfl) (fun _ _ _ h => h) (Or.inl ⟨by rfl, ?ry3⟩) (by assumption) ?rr3
  case ry3 => (intro w hSw; (try dsimp only at hSw); go_simp; try with_reducible rfl)
  (try simp only [Act.put, List.setIfInBounds_toArray, List.set_cons_zero, List.set_cons_succ, List.getElem_toArray, List.getElem_cons_succ, List.getElem_cons_zero])
  refine wpAnyH_take (i := 4) (v := undef) rfl (by kernel_rfl) (by kernel_rfl) (by kernel_rfl) (fun _ _ _ h => h) (Or.inr ⟨by rfl, rfl⟩) (by assumption) ?_
  (try simp only [Act.put, List.setIfInBounds_toArray, List.set_cons_zero, List.set_cons_succ, List.getElem_toArray, List.getElem_cons_succ, List.getElem_cons_zero])
  refine wpAnyH_take (i := 5) (v := undef) rfl (by kernel_rfl) (by kernel_rfl) (by kernel_rfl) (fun _ _ _ h => h) (Or.inr ⟨by rfl, rfl⟩) (by assumption) ?_
  (try simp only [Act.put, List.setIfInBounds_toArray, List.set_cons_zero, List.set_cons_succ, List.getElem_toArray, List.getElem_cons_succ, List.getElem_cons_zero])
  refine wpAnyH_take (i := 6) (v := undef) rfl (by kernel_rfl) (by kernel_rfl) (by kernel_rfl) (fun _ _ _ h => h) (Or.inr ⟨by rfl, rfl⟩) (by assumption) ?_
  (try simp only [Act.put, List.setIfInBounds_toArray, List.set_cons_zero, List.set_cons_succ, List.getElem_toArray, List.getElem_cons_succ, List.getElem_cons_zero])
  refine wpAnyH_take (i := 7) (v := undef) rfl (by kernel_rfl) (by kernel_rfl) (by kernel_rfl) (fun _ _ _ h => h) (Or.inr ⟨by rfl, rfl⟩) (by assumption) ?_
  (try simp only [Act.put, List.setIfInBounds_toArray, List.set_cons_zero, List.set_cons_succ, List.getElem_toArray, List.getElem_cons_succ, List.getElem_cons_zero])
  refine wpAnyH_take (i := 8) (v := undef) rfl (by kernel_rfl) (by kernel_rfl) (by kernel_rfl) (fun _ _ _ h => h) (Or.inr ⟨by rfl, rfl⟩) (by assumption) ?_
  (try simp only [Act.put, List.setIfInBounds_toArray, List.set_cons_zero, List.set_cons_succ, List.getElem_toArray, List.getElem_cons_succ, List.getElem_cons_zero])
  refine wpAnyH_take (i := 9) (v := undef) rfl (by kernel_rfl) (by kernel_rfl) (by kernel_rfl) (fun _ _ _ h => h) (Or.inr ⟨by rfl, rfl⟩) (by assumption) ?_
  (try simp only [Act.put, List.setIfInBounds_toArray, List.set_cons_zero, List.set_cons_succ, List.getElem_toArray, List.getElem_cons_succ, List.getElem_cons_zero])
  refine wpAnyH_take (i := 10) (v := undef) rfl (by kernel_rfl) (by kernel_rfl) (by kernel_rfl) (fun _ _ _ h => h) (Or.inr ⟨by rfl, rfl⟩) (by assumption) ?_
  (try simp only [Act.put, List.setIfInBounds_toArray, List.set_cons_zero, List.set_cons_succ, List.getElem_toArray, List.getElem_cons_succ, List.getElem_cons_zero])
  refine wpAnyH_take (i := 11) (v := undef) rfl (by kernel_rfl) (by kernel_rfl) (by kernel_rfl) (fun _ _ _ h => h) (Or.inr ⟨by rfl, rfl⟩) (by assumption) ?_
  (try simp only [Act.put, List.setIfInBounds_toArray, List.set_cons_zero, List.set_cons_succ, List.getElem_toArray, List.getElem_cons_succ, List.getElem_cons_zero])
  refine wpAnyH_take (i := 12) (v := ?rv12) rfl (by kernel_rfl) (by kernel_rfl) (by kernel_rfl) (fun _ _ _ h => h) (Or.inl ⟨by rfl, ?ry12⟩) (by assumption) ?rr12
  case ry12 => (intro w hSw; (try dsimp only at hSw); go_simp; try with_reducible rfl)
  (try simp only [Act.put, List.setIfInBounds_toArray, List.set_cons_zero, List.set_cons_succ, List.getElem_toArray, List.getElem_cons_succ, List.getElem_cons_zero])
  refine wpAnyH_done (by kernel_rfl) ?_ _
  have BX := hid (B1.out.trans (B2.out.mono B1.out.size))
  have H4X := hid ((B2.out.block B4 (lt_of_block H41.out)).trans H41.out)
  obtain ⟨-, -, -, -, -, -, -, -, zf⟩ := SW.out w2 B2.out
  rw [HFR.out] at zf
  clear hHeld SW B2 H31 H41
  have h4e : w2.heap[B4]? = _ := H4X.out
  have d0 : w2.cell? ⟨B4, 0, none⟩ = some (.bool false) := by rw [cell_of_row _ _ _ _ _ _ h4e]; rfl
  have d1 : w2.cell? ⟨B4, 1, none⟩ = some (.slice none 0 0) := by rw [cell_of_row _ _ _ _ _ _ h4e]; rfl
  have e0 : w2.frozen? ⟨B4, 0, none⟩ = false := by simp [World.frozen?, h4e]
  have e1 : w2.frozen? ⟨B4, 1, none⟩ = false := by simp [World.frozen?, h4e]
  have GX : Hid (w.grownBy w2 none) := hid ⟨BX.out.os, BX.out.tape, BX.out.output, BX.out.size, fun q hq _ => BX.out.block q hq⟩
  have KX : Hid (KeepsOthers w w2) := hid (keeps_below BX.out)
  have STX := hid (HS.out.below BX.out)
  clear h4e
  go_wp2_with fail
  have hE := reply_endB (w := w) (.bool false) (.slice none 0 0) H4X.out STX.out (by omega) GX.out KX.out (by omega)
  (try simp only [Exit.inBlock, Exit.then])
  refine bodyPost_ret (results_reply rfl _ _ B4 _ _ _ _ rfl hE.1) rfl ?_
  exact ⟨rfl, hE.2⟩
end Go.Proofs.Ytabmnelenfghhaa
