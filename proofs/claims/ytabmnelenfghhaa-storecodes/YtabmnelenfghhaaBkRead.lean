/- Apply of a read. -/
import Derived.Test.YtabmnelenfghhaaBkRefuse
import Derived.Test.YtabmnelenfghhaaBkTexts
import Derived.Test.YtabmnelenfghhaaBkRef
namespace Go.Proofs.Ytabmnelenfghhaa
open Go.RowKit Go.Shelf
set_option linter.unusedVariables false
set_option linter.unusedSimpArgs false

/-- What Apply of a read leaves. -/
def ReadP (S : StD) (b g d cnt : Nat) (w : World) (e : Ending) (w' : World) : Prop := ∃ va vc, e = .returned (.tuple #[.agg #[.bool true, .slice va cnt vc], .int .i64 0]) ∧ w'.ownsRow w.heap.size 9 1 (.slice va cnt vc) cnt (tvs (txF S d (List.finRange cnt))) ∧ St w' b g S ∧ w.grownBy w' none
set_option linter.unusedSimpArgs false in
set_option maxRecDepth 100000 in
set_option maxHeartbeats 1000000 in
theorem apply_read (b g : Nat) (S : StD) (c : CmdD) (d cnt : Nat) (u : Value) (w : World) (hS : St w b g S) (hu : CmdOk w c u) (hm : mayB c = true) (hcl : isClB c.op = true) (hin : (decide (S.from' ≤ c.from') && decide (c.to ≤ S.to)) = true) (hfr : S.fr = false) (hop : c.op = 1) (hf : c.from' = S.from' + d) (ht : c.to = c.from' + cnt) (hN : d + cnt ≤ S.cells.length) :
    Calls Try.prog 25 #[.pointer (some ⟨b, 0, none⟩), cmdV c u] w (ReadP S b g d cnt w) := by
  have HF := hid hf
  have HT := hid ht
  have HN := hid hN
  clear hf ht hN
  have HMB := hid hm
  have HIN := hid hin
  have HCL := hid hcl
  have HFR := hid hfr
  have HOP := hid hop
  clear hm hin hcl hfr hop
  have HS := hid hS
  have HU := hid hu
  obtain ⟨ua, uc, rfl⟩ := hu.u.shape
  have hlt := hS.lt
  obtain ⟨s0, s1, s2, cap, s3⟩ := hS.cellsAt
  clear hS hu s3
  have hMay := hid fun W (hW : CmdOk W c (.slice ua c.data.length uc)) => may_any c _ W hW
  obtain ⟨op, client, seq, cf, ct, data⟩ := c
  have HSP := hid (fun W => spanOf_any ⟨op, client, seq, cf, ct, data⟩ ua data.length uc W)
  unfold cmdV at HSP hMay ⊢
  simp only at HSP hMay ⊢
  obtain ⟨w0, hw0⟩ : ∃ w0, w0 = (w.alloc (.cells #[.int .i64 op, .int .i64 client, .int .i64 seq, .int .i64 cf, .int .i64 ct, .slice ua data.length uc] 24)).alloc (.cells #[.bool false, .slice none 0 0] 60) := ⟨_, rfl⟩
  have hb0 : Below w.heap.size w w0 := by rw [hw0]; exact ((Below.refl _ _).alloc (Nat.le_refl _) _).alloc (by simp) _
  have h30 : w0.heap[w.heap.size]? = some (.cells #[.int .i64 op, .int .i64 client, .int .i64 seq, .int .i64 cf, .int .i64 ct, .slice ua data.length uc] 24 (0, 0)) := by rw [hw0]; exact heap_alloc2_old _ _ _
  have h40 : w0.heap[w.heap.size + 1]? = some (.cells #[.bool false, .slice none 0 0] 60 (0, 0)) := by rw [hw0]; exact heap_alloc2_new _ _ _
  have K0 : Hid (KeepsOthers w w0) := hid (by rw [hw0]; exact (KeepsOthers.alloc _ _).trans (KeepsOthers.alloc _ _))
  have HW0 := hid hw0
  clear hw0
  go_enter Try.func25, Try.ntmps25
  go_upto_region 3 with fail
  rw [← HW0.out]
  obtain ⟨B3, hB3⟩ : ∃ B, B = w.heap.size := ⟨_, rfl⟩
  obtain ⟨B4, hB4⟩ : ∃ B, B = w.heap.size + 1 := ⟨_, rfl⟩
  rw [← hB3] at h30
  rw [← hB4] at h40
  rw [← hB4, ← hB3]
  have hgB : g < B3 ∧ b < B3 ∧ B3 < B4 ∧ b < B4 ∧ g < B4 := by omega
  have hwB : w.heap.size ≤ B3 ∧ w.heap.size ≤ B4 := by omega
  clear hB3 hB4 HW0
  have q0 : w0.cell? ⟨B3, 0, none⟩ = some (.int .i64 op) := by rw [cell_of_row _ _ _ _ _ _ h30]; rfl
  have q1 : w0.cell? ⟨B3, 1, none⟩ = some (.int .i64 client) := by rw [cell_of_row _ _ _ _ _ _ h30]; rfl
  have q2 : w0.cell? ⟨B3, 2, none⟩ = some (.int .i64 seq) := by rw [cell_of_row _ _ _ _ _ _ h30]; rfl
  have q3 : w0.cell? ⟨B3, 3, none⟩ = some (.int .i64 cf) := by rw [cell_of_row _ _ _ _ _ _ h30]; rfl
  have q4 : w0.cell? ⟨B3, 4, none⟩ = some (.int .i64 ct) := by rw [cell_of_row _ _ _ _ _ _ h30]; rfl
  have q5 : w0.cell? ⟨B3, 5, none⟩ = some (.slice ua data.length uc) := by rw [cell_of_row _ _ _ _ _ _ h30]; rfl
  have H30 := hid h30
  have H40 := hid h40
  have B0 := hid hb0
  clear h30 h40 hb0
  go_wp2_with fail
  refine (hMay.out w0 (HU.out.below B0.out)).mono ?_
  rintro e w1 ⟨rfl, hb1⟩
  have H31 := hid ((hb1.block B3 (lt_of_block H30.out)).trans H30.out)
  have H41 := hid ((hb1.block B4 (lt_of_block H40.out)).trans H40.out)
  have B1 := hid (B0.out.trans (hb1.mono B0.out.size))
  clear hb1 q0 q1 q2 q3 q4 q5 H30 H40 B0 hMay
  have hm := HMB.out
  have hcl := HCL.out
  have hin := HIN.out
  (try simp only at hin); (try simp only at hcl)
  rw [hm]
  clear hm HMB HIN HCL
  have SW : Hid (∀ X, Below w1.heap.size w1 X → X.cell? ⟨B3, 0, none⟩ = some (.int .i64 op) ∧ X.cell? ⟨B3, 1, none⟩ = some (.int .i64 client) ∧ X.cell? ⟨B3, 2, none⟩ = some (.int .i64 seq) ∧ X.cell? ⟨B3, 3, none⟩ = some (.int .i64 cf) ∧ X.cell? ⟨B3, 4, none⟩ = some (.int .i64 ct) ∧ X.cell? ⟨B3, 5, none⟩ = some (.slice ua data.length uc) ∧ X.cell? ⟨b, 0, none⟩ = some (.int .i64 S.from') ∧ X.cell? ⟨b, 1, none⟩ = some (.int .i64 S.to) ∧ X.cell? ⟨b, 2, none⟩ = some (.bool S.fr)) := hid fun X hX => by
    have hb := (hX.block B3 (lt_of_block H31.out)).trans H31.out
    refine ⟨by rw [cell_of_row _ _ _ _ _ _ hb]; rfl, by rw [cell_of_row _ _ _ _ _ _ hb]; rfl, by rw [cell_of_row _ _ _ _ _ _ hb]; rfl, by rw [cell_of_row _ _ _ _ _ _ hb]; rfl, by rw [cell_of_row _ _ _ _ _ _ hb]; rfl, by rw [cell_of_row _ _ _ _ _ _ hb]; rfl, cell_later hX (cell_later B1.out s0), cell_later hX (cell_later B1.out s1), cell_later hX (cell_later B1.out s2)⟩
  clear s0 s1 s2
  go_upto_region 5 with fail
  refine wp_region_held_drew (S := fun X => X.cell? ⟨B3, 0, none⟩ = some (.int .i64 op) ∧ X.cell? ⟨B3, 1, none⟩ = some (.int .i64 client) ∧ X.cell? ⟨B3, 2, none⟩ = some (.int .i64 seq) ∧ X.cell? ⟨B3, 3, none⟩ = some (.int .i64 cf) ∧ X.cell? ⟨B3, 4, none⟩ = some (.int .i64 ct) ∧ X.cell? ⟨B3, 5, none⟩ = some (.slice ua data.length uc) ∧ X.cell? ⟨b, 0, none⟩ = some (.int .i64 S.from') ∧ X.cell? ⟨b, 1, none⟩ = some (.int .i64 S.to) ∧ X.cell? ⟨b, 2, none⟩ = some (.bool S.fr)) (by kernel_rfl) (SW.out _ ((Below.refl _ _).drew)) (fun hHeld => ?_)
  refine wpAnyH_take (i := 0) (v := ?rv0) rfl (by kernel_rfl) (by kernel_rfl) (by kernel_rfl) (fun _ _ _ h => h) (Or.inl ⟨by rfl, ?ry0⟩) (by assumption) ?rr0
  case ry0 => (intro w hSw; (try dsimp only at hSw); go_simp; try with_reducible rfl)
  (try simp only [Act.put, List.setIfInBounds_toArray, List.set_cons_zero, List.set_cons_succ, List.getElem_toArray, List.getElem_cons_succ, List.getElem_cons_zero])
  refine wpAnyH_take (i := 1) (v := ?rv1) rfl (by kernel_rfl) (by kernel_rfl) (by kernel_rfl) (fun _ _ _ h => h) (Or.inl ⟨by rfl, ?ry1⟩) (by assumption) ?rr1
  case ry1 => (intro w hSw; (try dsimp only at hSw); go_simp; try with_reducible rfl)
  (try simp only [Act.put, List.setIfInBounds_toArray, List.set_cons_zero, List.set_cons_succ, List.getElem_toArray, List.getElem_cons_succ, List.getElem_cons_zero])
  refine wpAnyH_ready (rs := [2]) (by kernel_rfl) (by simp) ?_
  refine AllReadyH.cons rfl (fun K hK => ?_) AllReadyH.nil
  rw [if_pos (by rfl)]
  go_wp2_with fail
  refine (isClients_any op _).mono ?_
  rintro e w2 ⟨rfl, hw2⟩
  rw [hcl]
  have B2 : Hid (Below w1.heap.size w1 w2) := hid (by rw [hw2]; exact (Below.refl _ _).drew)
  clear hw2
  refine hK.out _ _ (SW.out _ B2.out) (fun hHeld => ?_)
  try clear hK K
  (try simp only [Act.put, List.setIfInBounds_toArray, List.set_cons_zero, List.set_cons_succ, List.getElem_toArray, List.getElem_cons_succ, List.getElem_cons_zero])
  refine wpAnyH_take (i := 3) (v := ?rv3) rfl (by kernel_rfl) (by kernel_rfl) (by kernel_rfl) (fun _ _ _ h => h) (Or.inl ⟨by rfl, ?ry3⟩) (by assumption) ?rr3
  case ry3 => (intro w hSw; (try dsimp only at hSw); go_simp; try with_reducible rfl)
  (try simp only [Act.put, List.setIfInBounds_toArray, List.set_cons_zero, List.set_cons_succ, List.getElem_toArray, List.getElem_cons_succ, List.getElem_cons_zero])
  refine wpAnyH_take (i := 4) (v := ?rv4) rfl (by kernel_rfl) (by kernel_rfl) (by kernel_rfl) (fun _ _ _ h => h) (Or.inl ⟨by rfl, ?ry4⟩) (by assumption) ?rr4
  case ry4 => (intro w hSw; (try dsimp only at hSw); go_simp; try with_reducible rfl)
  (try simp only [Act.put, List.setIfInBounds_toArray, List.set_cons_zero, List.set_cons_succ, List.getElem_toArray, List.getElem_cons_succ, List.getElem_cons_zero])
  refine wpAnyH_take (i := 5) (v := ?rv5) rfl (by kernel_rfl) (by kernel_rfl) (by kernel_rfl) (fun _ _ _ h => h) (Or.inl ⟨by rfl, ?ry5⟩) (by assumption) ?rr5
  case ry5 => (intro w hSw; (try dsimp only at hSw); go_simp; try with_reducible rfl)
  (try simp only [Act.put, List.setIfInBounds_toArray, List.set_cons_zero, List.set_cons_succ, List.getElem_toArray, List.getElem_cons_succ, List.getElem_cons_zero])
  refine wpAnyH_take (i := 6) (v := ?rv6) rfl (by kernel_rfl) (by kernel_rfl) (by kernel_rfl) (fun _ _ _ h => h) (Or.inl ⟨by rfl, ?ry6⟩) (by assumption) ?rr6
  case ry6 => (intro w hSw; (try dsimp only at hSw); go_simp; try with_reducible rfl)
  (try simp only [Act.put, List.setIfInBounds_toArray, List.set_cons_zero, List.set_cons_succ, List.getElem_toArray, List.getElem_cons_succ, List.getElem_cons_zero])
  refine wpAnyH_take (i := 7) (v := ?rv7) rfl (by kernel_rfl) (by kernel_rfl) (by kernel_rfl) (fun _ _ _ h => h) (Or.inl ⟨by rfl, ?ry7⟩) (by assumption) ?rr7
  case ry7 => (intro w hSw; (try dsimp only at hSw); go_simp; try with_reducible rfl)
  (try simp only [Act.put, List.setIfInBounds_toArray, List.set_cons_zero, List.set_cons_succ, List.getElem_toArray, List.getElem_cons_succ, List.getElem_cons_zero])
  refine wpAnyH_take (i := 8) (v := ?rv8) rfl (by kernel_rfl) (by kernel_rfl) (by kernel_rfl) (fun _ _ _ h => h) (Or.inl ⟨by rfl, ?ry8⟩) (by assumption) ?rr8
  case ry8 => (intro w hSw; (try dsimp only at hSw); go_simp; try with_reducible rfl)
  (try simp only [Act.put, List.setIfInBounds_toArray, List.set_cons_zero, List.set_cons_succ, List.getElem_toArray, List.getElem_cons_succ, List.getElem_cons_zero])
  refine wpAnyH_ready (rs := [9]) (by kernel_rfl) (by simp) ?_
  refine AllReadyH.cons rfl (fun K hK => ?_) AllReadyH.nil
  rw [if_pos (by rfl)]
  go_wp2_with fail
  refine (HSP.out _).mono ?_
  rintro e w5 ⟨rfl, hb5⟩
  have B5 : Hid (Below w1.heap.size w1 w5) := hid (B2.out.trans (hb5.mono B2.out.size))
  clear hb5
  refine hK.out _ _ (SW.out _ B5.out) (fun hHeld => ?_)
  try clear hK K
  (try simp only [Act.put, List.setIfInBounds_toArray, List.set_cons_zero, List.set_cons_succ, List.getElem_toArray, List.getElem_cons_succ, List.getElem_cons_zero])
  refine wpAnyH_ready (rs := [10]) (by kernel_rfl) (by simp) ?_
  refine AllReadyH.cons rfl (fun K hK => ?_) AllReadyH.nil
  rw [if_pos (by rfl)]
  go_wp2_with fail
  refine (holds_any (S.from', S.to) (cf, ct) _).mono ?_
  rintro e w6 ⟨rfl, hb6⟩
  rw [hin]
  have B6 : Hid (Below w1.heap.size w1 w6) := hid (B5.out.trans (hb6.mono B5.out.size))
  clear hb6
  refine hK.out _ _ (SW.out _ B6.out) (fun hHeld => ?_)
  try clear hK K
  (try simp only [Act.put, List.setIfInBounds_toArray, List.set_cons_zero, List.set_cons_succ, List.getElem_toArray, List.getElem_cons_succ, List.getElem_cons_zero])
  refine wpAnyH_take (i := 11) (v := ?rv11) rfl (by kernel_rfl) (by kernel_rfl) (by kernel_rfl) (fun _ _ _ h => h) (Or.inl ⟨by rfl, ?ry11⟩) (by assumption) ?rr11
  case ry11 => (intro w hSw; (try dsimp only at hSw); go_simp; try with_reducible rfl)
  (try simp only [Act.put, List.setIfInBounds_toArray, List.set_cons_zero, List.set_cons_succ, List.getElem_toArray, List.getElem_cons_succ, List.getElem_cons_zero])
  refine wpAnyH_take (i := 12) (v := ?rv12) rfl (by kernel_rfl) (by kernel_rfl) (by kernel_rfl) (fun _ _ _ h => h) (Or.inl ⟨by rfl, ?ry12⟩) (by assumption) ?rr12
  case ry12 => (intro w hSw; (try dsimp only at hSw); go_simp; try with_reducible rfl)
  (try simp only [Act.put, List.setIfInBounds_toArray, List.set_cons_zero, List.set_cons_succ, List.getElem_toArray, List.getElem_cons_succ, List.getElem_cons_zero])
  refine wpAnyH_done (by kernel_rfl) ?_ _
  have BX := hid (B1.out.trans (B6.out.mono B1.out.size))
  have H4X := hid ((B6.out.block B4 (lt_of_block H41.out)).trans H41.out)
  obtain ⟨z0, -, -, -, -, -, -, -, zf⟩ := SW.out w6 B6.out
  rw [HFR.out] at zf
  have H3X := hid ((B6.out.block B3 (lt_of_block H31.out)).trans H31.out)
  clear hHeld SW B2 B5 H31 H41
  have hd1 : (op == 1) = true := by rw [show op = 1 from HOP.out]; rfl
  clear HOP
  obtain ⟨w7, hw7⟩ : ∃ w7, w7 = w6.alloc (.cells #[.bool true, .slice none 0 0] 60) := ⟨_, rfl⟩
  have b7 : Below w6.heap.size w6 w7 := by rw [hw7]; exact (Below.refl _ _).alloc (Nat.le_refl _) _
  have h67 : w7.heap[w6.heap.size]? = some (.cells #[.bool true, .slice none 0 0] 60 (0, 0)) := by rw [hw7]; exact heap_alloc_new _ _
  have H37 := hid ((b7.block B3 (lt_of_block H3X.out)).trans H3X.out)
  have H47 := hid ((b7.block B4 (lt_of_block H4X.out)).trans H4X.out)
  have B17 := hid (BX.out.trans (b7.mono BX.out.size))
  have HW7 := hid hw7
  have H67 := hid h67
  clear hw7 h67 b7
  go_upto_region 10 with fail
  rw [← HW7.out]
  obtain ⟨B6b, hB6b⟩ : ∃ B, B = w6.heap.size := ⟨_, rfl⟩
  rw [← hB6b] at H67 ⊢
  have HB46 : Hid (B4 ≠ B6b) := hid (by have := lt_of_block H4X.out; omega)
  have hB6w : Hid (w.heap.size ≤ B6b) := hid (by have := BX.out.size; omega)
  clear hB6b HW7 zf z0
  have y0 : w7.cell? ⟨B3, 0, none⟩ = some (.int .i64 op) := by rw [cell_of_row _ _ _ _ _ _ H37.out]; rfl
  have y1 : w7.cell? ⟨B3, 1, none⟩ = some (.int .i64 client) := by rw [cell_of_row _ _ _ _ _ _ H37.out]; rfl
  have y2 : w7.cell? ⟨B3, 2, none⟩ = some (.int .i64 seq) := by rw [cell_of_row _ _ _ _ _ _ H37.out]; rfl
  have y3 : w7.cell? ⟨B3, 3, none⟩ = some (.int .i64 cf) := by rw [cell_of_row _ _ _ _ _ _ H37.out]; rfl
  have y4 : w7.cell? ⟨B3, 4, none⟩ = some (.int .i64 ct) := by rw [cell_of_row _ _ _ _ _ _ H37.out]; rfl
  have y5 : w7.cell? ⟨B3, 5, none⟩ = some (.slice ua data.length uc) := by rw [cell_of_row _ _ _ _ _ _ H37.out]; rfl
  go_wp2_with fail
  refine (HSP.out _).mono ?_
  rintro e w8 ⟨rfl, hb8⟩
  have B18 := hid (B17.out.trans (hb8.mono B17.out.size))
  have H48 := hid ((hb8.block B4 (lt_of_block H47.out)).trans H47.out)
  have H68 := hid ((hb8.block B6b (lt_of_block H67.out)).trans H67.out)
  clear hb8 y0 y1 y2 y3 y4 y5
  go_wp2_with fail
  refine (texts_any b g S (cf, ct) d cnt w8 (HS.out.below B18.out) HF.out HT.out HN.out).mono ?_
  rintro e w9 ⟨va, vc, rfl, ho9, hb9, -⟩
  have B19 := hid (B18.out.trans (hb9.mono B18.out.size))
  have h49 := (hb9.block B4 (lt_of_block H48.out)).trans H48.out
  have h69 := (hb9.block B6b (lt_of_block H68.out)).trans H68.out
  have O9 := hid (own_lower ho9 B18.out.size)
  clear hb9 ho9
  obtain ⟨w10, hw10⟩ : ∃ w10, w10 = w9.setCell ⟨B6b, 1, none⟩ (.slice va cnt vc) := ⟨_, rfl⟩
  have h610 : w10.heap[B6b]? = some (.cells #[.bool true, .slice va cnt vc] 60 (0, 0)) := by
    rw [hw10, heap_setCell_same w9 B6b 1 _ 60 (.slice va cnt vc) h69]; simp
  have hB46 : B4 ≠ B6b := HB46.out
  have h410 : w10.heap[B4]? = some (.cells #[.bool false, .slice none 0 0] 60 (0, 0)) := by
    rw [hw10, Below.heap_setCell w9 ⟨B6b, 1, none⟩ _ B4 hB46]; exact h49
  have c61 : w9.cell? ⟨B6b, 1, none⟩ = some (.slice none 0 0) := by rw [cell_of_row _ _ _ _ _ _ h69]; rfl
  have f61 : w9.frozen? ⟨B6b, 1, none⟩ = false := by simp [World.frozen?, h69]
  have O10 : Hid (w10.ownsRow w.heap.size 9 1 (.slice va cnt vc) cnt (tvs (txF S d (List.finRange cnt)))) := hid (by rw [hw10]; exact own_kt O9.out ((Kt.refl [60] _).set B6b 1 _ h69 (by simp)) (by decide))
  have B110 : Hid (Below w.heap.size w w10) := hid (by rw [hw10]; exact B19.out.setCell (p := ⟨B6b, 1, none⟩) hB6w.out _)
  have HW10 := hid hw10
  have a0 : w10.cell? ⟨B6b, 0, none⟩ = some (.bool true) := by rw [cell_of_row _ _ _ _ _ _ h610]; rfl
  have a1 : w10.cell? ⟨B6b, 1, none⟩ = some (.slice va cnt vc) := by rw [cell_of_row _ _ _ _ _ _ h610]; rfl
  have d0 : w10.cell? ⟨B4, 0, none⟩ = some (.bool false) := by rw [cell_of_row _ _ _ _ _ _ h410]; rfl
  have d1 : w10.cell? ⟨B4, 1, none⟩ = some (.slice none 0 0) := by rw [cell_of_row _ _ _ _ _ _ h410]; rfl
  have e0 : w10.frozen? ⟨B4, 0, none⟩ = false := by simp [World.frozen?, h410]
  have e1 : w10.frozen? ⟨B4, 1, none⟩ = false := by simp [World.frozen?, h410]
  have H410 := hid h410
  have ST10 := hid (HS.out.below B110.out)
  clear h49 h69 h610 h410 hw10
  go_upto_region 18 with fail
  rw [← HW10.out]
  clear c61 f61 HW10
  go_wp2_with fail
  have hE := reply_endB (w := w) (.bool true) (.slice va cnt vc) H410.out ST10.out (by omega) (k := none) ⟨B110.out.os, B110.out.tape, B110.out.output, B110.out.size, fun q hq _ => B110.out.block q hq⟩ (keeps_below B110.out) (by omega)
  (try simp only [Exit.inBlock, Exit.then])
  refine bodyPost_ret (results_reply rfl _ _ B4 _ _ _ _ rfl hE.1) rfl ?_
  have hO := own_kt (own_kt O10.out ((Kt.refl [60] _).set B4 0 (.bool true) H410.out (by simp)) (by decide)) ((Kt.refl [60] _).set B4 1 (.slice va cnt vc) (heap_setCell_same _ B4 0 _ 60 (.bool true) H410.out) (by simp)) (by decide)
  exact ⟨va, vc, rfl, hO, hE.2.1, hE.2.2.1⟩
end Go.Proofs.Ytabmnelenfghhaa
