/- Apply where it is refused. Conditions: map and change lie in memory. -/
import Derived.Test.YtnkjkaofgninnaaAtApply
namespace Go.Proofs.Ytnkjkaofgninnaa
open Go.RowKit Go.Maps Go.Shelf
set_option linter.unusedVariables false
set_option linter.unusedSimpArgs false

theorem ch_ne (c d : ChD) (h : d ≠ c) : (c.k == d.k && (c.sh == d.sh && (c.ot == d.ot && (c.at' == d.at' && (c.out == d.out && c.in' == d.in'))))) = false := by
  rw [Bool.eq_false_iff]
  intro e
  simp only [Bool.and_eq_true, beq_iff_eq] at e
  apply h
  obtain ⟨a1, a2, a3, a4, a5, a6⟩ := c
  obtain ⟨b1, b2, b3, b4, b5, b6⟩ := d
  simp only at e
  obtain ⟨rfl, rfl, rfl, rfl, rfl, rfl⟩ := e
  rfl
set_option maxRecDepth 100000 in
set_option maxHeartbeats 4000000 in
theorem apply_kind (b : Nat) (c : ChD) (w : World) (hk : akB c.k = false) :
    Calls Try.prog 7 #[.pointer (some ⟨b, 0, none⟩), chV c] w fun e w' => e = .returned (.int .i64 1) ∧ Below w.heap.size w w' := by
  obtain ⟨dC, hdC1, hdC2⟩ := Try.rowCh
  obtain ⟨w1, hw1⟩ : ∃ w1, w1 = w.alloc (.cells (chC c) 24) := ⟨_, rfl⟩
  have HB1 : Hid (Below w.heap.size w w1) := hid (by rw [hw1]; exact (Below.refl _ _).alloc (Nat.le_refl _) _)
  have HC1 : Hid (w1.heap[w.heap.size]? = some (.cells (chC c) 24 (0, 0))) := hid (by rw [hw1]; exact heap_alloc_new _ _)
  have HAK := hid hk
  have HW1 := hid hw1
  clear hk hw1
  unfold chC at HW1
  unfold chV
  go_enter Try.func7, Try.ntmps7
  go_upto_region 1 with fail
  rw [← HW1.out]
  clear HW1
  obtain ⟨C, hCe⟩ : ∃ C, C = w.heap.size := ⟨_, rfl⟩
  rw [← hCe]
  rw [← hCe] at HC1
  clear hCe
  go_upto_region 3 with fail
  have SW : Hid (∀ Y, Below w1.heap.size w1 Y → Y.cell? ⟨C, 0, none⟩ = some (.int .i64 c.k) ∧ Y.rangeAt C 0 (chC c).toList) := hid fun Y hY => by
    have h1 := (hY.block C (lt_of_block HC1.out)).trans HC1.out
    exact ⟨by rw [cell_of_row _ _ _ _ _ _ h1]; rfl, range_of_row h1 0 _ fun j v hv => by rw [Nat.zero_add]; simpa using hv⟩
  refine wp_region_held_drew (S := fun Y => Y.cell? ⟨C, 0, none⟩ = some (.int .i64 c.k) ∧ Y.rangeAt C 0 (chC c).toList) (by kernel_rfl) (SW.out _ ((Below.refl _ _).drew)) (fun hHeld => ?_)
  refine wpAnyH_take (i := 0) (v := ?av0) rfl (by kernel_rfl) (by kernel_rfl) (by kernel_rfl) (fun _ _ _ h => h) (Or.inl ⟨by rfl, ?ay0⟩) (by assumption) ?ar0
  case ay0 => (intro w hSw; (try dsimp only at hSw); go_simp; try with_reducible rfl)
  (try simp only [Act.put, putS])
  refine wpAnyH_take (i := 1) (v := ?av1) rfl (by kernel_rfl) (by kernel_rfl) (by kernel_rfl) (fun _ _ _ h => h) (Or.inl ⟨by rfl, ?ay1⟩) (by assumption) ?ar1
  case ay1 => (intro w hSw; (try dsimp only at hSw); go_simp; try with_reducible rfl)
  (try simp only [Act.put, putS])
  refine wpAnyH_ready (rs := [2]) (by kernel_rfl) (by simp) ?_
  refine AllReadyH.cons rfl (fun K hK => ?_) AllReadyH.nil
  rw [if_pos (by rfl)]
  go_wp2_with fail
  refine (isKind_any c.k _).mono ?_
  rw [HAK.out]
  rintro e wx ⟨rfl, hx⟩
  replace hx := hx.symm
  subst hx
  refine hK.out _ _ (SW.out _ ((Below.refl _ _).drew)) (fun hHeld => ?_)
  try clear hK K
  (try simp only [Act.put, putS])
  refine wpAnyH_take (i := 3) (v := ?av3) rfl (by kernel_rfl) (by kernel_rfl) (by kernel_rfl) (fun _ _ _ h => h) (Or.inl ⟨by rfl, ?ay3⟩) (by assumption) ?ar3
  case ay3 => (intro w hSw; (try dsimp only at hSw); go_simp; try with_reducible rfl)
  (try simp only [Act.put, putS])
  refine wpAnyH_take (i := 4) (v := ?av4) rfl (by kernel_rfl) (by kernel_rfl) (by kernel_rfl) (fun _ _ _ h => h) (Or.inl ⟨by rfl, ?ay4⟩) (by assumption) ?ar4
  case ay4 => (intro w hSw; (try dsimp only at hSw); go_simp; try with_reducible rfl)
  (try simp only [Act.put, putS])
  refine wpAnyH_take (i := 5) (v := undef) rfl (by kernel_rfl) (by kernel_rfl) (by kernel_rfl) (fun _ _ _ h => h) (Or.inr ⟨by rfl, rfl⟩) (by assumption) ?_
  (try simp only [Act.put, putS])
  refine wpAnyH_take (i := 6) (v := undef) rfl (by kernel_rfl) (by kernel_rfl) (by kernel_rfl) (fun _ _ _ h => h) (Or.inr ⟨by rfl, rfl⟩) (by assumption) ?_
  (try simp only [Act.put, putS])
  refine wpAnyH_take (i := 7) (v := undef) rfl (by kernel_rfl) (by kernel_rfl) (by kernel_rfl) (fun _ _ _ h => h) (Or.inr ⟨by rfl, rfl⟩) (by assumption) ?_
  (try simp only [Act.put, putS])
  refine wpAnyH_take (i := 8) (v := undef) rfl (by kernel_rfl) (by kernel_rfl) (by kernel_rfl) (fun _ _ _ h => h) (Or.inr ⟨by rfl, rfl⟩) (by assumption) ?_
  (try simp only [Act.put, putS])
  refine wpAnyH_take (i := 9) (v := ?av9) rfl (by kernel_rfl) (by kernel_rfl) (by kernel_rfl) (fun _ _ _ h => h) (Or.inl ⟨by rfl, ?ay9⟩) (by assumption) ?ar9
  case ay9 => (intro w hSw; (try dsimp only at hSw); go_simp; try with_reducible rfl)
  (try simp only [Act.put, putS])
  refine wpAnyH_done (by kernel_rfl) ?_ _
  go_wp2_with fail
  go_ret
  exact ⟨rfl, HB1.out.trans (((Below.refl _ _).drew).mono HB1.out.size)⟩
set_option maxRecDepth 100000 in
set_option maxHeartbeats 4000000 in
theorem apply_field (b : Nat) (c : ChD) (w : World) (hk : akB c.k = true) (hne : namD c ≠ c) :
    Calls Try.prog 7 #[.pointer (some ⟨b, 0, none⟩), chV c] w fun e w' => e = .returned (.int .i64 1) ∧ Below w.heap.size w w' := by
  have HNE := hid (ch_ne c (namD c) hne)
  clear hne
  obtain ⟨dC, hdC1, hdC2⟩ := Try.rowCh
  obtain ⟨w1, hw1⟩ : ∃ w1, w1 = w.alloc (.cells (chC c) 24) := ⟨_, rfl⟩
  have HB1 : Hid (Below w.heap.size w w1) := hid (by rw [hw1]; exact (Below.refl _ _).alloc (Nat.le_refl _) _)
  have HC1 : Hid (w1.heap[w.heap.size]? = some (.cells (chC c) 24 (0, 0))) := hid (by rw [hw1]; exact heap_alloc_new _ _)
  have HAK := hid hk
  have HW1 := hid hw1
  clear hk hw1
  unfold chC at HW1
  unfold chV
  go_enter Try.func7, Try.ntmps7
  go_upto_region 1 with fail
  rw [← HW1.out]
  clear HW1
  obtain ⟨C, hCe⟩ : ∃ C, C = w.heap.size := ⟨_, rfl⟩
  rw [← hCe]
  rw [← hCe] at HC1
  clear hCe
  go_upto_region 3 with fail
  have SW : Hid (∀ Y, Below w1.heap.size w1 Y → Y.cell? ⟨C, 0, none⟩ = some (.int .i64 c.k) ∧ Y.rangeAt C 0 (chC c).toList) := hid fun Y hY => by
    have h1 := (hY.block C (lt_of_block HC1.out)).trans HC1.out
    exact ⟨by rw [cell_of_row _ _ _ _ _ _ h1]; rfl, range_of_row h1 0 _ fun j v hv => by rw [Nat.zero_add]; simpa using hv⟩
  refine wp_region_held_drew (S := fun Y => Y.cell? ⟨C, 0, none⟩ = some (.int .i64 c.k) ∧ Y.rangeAt C 0 (chC c).toList) (by kernel_rfl) (SW.out _ ((Below.refl _ _).drew)) (fun hHeld => ?_)
  refine wpAnyH_take (i := 0) (v := ?av0) rfl (by kernel_rfl) (by kernel_rfl) (by kernel_rfl) (fun _ _ _ h => h) (Or.inl ⟨by rfl, ?ay0⟩) (by assumption) ?ar0
  case ay0 => (intro w hSw; (try dsimp only at hSw); go_simp; try with_reducible rfl)
  (try simp only [Act.put, putS])
  refine wpAnyH_take (i := 1) (v := ?av1) rfl (by kernel_rfl) (by kernel_rfl) (by kernel_rfl) (fun _ _ _ h => h) (Or.inl ⟨by rfl, ?ay1⟩) (by assumption) ?ar1
  case ay1 => (intro w hSw; (try dsimp only at hSw); go_simp; try with_reducible rfl)
  (try simp only [Act.put, putS])
  refine wpAnyH_ready (rs := [2]) (by kernel_rfl) (by simp) ?_
  refine AllReadyH.cons rfl (fun K hK => ?_) AllReadyH.nil
  rw [if_pos (by rfl)]
  go_wp2_with fail
  refine (isKind_any c.k _).mono ?_
  rw [HAK.out]
  rintro e wx ⟨rfl, hx⟩
  replace hx := hx.symm
  subst hx
  refine hK.out _ _ (SW.out _ ((Below.refl _ _).drew)) (fun hHeld => ?_)
  try clear hK K
  (try simp only [Act.put, putS])
  refine wpAnyH_take (i := 3) (v := ?av3) rfl (by kernel_rfl) (by kernel_rfl) (by kernel_rfl) (fun _ _ _ h => h) (Or.inl ⟨by rfl, ?ay3⟩) (by assumption) ?ar3
  case ay3 => (intro w hSw; (try dsimp only at hSw); go_simp; try with_reducible rfl)
  (try simp only [Act.put, putS])
  refine wpAnyH_take (i := 4) (v := ?av4) rfl (by kernel_rfl) (by kernel_rfl) (by kernel_rfl) (fun _ _ _ h => h) (Or.inl ⟨by rfl, ?ay4⟩) (by assumption) ?ar4
  case ay4 => (intro w hSw; (try dsimp only at hSw); go_simp; try with_reducible rfl)
  (try simp only [Act.put, putS])
  refine wpAnyH_take (i := 5) (v := .agg (chC c).toList.toArray) rfl (by kernel_rfl) (by kernel_rfl) (by kernel_rfl) (fun _ _ _ h => h) (yieldsIf_load_mid rfl _ _ rfl C 0 rfl (chC c).toList dC (fun Y hY => hY.2) hdC1 hdC2 Try.sizeCh) (by assumption) ?_
  (try simp only [Act.put, putS])
  refine wpAnyH_take (i := 6) (v := .agg (chC c).toList.toArray) rfl (by kernel_rfl) (by kernel_rfl) (by kernel_rfl) (fun _ _ _ h => h) (yieldsIf_load_mid rfl _ _ rfl C 0 rfl (chC c).toList dC (fun Y hY => hY.2) hdC1 hdC2 Try.sizeCh) (by assumption) ?_
  (try simp only [Act.put, putS])
  refine wpAnyH_ready (rs := [7]) (by kernel_rfl) (by simp) ?_
  refine AllReadyH.cons rfl (fun K hK => ?_) AllReadyH.nil
  rw [if_pos (by rfl)]
  go_wp2_with fail
  refine (named_any c _).mono ?_
  rintro e w2 ⟨rfl, hb2⟩
  have B12 := hid (((Below.refl w1.heap.size w1).drew).trans hb2)
  clear hb2
  refine hK.out _ _ (SW.out _ B12.out) (fun hHeld => ?_)
  try clear hK K
  (try simp only [Act.put, putS])
  refine wpAnyH_take (i := 8) (v := .bool true) rfl (by kernel_rfl) (by kernel_rfl) (by kernel_rfl) (fun _ _ _ h => h) (Or.inl ⟨by rfl, ?ne8⟩) (by assumption) ?nr8
  case ne8 =>
    intro Y hY
    exact exec_bin rfl rfl rfl (run_eqGuard_agg _ _ _ _ _ _ _ Try.eqgCh) ((run_neq_ch c.k c.sh c.ot c.at' c.out c.in' (namD c).k (namD c).sh (namD c).ot (namD c).at' (namD c).out (namD c).in' Y).trans (by rw [HNE.out]; rfl))
  (try simp only [Act.put, putS])
  refine wpAnyH_take (i := 9) (v := ?dv9) rfl (by kernel_rfl) (by kernel_rfl) (by kernel_rfl) (fun _ _ _ h => h) (Or.inl ⟨by rfl, ?dy9⟩) (by assumption) ?dr9
  case dy9 => (intro w hSw; (try dsimp only at hSw); go_simp; try with_reducible rfl)
  (try simp only [Act.put, putS])
  refine wpAnyH_done (by kernel_rfl) ?_ _
  go_wp2_with fail
  go_ret
  exact ⟨rfl, HB1.out.trans (B12.out.mono HB1.out.size)⟩
set_option maxRecDepth 100000 in
set_option maxHeartbeats 4000000 in
theorem apply_calm (b wb mb n : Nat) (ov : Value) (D : DataW Value) (N : AtN) (X : List SX) (c : ChD) (w : World) (h : At w b wb mb n ov D N X) (hk : akB c.k = true) (hnm : namD c = c) (h5 : c.k = 5) (ho : N.op = []) :
    Calls Try.prog 7 #[.pointer (some ⟨b, 0, none⟩), chV c] w fun e w' => e = .returned (.int .i64 8) ∧ Below w.heap.size w w' := by
  have HO := hid ho
  have g5 : (c.k == 5) = true := by simpa using h5
  clear ho h5
  obtain ⟨va, vc, rfl⟩ := h.m.shape
  obtain ⟨dC, hdC1, hdC2⟩ := Try.rowCh
  obtain ⟨w1, hw1⟩ : ∃ w1, w1 = w.alloc (.cells (chC c) 24) := ⟨_, rfl⟩
  have HB1 : Hid (Below w.heap.size w w1) := hid (by rw [hw1]; exact (Below.refl _ _).alloc (Nat.le_refl _) _)
  have HC1 : Hid (w1.heap[w.heap.size]? = some (.cells (chC c) 24 (0, 0))) := hid (by rw [hw1]; exact heap_alloc_new _ _)
  have H := hid h
  have HAK := hid hk
  have HNM := hid hnm
  have HW1 := hid hw1
  clear h hk hnm hw1
  unfold chC at HW1
  unfold chV
  go_enter Try.func7, Try.ntmps7
  go_upto_region 1 with fail
  rw [← HW1.out]
  clear HW1
  obtain ⟨C, hCe⟩ : ∃ C, C = w.heap.size := ⟨_, rfl⟩
  rw [← hCe]
  rw [← hCe] at HC1
  have HCE : Hid (w.heap.size ≤ C) := hid (by omega)
  clear hCe
  go_upto_region 3 with fail
  have SW : Hid (∀ Y, Below w1.heap.size w1 Y → Y.cell? ⟨C, 0, none⟩ = some (.int .i64 c.k) ∧ Y.rangeAt C 0 (chC c).toList) := hid fun Y hY => by
    have h1 := (hY.block C (lt_of_block HC1.out)).trans HC1.out
    exact ⟨by rw [cell_of_row _ _ _ _ _ _ h1]; rfl, range_of_row h1 0 _ fun j v hv => by rw [Nat.zero_add]; simpa using hv⟩
  refine wp_region_held_drew (S := fun Y => Y.cell? ⟨C, 0, none⟩ = some (.int .i64 c.k) ∧ Y.rangeAt C 0 (chC c).toList) (by kernel_rfl) (SW.out _ ((Below.refl _ _).drew)) (fun hHeld => ?_)
  refine wpAnyH_take (i := 0) (v := ?av0) rfl (by kernel_rfl) (by kernel_rfl) (by kernel_rfl) (fun _ _ _ h => h) (Or.inl ⟨by rfl, ?ay0⟩) (by assumption) ?ar0
  case ay0 => (intro w hSw; (try dsimp only at hSw); go_simp; try with_reducible rfl)
  (try simp only [Act.put, putS])
  refine wpAnyH_take (i := 1) (v := ?av1) rfl (by kernel_rfl) (by kernel_rfl) (by kernel_rfl) (fun _ _ _ h => h) (Or.inl ⟨by rfl, ?ay1⟩) (by assumption) ?ar1
  case ay1 => (intro w hSw; (try dsimp only at hSw); go_simp; try with_reducible rfl)
  (try simp only [Act.put, putS])
  refine wpAnyH_ready (rs := [2]) (by kernel_rfl) (by simp) ?_
  refine AllReadyH.cons rfl (fun K hK => ?_) AllReadyH.nil
  rw [if_pos (by rfl)]
  go_wp2_with fail
  refine (isKind_any c.k _).mono ?_
  rw [HAK.out]
  rintro e wx ⟨rfl, hx⟩
  replace hx := hx.symm
  subst hx
  refine hK.out _ _ (SW.out _ ((Below.refl _ _).drew)) (fun hHeld => ?_)
  try clear hK K
  (try simp only [Act.put, putS])
  refine wpAnyH_take (i := 3) (v := ?av3) rfl (by kernel_rfl) (by kernel_rfl) (by kernel_rfl) (fun _ _ _ h => h) (Or.inl ⟨by rfl, ?ay3⟩) (by assumption) ?ar3
  case ay3 => (intro w hSw; (try dsimp only at hSw); go_simp; try with_reducible rfl)
  (try simp only [Act.put, putS])
  refine wpAnyH_take (i := 4) (v := ?av4) rfl (by kernel_rfl) (by kernel_rfl) (by kernel_rfl) (fun _ _ _ h => h) (Or.inl ⟨by rfl, ?ay4⟩) (by assumption) ?ar4
  case ay4 => (intro w hSw; (try dsimp only at hSw); go_simp; try with_reducible rfl)
  (try simp only [Act.put, putS])
  refine wpAnyH_take (i := 5) (v := .agg (chC c).toList.toArray) rfl (by kernel_rfl) (by kernel_rfl) (by kernel_rfl) (fun _ _ _ h => h) (yieldsIf_load_mid rfl _ _ rfl C 0 rfl (chC c).toList dC (fun Y hY => hY.2) hdC1 hdC2 Try.sizeCh) (by assumption) ?_
  (try simp only [Act.put, putS])
  refine wpAnyH_take (i := 6) (v := .agg (chC c).toList.toArray) rfl (by kernel_rfl) (by kernel_rfl) (by kernel_rfl) (fun _ _ _ h => h) (yieldsIf_load_mid rfl _ _ rfl C 0 rfl (chC c).toList dC (fun Y hY => hY.2) hdC1 hdC2 Try.sizeCh) (by assumption) ?_
  (try simp only [Act.put, putS])
  refine wpAnyH_ready (rs := [7]) (by kernel_rfl) (by simp) ?_
  refine AllReadyH.cons rfl (fun K hK => ?_) AllReadyH.nil
  rw [if_pos (by rfl)]
  go_wp2_with fail
  refine (named_any c _).mono ?_
  rw [HNM.out]
  rintro e w2 ⟨rfl, hb2⟩
  have B12 := hid (((Below.refl w1.heap.size w1).drew).trans hb2)
  clear hb2
  refine hK.out _ _ (SW.out _ B12.out) (fun hHeld => ?_)
  try clear hK K
  (try simp only [Act.put, putS])
  refine wpAnyH_take (i := 8) (v := .bool false) rfl (by kernel_rfl) (by kernel_rfl) (by kernel_rfl) (fun _ _ _ h => h) (Or.inl ⟨by rfl, ?ne8⟩) (by assumption) ?nr8
  case ne8 =>
    intro Y hY
    exact exec_bin rfl rfl rfl (run_eqGuard_agg _ _ _ _ _ _ _ Try.eqgCh) ((run_neq_ch c.k c.sh c.ot c.at' c.out c.in' c.k c.sh c.ot c.at' c.out c.in' Y).trans (by simp))
  (try simp only [Act.put, putS])
  refine wpAnyH_take (i := 9) (v := ?dv9) rfl (by kernel_rfl) (by kernel_rfl) (by kernel_rfl) (fun _ _ _ h => h) (Or.inl ⟨by rfl, ?dy9⟩) (by assumption) ?dr9
  case dy9 => (intro w hSw; (try dsimp only at hSw); go_simp; try with_reducible rfl)
  (try simp only [Act.put, putS])
  refine wpAnyH_done (by kernel_rfl) ?_ _
  have H2 := hid (H.out.below (HB1.out.trans (B12.out.mono HB1.out.size)))
  have B2 := hid (HB1.out.trans (B12.out.mono HB1.out.size))
  have hC2 := (B12.out.block C (lt_of_block HC1.out)).trans HC1.out
  clear H SW hHeld B12 HC1 HB1 HAK
  have a0 : w2.cell? ⟨C, 0, none⟩ = some (.int .i64 c.k) := by rw [cell_of_row _ _ _ _ _ _ hC2]; rfl
  go_wp2_with (go_at_call 26; refine (settle_no b wb mb n _ D N _ X _ H2.out.m HO.out).mono ?_; rintro e w3 ⟨rfl, hw3⟩; replace hw3 := hw3.symm; subst hw3)
  go_ret
  exact ⟨rfl, B2.out⟩
set_option maxRecDepth 100000 in
set_option maxHeartbeats 4000000 in
theorem apply_miss (b wb mb n : Nat) (ov : Value) (D : DataW Value) (N : AtN) (X : List SX) (c : ChD) (w : World) (h : At w b wb mb n ov D N X) (hk : akB c.k = true) (hnm : namD c = c) (h5 : c.k ≠ 5) (ho : N.op = []) (hs : I64 c.sh) (hot : I64 c.ot) (hno : ∃ i ∈ idsD c, ∀ x ∈ X, x.s.id ≠ i) :
    Calls Try.prog 7 #[.pointer (some ⟨b, 0, none⟩), chV c] w fun e w' => e = .returned (.int .i64 8) ∧ Below w.heap.size w w' := by
  have HGN := hid (fun W (hW : AtM W b wb mb n ov D N (X.map SX.pc) X) => (gone_any b wb mb n ov D N (X.map SX.pc) X c W hW ho hs hot).mono (fun e w' (hg : GnP X (idsD c) W e w') => show e = Ending.returned (.tuple #[.slice none 0 0, .int .i64 8]) ∧ Below W.heap.size W w' from by
    rcases hg.1 with ⟨G, h1, h3, -⟩ | ⟨-, he⟩
    · obtain ⟨i, hi, hn⟩ := hno
      rw [← h1] at hi
      obtain ⟨y, hy, rfl⟩ := List.mem_map.1 hi
      exact absurd rfl (hn y (h3 y hy))
    · exact ⟨he, hg.2⟩))
  have g5 : (c.k == 5) = false := by simpa using h5
  clear ho h5 hs hot hno
  obtain ⟨va, vc, rfl⟩ := h.m.shape
  obtain ⟨dC, hdC1, hdC2⟩ := Try.rowCh
  obtain ⟨w1, hw1⟩ : ∃ w1, w1 = w.alloc (.cells (chC c) 24) := ⟨_, rfl⟩
  have HB1 : Hid (Below w.heap.size w w1) := hid (by rw [hw1]; exact (Below.refl _ _).alloc (Nat.le_refl _) _)
  have HC1 : Hid (w1.heap[w.heap.size]? = some (.cells (chC c) 24 (0, 0))) := hid (by rw [hw1]; exact heap_alloc_new _ _)
  have H := hid h
  have HAK := hid hk
  have HNM := hid hnm
  have HW1 := hid hw1
  clear h hk hnm hw1
  unfold chC at HW1
  unfold chV
  go_enter Try.func7, Try.ntmps7
  go_upto_region 1 with fail
  rw [← HW1.out]
  clear HW1
  obtain ⟨C, hCe⟩ : ∃ C, C = w.heap.size := ⟨_, rfl⟩
  rw [← hCe]
  rw [← hCe] at HC1
  have HCE : Hid (w.heap.size ≤ C) := hid (by omega)
  clear hCe
  go_upto_region 3 with fail
  have SW : Hid (∀ Y, Below w1.heap.size w1 Y → Y.cell? ⟨C, 0, none⟩ = some (.int .i64 c.k) ∧ Y.rangeAt C 0 (chC c).toList) := hid fun Y hY => by
    have h1 := (hY.block C (lt_of_block HC1.out)).trans HC1.out
    exact ⟨by rw [cell_of_row _ _ _ _ _ _ h1]; rfl, range_of_row h1 0 _ fun j v hv => by rw [Nat.zero_add]; simpa using hv⟩
  refine wp_region_held_drew (S := fun Y => Y.cell? ⟨C, 0, none⟩ = some (.int .i64 c.k) ∧ Y.rangeAt C 0 (chC c).toList) (by kernel_rfl) (SW.out _ ((Below.refl _ _).drew)) (fun hHeld => ?_)
  refine wpAnyH_take (i := 0) (v := ?av0) rfl (by kernel_rfl) (by kernel_rfl) (by kernel_rfl) (fun _ _ _ h => h) (Or.inl ⟨by rfl, ?ay0⟩) (by assumption) ?ar0
  case ay0 => (intro w hSw; (try dsimp only at hSw); go_simp; try with_reducible rfl)
  (try simp only [Act.put, putS])
  refine wpAnyH_take (i := 1) (v := ?av1) rfl (by kernel_rfl) (by kernel_rfl) (by kernel_rfl) (fun _ _ _ h => h) (Or.inl ⟨by rfl, ?ay1⟩) (by assumption) ?ar1
  case ay1 => (intro w hSw; (try dsimp only at hSw); go_simp; try with_reducible rfl)
  (try simp only [Act.put, putS])
  refine wpAnyH_ready (rs := [2]) (by kernel_rfl) (by simp) ?_
  refine AllReadyH.cons rfl (fun K hK => ?_) AllReadyH.nil
  rw [if_pos (by rfl)]
  go_wp2_with fail
  refine (isKind_any c.k _).mono ?_
  rw [HAK.out]
  rintro e wx ⟨rfl, hx⟩
  replace hx := hx.symm
  subst hx
  refine hK.out _ _ (SW.out _ ((Below.refl _ _).drew)) (fun hHeld => ?_)
  try clear hK K
  (try simp only [Act.put, putS])
  refine wpAnyH_take (i := 3) (v := ?av3) rfl (by kernel_rfl) (by kernel_rfl) (by kernel_rfl) (fun _ _ _ h => h) (Or.inl ⟨by rfl, ?ay3⟩) (by assumption) ?ar3
  case ay3 => (intro w hSw; (try dsimp only at hSw); go_simp; try with_reducible rfl)
  (try simp only [Act.put, putS])
  refine wpAnyH_take (i := 4) (v := ?av4) rfl (by kernel_rfl) (by kernel_rfl) (by kernel_rfl) (fun _ _ _ h => h) (Or.inl ⟨by rfl, ?ay4⟩) (by assumption) ?ar4
  case ay4 => (intro w hSw; (try dsimp only at hSw); go_simp; try with_reducible rfl)
  (try simp only [Act.put, putS])
  refine wpAnyH_take (i := 5) (v := .agg (chC c).toList.toArray) rfl (by kernel_rfl) (by kernel_rfl) (by kernel_rfl) (fun _ _ _ h => h) (yieldsIf_load_mid rfl _ _ rfl C 0 rfl (chC c).toList dC (fun Y hY => hY.2) hdC1 hdC2 Try.sizeCh) (by assumption) ?_
  (try simp only [Act.put, putS])
  refine wpAnyH_take (i := 6) (v := .agg (chC c).toList.toArray) rfl (by kernel_rfl) (by kernel_rfl) (by kernel_rfl) (fun _ _ _ h => h) (yieldsIf_load_mid rfl _ _ rfl C 0 rfl (chC c).toList dC (fun Y hY => hY.2) hdC1 hdC2 Try.sizeCh) (by assumption) ?_
  (try simp only [Act.put, putS])
  refine wpAnyH_ready (rs := [7]) (by kernel_rfl) (by simp) ?_
  refine AllReadyH.cons rfl (fun K hK => ?_) AllReadyH.nil
  rw [if_pos (by rfl)]
  go_wp2_with fail
  refine (named_any c _).mono ?_
  rw [HNM.out]
  rintro e w2 ⟨rfl, hb2⟩
  have B12 := hid (((Below.refl w1.heap.size w1).drew).trans hb2)
  clear hb2
  refine hK.out _ _ (SW.out _ B12.out) (fun hHeld => ?_)
  try clear hK K
  (try simp only [Act.put, putS])
  refine wpAnyH_take (i := 8) (v := .bool false) rfl (by kernel_rfl) (by kernel_rfl) (by kernel_rfl) (fun _ _ _ h => h) (Or.inl ⟨by rfl, ?ne8⟩) (by assumption) ?nr8
  case ne8 =>
    intro Y hY
    exact exec_bin rfl rfl rfl (run_eqGuard_agg _ _ _ _ _ _ _ Try.eqgCh) ((run_neq_ch c.k c.sh c.ot c.at' c.out c.in' c.k c.sh c.ot c.at' c.out c.in' Y).trans (by simp))
  (try simp only [Act.put, putS])
  refine wpAnyH_take (i := 9) (v := ?dv9) rfl (by kernel_rfl) (by kernel_rfl) (by kernel_rfl) (fun _ _ _ h => h) (Or.inl ⟨by rfl, ?dy9⟩) (by assumption) ?dr9
  case dy9 => (intro w hSw; (try dsimp only at hSw); go_simp; try with_reducible rfl)
  (try simp only [Act.put, putS])
  refine wpAnyH_done (by kernel_rfl) ?_ _
  have H2 := hid (H.out.below (HB1.out.trans (B12.out.mono HB1.out.size)))
  have B2 := hid (HB1.out.trans (B12.out.mono HB1.out.size))
  have hC2 := (B12.out.block C (lt_of_block HC1.out)).trans HC1.out
  clear H SW hHeld B12 HC1 HB1 HAK
  have a0 : w2.cell? ⟨C, 0, none⟩ = some (.int .i64 c.k) := by rw [cell_of_row _ _ _ _ _ _ hC2]; rfl
  unfold chC at hC2
  go_wp2_with (first | (refine wpl_loadK rfl _ rfl C rfl _ _ _ rfl hC2 ?_) | (go_at_call 27; refine (HGN.out _ H2.out.m).mono ?_; rintro e w3 ⟨rfl, hb3⟩; have B3 := hid (B2.out.trans (hb3.mono B2.out.size)); clear hb3))
  go_ret
  exact ⟨rfl, B3.out⟩
set_option maxRecDepth 100000 in
set_option maxHeartbeats 4000000 in
/-- Refused behind gone: what it takes away does not fit, or its numbers are too great. The shards are handed in by what gone, and fits, answer. -/
theorem apply_unfit (b wb mb n gl : Nat) (ov : Value) (D : DataW Value) (N : AtN) (X G : List SX) (c : ChD) (w : World) (h : At w b wb mb n ov D N X) (hk : akB c.k = true) (hnm : namD c = c) (h5 : c.k ≠ 5)
    (hgn : ∀ W, AtM W b wb mb n ov D N (X.map SX.pc) X → Calls Try.prog 27 #[.pointer (some ⟨b, 0, none⟩), chV c] W fun e w' => ∃ va vc, e = .returned (.tuple #[.slice va gl vc, .int .i64 0]) ∧ ShR w' (.slice va gl vc) G ∧ Below W.heap.size W w')
    (hft : ∀ W v, ShR W v G → Calls Try.prog 28 #[chV c, v] W fun e w' => e = .returned (.bool false) ∧ Below W.heap.size W w') :
    Calls Try.prog 7 #[.pointer (some ⟨b, 0, none⟩), chV c] w fun e w' => e = .returned (.int .i64 1) ∧ Below w.heap.size w w' := by
  have HGN := hid hgn
  have HFT := hid hft
  have g5 : (c.k == 5) = false := by simpa using h5
  clear h5 hgn hft
  obtain ⟨va, vc, rfl⟩ := h.m.shape
  obtain ⟨dC, hdC1, hdC2⟩ := Try.rowCh
  obtain ⟨w1, hw1⟩ : ∃ w1, w1 = w.alloc (.cells (chC c) 24) := ⟨_, rfl⟩
  have HB1 : Hid (Below w.heap.size w w1) := hid (by rw [hw1]; exact (Below.refl _ _).alloc (Nat.le_refl _) _)
  have HC1 : Hid (w1.heap[w.heap.size]? = some (.cells (chC c) 24 (0, 0))) := hid (by rw [hw1]; exact heap_alloc_new _ _)
  have H := hid h
  have HAK := hid hk
  have HNM := hid hnm
  have HW1 := hid hw1
  clear h hk hnm hw1
  unfold chC at HW1
  unfold chV
  go_enter Try.func7, Try.ntmps7
  go_upto_region 1 with fail
  rw [← HW1.out]
  clear HW1
  obtain ⟨C, hCe⟩ : ∃ C, C = w.heap.size := ⟨_, rfl⟩
  rw [← hCe]
  rw [← hCe] at HC1
  have HCE : Hid (w.heap.size ≤ C) := hid (by omega)
  clear hCe
  go_upto_region 3 with fail
  have SW : Hid (∀ Y, Below w1.heap.size w1 Y → Y.cell? ⟨C, 0, none⟩ = some (.int .i64 c.k) ∧ Y.rangeAt C 0 (chC c).toList) := hid fun Y hY => by
    have h1 := (hY.block C (lt_of_block HC1.out)).trans HC1.out
    exact ⟨by rw [cell_of_row _ _ _ _ _ _ h1]; rfl, range_of_row h1 0 _ fun j v hv => by rw [Nat.zero_add]; simpa using hv⟩
  refine wp_region_held_drew (S := fun Y => Y.cell? ⟨C, 0, none⟩ = some (.int .i64 c.k) ∧ Y.rangeAt C 0 (chC c).toList) (by kernel_rfl) (SW.out _ ((Below.refl _ _).drew)) (fun hHeld => ?_)
  refine wpAnyH_take (i := 0) (v := ?av0) rfl (by kernel_rfl) (by kernel_rfl) (by kernel_rfl) (fun _ _ _ h => h) (Or.inl ⟨by rfl, ?ay0⟩) (by assumption) ?ar0
  case ay0 => (intro w hSw; (try dsimp only at hSw); go_simp; try with_reducible rfl)
  (try simp only [Act.put, putS])
  refine wpAnyH_take (i := 1) (v := ?av1) rfl (by kernel_rfl) (by kernel_rfl) (by kernel_rfl) (fun _ _ _ h => h) (Or.inl ⟨by rfl, ?ay1⟩) (by assumption) ?ar1
  case ay1 => (intro w hSw; (try dsimp only at hSw); go_simp; try with_reducible rfl)
  (try simp only [Act.put, putS])
  refine wpAnyH_ready (rs := [2]) (by kernel_rfl) (by simp) ?_
  refine AllReadyH.cons rfl (fun K hK => ?_) AllReadyH.nil
  rw [if_pos (by rfl)]
  go_wp2_with fail
  refine (isKind_any c.k _).mono ?_
  rw [HAK.out]
  rintro e wx ⟨rfl, hx⟩
  replace hx := hx.symm
  subst hx
  refine hK.out _ _ (SW.out _ ((Below.refl _ _).drew)) (fun hHeld => ?_)
  try clear hK K
  (try simp only [Act.put, putS])
  refine wpAnyH_take (i := 3) (v := ?av3) rfl (by kernel_rfl) (by kernel_rfl) (by kernel_rfl) (fun _ _ _ h => h) (Or.inl ⟨by rfl, ?ay3⟩) (by assumption) ?ar3
  case ay3 => (intro w hSw; (try dsimp only at hSw); go_simp; try with_reducible rfl)
  (try simp only [Act.put, putS])
  refine wpAnyH_take (i := 4) (v := ?av4) rfl (by kernel_rfl) (by kernel_rfl) (by kernel_rfl) (fun _ _ _ h => h) (Or.inl ⟨by rfl, ?ay4⟩) (by assumption) ?ar4
  case ay4 => (intro w hSw; (try dsimp only at hSw); go_simp; try with_reducible rfl)
  (try simp only [Act.put, putS])
  refine wpAnyH_take (i := 5) (v := .agg (chC c).toList.toArray) rfl (by kernel_rfl) (by kernel_rfl) (by kernel_rfl) (fun _ _ _ h => h) (yieldsIf_load_mid rfl _ _ rfl C 0 rfl (chC c).toList dC (fun Y hY => hY.2) hdC1 hdC2 Try.sizeCh) (by assumption) ?_
  (try simp only [Act.put, putS])
  refine wpAnyH_take (i := 6) (v := .agg (chC c).toList.toArray) rfl (by kernel_rfl) (by kernel_rfl) (by kernel_rfl) (fun _ _ _ h => h) (yieldsIf_load_mid rfl _ _ rfl C 0 rfl (chC c).toList dC (fun Y hY => hY.2) hdC1 hdC2 Try.sizeCh) (by assumption) ?_
  (try simp only [Act.put, putS])
  refine wpAnyH_ready (rs := [7]) (by kernel_rfl) (by simp) ?_
  refine AllReadyH.cons rfl (fun K hK => ?_) AllReadyH.nil
  rw [if_pos (by rfl)]
  go_wp2_with fail
  refine (named_any c _).mono ?_
  rw [HNM.out]
  rintro e w2 ⟨rfl, hb2⟩
  have B12 := hid (((Below.refl w1.heap.size w1).drew).trans hb2)
  clear hb2
  refine hK.out _ _ (SW.out _ B12.out) (fun hHeld => ?_)
  try clear hK K
  (try simp only [Act.put, putS])
  refine wpAnyH_take (i := 8) (v := .bool false) rfl (by kernel_rfl) (by kernel_rfl) (by kernel_rfl) (fun _ _ _ h => h) (Or.inl ⟨by rfl, ?ne8⟩) (by assumption) ?nr8
  case ne8 =>
    intro Y hY
    exact exec_bin rfl rfl rfl (run_eqGuard_agg _ _ _ _ _ _ _ Try.eqgCh) ((run_neq_ch c.k c.sh c.ot c.at' c.out c.in' c.k c.sh c.ot c.at' c.out c.in' Y).trans (by simp))
  (try simp only [Act.put, putS])
  refine wpAnyH_take (i := 9) (v := ?dv9) rfl (by kernel_rfl) (by kernel_rfl) (by kernel_rfl) (fun _ _ _ h => h) (Or.inl ⟨by rfl, ?dy9⟩) (by assumption) ?dr9
  case dy9 => (intro w hSw; (try dsimp only at hSw); go_simp; try with_reducible rfl)
  (try simp only [Act.put, putS])
  refine wpAnyH_done (by kernel_rfl) ?_ _
  have H2 := hid (H.out.below (HB1.out.trans (B12.out.mono HB1.out.size)))
  have B2 := hid (HB1.out.trans (B12.out.mono HB1.out.size))
  have hC2 := (B12.out.block C (lt_of_block HC1.out)).trans HC1.out
  clear H SW hHeld B12 HC1 HB1 HAK
  have a0 : w2.cell? ⟨C, 0, none⟩ = some (.int .i64 c.k) := by rw [cell_of_row _ _ _ _ _ _ hC2]; rfl
  have HC2 := hid hC2
  unfold chC at hC2
  go_wp2_with (first | (go_at_call 27; refine (HGN.out _ H2.out.m).mono ?_; rintro e w3 ⟨va3, vc3, rfl, hr3, hb3⟩; have R3 := hid hr3; have A3 := hid (H2.out.below hb3); have B3 := hid (B2.out.trans (hb3.mono B2.out.size)); have hC3 := (hb3.block C (lt_of_block hC2)).trans hC2; clear hr3 hb3 hC2) | (go_at_call 28; refine (HFT.out _ _ R3.out).mono ?_; rintro e w4 ⟨rfl, hb4⟩; have A4 := hid (A3.out.below hb4); have B4 := hid (B3.out.trans (hb4.mono B3.out.size)); have c2 : w4.cell? ⟨b, 2, none⟩ = some (.int .i64 N.nx) := A4.out.m.cell 2; have c1 : w4.cell? ⟨b, 1, none⟩ = some (.int .i64 N.ep) := A4.out.m.cell 1; clear hb4) | (refine wpl_loadK rfl _ rfl C rfl _ _ _ rfl hC2 ?_) | (refine wpl_loadK rfl _ rfl C rfl _ _ _ rfl hC3 ?_))
  go_ret
  exact ⟨rfl, B4.out⟩
set_option maxRecDepth 100000 in
set_option maxHeartbeats 4000000 in
theorem apply_bigN (b wb mb n gl : Nat) (ov : Value) (D : DataW Value) (N : AtN) (X G : List SX) (c : ChD) (w : World) (h : At w b wb mb n ov D N X) (hk : akB c.k = true) (hnm : namD c = c) (h5 : c.k ≠ 5) (hn : 1073741824 < N.nx)
    (hgn : ∀ W, AtM W b wb mb n ov D N (X.map SX.pc) X → Calls Try.prog 27 #[.pointer (some ⟨b, 0, none⟩), chV c] W fun e w' => ∃ va vc, e = .returned (.tuple #[.slice va gl vc, .int .i64 0]) ∧ ShR w' (.slice va gl vc) G ∧ Below W.heap.size W w')
    (hft : ∀ W v, ShR W v G → Calls Try.prog 28 #[chV c, v] W fun e w' => e = .returned (.bool true) ∧ Below W.heap.size W w') :
    Calls Try.prog 7 #[.pointer (some ⟨b, 0, none⟩), chV c] w fun e w' => e = .returned (.int .i64 2) ∧ Below w.heap.size w w' := by
  have HGN := hid hgn
  have HFT := hid hft
  have g5 : (c.k == 5) = false := by simpa using h5
  clear h5 hgn hft
  obtain ⟨va, vc, rfl⟩ := h.m.shape
  obtain ⟨dC, hdC1, hdC2⟩ := Try.rowCh
  obtain ⟨w1, hw1⟩ : ∃ w1, w1 = w.alloc (.cells (chC c) 24) := ⟨_, rfl⟩
  have HB1 : Hid (Below w.heap.size w w1) := hid (by rw [hw1]; exact (Below.refl _ _).alloc (Nat.le_refl _) _)
  have HC1 : Hid (w1.heap[w.heap.size]? = some (.cells (chC c) 24 (0, 0))) := hid (by rw [hw1]; exact heap_alloc_new _ _)
  have H := hid h
  have HAK := hid hk
  have HNM := hid hnm
  have HW1 := hid hw1
  clear h hk hnm hw1
  unfold chC at HW1
  unfold chV
  go_enter Try.func7, Try.ntmps7
  go_upto_region 1 with fail
  rw [← HW1.out]
  clear HW1
  obtain ⟨C, hCe⟩ : ∃ C, C = w.heap.size := ⟨_, rfl⟩
  rw [← hCe]
  rw [← hCe] at HC1
  have HCE : Hid (w.heap.size ≤ C) := hid (by omega)
  clear hCe
  go_upto_region 3 with fail
  have SW : Hid (∀ Y, Below w1.heap.size w1 Y → Y.cell? ⟨C, 0, none⟩ = some (.int .i64 c.k) ∧ Y.rangeAt C 0 (chC c).toList) := hid fun Y hY => by
    have h1 := (hY.block C (lt_of_block HC1.out)).trans HC1.out
    exact ⟨by rw [cell_of_row _ _ _ _ _ _ h1]; rfl, range_of_row h1 0 _ fun j v hv => by rw [Nat.zero_add]; simpa using hv⟩
  refine wp_region_held_drew (S := fun Y => Y.cell? ⟨C, 0, none⟩ = some (.int .i64 c.k) ∧ Y.rangeAt C 0 (chC c).toList) (by kernel_rfl) (SW.out _ ((Below.refl _ _).drew)) (fun hHeld => ?_)
  refine wpAnyH_take (i := 0) (v := ?av0) rfl (by kernel_rfl) (by kernel_rfl) (by kernel_rfl) (fun _ _ _ h => h) (Or.inl ⟨by rfl, ?ay0⟩) (by assumption) ?ar0
  case ay0 => (intro w hSw; (try dsimp only at hSw); go_simp; try with_reducible rfl)
  (try simp only [Act.put, putS])
  refine wpAnyH_take (i := 1) (v := ?av1) rfl (by kernel_rfl) (by kernel_rfl) (by kernel_rfl) (fun _ _ _ h => h) (Or.inl ⟨by rfl, ?ay1⟩) (by assumption) ?ar1
  case ay1 => (intro w hSw; (try dsimp only at hSw); go_simp; try with_reducible rfl)
  (try simp only [Act.put, putS])
  refine wpAnyH_ready (rs := [2]) (by kernel_rfl) (by simp) ?_
  refine AllReadyH.cons rfl (fun K hK => ?_) AllReadyH.nil
  rw [if_pos (by rfl)]
  go_wp2_with fail
  refine (isKind_any c.k _).mono ?_
  rw [HAK.out]
  rintro e wx ⟨rfl, hx⟩
  replace hx := hx.symm
  subst hx
  refine hK.out _ _ (SW.out _ ((Below.refl _ _).drew)) (fun hHeld => ?_)
  try clear hK K
  (try simp only [Act.put, putS])
  refine wpAnyH_take (i := 3) (v := ?av3) rfl (by kernel_rfl) (by kernel_rfl) (by kernel_rfl) (fun _ _ _ h => h) (Or.inl ⟨by rfl, ?ay3⟩) (by assumption) ?ar3
  case ay3 => (intro w hSw; (try dsimp only at hSw); go_simp; try with_reducible rfl)
  (try simp only [Act.put, putS])
  refine wpAnyH_take (i := 4) (v := ?av4) rfl (by kernel_rfl) (by kernel_rfl) (by kernel_rfl) (fun _ _ _ h => h) (Or.inl ⟨by rfl, ?ay4⟩) (by assumption) ?ar4
  case ay4 => (intro w hSw; (try dsimp only at hSw); go_simp; try with_reducible rfl)
  (try simp only [Act.put, putS])
  refine wpAnyH_take (i := 5) (v := .agg (chC c).toList.toArray) rfl (by kernel_rfl) (by kernel_rfl) (by kernel_rfl) (fun _ _ _ h => h) (yieldsIf_load_mid rfl _ _ rfl C 0 rfl (chC c).toList dC (fun Y hY => hY.2) hdC1 hdC2 Try.sizeCh) (by assumption) ?_
  (try simp only [Act.put, putS])
  refine wpAnyH_take (i := 6) (v := .agg (chC c).toList.toArray) rfl (by kernel_rfl) (by kernel_rfl) (by kernel_rfl) (fun _ _ _ h => h) (yieldsIf_load_mid rfl _ _ rfl C 0 rfl (chC c).toList dC (fun Y hY => hY.2) hdC1 hdC2 Try.sizeCh) (by assumption) ?_
  (try simp only [Act.put, putS])
  refine wpAnyH_ready (rs := [7]) (by kernel_rfl) (by simp) ?_
  refine AllReadyH.cons rfl (fun K hK => ?_) AllReadyH.nil
  rw [if_pos (by rfl)]
  go_wp2_with fail
  refine (named_any c _).mono ?_
  rw [HNM.out]
  rintro e w2 ⟨rfl, hb2⟩
  have B12 := hid (((Below.refl w1.heap.size w1).drew).trans hb2)
  clear hb2
  refine hK.out _ _ (SW.out _ B12.out) (fun hHeld => ?_)
  try clear hK K
  (try simp only [Act.put, putS])
  refine wpAnyH_take (i := 8) (v := .bool false) rfl (by kernel_rfl) (by kernel_rfl) (by kernel_rfl) (fun _ _ _ h => h) (Or.inl ⟨by rfl, ?ne8⟩) (by assumption) ?nr8
  case ne8 =>
    intro Y hY
    exact exec_bin rfl rfl rfl (run_eqGuard_agg _ _ _ _ _ _ _ Try.eqgCh) ((run_neq_ch c.k c.sh c.ot c.at' c.out c.in' c.k c.sh c.ot c.at' c.out c.in' Y).trans (by simp))
  (try simp only [Act.put, putS])
  refine wpAnyH_take (i := 9) (v := ?dv9) rfl (by kernel_rfl) (by kernel_rfl) (by kernel_rfl) (fun _ _ _ h => h) (Or.inl ⟨by rfl, ?dy9⟩) (by assumption) ?dr9
  case dy9 => (intro w hSw; (try dsimp only at hSw); go_simp; try with_reducible rfl)
  (try simp only [Act.put, putS])
  refine wpAnyH_done (by kernel_rfl) ?_ _
  have H2 := hid (H.out.below (HB1.out.trans (B12.out.mono HB1.out.size)))
  have B2 := hid (HB1.out.trans (B12.out.mono HB1.out.size))
  have hC2 := (B12.out.block C (lt_of_block HC1.out)).trans HC1.out
  clear H SW hHeld B12 HC1 HB1 HAK
  have a0 : w2.cell? ⟨C, 0, none⟩ = some (.int .i64 c.k) := by rw [cell_of_row _ _ _ _ _ _ hC2]; rfl
  have HC2 := hid hC2
  unfold chC at hC2
  go_wp2_with (first | (go_at_call 27; refine (HGN.out _ H2.out.m).mono ?_; rintro e w3 ⟨va3, vc3, rfl, hr3, hb3⟩; have R3 := hid hr3; have A3 := hid (H2.out.below hb3); have B3 := hid (B2.out.trans (hb3.mono B2.out.size)); have hC3 := (hb3.block C (lt_of_block hC2)).trans hC2; clear hr3 hb3 hC2) | (go_at_call 28; refine (HFT.out _ _ R3.out).mono ?_; rintro e w4 ⟨rfl, hb4⟩; have A4 := hid (A3.out.below hb4); have B4 := hid (B3.out.trans (hb4.mono B3.out.size)); have c2 : w4.cell? ⟨b, 2, none⟩ = some (.int .i64 N.nx) := A4.out.m.cell 2; have c1 : w4.cell? ⟨b, 1, none⟩ = some (.int .i64 N.ep) := A4.out.m.cell 1; clear hb4) | (refine wpl_loadK rfl _ rfl C rfl _ _ _ rfl hC2 ?_) | (refine wpl_loadK rfl _ rfl C rfl _ _ _ rfl hC3 ?_))
  go_ret
  exact ⟨rfl, B4.out⟩
set_option maxRecDepth 100000 in
set_option maxHeartbeats 4000000 in
theorem apply_bigE (b wb mb n gl : Nat) (ov : Value) (D : DataW Value) (N : AtN) (X G : List SX) (c : ChD) (w : World) (h : At w b wb mb n ov D N X) (hk : akB c.k = true) (hnm : namD c = c) (h5 : c.k ≠ 5) (hn : ¬ 1073741824 < N.nx) (he : 1073741824 < N.ep)
    (hgn : ∀ W, AtM W b wb mb n ov D N (X.map SX.pc) X → Calls Try.prog 27 #[.pointer (some ⟨b, 0, none⟩), chV c] W fun e w' => ∃ va vc, e = .returned (.tuple #[.slice va gl vc, .int .i64 0]) ∧ ShR w' (.slice va gl vc) G ∧ Below W.heap.size W w')
    (hft : ∀ W v, ShR W v G → Calls Try.prog 28 #[chV c, v] W fun e w' => e = .returned (.bool true) ∧ Below W.heap.size W w') :
    Calls Try.prog 7 #[.pointer (some ⟨b, 0, none⟩), chV c] w fun e w' => e = .returned (.int .i64 2) ∧ Below w.heap.size w w' := by
  have HGN := hid hgn
  have HFT := hid hft
  have g5 : (c.k == 5) = false := by simpa using h5
  clear h5 hgn hft
  obtain ⟨va, vc, rfl⟩ := h.m.shape
  obtain ⟨dC, hdC1, hdC2⟩ := Try.rowCh
  obtain ⟨w1, hw1⟩ : ∃ w1, w1 = w.alloc (.cells (chC c) 24) := ⟨_, rfl⟩
  have HB1 : Hid (Below w.heap.size w w1) := hid (by rw [hw1]; exact (Below.refl _ _).alloc (Nat.le_refl _) _)
  have HC1 : Hid (w1.heap[w.heap.size]? = some (.cells (chC c) 24 (0, 0))) := hid (by rw [hw1]; exact heap_alloc_new _ _)
  have H := hid h
  have HAK := hid hk
  have HNM := hid hnm
  have HW1 := hid hw1
  clear h hk hnm hw1
  unfold chC at HW1
  unfold chV
  go_enter Try.func7, Try.ntmps7
  go_upto_region 1 with fail
  rw [← HW1.out]
  clear HW1
  obtain ⟨C, hCe⟩ : ∃ C, C = w.heap.size := ⟨_, rfl⟩
  rw [← hCe]
  rw [← hCe] at HC1
  have HCE : Hid (w.heap.size ≤ C) := hid (by omega)
  clear hCe
  go_upto_region 3 with fail
  have SW : Hid (∀ Y, Below w1.heap.size w1 Y → Y.cell? ⟨C, 0, none⟩ = some (.int .i64 c.k) ∧ Y.rangeAt C 0 (chC c).toList) := hid fun Y hY => by
    have h1 := (hY.block C (lt_of_block HC1.out)).trans HC1.out
    exact ⟨by rw [cell_of_row _ _ _ _ _ _ h1]; rfl, range_of_row h1 0 _ fun j v hv => by rw [Nat.zero_add]; simpa using hv⟩
  refine wp_region_held_drew (S := fun Y => Y.cell? ⟨C, 0, none⟩ = some (.int .i64 c.k) ∧ Y.rangeAt C 0 (chC c).toList) (by kernel_rfl) (SW.out _ ((Below.refl _ _).drew)) (fun hHeld => ?_)
  refine wpAnyH_take (i := 0) (v := ?av0) rfl (by kernel_rfl) (by kernel_rfl) (by kernel_rfl) (fun _ _ _ h => h) (Or.inl ⟨by rfl, ?ay0⟩) (by assumption) ?ar0
  case ay0 => (intro w hSw; (try dsimp only at hSw); go_simp; try with_reducible rfl)
  (try simp only [Act.put, putS])
  refine wpAnyH_take (i := 1) (v := ?av1) rfl (by kernel_rfl) (by kernel_rfl) (by kernel_rfl) (fun _ _ _ h => h) (Or.inl ⟨by rfl, ?ay1⟩) (by assumption) ?ar1
  case ay1 => (intro w hSw; (try dsimp only at hSw); go_simp; try with_reducible rfl)
  (try simp only [Act.put, putS])
  refine wpAnyH_ready (rs := [2]) (by kernel_rfl) (by simp) ?_
  refine AllReadyH.cons rfl (fun K hK => ?_) AllReadyH.nil
  rw [if_pos (by rfl)]
  go_wp2_with fail
  refine (isKind_any c.k _).mono ?_
  rw [HAK.out]
  rintro e wx ⟨rfl, hx⟩
  replace hx := hx.symm
  subst hx
  refine hK.out _ _ (SW.out _ ((Below.refl _ _).drew)) (fun hHeld => ?_)
  try clear hK K
  (try simp only [Act.put, putS])
  refine wpAnyH_take (i := 3) (v := ?av3) rfl (by kernel_rfl) (by kernel_rfl) (by kernel_rfl) (fun _ _ _ h => h) (Or.inl ⟨by rfl, ?ay3⟩) (by assumption) ?ar3
  case ay3 => (intro w hSw; (try dsimp only at hSw); go_simp; try with_reducible rfl)
  (try simp only [Act.put, putS])
  refine wpAnyH_take (i := 4) (v := ?av4) rfl (by kernel_rfl) (by kernel_rfl) (by kernel_rfl) (fun _ _ _ h => h) (Or.inl ⟨by rfl, ?ay4⟩) (by assumption) ?ar4
  case ay4 => (intro w hSw; (try dsimp only at hSw); go_simp; try with_reducible rfl)
  (try simp only [Act.put, putS])
  refine wpAnyH_take (i := 5) (v := .agg (chC c).toList.toArray) rfl (by kernel_rfl) (by kernel_rfl) (by kernel_rfl) (fun _ _ _ h => h) (yieldsIf_load_mid rfl _ _ rfl C 0 rfl (chC c).toList dC (fun Y hY => hY.2) hdC1 hdC2 Try.sizeCh) (by assumption) ?_
  (try simp only [Act.put, putS])
  refine wpAnyH_take (i := 6) (v := .agg (chC c).toList.toArray) rfl (by kernel_rfl) (by kernel_rfl) (by kernel_rfl) (fun _ _ _ h => h) (yieldsIf_load_mid rfl _ _ rfl C 0 rfl (chC c).toList dC (fun Y hY => hY.2) hdC1 hdC2 Try.sizeCh) (by assumption) ?_
  (try simp only [Act.put, putS])
  refine wpAnyH_ready (rs := [7]) (by kernel_rfl) (by simp) ?_
  refine AllReadyH.cons rfl (fun K hK => ?_) AllReadyH.nil
  rw [if_pos (by rfl)]
  go_wp2_with fail
  refine (named_any c _).mono ?_
  rw [HNM.out]
  rintro e w2 ⟨rfl, hb2⟩
  have B12 := hid (((Below.refl w1.heap.size w1).drew).trans hb2)
  clear hb2
  refine hK.out _ _ (SW.out _ B12.out) (fun hHeld => ?_)
  try clear hK K
  (try simp only [Act.put, putS])
  refine wpAnyH_take (i := 8) (v := .bool false) rfl (by kernel_rfl) (by kernel_rfl) (by kernel_rfl) (fun _ _ _ h => h) (Or.inl ⟨by rfl, ?ne8⟩) (by assumption) ?nr8
  case ne8 =>
    intro Y hY
    exact exec_bin rfl rfl rfl (run_eqGuard_agg _ _ _ _ _ _ _ Try.eqgCh) ((run_neq_ch c.k c.sh c.ot c.at' c.out c.in' c.k c.sh c.ot c.at' c.out c.in' Y).trans (by simp))
  (try simp only [Act.put, putS])
  refine wpAnyH_take (i := 9) (v := ?dv9) rfl (by kernel_rfl) (by kernel_rfl) (by kernel_rfl) (fun _ _ _ h => h) (Or.inl ⟨by rfl, ?dy9⟩) (by assumption) ?dr9
  case dy9 => (intro w hSw; (try dsimp only at hSw); go_simp; try with_reducible rfl)
  (try simp only [Act.put, putS])
  refine wpAnyH_done (by kernel_rfl) ?_ _
  have H2 := hid (H.out.below (HB1.out.trans (B12.out.mono HB1.out.size)))
  have B2 := hid (HB1.out.trans (B12.out.mono HB1.out.size))
  have hC2 := (B12.out.block C (lt_of_block HC1.out)).trans HC1.out
  clear H SW hHeld B12 HC1 HB1 HAK
  have a0 : w2.cell? ⟨C, 0, none⟩ = some (.int .i64 c.k) := by rw [cell_of_row _ _ _ _ _ _ hC2]; rfl
  have HC2 := hid hC2
  unfold chC at hC2
  go_wp2_with (first | (go_at_call 27; refine (HGN.out _ H2.out.m).mono ?_; rintro e w3 ⟨va3, vc3, rfl, hr3, hb3⟩; have R3 := hid hr3; have A3 := hid (H2.out.below hb3); have B3 := hid (B2.out.trans (hb3.mono B2.out.size)); have hC3 := (hb3.block C (lt_of_block hC2)).trans hC2; clear hr3 hb3 hC2) | (go_at_call 28; refine (HFT.out _ _ R3.out).mono ?_; rintro e w4 ⟨rfl, hb4⟩; have A4 := hid (A3.out.below hb4); have B4 := hid (B3.out.trans (hb4.mono B3.out.size)); have c2 : w4.cell? ⟨b, 2, none⟩ = some (.int .i64 N.nx) := A4.out.m.cell 2; have c1 : w4.cell? ⟨b, 1, none⟩ = some (.int .i64 N.ep) := A4.out.m.cell 1; clear hb4) | (refine wpl_loadK rfl _ rfl C rfl _ _ _ rfl hC2 ?_) | (refine wpl_loadK rfl _ rfl C rfl _ _ _ rfl hC3 ?_))
  go_ret
  exact ⟨rfl, B4.out⟩
end Go.Proofs.Ytnkjkaofgninnaa
