/- Apply of changes that are named as they should be. Conditions: map and change lie in memory. -/
import Derived.Test.YtnkjkaofgninnaaAtExch
namespace Go.Proofs.Ytnkjkaofgninnaa
open Go.RowKit Go.Maps Go.Shelf
set_option linter.unusedVariables false
set_option linter.unusedSimpArgs false

set_option maxRecDepth 100000 in
set_option maxHeartbeats 4000000 in
theorem run_neq_ch (a0 a1 a2 a3 a4 a5 b0 b1 b2 b3 b4 b5 : Int) (w : World) : (binOp .neq 24 (.agg #[.int .i64 a0, .int .i64 a1, .int .i64 a2, .int .i64 a3, .int .i64 a4, .int .i64 a5]) (.agg #[.int .i64 b0, .int .i64 b1, .int .i64 b2, .int .i64 b3, .int .i64 b4, .int .i64 b5])).run Try.prog w = .ok (.bool (!(a0 == b0 && (a1 == b1 && (a2 == b2 && (a3 == b3 && (a4 == b4 && a5 == b5))))))) w := by
  go_simp
  repeat' split
  all_goals simp_all
theorem exec_bin {f : Operand → Value} {o : Oper} {w : World} {bo : BinOp} {t t2 : TypeId} {x y : Operand} (hop : o.op = .binOp bo t x y t2) {xv yv r : Value} (hx : f x = xv) (hy : f y = yv) (hgd : (eqGuard bo t x y xv yv).run Try.prog w = .ok () w) (hrun : (binOp bo t xv yv).run Try.prog w = .ok r w) : (execOp f o).run Try.prog w = .ok (.value r) w := by
  simp [execOp, hop, hx, hy, hgd, hrun, Result.andThen]
theorem Try.eqgCh : Try.prog.eqGuardType Try.prog.depth 24 = false := by kernel_rfl
set_option maxRecDepth 100000 in
set_option maxHeartbeats 4000000 in
theorem apply_settle (b wb mb n : Nat) (ov : Value) (D : DataW Value) (N : AtN) (X : List SX) (c : ChD) (w : World) (h : At w b wb mb n ov D N X) (hk : akB c.k = true) (hnm : namD c = c) (h5 : c.k = 5) (ho : N.op ≠ []) :
    Calls Try.prog 7 #[.pointer (some ⟨b, 0, none⟩), chV c] w fun e w' => e = .returned (.int .i64 0) ∧ At w' b wb mb n (.slice none 0 0) D { N with op := [] } X ∧ Tr (AtR b wb mb) w w' := by
  have HO := hid ho
  have g5 : (c.k == 5) = true := by simpa using h5
  clear ho h5
  obtain ⟨va, vc, rfl⟩ := h.m.shape
  obtain ⟨dC, hdC1, hdC2⟩ := Try.rowCh
  obtain ⟨w1, hw1⟩ : ∃ w1, w1 = w.alloc (.cells (chC c) 24) := ⟨_, rfl⟩
  have HB1 : Hid (Below w.heap.size w w1) := hid (by rw [hw1]; exact (Below.refl _ _).alloc (Nat.le_refl _) _)
  have HC1 : Hid (w1.heap[w.heap.size]? = some (.cells (chC c) 24 (0, 0))) := hid (by rw [hw1]; exact heap_alloc_new _ _)
  have H := hid h
  have HAK := hid hk
  have HNM := hid hnm
  have HW1 := hid hw1
  clear h hk hnm hw1
  unfold chC at HW1
  unfold chV
  go_enter Try.func7, Try.ntmps7
  go_upto_region 1 with fail
  rw [← HW1.out]
  clear HW1
  obtain ⟨C, hCe⟩ : ∃ C, C = w.heap.size := ⟨_, rfl⟩
  rw [← hCe]
  rw [← hCe] at HC1
  have HCE : Hid (w.heap.size ≤ C) := hid (by omega)
  clear hCe
  go_upto_region 3 with fail
  have SW : Hid (∀ Y, Below w1.heap.size w1 Y → Y.cell? ⟨C, 0, none⟩ = some (.int .i64 c.k) ∧ Y.rangeAt C 0 (chC c).toList) := hid fun Y hY => by
    have h1 := (hY.block C (lt_of_block HC1.out)).trans HC1.out
    exact ⟨by rw [cell_of_row _ _ _ _ _ _ h1]; rfl, range_of_row h1 0 _ fun j v hv => by rw [Nat.zero_add]; simpa using hv⟩
  refine wp_region_held_drew (S := fun Y => Y.cell? ⟨C, 0, none⟩ = some (.int .i64 c.k) ∧ Y.rangeAt C 0 (chC c).toList) (by kernel_rfl) (SW.out _ ((Below.refl _ _).drew)) (fun hHeld => ?_)
  refine wpAnyH_take (i := 0) (v := ?av0) rfl (by kernel_rfl) (by kernel_rfl) (by kernel_rfl) (fun _ _ _ h => h) (Or.inl ⟨by rfl, ?ay0⟩) (by assumption) ?ar0
  case ay0 => (intro w hSw; (try dsimp only at hSw); go_simp; try with_reducible rfl)
  (try simp only [Act.put, putS])
  refine wpAnyH_take (i := 1) (v := ?av1) rfl (by kernel_rfl) (by kernel_rfl) (by kernel_rfl) (fun _ _ _ h => h) (Or.inl ⟨by rfl, ?ay1⟩) (by assumption) ?ar1
  case ay1 => (intro w hSw; (try dsimp only at hSw); go_simp; try with_reducible rfl)
  (try simp only [Act.put, putS])
  refine wpAnyH_ready (rs := [2]) (by kernel_rfl) (by simp) ?_
  refine AllReadyH.cons rfl (fun K hK => ?_) AllReadyH.nil
  rw [if_pos (by rfl)]
  go_wp2_with fail
  refine (isKind_any c.k _).mono ?_
  rw [HAK.out]
  rintro e wx ⟨rfl, hx⟩
  replace hx := hx.symm
  subst hx
  refine hK.out _ _ (SW.out _ ((Below.refl _ _).drew)) (fun hHeld => ?_)
  try clear hK K
  (try simp only [Act.put, putS])
  refine wpAnyH_take (i := 3) (v := ?av3) rfl (by kernel_rfl) (by kernel_rfl) (by kernel_rfl) (fun _ _ _ h => h) (Or.inl ⟨by rfl, ?ay3⟩) (by assumption) ?ar3
  case ay3 => (intro w hSw; (try dsimp only at hSw); go_simp; try with_reducible rfl)
  (try simp only [Act.put, putS])
  refine wpAnyH_take (i := 4) (v := ?av4) rfl (by kernel_rfl) (by kernel_rfl) (by kernel_rfl) (fun _ _ _ h => h) (Or.inl ⟨by rfl, ?ay4⟩) (by assumption) ?ar4
  case ay4 => (intro w hSw; (try dsimp only at hSw); go_simp; try with_reducible rfl)
  (try simp only [Act.put, putS])
  refine wpAnyH_take (i := 5) (v := .agg (chC c).toList.toArray) rfl (by kernel_rfl) (by kernel_rfl) (by kernel_rfl) (fun _ _ _ h => h) (yieldsIf_load_mid rfl _ _ rfl C 0 rfl (chC c).toList dC (fun Y hY => hY.2) hdC1 hdC2 Try.sizeCh) (by assumption) ?_
  (try simp only [Act.put, putS])
  refine wpAnyH_take (i := 6) (v := .agg (chC c).toList.toArray) rfl (by kernel_rfl) (by kernel_rfl) (by kernel_rfl) (fun _ _ _ h => h) (yieldsIf_load_mid rfl _ _ rfl C 0 rfl (chC c).toList dC (fun Y hY => hY.2) hdC1 hdC2 Try.sizeCh) (by assumption) ?_
  (try simp only [Act.put, putS])
  refine wpAnyH_ready (rs := [7]) (by kernel_rfl) (by simp) ?_
  refine AllReadyH.cons rfl (fun K hK => ?_) AllReadyH.nil
  rw [if_pos (by rfl)]
  go_wp2_with fail
  refine (named_any c _).mono ?_
  rw [HNM.out]
  rintro e w2 ⟨rfl, hb2⟩
  have B12 := hid (((Below.refl w1.heap.size w1).drew).trans hb2)
  clear hb2
  refine hK.out _ _ (SW.out _ B12.out) (fun hHeld => ?_)
  try clear hK K
  (try simp only [Act.put, putS])
  refine wpAnyH_take (i := 8) (v := .bool false) rfl (by kernel_rfl) (by kernel_rfl) (by kernel_rfl) (fun _ _ _ h => h) (Or.inl ⟨by rfl, ?ne8⟩) (by assumption) ?nr8
  case ne8 =>
    intro Y hY
    exact exec_bin rfl rfl rfl (run_eqGuard_agg _ _ _ _ _ _ _ Try.eqgCh) ((run_neq_ch c.k c.sh c.ot c.at' c.out c.in' c.k c.sh c.ot c.at' c.out c.in' Y).trans (by simp))
  (try simp only [Act.put, putS])
  refine wpAnyH_take (i := 9) (v := ?dv9) rfl (by kernel_rfl) (by kernel_rfl) (by kernel_rfl) (fun _ _ _ h => h) (Or.inl ⟨by rfl, ?dy9⟩) (by assumption) ?dr9
  case dy9 => (intro w hSw; (try dsimp only at hSw); go_simp; try with_reducible rfl)
  (try simp only [Act.put, putS])
  refine wpAnyH_done (by kernel_rfl) ?_ _
  have H2 := hid (H.out.below (HB1.out.trans (B12.out.mono HB1.out.size)))
  have B2 := hid (HB1.out.trans (B12.out.mono HB1.out.size))
  have hC2 := (B12.out.block C (lt_of_block HC1.out)).trans HC1.out
  clear H SW hHeld B12 HC1 HB1 HAK
  have a0 : w2.cell? ⟨C, 0, none⟩ = some (.int .i64 c.k) := by rw [cell_of_row _ _ _ _ _ _ hC2]; rfl
  go_wp2_with (go_at_call 26; refine (settle_yes b wb mb n _ D N X _ H2.out HO.out).mono ?_; rintro e w3 ⟨rfl, ha3, ht3⟩; have A3 := hid ha3; have T3 := hid ht3; clear ha3 ht3)
  go_ret
  exact ⟨rfl, A3.out, (Tr.below B2.out).trans T3.out⟩
set_option maxRecDepth 100000 in
set_option maxHeartbeats 4000000 in
theorem apply_down (b wb mb n : Nat) (ov : Value) (D : DataW Value) (N : AtN) (X : List SX) (c : ChD) (w : World) (h : At w b wb mb n ov D N X) (hk : akB c.k = true) (hnm : namD c = c) (h5 : c.k ≠ 5) (ho : N.op ≠ []) :
    Calls Try.prog 7 #[.pointer (some ⟨b, 0, none⟩), chV c] w fun e w' => e = .returned (.int .i64 7) ∧ Below w.heap.size w w' := by
  have HO := hid ho
  have g5 : (c.k == 5) = false := by simpa using h5
  clear ho h5
  obtain ⟨va, vc, rfl⟩ := h.m.shape
  obtain ⟨dC, hdC1, hdC2⟩ := Try.rowCh
  obtain ⟨w1, hw1⟩ : ∃ w1, w1 = w.alloc (.cells (chC c) 24) := ⟨_, rfl⟩
  have HB1 : Hid (Below w.heap.size w w1) := hid (by rw [hw1]; exact (Below.refl _ _).alloc (Nat.le_refl _) _)
  have HC1 : Hid (w1.heap[w.heap.size]? = some (.cells (chC c) 24 (0, 0))) := hid (by rw [hw1]; exact heap_alloc_new _ _)
  have H := hid h
  have HAK := hid hk
  have HNM := hid hnm
  have HW1 := hid hw1
  clear h hk hnm hw1
  unfold chC at HW1
  unfold chV
  go_enter Try.func7, Try.ntmps7
  go_upto_region 1 with fail
  rw [← HW1.out]
  clear HW1
  obtain ⟨C, hCe⟩ : ∃ C, C = w.heap.size := ⟨_, rfl⟩
  rw [← hCe]
  rw [← hCe] at HC1
  have HCE : Hid (w.heap.size ≤ C) := hid (by omega)
  clear hCe
  go_upto_region 3 with fail
  have SW : Hid (∀ Y, Below w1.heap.size w1 Y → Y.cell? ⟨C, 0, none⟩ = some (.int .i64 c.k) ∧ Y.rangeAt C 0 (chC c).toList) := hid fun Y hY => by
    have h1 := (hY.block C (lt_of_block HC1.out)).trans HC1.out
    exact ⟨by rw [cell_of_row _ _ _ _ _ _ h1]; rfl, range_of_row h1 0 _ fun j v hv => by rw [Nat.zero_add]; simpa using hv⟩
  refine wp_region_held_drew (S := fun Y => Y.cell? ⟨C, 0, none⟩ = some (.int .i64 c.k) ∧ Y.rangeAt C 0 (chC c).toList) (by kernel_rfl) (SW.out _ ((Below.refl _ _).drew)) (fun hHeld => ?_)
  refine wpAnyH_take (i := 0) (v := ?av0) rfl (by kernel_rfl) (by kernel_rfl) (by kernel_rfl) (fun _ _ _ h => h) (Or.inl ⟨by rfl, ?ay0⟩) (by assumption) ?ar0
  case ay0 => (intro w hSw; (try dsimp only at hSw); go_simp; try with_reducible rfl)
  (try simp only [Act.put, putS])
  refine wpAnyH_take (i := 1) (v := ?av1) rfl (by kernel_rfl) (by kernel_rfl) (by kernel_rfl) (fun _ _ _ h => h) (Or.inl ⟨by rfl, ?ay1⟩) (by assumption) ?ar1
  case ay1 => (intro w hSw; (try dsimp only at hSw); go_simp; try with_reducible rfl)
  (try simp only [Act.put, putS])
  refine wpAnyH_ready (rs := [2]) (by kernel_rfl) (by simp) ?_
  refine AllReadyH.cons rfl (fun K hK => ?_) AllReadyH.nil
  rw [if_pos (by rfl)]
  go_wp2_with fail
  refine (isKind_any c.k _).mono ?_
  rw [HAK.out]
  rintro e wx ⟨rfl, hx⟩
  replace hx := hx.symm
  subst hx
  refine hK.out _ _ (SW.out _ ((Below.refl _ _).drew)) (fun hHeld => ?_)
  try clear hK K
  (try simp only [Act.put, putS])
  refine wpAnyH_take (i := 3) (v := ?av3) rfl (by kernel_rfl) (by kernel_rfl) (by kernel_rfl) (fun _ _ _ h => h) (Or.inl ⟨by rfl, ?ay3⟩) (by assumption) ?ar3
  case ay3 => (intro w hSw; (try dsimp only at hSw); go_simp; try with_reducible rfl)
  (try simp only [Act.put, putS])
  refine wpAnyH_take (i := 4) (v := ?av4) rfl (by kernel_rfl) (by kernel_rfl) (by kernel_rfl) (fun _ _ _ h => h) (Or.inl ⟨by rfl, ?ay4⟩) (by assumption) ?ar4
  case ay4 => (intro w hSw; (try dsimp only at hSw); go_simp; try with_reducible rfl)
  (try simp only [Act.put, putS])
  refine wpAnyH_take (i := 5) (v := .agg (chC c).toList.toArray) rfl (by kernel_rfl) (by kernel_rfl) (by kernel_rfl) (fun _ _ _ h => h) (yieldsIf_load_mid rfl _ _ rfl C 0 rfl (chC c).toList dC (fun Y hY => hY.2) hdC1 hdC2 Try.sizeCh) (by assumption) ?_
  (try simp only [Act.put, putS])
  refine wpAnyH_take (i := 6) (v := .agg (chC c).toList.toArray) rfl (by kernel_rfl) (by kernel_rfl) (by kernel_rfl) (fun _ _ _ h => h) (yieldsIf_load_mid rfl _ _ rfl C 0 rfl (chC c).toList dC (fun Y hY => hY.2) hdC1 hdC2 Try.sizeCh) (by assumption) ?_
  (try simp only [Act.put, putS])
  refine wpAnyH_ready (rs := [7]) (by kernel_rfl) (by simp) ?_
  refine AllReadyH.cons rfl (fun K hK => ?_) AllReadyH.nil
  rw [if_pos (by rfl)]
  go_wp2_with fail
  refine (named_any c _).mono ?_
  rw [HNM.out]
  rintro e w2 ⟨rfl, hb2⟩
  have B12 := hid (((Below.refl w1.heap.size w1).drew).trans hb2)
  clear hb2
  refine hK.out _ _ (SW.out _ B12.out) (fun hHeld => ?_)
  try clear hK K
  (try simp only [Act.put, putS])
  refine wpAnyH_take (i := 8) (v := .bool false) rfl (by kernel_rfl) (by kernel_rfl) (by kernel_rfl) (fun _ _ _ h => h) (Or.inl ⟨by rfl, ?ne8⟩) (by assumption) ?nr8
  case ne8 =>
    intro Y hY
    exact exec_bin rfl rfl rfl (run_eqGuard_agg _ _ _ _ _ _ _ Try.eqgCh) ((run_neq_ch c.k c.sh c.ot c.at' c.out c.in' c.k c.sh c.ot c.at' c.out c.in' Y).trans (by simp))
  (try simp only [Act.put, putS])
  refine wpAnyH_take (i := 9) (v := ?dv9) rfl (by kernel_rfl) (by kernel_rfl) (by kernel_rfl) (fun _ _ _ h => h) (Or.inl ⟨by rfl, ?dy9⟩) (by assumption) ?dr9
  case dy9 => (intro w hSw; (try dsimp only at hSw); go_simp; try with_reducible rfl)
  (try simp only [Act.put, putS])
  refine wpAnyH_done (by kernel_rfl) ?_ _
  have H2 := hid (H.out.below (HB1.out.trans (B12.out.mono HB1.out.size)))
  have B2 := hid (HB1.out.trans (B12.out.mono HB1.out.size))
  have hC2 := (B12.out.block C (lt_of_block HC1.out)).trans HC1.out
  clear H SW hHeld B12 HC1 HB1 HAK
  have a0 : w2.cell? ⟨C, 0, none⟩ = some (.int .i64 c.k) := by rw [cell_of_row _ _ _ _ _ _ hC2]; rfl
  unfold chC at hC2
  go_wp2_with (first | (refine wpl_loadK rfl _ rfl C rfl _ _ _ rfl hC2 ?_) | (go_at_call 27; refine (gone_down b wb mb n _ D N _ X c _ H2.out.m HO.out).mono ?_; rintro e w3 ⟨rfl, hb3⟩; have B3 := hid (B2.out.trans (hb3.mono B2.out.size)); clear hb3))
  go_ret
  exact ⟨rfl, B3.out⟩
theorem AtM.congr {w : World} {b wb mb n : Nat} {ov : Value} {D : DataW Value} {N : AtN} {W : List Pc} {X Y : List SX} (h : AtM w b wb mb n ov D N W X) (he : ∀ x, x ∈ Y ↔ x ∈ X) : AtM w b wb mb n ov D N W Y :=
  ⟨h.box, h.opn, h.whr, h.own, h.sm.congr he, fun x hx => h.mem x ((he x).1 hx)⟩
theorem len_one {α : Type} (l : List α) (h : l.length = 1) : ∃ y, l = [y] := by
  match l, h with
  | [y], _ => exact ⟨y, rfl⟩
theorem len_two {α : Type} (l : List α) (h : l.length = 2) : ∃ u v, l = [u, v] := by
  match l, h with
  | [u, v], _ => exact ⟨u, v, rfl⟩
/-- What gone finds: one shard; two. -/
theorem gone_one (b wb mb n : Nat) (ov : Value) (D : DataW Value) (N : AtN) (W : List Pc) (X : List SX) (c : ChD) (x : SX) (w : World) (h : AtM w b wb mb n ov D N W X) (ho : N.op = []) (hs : I64 c.sh) (hot : I64 c.ot) (h2 : c.k ≠ 2) (hx : x ∈ X) (hxi : x.s.id = c.sh) (hd : ∀ y ∈ X, y.s.id = x.s.id → y = x) :
    Calls Try.prog 27 #[.pointer (some ⟨b, 0, none⟩), chV c] w fun e w' => ∃ va vc, e = .returned (.tuple #[.slice va 1 vc, .int .i64 0]) ∧ ShR w' (.slice va 1 vc) [x] ∧ Below w.heap.size w w' := by
  refine (gone_any b wb mb n ov D N W X c w h ho hs hot).mono ?_
  rintro e w' ⟨hg, hb⟩
  have hi : idsD c = [c.sh] := by unfold idsD; rw [if_neg h2]
  rw [hi] at hg
  rcases hg with ⟨G, h1, h3, va, vc, rfl, h4⟩ | ⟨⟨i, hi, hno⟩, -⟩
  · obtain ⟨y, rfl⟩ : ∃ y, G = [y] := len_one _ (by have := congrArg List.length h1; rwa [List.length_map] at this)
    have e : y = x := hd y (h3 y (by simp)) (by simp at h1; rw [h1, hxi])
    subst e
    exact ⟨va, vc, rfl, ⟨own_lower h4 (Nat.zero_le _), fun z hz => by rw [List.mem_singleton.1 hz]; exact (h.mem y hx).below hb⟩, hb⟩
  · simp at hi
    exact absurd (hxi.trans hi.symm) (hno x hx)
theorem gone_two (b wb mb n : Nat) (ov : Value) (D : DataW Value) (N : AtN) (W : List Pc) (X : List SX) (c : ChD) (x y : SX) (w : World) (h : AtM w b wb mb n ov D N W X) (ho : N.op = []) (hs : I64 c.sh) (hot : I64 c.ot) (h2 : c.k = 2) (hx : x ∈ X) (hxi : x.s.id = c.sh) (hd : ∀ z ∈ X, z.s.id = x.s.id → z = x) (hy : y ∈ X) (hyi : y.s.id = c.ot) (hdy : ∀ z ∈ X, z.s.id = y.s.id → z = y) :
    Calls Try.prog 27 #[.pointer (some ⟨b, 0, none⟩), chV c] w fun e w' => ∃ va vc, e = .returned (.tuple #[.slice va 2 vc, .int .i64 0]) ∧ ShR w' (.slice va 2 vc) [x, y] ∧ Below w.heap.size w w' := by
  refine (gone_any b wb mb n ov D N W X c w h ho hs hot).mono ?_
  rintro e w' ⟨hg, hb⟩
  have hi : idsD c = [c.sh, c.ot] := by unfold idsD; rw [if_pos h2]
  rw [hi] at hg
  rcases hg with ⟨G, h1, h3, va, vc, rfl, h4⟩ | ⟨⟨i, hi, hno⟩, -⟩
  · obtain ⟨u, v, rfl⟩ : ∃ u v, G = [u, v] := len_two _ (by have := congrArg List.length h1; rwa [List.length_map] at this)
    simp at h1
    have e1 : u = x := hd u (h3 u (by simp)) (by rw [h1.1, hxi])
    have e2 : v = y := hdy v (h3 v (by simp)) (by rw [h1.2, hyi])
    subst e1 e2
    exact ⟨va, vc, rfl, ⟨own_lower h4 (Nat.zero_le _), fun z hz => by
      simp at hz
      rcases hz with rfl | rfl
      · exact (h.mem _ hx).below hb
      · exact (h.mem _ hy).below hb⟩, hb⟩
  · simp at hi
    rcases hi with rfl | rfl
    · exact absurd hxi (hno x hx)
    · exact absurd hyi (hno y hy)
/-- What Apply leaves where it makes new shards. -/
def ApK (b wb mb n : Nat) (N : AtN) (P G Q : List SX) (sp : List Sp) (ml : List Int) (w : World) (e : Ending) (w' : World) : Prop :=
  ∃ ov' D' mv pvo, e = .returned (.int .i64 0) ∧ At w' b wb mb (n + sp.length) ov' D' ⟨N.bl, N.ep + 1, N.nx + sp.length, opD N.nx sp.length⟩ (P ++ nwX N.nx ml (G.map fun x => x.or.o) mv pvo sp ++ Q) ∧ Tr (AtR b wb mb) w w'
set_option maxRecDepth 100000 in
set_option maxHeartbeats 8000000 in
theorem apply_one (b wb mb n : Nat) (ov : Value) (D : DataW Value) (N : AtN) (X P Q G : List SX) (S : ShD) (mv pv : Value) (c : ChD) (w : World) (h : At w b wb mb n ov D N X) (hk : akB c.k = true) (hnm : namD c = c) (hk2 : c.k ≠ 2) (hk3 : c.k ≠ 3) (hk5 : c.k ≠ 5) (ho : N.op = []) (hGe : G = [⟨S, mv, pv⟩]) (hGX : ∀ z ∈ G, z ∈ X) (hxi : S.id = c.sh) (hd : ∀ y ∈ X, y.s.id = S.id → y = ⟨S, mv, pv⟩) (hfit : fitB c S S = true)
    (hXI : ∀ x ∈ X, I64 x.s.id) (hn : n ≤ 100000) (hnx : 0 ≤ N.nx ∧ N.nx ≤ 1073741824) (hep : 0 ≤ N.ep ∧ N.ep ≤ 1073741824) (hlt : ∀ x ∈ X, x.s.id < N.nx) (hxl : X.length ≤ 100000) (hsi : ∀ s ∈ spD c S.fr S.to, -9223372036854775808 ≤ s.1 ∧ s.2 ≤ 9223372036854775807) (hsI : I64 c.sh) (hoI : I64 c.ot) (hmb : S.mem.length ≤ 1000000)
    (hcan : ∀ mv' pv' W', Can W' → Chs (X.map SX.pc) ((nwX N.nx S.mem (G.map fun x => x.or.o) mv' pv' (spD c S.fr S.to)).map SX.pc) W' → W' = (P ++ nwX N.nx S.mem (G.map fun x => x.or.o) mv' pv' (spD c S.fr S.to) ++ Q).map SX.pc) (hout : ∀ z, z ∈ outX X (G.map (·.s.id)) ↔ z ∈ P ++ Q) :
    Calls Try.prog 7 #[.pointer (some ⟨b, 0, none⟩), chV c] w (ApK b wb mb n N P G Q (spD c S.fr S.to) S.mem w) := by
  have HO := hid ho
  have HGX : Hid (∀ z ∈ G, z ∈ X) := hid hGX
  have HG2 : Hid (G.length ≤ 2) := hid (by rw [hGe]; simp)
  have HXI := hid hXI
  have HN9 := hid hn
  have HNX := hid hnx
  have HEP := hid hep
  have HLT := hid hlt
  have HXL := hid hxl
  have HSI := hid hsi
  have HCAN := hid hcan
  have HOUT := hid hout
  have HK3 := hid hk3
  have HSH := hid hsI
  have HOT := hid hoI
  have HMB := hid hmb
  have g5 : (c.k == 5) = false := by simpa using hk5
  obtain ⟨⟨ma, mc, rfl⟩, ⟨pa, pc, rfl⟩⟩ := (show ShM w S mv pv from h.m.mem ⟨S, mv, pv⟩ (hGX _ (by rw [hGe]; simp))).shape
  have HGN := hid (fun W (hW : AtM W b wb mb n ov D N (X.map SX.pc) X) => gone_one b wb mb n ov D N (X.map SX.pc) X c ⟨S, .slice ma S.mem.length mc, .slice pa S.past.length pc⟩ W hW ho hsI hoI hk2 (hGX _ (by rw [hGe]; simp)) hxi hd)
  have HFT := hid (fun W v (hW : ShR W v G) => (fits_one c S _ _ v W hk3 hk2 (by rw [hGe] at hW; exact hW)).mono (fun e w' ⟨he, hb⟩ => show e = Ending.returned (.bool true) ∧ Below W.heap.size W w' from ⟨by rw [he, hfit], hb⟩))
  have HSPN := hid (fun W v (hW : ShR W v G) => spans_one c S _ _ v W (by rw [hGe] at hW; exact hW))
  have HMEM := hid (fun W v (hW : ShR W v G) => members_any c S _ _ W hk3 (show ShM W S (.slice ma S.mem.length mc) (.slice pa S.past.length pc) from hW.m ⟨S, .slice ma S.mem.length mc, .slice pa S.past.length pc⟩ (by rw [hGe]; simp)) hmb)
  have HSP1 : Hid (1 ≤ (spD c S.fr S.to).length) := hid (by unfold spD; split <;> simp)
  have HSP2 : Hid ((spD c S.fr S.to).length ≤ 2) := hid (by unfold spD; split <;> simp)
  have HGE := hid hGe
  generalize spD c S.fr S.to = sp at *
  have HRG : Hid (∀ W g n vc, ShR W (.slice (some ⟨g, 0, none⟩) n vc) G → W.rangeAt g 0 [.int .i64 S.id, .int .i64 S.fr, .int .i64 S.to, .slice ma S.mem.length mc, .slice pa S.past.length pc]) := hid (by rw [hGe]; intro W g n vc hW; exact hW.range 0 (by simp))
  clear ho hGX hXI hn hnx hep hlt hxl hsi hcan hout hk3 hk2 hk5 hsI hoI hmb hfit hd hxi hGe
  obtain ⟨va, vc, rfl⟩ := h.m.shape
  obtain ⟨dC, hdC1, hdC2⟩ := Try.rowCh
  obtain ⟨w1, hw1⟩ : ∃ w1, w1 = w.alloc (.cells (chC c) 24) := ⟨_, rfl⟩
  have HB1 : Hid (Below w.heap.size w w1) := hid (by rw [hw1]; exact (Below.refl _ _).alloc (Nat.le_refl _) _)
  have HC1 : Hid (w1.heap[w.heap.size]? = some (.cells (chC c) 24 (0, 0))) := hid (by rw [hw1]; exact heap_alloc_new _ _)
  have H := hid h
  have HAK := hid hk
  have HNM := hid hnm
  have HW1 := hid hw1
  clear h hk hnm hw1
  unfold chC at HW1
  unfold chV
  go_enter Try.func7, Try.ntmps7
  go_upto_region 1 with fail
  rw [← HW1.out]
  clear HW1
  obtain ⟨C, hCe⟩ : ∃ C, C = w.heap.size := ⟨_, rfl⟩
  rw [← hCe]
  rw [← hCe] at HC1
  have HCE : Hid (w.heap.size ≤ C) := hid (by omega)
  clear hCe
  go_upto_region 3 with fail
  have SW : Hid (∀ Y, Below w1.heap.size w1 Y → Y.cell? ⟨C, 0, none⟩ = some (.int .i64 c.k) ∧ Y.rangeAt C 0 (chC c).toList) := hid fun Y hY => by
    have h1 := (hY.block C (lt_of_block HC1.out)).trans HC1.out
    exact ⟨by rw [cell_of_row _ _ _ _ _ _ h1]; rfl, range_of_row h1 0 _ fun j v hv => by rw [Nat.zero_add]; simpa using hv⟩
  refine wp_region_held_drew (S := fun Y => Y.cell? ⟨C, 0, none⟩ = some (.int .i64 c.k) ∧ Y.rangeAt C 0 (chC c).toList) (by kernel_rfl) (SW.out _ ((Below.refl _ _).drew)) (fun hHeld => ?_)
  refine wpAnyH_take (i := 0) (v := ?av0) rfl (by kernel_rfl) (by kernel_rfl) (by kernel_rfl) (fun _ _ _ h => h) (Or.inl ⟨by rfl, ?ay0⟩) (by assumption) ?ar0
  case ay0 => (intro w hSw; (try dsimp only at hSw); go_simp; try with_reducible rfl)
  (try simp only [Act.put, putS])
  refine wpAnyH_take (i := 1) (v := ?av1) rfl (by kernel_rfl) (by kernel_rfl) (by kernel_rfl) (fun _ _ _ h => h) (Or.inl ⟨by rfl, ?ay1⟩) (by assumption) ?ar1
  case ay1 => (intro w hSw; (try dsimp only at hSw); go_simp; try with_reducible rfl)
  (try simp only [Act.put, putS])
  refine wpAnyH_ready (rs := [2]) (by kernel_rfl) (by simp) ?_
  refine AllReadyH.cons rfl (fun K hK => ?_) AllReadyH.nil
  rw [if_pos (by rfl)]
  go_wp2_with fail
  refine (isKind_any c.k _).mono ?_
  rw [HAK.out]
  rintro e wx ⟨rfl, hx⟩
  replace hx := hx.symm
  subst hx
  refine hK.out _ _ (SW.out _ ((Below.refl _ _).drew)) (fun hHeld => ?_)
  try clear hK K
  (try simp only [Act.put, putS])
  refine wpAnyH_take (i := 3) (v := ?av3) rfl (by kernel_rfl) (by kernel_rfl) (by kernel_rfl) (fun _ _ _ h => h) (Or.inl ⟨by rfl, ?ay3⟩) (by assumption) ?ar3
  case ay3 => (intro w hSw; (try dsimp only at hSw); go_simp; try with_reducible rfl)
  (try simp only [Act.put, putS])
  refine wpAnyH_take (i := 4) (v := ?av4) rfl (by kernel_rfl) (by kernel_rfl) (by kernel_rfl) (fun _ _ _ h => h) (Or.inl ⟨by rfl, ?ay4⟩) (by assumption) ?ar4
  case ay4 => (intro w hSw; (try dsimp only at hSw); go_simp; try with_reducible rfl)
  (try simp only [Act.put, putS])
  refine wpAnyH_take (i := 5) (v := .agg (chC c).toList.toArray) rfl (by kernel_rfl) (by kernel_rfl) (by kernel_rfl) (fun _ _ _ h => h) (yieldsIf_load_mid rfl _ _ rfl C 0 rfl (chC c).toList dC (fun Y hY => hY.2) hdC1 hdC2 Try.sizeCh) (by assumption) ?_
  (try simp only [Act.put, putS])
  refine wpAnyH_take (i := 6) (v := .agg (chC c).toList.toArray) rfl (by kernel_rfl) (by kernel_rfl) (by kernel_rfl) (fun _ _ _ h => h) (yieldsIf_load_mid rfl _ _ rfl C 0 rfl (chC c).toList dC (fun Y hY => hY.2) hdC1 hdC2 Try.sizeCh) (by assumption) ?_
  (try simp only [Act.put, putS])
  refine wpAnyH_ready (rs := [7]) (by kernel_rfl) (by simp) ?_
  refine AllReadyH.cons rfl (fun K hK => ?_) AllReadyH.nil
  rw [if_pos (by rfl)]
  go_wp2_with fail
  refine (named_any c _).mono ?_
  rw [HNM.out]
  rintro e w2 ⟨rfl, hb2⟩
  have B12 := hid (((Below.refl w1.heap.size w1).drew).trans hb2)
  clear hb2
  refine hK.out _ _ (SW.out _ B12.out) (fun hHeld => ?_)
  try clear hK K
  (try simp only [Act.put, putS])
  refine wpAnyH_take (i := 8) (v := .bool false) rfl (by kernel_rfl) (by kernel_rfl) (by kernel_rfl) (fun _ _ _ h => h) (Or.inl ⟨by rfl, ?ne8⟩) (by assumption) ?nr8
  case ne8 =>
    intro Y hY
    exact exec_bin rfl rfl rfl (run_eqGuard_agg _ _ _ _ _ _ _ Try.eqgCh) ((run_neq_ch c.k c.sh c.ot c.at' c.out c.in' c.k c.sh c.ot c.at' c.out c.in' Y).trans (by simp))
  (try simp only [Act.put, putS])
  refine wpAnyH_take (i := 9) (v := ?dv9) rfl (by kernel_rfl) (by kernel_rfl) (by kernel_rfl) (fun _ _ _ h => h) (Or.inl ⟨by rfl, ?dy9⟩) (by assumption) ?dr9
  case dy9 => (intro w hSw; (try dsimp only at hSw); go_simp; try with_reducible rfl)
  (try simp only [Act.put, putS])
  refine wpAnyH_done (by kernel_rfl) ?_ _
  have H2 := hid (H.out.below (HB1.out.trans (B12.out.mono HB1.out.size)))
  have B2 := hid (HB1.out.trans (B12.out.mono HB1.out.size))
  have hC2 := (B12.out.block C (lt_of_block HC1.out)).trans HC1.out
  clear H SW hHeld B12 HC1 HB1 HAK
  have a0 : w2.cell? ⟨C, 0, none⟩ = some (.int .i64 c.k) := by rw [cell_of_row _ _ _ _ _ _ hC2]; rfl
  have HC2 := hid hC2
  unfold chC at hC2
  go_upto_region 12 with (first | (go_at_call 27; refine (HGN.out _ H2.out.m).mono ?_; rintro e w3 ⟨va3, vc3, rfl, hr3, hb3⟩; have R3 := hid hr3; have A3 := hid (H2.out.below hb3); have B3 := hid (B2.out.trans (hb3.mono B2.out.size)); have HC3 := hid ((hb3.block C (lt_of_block HC2.out)).trans HC2.out); have hC3 := (hb3.block C (lt_of_block hC2)).trans hC2; clear hr3 hb3 hC2) | (go_at_call 28; refine (HFT.out _ _ (by rw [HGE.out]; exact R3.out)).mono ?_; rintro e w4 ⟨rfl, hb4⟩; have R4 : Hid (ShR w4 (.slice va3 1 vc3) G) := hid (by rw [HGE.out]; exact R3.out.below hb4); have A4 := hid (A3.out.below hb4); have B4 := hid (B3.out.trans (hb4.mono B3.out.size)); have HC4 := hid ((hb4.block C (lt_of_block HC3.out)).trans HC3.out); clear hb4) | (refine wpl_loadK rfl _ rfl C rfl _ _ _ rfl hC2 ?_) | (refine wpl_loadK rfl _ rfl C rfl _ _ _ rfl hC3 ?_))
  obtain ⟨g, rfl⟩ : ∃ g, va3 = some ⟨g, 0, none⟩ := own_some R4.out.o (by rw [HGE.out]; simp)
  clear R3 A3 B3 HC3 hC3 HC2 H2 B2 HGN HFT
  have c2 : w4.cell? ⟨b, 2, none⟩ = some (.int .i64 N.nx) := A4.out.m.cell 2
  have c1 : w4.cell? ⟨b, 1, none⟩ = some (.int .i64 N.ep) := A4.out.m.cell 1
  have hn1 : ¬ 1073741824 < N.nx := by have := HNX.out; omega
  have hn2 : ¬ 1073741824 < N.ep := by have := HEP.out; omega
  go_upto_region 14 with fail
  clear c1 c2 hn1 hn2
  have SW4 : Hid (∀ Y, Below w4.heap.size w4 Y → Y.rangeAt C 0 (chC c).toList ∧ Y.rangeAt g 0 [.int .i64 S.id, .int .i64 S.fr, .int .i64 S.to, .slice ma S.mem.length mc, .slice pa S.past.length pc]) := hid fun Y hY => by
    have h1 := (hY.block C (lt_of_block HC4.out)).trans HC4.out
    exact ⟨range_of_row h1 0 _ fun j v hv => by rw [Nat.zero_add]; simpa using hv, HRG.out _ _ _ _ (R4.out.below hY)⟩
  have SX7 : Hid (∀ Y, Tr (AtR b wb mb) w4 Y → Y.rangeAt C 0 (chC c).toList ∧ Y.rangeAt g 0 [.int .i64 S.id, .int .i64 S.fr, .int .i64 S.to, .slice ma S.mem.length mc, .slice pa S.past.length pc]) := hid fun Y hY => by
    have h1 := (hY.block C (lt_of_block HC4.out) (A4.out.m.nob HC4.out (by decide) (by decide))).trans HC4.out
    exact ⟨range_of_row h1 0 _ fun j v hv => by rw [Nat.zero_add]; simpa using hv, HRG.out _ _ _ _ (ShR.tr A4.out.m hY R4.out)⟩
  obtain ⟨dS, hdS1, hdS2⟩ := Try.rowSh
  refine wp_region_held_drew (S := fun Y => Y.rangeAt C 0 (chC c).toList ∧ Y.rangeAt g 0 [.int .i64 S.id, .int .i64 S.fr, .int .i64 S.to, .slice ma S.mem.length mc, .slice pa S.past.length pc]) (by kernel_rfl) (SW4.out _ ((Below.refl _ _).drew)) (fun hHeld => ?_)
  refine wpAnyH_take (i := 0) (v := ?gv0) rfl (by kernel_rfl) (by kernel_rfl) (by kernel_rfl) (fun _ _ _ h => h) (Or.inl ⟨by rfl, ?gy0⟩) (by assumption) ?gr0
  case gy0 => (intro w hSw; (try dsimp only at hSw); go_simp; try with_reducible rfl)
  (try simp only [Act.put, putS])
  refine wpAnyH_take (i := 1) (v := ?gv1) rfl (by kernel_rfl) (by kernel_rfl) (by kernel_rfl) (fun _ _ _ h => h) (Or.inl ⟨by rfl, ?gy1⟩) (by assumption) ?gr1
  case gy1 => (intro w hSw; (try dsimp only at hSw); go_simp; try with_reducible rfl)
  (try simp only [Act.put, putS])
  refine wpAnyH_take (i := 2) (v := .agg (chC c).toList.toArray) rfl (by kernel_rfl) (by kernel_rfl) (by kernel_rfl) (fun _ _ _ h => h) (yieldsIf_load_mid rfl _ _ rfl C 0 rfl (chC c).toList dC (fun Y hY => hY.1) hdC1 hdC2 Try.sizeCh) (by assumption) ?_
  (try simp only [Act.put, putS])
  refine wpAnyH_take (i := 3) (v := ?hv3) rfl (by kernel_rfl) (by kernel_rfl) (by kernel_rfl) (fun _ _ _ h => h) (Or.inl ⟨by rfl, ?hy3⟩) (by assumption) ?hr3
  case hy3 => (intro w hSw; (try dsimp only at hSw); go_simp; try with_reducible rfl)
  (try simp only [Act.put, putS])
  refine wpAnyH_take (i := 5) (v := .agg (chC c).toList.toArray) rfl (by kernel_rfl) (by kernel_rfl) (by kernel_rfl) (fun _ _ _ h => h) (yieldsIf_load_mid rfl _ _ rfl C 0 rfl (chC c).toList dC (fun Y hY => hY.1) hdC1 hdC2 Try.sizeCh) (by assumption) ?_
  (try simp only [Act.put, putS])
  refine wpAnyH_take (i := 6) (v := ?iv6) rfl (by kernel_rfl) (by kernel_rfl) (by kernel_rfl) (fun _ _ _ h => h) (Or.inl ⟨by rfl, ?iy6⟩) (by assumption) ?ir6
  case iy6 => (intro w hSw; (try dsimp only at hSw); go_simp; try with_reducible rfl)
  (try simp only [Act.put, putS])
  refine wpAnyH_take (i := 7) (v := ?iv7) rfl (by kernel_rfl) (by kernel_rfl) (by kernel_rfl) (fun _ _ _ h => h) (Or.inl ⟨by rfl, ?iy7⟩) (by assumption) ?ir7
  case iy7 => (intro w hSw; (try dsimp only at hSw); go_simp; try with_reducible rfl)
  (try simp only [Act.put, putS])
  refine wpAnyH_take (i := 8) (v := .agg #[.int .i64 S.id, .int .i64 S.fr, .int .i64 S.to, .slice ma S.mem.length mc, .slice pa S.past.length pc]) rfl (by kernel_rfl) (by kernel_rfl) (by kernel_rfl) (fun _ _ _ h => h) (yieldsIf_load_mid rfl _ _ rfl g 0 (by go_simp) [.int .i64 S.id, .int .i64 S.fr, .int .i64 S.to, .slice ma S.mem.length mc, .slice pa S.past.length pc] dS (fun Y hY => hY.2) hdS1 hdS2 Try.sizeSh) (by assumption) ?_
  (try simp only [Act.put, putS])
  refine wpAnyH_ready (rs := [4]) (by kernel_rfl) (by simp) ?_
  refine AllReadyH.cons rfl (fun K hK => ?_) AllReadyH.nil
  rw [if_pos (by rfl)]
  go_wp2_with fail
  refine (HSPN.out _ _ (R4.out.below ((Below.refl _ _).drew))).mono ?_
  rintro e w5 ⟨va5, vc5, rfl, ho5, hb5⟩
  have B5 := hid (((Below.refl w4.heap.size w4).drew).trans hb5)
  have O5 := hid (show OwnS w5 0 _ sp from own_lower ho5 (Nat.zero_le _))
  clear ho5 hb5
  refine hK.out _ _ (SW4.out _ B5.out) (fun hHeld => ?_)
  try clear hK K
  (try simp only [Act.put, putS])
  refine wpAnyH_ready (rs := [9]) (by kernel_rfl) (by simp) ?_
  refine AllReadyH.cons rfl (fun K hK => ?_) AllReadyH.nil
  rw [if_pos (by rfl)]
  go_wp2_with fail
  refine (HMEM.out _ _ (R4.out.below B5.out)).mono ?_
  rintro e w6 ⟨va6, vc6, rfl, ho6, hb6⟩
  have B6 := hid (B5.out.trans (hb6.mono B5.out.size))
  have O6 := hid (own_lower ho6 (Nat.zero_le _))
  have O56 := hid (show OwnS w6 0 _ sp from own_below O5.out hb6)
  clear ho6 hb6
  refine hK.out _ _ (SW4.out _ B6.out) (fun hHeld => ?_)
  try clear hK K
  (try simp only [Act.put, putS])
  refine wpAnyH_ready (rs := [10]) (by kernel_rfl) (by simp) ?_
  refine AllReadyH.cons rfl (fun K hK => ?_) AllReadyH.nil
  rw [if_pos (by rfl)]
  go_wp2_with fail
  refine (exchange_any b wb mb n _ D N (X.map SX.pc) X G sp S.mem _ _ _ _ (A4.out.m.below B6.out) (R4.out.below B6.out) HGX.out HG2.out HXI.out O56.out O6.out HO.out (A4.out.nil HO.out) HN9.out HSP2.out HNX.out HEP.out HLT.out (by rw [List.length_map]; exact HXL.out) HSI.out).mono ?_
  rintro e w7 ⟨ov7, D7, W7, pvo, rfl, ha7, hc7, ht7⟩
  have A7 := hid ha7
  have C7 := hid hc7
  have T7 : Hid (Tr (AtR b wb mb) w4 w7) := hid ((Tr.below B6.out).trans ht7)
  have S7 := hid (SX7.out _ T7.out)
  clear ha7 hc7 ht7
  refine hK.out _ _ S7.out (fun hHeld => ?_)
  try clear hK K
  (try simp only [Act.put, putS])
  refine wpAnyH_done (by kernel_rfl) ?_ _
  have HF : Hid (At w7 b wb mb (n + sp.length) ov7 D7 ⟨N.bl, N.ep + 1, N.nx + sp.length, opD N.nx sp.length⟩ (P ++ nwX N.nx S.mem (G.map fun x => x.or.o) (.slice va6 S.mem.length vc6) pvo sp ++ Q)) := hid (by
    have hw := HCAN.out _ pvo W7 A7.out.whr.can C7.out
    refine ⟨?_, fun h0 => ?_⟩
    · rw [← hw]
      refine A7.out.congr fun z => ?_
      have := HOUT.out z
      simp only [List.mem_append] at this ⊢
      rw [this]
      constructor
      · rintro ((h | h) | h)
        · exact .inr (.inl h)
        · exact .inl h
        · exact .inr (.inr h)
      · rintro (h | h | h)
        · exact .inl (.inr h)
        · exact .inl (.inl h)
        · exact .inr h
    · have : (opD N.nx sp.length).length = 0 := by rw [show opD N.nx sp.length = [] from h0]; rfl
      rw [opD_len] at this
      have := HSP1.out
      omega)
  go_wp2_with fail
  go_ret
  exact ⟨ov7, D7, _, pvo, rfl, HF.out, (Tr.below B4.out).trans T7.out⟩
set_option maxRecDepth 100000 in
set_option maxHeartbeats 8000000 in
theorem apply_two (b wb mb n : Nat) (ov : Value) (D : DataW Value) (N : AtN) (X P Q G : List SX) (S T : ShD) (mv pv mw pw : Value) (c : ChD) (w : World) (h : At w b wb mb n ov D N X) (hk : akB c.k = true) (hnm : namD c = c) (hk2 : c.k = 2) (ho : N.op = []) (hGe : G = [⟨S, mv, pv⟩, ⟨T, mw, pw⟩]) (hGX : ∀ z ∈ G, z ∈ X) (hxi : S.id = c.sh) (hd : ∀ y ∈ X, y.s.id = S.id → y = ⟨S, mv, pv⟩) (hyi : T.id = c.ot) (hdy : ∀ y ∈ X, y.s.id = T.id → y = ⟨T, mw, pw⟩) (hfit : fitB c S T = true)
    (hXI : ∀ x ∈ X, I64 x.s.id) (hn : n ≤ 100000) (hnx : 0 ≤ N.nx ∧ N.nx ≤ 1073741824) (hep : 0 ≤ N.ep ∧ N.ep ≤ 1073741824) (hlt : ∀ x ∈ X, x.s.id < N.nx) (hxl : X.length ≤ 100000) (hsi : ∀ s ∈ spD c S.fr T.to, -9223372036854775808 ≤ s.1 ∧ s.2 ≤ 9223372036854775807) (hsI : I64 c.sh) (hoI : I64 c.ot) (hmb : S.mem.length ≤ 1000000)
    (hcan : ∀ mv' pv' W', Can W' → Chs (X.map SX.pc) ((nwX N.nx S.mem (G.map fun x => x.or.o) mv' pv' (spD c S.fr T.to)).map SX.pc) W' → W' = (P ++ nwX N.nx S.mem (G.map fun x => x.or.o) mv' pv' (spD c S.fr T.to) ++ Q).map SX.pc) (hout : ∀ z, z ∈ outX X (G.map (·.s.id)) ↔ z ∈ P ++ Q) :
    Calls Try.prog 7 #[.pointer (some ⟨b, 0, none⟩), chV c] w (ApK b wb mb n N P G Q (spD c S.fr T.to) S.mem w) := by
  have hk3 : c.k ≠ 3 := by omega
  have hk5 : c.k ≠ 5 := by omega
  have HO := hid ho
  have HGX : Hid (∀ z ∈ G, z ∈ X) := hid hGX
  have HG2 : Hid (G.length ≤ 2) := hid (by rw [hGe]; simp)
  have HXI := hid hXI
  have HN9 := hid hn
  have HNX := hid hnx
  have HEP := hid hep
  have HLT := hid hlt
  have HXL := hid hxl
  have HSI := hid hsi
  have HCAN := hid hcan
  have HOUT := hid hout
  have HK3 := hid hk3
  have HSH := hid hsI
  have HOT := hid hoI
  have HMB := hid hmb
  have g5 : (c.k == 5) = false := by simpa using hk5
  obtain ⟨⟨ma, mc, rfl⟩, ⟨pa, pc, rfl⟩⟩ := (show ShM w S mv pv from h.m.mem ⟨S, mv, pv⟩ (hGX _ (by rw [hGe]; simp))).shape
  have HGN := hid (fun W (hW : AtM W b wb mb n ov D N (X.map SX.pc) X) => gone_two b wb mb n ov D N (X.map SX.pc) X c ⟨S, .slice ma S.mem.length mc, .slice pa S.past.length pc⟩ ⟨T, mw, pw⟩ W hW ho hsI hoI hk2 (hGX _ (by rw [hGe]; simp)) hxi hd (hGX _ (by rw [hGe]; simp)) hyi hdy)
  have HFT := hid (fun W v (hW : ShR W v G) => (fits_two c S T _ _ _ _ v W hk2 (by rw [hGe] at hW; exact hW)).mono (fun e w' ⟨he, hb⟩ => show e = Ending.returned (.bool true) ∧ Below W.heap.size W w' from ⟨by rw [he, hfit], hb⟩))
  have HSPN := hid (fun W v (hW : ShR W v G) => spans_two c S T _ _ _ _ v W (by omega) (by rw [hGe] at hW; exact hW))
  have HMEM := hid (fun W v (hW : ShR W v G) => members_any c S _ _ W hk3 (show ShM W S (.slice ma S.mem.length mc) (.slice pa S.past.length pc) from hW.m ⟨S, .slice ma S.mem.length mc, .slice pa S.past.length pc⟩ (by rw [hGe]; simp)) hmb)
  have HSP1 : Hid (1 ≤ (spD c S.fr T.to).length) := hid (by unfold spD; split <;> simp)
  have HSP2 : Hid ((spD c S.fr T.to).length ≤ 2) := hid (by unfold spD; split <;> simp)
  have HGE := hid hGe
  generalize spD c S.fr T.to = sp at *
  have HRG : Hid (∀ W g n vc, ShR W (.slice (some ⟨g, 0, none⟩) n vc) G → W.rangeAt g 0 [.int .i64 S.id, .int .i64 S.fr, .int .i64 S.to, .slice ma S.mem.length mc, .slice pa S.past.length pc]) := hid (by rw [hGe]; intro W g n vc hW; exact hW.range 0 (by simp))
  clear ho hGX hXI hn hnx hep hlt hxl hsi hcan hout hk3 hk2 hk5 hsI hoI hmb hfit hd hxi hyi hdy hGe
  obtain ⟨va, vc, rfl⟩ := h.m.shape
  obtain ⟨dC, hdC1, hdC2⟩ := Try.rowCh
  obtain ⟨w1, hw1⟩ : ∃ w1, w1 = w.alloc (.cells (chC c) 24) := ⟨_, rfl⟩
  have HB1 : Hid (Below w.heap.size w w1) := hid (by rw [hw1]; exact (Below.refl _ _).alloc (Nat.le_refl _) _)
  have HC1 : Hid (w1.heap[w.heap.size]? = some (.cells (chC c) 24 (0, 0))) := hid (by rw [hw1]; exact heap_alloc_new _ _)
  have H := hid h
  have HAK := hid hk
  have HNM := hid hnm
  have HW1 := hid hw1
  clear h hk hnm hw1
  unfold chC at HW1
  unfold chV
  go_enter Try.func7, Try.ntmps7
  go_upto_region 1 with fail
  rw [← HW1.out]
  clear HW1
  obtain ⟨C, hCe⟩ : ∃ C, C = w.heap.size := ⟨_, rfl⟩
  rw [← hCe]
  rw [← hCe] at HC1
  have HCE : Hid (w.heap.size ≤ C) := hid (by omega)
  clear hCe
  go_upto_region 3 with fail
  have SW : Hid (∀ Y, Below w1.heap.size w1 Y → Y.cell? ⟨C, 0, none⟩ = some (.int .i64 c.k) ∧ Y.rangeAt C 0 (chC c).toList) := hid fun Y hY => by
    have h1 := (hY.block C (lt_of_block HC1.out)).trans HC1.out
    exact ⟨by rw [cell_of_row _ _ _ _ _ _ h1]; rfl, range_of_row h1 0 _ fun j v hv => by rw [Nat.zero_add]; simpa using hv⟩
  refine wp_region_held_drew (S := fun Y => Y.cell? ⟨C, 0, none⟩ = some (.int .i64 c.k) ∧ Y.rangeAt C 0 (chC c).toList) (by kernel_rfl) (SW.out _ ((Below.refl _ _).drew)) (fun hHeld => ?_)
  refine wpAnyH_take (i := 0) (v := ?av0) rfl (by kernel_rfl) (by kernel_rfl) (by kernel_rfl) (fun _ _ _ h => h) (Or.inl ⟨by rfl, ?ay0⟩) (by assumption) ?ar0
  case ay0 => (intro w hSw; (try dsimp only at hSw); go_simp; try with_reducible rfl)
  (try simp only [Act.put, putS])
  refine wpAnyH_take (i := 1) (v := ?av1) rfl (by kernel_rfl) (by kernel_rfl) (by kernel_rfl) (fun _ _ _ h => h) (Or.inl ⟨by rfl, ?ay1⟩) (by assumption) ?ar1
  case ay1 => (intro w hSw; (try dsimp only at hSw); go_simp; try with_reducible rfl)
  (try simp only [Act.put, putS])
  refine wpAnyH_ready (rs := [2]) (by kernel_rfl) (by simp) ?_
  refine AllReadyH.cons rfl (fun K hK => ?_) AllReadyH.nil
  rw [if_pos (by rfl)]
  go_wp2_with fail
  refine (isKind_any c.k _).mono ?_
  rw [HAK.out]
  rintro e wx ⟨rfl, hx⟩
  replace hx := hx.symm
  subst hx
  refine hK.out _ _ (SW.out _ ((Below.refl _ _).drew)) (fun hHeld => ?_)
  try clear hK K
  (try simp only [Act.put, putS])
  refine wpAnyH_take (i := 3) (v := ?av3) rfl (by kernel_rfl) (by kernel_rfl) (by kernel_rfl) (fun _ _ _ h => h) (Or.inl ⟨by rfl, ?ay3⟩) (by assumption) ?ar3
  case ay3 => (intro w hSw; (try dsimp only at hSw); go_simp; try with_reducible rfl)
  (try simp only [Act.put, putS])
  refine wpAnyH_take (i := 4) (v := ?av4) rfl (by kernel_rfl) (by kernel_rfl) (by kernel_rfl) (fun _ _ _ h => h) (Or.inl ⟨by rfl, ?ay4⟩) (by assumption) ?ar4
  case ay4 => (intro w hSw; (try dsimp only at hSw); go_simp; try with_reducible rfl)
  (try simp only [Act.put, putS])
  refine wpAnyH_take (i := 5) (v := .agg (chC c).toList.toArray) rfl (by kernel_rfl) (by kernel_rfl) (by kernel_rfl) (fun _ _ _ h => h) (yieldsIf_load_mid rfl _ _ rfl C 0 rfl (chC c).toList dC (fun Y hY => hY.2) hdC1 hdC2 Try.sizeCh) (by assumption) ?_
  (try simp only [Act.put, putS])
  refine wpAnyH_take (i := 6) (v := .agg (chC c).toList.toArray) rfl (by kernel_rfl) (by kernel_rfl) (by kernel_rfl) (fun _ _ _ h => h) (yieldsIf_load_mid rfl _ _ rfl C 0 rfl (chC c).toList dC (fun Y hY => hY.2) hdC1 hdC2 Try.sizeCh) (by assumption) ?_
  (try simp only [Act.put, putS])
  refine wpAnyH_ready (rs := [7]) (by kernel_rfl) (by simp) ?_
  refine AllReadyH.cons rfl (fun K hK => ?_) AllReadyH.nil
  rw [if_pos (by rfl)]
  go_wp2_with fail
  refine (named_any c _).mono ?_
  rw [HNM.out]
  rintro e w2 ⟨rfl, hb2⟩
  have B12 := hid (((Below.refl w1.heap.size w1).drew).trans hb2)
  clear hb2
  refine hK.out _ _ (SW.out _ B12.out) (fun hHeld => ?_)
  try clear hK K
  (try simp only [Act.put, putS])
  refine wpAnyH_take (i := 8) (v := .bool false) rfl (by kernel_rfl) (by kernel_rfl) (by kernel_rfl) (fun _ _ _ h => h) (Or.inl ⟨by rfl, ?ne8⟩) (by assumption) ?nr8
  case ne8 =>
    intro Y hY
    exact exec_bin rfl rfl rfl (run_eqGuard_agg _ _ _ _ _ _ _ Try.eqgCh) ((run_neq_ch c.k c.sh c.ot c.at' c.out c.in' c.k c.sh c.ot c.at' c.out c.in' Y).trans (by simp))
  (try simp only [Act.put, putS])
  refine wpAnyH_take (i := 9) (v := ?dv9) rfl (by kernel_rfl) (by kernel_rfl) (by kernel_rfl) (fun _ _ _ h => h) (Or.inl ⟨by rfl, ?dy9⟩) (by assumption) ?dr9
  case dy9 => (intro w hSw; (try dsimp only at hSw); go_simp; try with_reducible rfl)
  (try simp only [Act.put, putS])
  refine wpAnyH_done (by kernel_rfl) ?_ _
  have H2 := hid (H.out.below (HB1.out.trans (B12.out.mono HB1.out.size)))
  have B2 := hid (HB1.out.trans (B12.out.mono HB1.out.size))
  have hC2 := (B12.out.block C (lt_of_block HC1.out)).trans HC1.out
  clear H SW hHeld B12 HC1 HB1 HAK
  have a0 : w2.cell? ⟨C, 0, none⟩ = some (.int .i64 c.k) := by rw [cell_of_row _ _ _ _ _ _ hC2]; rfl
  have HC2 := hid hC2
  unfold chC at hC2
  go_upto_region 12 with (first | (go_at_call 27; refine (HGN.out _ H2.out.m).mono ?_; rintro e w3 ⟨va3, vc3, rfl, hr3, hb3⟩; have R3 := hid hr3; have A3 := hid (H2.out.below hb3); have B3 := hid (B2.out.trans (hb3.mono B2.out.size)); have HC3 := hid ((hb3.block C (lt_of_block HC2.out)).trans HC2.out); have hC3 := (hb3.block C (lt_of_block hC2)).trans hC2; clear hr3 hb3 hC2) | (go_at_call 28; refine (HFT.out _ _ (by rw [HGE.out]; exact R3.out)).mono ?_; rintro e w4 ⟨rfl, hb4⟩; have R4 : Hid (ShR w4 (.slice va3 2 vc3) G) := hid (by rw [HGE.out]; exact R3.out.below hb4); have A4 := hid (A3.out.below hb4); have B4 := hid (B3.out.trans (hb4.mono B3.out.size)); have HC4 := hid ((hb4.block C (lt_of_block HC3.out)).trans HC3.out); clear hb4) | (refine wpl_loadK rfl _ rfl C rfl _ _ _ rfl hC2 ?_) | (refine wpl_loadK rfl _ rfl C rfl _ _ _ rfl hC3 ?_))
  obtain ⟨g, rfl⟩ : ∃ g, va3 = some ⟨g, 0, none⟩ := own_some R4.out.o (by rw [HGE.out]; simp)
  clear R3 A3 B3 HC3 hC3 HC2 H2 B2 HGN HFT
  have c2 : w4.cell? ⟨b, 2, none⟩ = some (.int .i64 N.nx) := A4.out.m.cell 2
  have c1 : w4.cell? ⟨b, 1, none⟩ = some (.int .i64 N.ep) := A4.out.m.cell 1
  have hn1 : ¬ 1073741824 < N.nx := by have := HNX.out; omega
  have hn2 : ¬ 1073741824 < N.ep := by have := HEP.out; omega
  go_upto_region 14 with fail
  clear c1 c2 hn1 hn2
  have SW4 : Hid (∀ Y, Below w4.heap.size w4 Y → Y.rangeAt C 0 (chC c).toList ∧ Y.rangeAt g 0 [.int .i64 S.id, .int .i64 S.fr, .int .i64 S.to, .slice ma S.mem.length mc, .slice pa S.past.length pc]) := hid fun Y hY => by
    have h1 := (hY.block C (lt_of_block HC4.out)).trans HC4.out
    exact ⟨range_of_row h1 0 _ fun j v hv => by rw [Nat.zero_add]; simpa using hv, HRG.out _ _ _ _ (R4.out.below hY)⟩
  have SX7 : Hid (∀ Y, Tr (AtR b wb mb) w4 Y → Y.rangeAt C 0 (chC c).toList ∧ Y.rangeAt g 0 [.int .i64 S.id, .int .i64 S.fr, .int .i64 S.to, .slice ma S.mem.length mc, .slice pa S.past.length pc]) := hid fun Y hY => by
    have h1 := (hY.block C (lt_of_block HC4.out) (A4.out.m.nob HC4.out (by decide) (by decide))).trans HC4.out
    exact ⟨range_of_row h1 0 _ fun j v hv => by rw [Nat.zero_add]; simpa using hv, HRG.out _ _ _ _ (ShR.tr A4.out.m hY R4.out)⟩
  obtain ⟨dS, hdS1, hdS2⟩ := Try.rowSh
  refine wp_region_held_drew (S := fun Y => Y.rangeAt C 0 (chC c).toList ∧ Y.rangeAt g 0 [.int .i64 S.id, .int .i64 S.fr, .int .i64 S.to, .slice ma S.mem.length mc, .slice pa S.past.length pc]) (by kernel_rfl) (SW4.out _ ((Below.refl _ _).drew)) (fun hHeld => ?_)
  refine wpAnyH_take (i := 0) (v := ?gv0) rfl (by kernel_rfl) (by kernel_rfl) (by kernel_rfl) (fun _ _ _ h => h) (Or.inl ⟨by rfl, ?gy0⟩) (by assumption) ?gr0
  case gy0 => (intro w hSw; (try dsimp only at hSw); go_simp; try with_reducible rfl)
  (try simp only [Act.put, putS])
  refine wpAnyH_take (i := 1) (v := ?gv1) rfl (by kernel_rfl) (by kernel_rfl) (by kernel_rfl) (fun _ _ _ h => h) (Or.inl ⟨by rfl, ?gy1⟩) (by assumption) ?gr1
  case gy1 => (intro w hSw; (try dsimp only at hSw); go_simp; try with_reducible rfl)
  (try simp only [Act.put, putS])
  refine wpAnyH_take (i := 2) (v := .agg (chC c).toList.toArray) rfl (by kernel_rfl) (by kernel_rfl) (by kernel_rfl) (fun _ _ _ h => h) (yieldsIf_load_mid rfl _ _ rfl C 0 rfl (chC c).toList dC (fun Y hY => hY.1) hdC1 hdC2 Try.sizeCh) (by assumption) ?_
  (try simp only [Act.put, putS])
  refine wpAnyH_take (i := 3) (v := ?hv3) rfl (by kernel_rfl) (by kernel_rfl) (by kernel_rfl) (fun _ _ _ h => h) (Or.inl ⟨by rfl, ?hy3⟩) (by assumption) ?hr3
  case hy3 => (intro w hSw; (try dsimp only at hSw); go_simp; try with_reducible rfl)
  (try simp only [Act.put, putS])
  refine wpAnyH_take (i := 5) (v := .agg (chC c).toList.toArray) rfl (by kernel_rfl) (by kernel_rfl) (by kernel_rfl) (fun _ _ _ h => h) (yieldsIf_load_mid rfl _ _ rfl C 0 rfl (chC c).toList dC (fun Y hY => hY.1) hdC1 hdC2 Try.sizeCh) (by assumption) ?_
  (try simp only [Act.put, putS])
  refine wpAnyH_take (i := 6) (v := ?iv6) rfl (by kernel_rfl) (by kernel_rfl) (by kernel_rfl) (fun _ _ _ h => h) (Or.inl ⟨by rfl, ?iy6⟩) (by assumption) ?ir6
  case iy6 => (intro w hSw; (try dsimp only at hSw); go_simp; try with_reducible rfl)
  (try simp only [Act.put, putS])
  refine wpAnyH_take (i := 7) (v := ?iv7) rfl (by kernel_rfl) (by kernel_rfl) (by kernel_rfl) (fun _ _ _ h => h) (Or.inl ⟨by rfl, ?iy7⟩) (by assumption) ?ir7
  case iy7 => (intro w hSw; (try dsimp only at hSw); go_simp; try with_reducible rfl)
  (try simp only [Act.put, putS])
  refine wpAnyH_take (i := 8) (v := .agg #[.int .i64 S.id, .int .i64 S.fr, .int .i64 S.to, .slice ma S.mem.length mc, .slice pa S.past.length pc]) rfl (by kernel_rfl) (by kernel_rfl) (by kernel_rfl) (fun _ _ _ h => h) (yieldsIf_load_mid rfl _ _ rfl g 0 (by go_simp) [.int .i64 S.id, .int .i64 S.fr, .int .i64 S.to, .slice ma S.mem.length mc, .slice pa S.past.length pc] dS (fun Y hY => hY.2) hdS1 hdS2 Try.sizeSh) (by assumption) ?_
  (try simp only [Act.put, putS])
  refine wpAnyH_ready (rs := [4]) (by kernel_rfl) (by simp) ?_
  refine AllReadyH.cons rfl (fun K hK => ?_) AllReadyH.nil
  rw [if_pos (by rfl)]
  go_wp2_with fail
  refine (HSPN.out _ _ (R4.out.below ((Below.refl _ _).drew))).mono ?_
  rintro e w5 ⟨va5, vc5, rfl, ho5, hb5⟩
  have B5 := hid (((Below.refl w4.heap.size w4).drew).trans hb5)
  have O5 := hid (show OwnS w5 0 _ sp from own_lower ho5 (Nat.zero_le _))
  clear ho5 hb5
  refine hK.out _ _ (SW4.out _ B5.out) (fun hHeld => ?_)
  try clear hK K
  (try simp only [Act.put, putS])
  refine wpAnyH_ready (rs := [9]) (by kernel_rfl) (by simp) ?_
  refine AllReadyH.cons rfl (fun K hK => ?_) AllReadyH.nil
  rw [if_pos (by rfl)]
  go_wp2_with fail
  refine (HMEM.out _ _ (R4.out.below B5.out)).mono ?_
  rintro e w6 ⟨va6, vc6, rfl, ho6, hb6⟩
  have B6 := hid (B5.out.trans (hb6.mono B5.out.size))
  have O6 := hid (own_lower ho6 (Nat.zero_le _))
  have O56 := hid (show OwnS w6 0 _ sp from own_below O5.out hb6)
  clear ho6 hb6
  refine hK.out _ _ (SW4.out _ B6.out) (fun hHeld => ?_)
  try clear hK K
  (try simp only [Act.put, putS])
  refine wpAnyH_ready (rs := [10]) (by kernel_rfl) (by simp) ?_
  refine AllReadyH.cons rfl (fun K hK => ?_) AllReadyH.nil
  rw [if_pos (by rfl)]
  go_wp2_with fail
  refine (exchange_any b wb mb n _ D N (X.map SX.pc) X G sp S.mem _ _ _ _ (A4.out.m.below B6.out) (R4.out.below B6.out) HGX.out HG2.out HXI.out O56.out O6.out HO.out (A4.out.nil HO.out) HN9.out HSP2.out HNX.out HEP.out HLT.out (by rw [List.length_map]; exact HXL.out) HSI.out).mono ?_
  rintro e w7 ⟨ov7, D7, W7, pvo, rfl, ha7, hc7, ht7⟩
  have A7 := hid ha7
  have C7 := hid hc7
  have T7 : Hid (Tr (AtR b wb mb) w4 w7) := hid ((Tr.below B6.out).trans ht7)
  have S7 := hid (SX7.out _ T7.out)
  clear ha7 hc7 ht7
  refine hK.out _ _ S7.out (fun hHeld => ?_)
  try clear hK K
  (try simp only [Act.put, putS])
  refine wpAnyH_done (by kernel_rfl) ?_ _
  have HF : Hid (At w7 b wb mb (n + sp.length) ov7 D7 ⟨N.bl, N.ep + 1, N.nx + sp.length, opD N.nx sp.length⟩ (P ++ nwX N.nx S.mem (G.map fun x => x.or.o) (.slice va6 S.mem.length vc6) pvo sp ++ Q)) := hid (by
    have hw := HCAN.out _ pvo W7 A7.out.whr.can C7.out
    refine ⟨?_, fun h0 => ?_⟩
    · rw [← hw]
      refine A7.out.congr fun z => ?_
      have := HOUT.out z
      simp only [List.mem_append] at this ⊢
      rw [this]
      constructor
      · rintro ((h | h) | h)
        · exact .inr (.inl h)
        · exact .inl h
        · exact .inr (.inr h)
      · rintro (h | h | h)
        · exact .inl (.inr h)
        · exact .inl (.inl h)
        · exact .inr h
    · have : (opD N.nx sp.length).length = 0 := by rw [show opD N.nx sp.length = [] from h0]; rfl
      rw [opD_len] at this
      have := HSP1.out
      omega)
  go_wp2_with fail
  go_ret
  exact ⟨ov7, D7, _, pvo, rfl, HF.out, (Tr.below B4.out).trans T7.out⟩
end Go.Proofs.Ytnkjkaofgninnaa
