/- What the document's Apply answers to a read, a write and a trim. -/
import Derived.Test.YtabmnelenfghhaaBkRApplyB
namespace Go.Proofs.Ytabmnelenfghhaa
open Go.RowKit
set_option linter.unusedVariables false
set_option linter.unusedSimpArgs false

set_option linter.unusedSimpArgs false in
set_option maxRecDepth 100000 in
set_option maxHeartbeats 8000000 in
theorem rapply_write (base X : Nat) (vt vm : Value) (ks : List Nat) (S : StD) (c : CmdD) (k : Fin 4) (d cnt : Nat) (u : Value) (w : World) (hR : RSt w base X vt vm ks S) (hI : StI S) (hu : CmdOk w c u) (hm : mayB c = true) (hcl : c.op = 2) (hk : c.client = (k.val : Int)) (hf : c.from' = S.from' + d) (ht : c.to = c.from' + cnt) (hN : d + cnt ≤ S.cells.length) (hfr : S.fr = false) (hdl : c.op = 2 → c.data.length = cnt) (hud : ∀ a n cp, u = .slice (some a) n cp → 0 < n → ¬ RB X vt ks a.block) :
    Calls Try.prog 39 #[.pointer (some ⟨X, 0, none⟩), cmdV c u] w (RApP base X vt vm ks (S.put (chF c k d cnt S.cells (List.finRange cnt))) true 0 [] w) := by
  have HDL := hid hdl
  have HUD := hid hud
  have HKC := hid hk
  clear hdl hud hk
  have HMB := hid hm
  have HCL := hid hcl
  have HF := hid hf
  have HT := hid ht
  have HN := hid hN
  have HFR := hid hfr
  have HI := hid hI
  have hbn := hI.n
  have hbf := hI.f
  have hbt := hI.t
  have hbft := hI.ft
  have hcnt : cnt ≤ 256 := by omega
  have hdN : d + cnt ≤ 256 := by omega
  clear hm hcl hf ht hN hfr hI
  have HR := hid hR
  have HU := hid hu
  obtain ⟨ua, uc, rfl⟩ := hu.u.shape
  have hXl := lt_of_block hR.head
  clear hR hu
  have hMay := hid fun W (hW : CmdOk W c (.slice ua c.data.length uc)) => rmay_any c _ W hW
  obtain ⟨op, client, seq, cf, ct, data⟩ := c
  unfold cmdV at hMay ⊢
  simp only at hMay ⊢
  obtain ⟨w0, hw0⟩ : ∃ w0, w0 = (w.alloc (.cells #[.int .i64 op, .int .i64 client, .int .i64 seq, .int .i64 cf, .int .i64 ct, .slice ua data.length uc] 24)).alloc (.cells #[.bool false, .slice none 0 0] 60) := ⟨_, rfl⟩
  have hb0 : Below w.heap.size w w0 := by rw [hw0]; exact ((Below.refl _ _).alloc (Nat.le_refl _) _).alloc (by simp) _
  have h30 : w0.heap[w.heap.size]? = some (.cells #[.int .i64 op, .int .i64 client, .int .i64 seq, .int .i64 cf, .int .i64 ct, .slice ua data.length uc] 24 (0, 0)) := by rw [hw0]; exact heap_alloc2_old _ _ _
  have h40 : w0.heap[w.heap.size + 1]? = some (.cells #[.bool false, .slice none 0 0] 60 (0, 0)) := by rw [hw0]; exact heap_alloc2_new _ _ _
  have HW0 := hid hw0
  clear hw0
  go_enter Try.func39, Try.ntmps39
  go_upto_region 1 with fail
  rw [← HW0.out]
  obtain ⟨B3, hB3⟩ : ∃ B, B = w.heap.size := ⟨_, rfl⟩
  obtain ⟨B4, hB4⟩ : ∃ B, B = w.heap.size + 1 := ⟨_, rfl⟩
  rw [← hB3] at h30
  rw [← hB4] at h40
  rw [← hB4, ← hB3]
  have hXB : X < B3 ∧ B3 < B4 := by omega
  have HwB : Hid (w.heap.size = B3) := hid hB3.symm
  clear hB3 hB4 HW0
  have q0 : w0.cell? ⟨B3, 0, none⟩ = some (.int .i64 op) := by rw [cell_of_row _ _ _ _ _ _ h30]; rfl
  have q1 : w0.cell? ⟨B3, 1, none⟩ = some (.int .i64 client) := by rw [cell_of_row _ _ _ _ _ _ h30]; rfl
  have q2 : w0.cell? ⟨B3, 2, none⟩ = some (.int .i64 seq) := by rw [cell_of_row _ _ _ _ _ _ h30]; rfl
  have q3 : w0.cell? ⟨B3, 3, none⟩ = some (.int .i64 cf) := by rw [cell_of_row _ _ _ _ _ _ h30]; rfl
  have q4 : w0.cell? ⟨B3, 4, none⟩ = some (.int .i64 ct) := by rw [cell_of_row _ _ _ _ _ _ h30]; rfl
  have q5 : w0.cell? ⟨B3, 5, none⟩ = some (.slice ua data.length uc) := by rw [cell_of_row _ _ _ _ _ _ h30]; rfl
  have H30 := hid h30
  have H40 := hid h40
  have B0 := hid hb0
  clear h30 h40 hb0
  go_wp2_with fail
  refine (hMay.out w0 (HU.out.below B0.out)).mono ?_
  rintro e w1 ⟨rfl, hb1⟩
  have H31 := hid ((hb1.block B3 (lt_of_block H30.out)).trans H30.out)
  have H41 := hid ((hb1.block B4 (lt_of_block H40.out)).trans H40.out)
  have B1 := hid (B0.out.trans (hb1.mono B0.out.size))
  clear hb1 q0 q1 q2 q3 q4 q5 H30 H40 B0 hMay
  have hm := HMB.out
  have hcl := HCL.out
  have hf := HF.out
  have ht := HT.out
  have hN := HN.out
  (try simp only at hf); (try simp only at ht); (try simp only at hcl)
  rw [hm]
  have R1 := hid (HR.out.below B1.out)
  obtain ⟨x0, x1, x2, x3, x4, x5, y0, y1, y2, y3, y4⟩ := rcells H31.out R1.out
  have d0 : w1.cell? ⟨B4, 0, none⟩ = some (.bool false) := by rw [cell_of_row _ _ _ _ _ _ H41.out]; rfl
  have d1 : w1.cell? ⟨B4, 1, none⟩ = some (.slice none 0 0) := by rw [cell_of_row _ _ _ _ _ _ H41.out]; rfl
  have e0 : w1.frozen? ⟨B4, 0, none⟩ = false := by simp [World.frozen?, H41.out]
  have e1 : w1.frozen? ⟨B4, 1, none⟩ = false := by simp [World.frozen?, H41.out]
  have hc1 : decide (1 ≤ op) = true := decide_eq_true (by omega)
  have hc2 : decide (op ≤ 4) = true := decide_eq_true (by omega)
  have hc5 : (op == 5) = false := by simp; omega
  have hd1 : decide (cf < S.from') = false := decide_eq_false (by omega)
  have hd2 : decide (S.to < ct) = false := decide_eq_false (by omega)
  have hwct : IntKind.i64.wrap (ct - cf) = (cnt : Int) := by rw [IntWalk.i64_in _ ⟨by omega, by omega⟩]; omega
  have ho1 : (op == 1) = false := by rw [hcl]; rfl
  have ho2 : (op == 2) = true := by rw [hcl]; rfl
  have ho3 : (op == 3) = false := by rw [hcl]; rfl
  have hSp : 0 < S.cells.length := by omega
  clear hm HMB hcl hf ht hbn
  go_upto_region 4 with fail
  go_quiet (fail)
  generalize hW : w1.drewN _ = W
  have hBW : Below w1.heap.size w1 W := by rw [← hW]; exact belowN _ _
  have BW := hid (B1.out.trans (hBW.mono B1.out.size))
  have RW := hid (R1.out.below hBW)
  have H3W := hid ((hBW.block B3 (lt_of_block H31.out)).trans H31.out)
  have H4W := hid ((hBW.block B4 (lt_of_block H41.out)).trans H41.out)
  clear hW hBW x0 x1 x2 x3 x4 x5 y0 y1 y2 y3 y4 d0 d1 e0 e1 H31 H41 R1 B1
  obtain ⟨x0, x1, x2, x3, x4, x5, y0, y1, y2, y3, y4⟩ := rcells H3W.out RW.out
  have d0 : W.cell? ⟨B4, 0, none⟩ = some (.bool false) := by rw [cell_of_row _ _ _ _ _ _ H4W.out]; rfl
  have d1 : W.cell? ⟨B4, 1, none⟩ = some (.slice none 0 0) := by rw [cell_of_row _ _ _ _ _ _ H4W.out]; rfl
  have e0 : W.frozen? ⟨B4, 0, none⟩ = false := by simp [World.frozen?, H4W.out]
  have e1 : W.frozen? ⟨B4, 1, none⟩ = false := by simp [World.frozen?, H4W.out]
  rw [HFR.out] at y2
  obtain ⟨w7, hw7⟩ : ∃ w7, w7 = W.alloc (.cells #[.bool true, .slice none 0 0] 60) := ⟨_, rfl⟩
  have b7 : Below W.heap.size W w7 := by rw [hw7]; exact (Below.refl _ _).alloc (Nat.le_refl _) _
  have h77 : w7.heap[W.heap.size]? = some (.cells #[.bool true, .slice none 0 0] 60 (0, 0)) := by rw [hw7]; exact heap_alloc_new _ _
  have H37 := hid ((b7.block B3 (lt_of_block H3W.out)).trans H3W.out)
  have H47 := hid ((b7.block B4 (lt_of_block H4W.out)).trans H4W.out)
  have B7 := hid (BW.out.trans (b7.mono BW.out.size))
  have R7 := hid (RW.out.below b7)
  have HW7 := hid hw7
  have H77 := hid h77
  have HB47 := hid (lt_of_block H4W.out)
  clear hw7 h77 b7
  go_upto_region 9 with fail
  rw [← HW7.out]
  obtain ⟨Br, hBr⟩ : ∃ B, B = W.heap.size := ⟨_, rfl⟩
  rw [← hBr] at H77 HB47 ⊢
  have HBrw : Hid (w.heap.size ≤ Br) := hid (by have := BW.out.size; omega)
  clear hBr HW7 x0 x1 x2 x3 x4 x5 y0 y1 y2 y3 y4 d0 d1 e0 e1 H3W H4W RW BW
  obtain ⟨x0, x1, x2, x3, x4, x5, y0, y1, y2, y3, y4⟩ := rcells H37.out R7.out
  clear hd1 hd2
  go_wp2_with fail
  have RL0 : Hid (RL w base X B3 B4 Br vt vm ks #[.int .i64 op, .int .i64 client, .int .i64 seq, .int .i64 cf, .int .i64 ct, .slice ua data.length uc] S (.slice none 0 0) w7) := hid ⟨H37.out, H47.out, H77.out, R7.out, ButR.of_below B7.out⟩
  clear x0 x1 x2 x3 x4 x5 y0 y1 y2 y3 y4 H37 H47 H77 R7 B7
  have hvs : ∃ gt cpt gm cpm, vt = .slice (some ⟨gt, 0, none⟩) S.cells.length cpt ∧ vm = .slice (some ⟨gm, 0, none⟩) S.cells.length cpm := by
    obtain ⟨gt, cpt, e1, -⟩ := own_some HR.out.texts hSp
    obtain ⟨gm, cpm, e2, -⟩ := own_some HR.out.rows hSp
    exact ⟨gt, cpt, gm, cpm, e1, e2⟩
  obtain ⟨gt, cpt, gm, cpm, rfl, rfl⟩ := hvs
  have hkc : client = (k.val : Int) := HKC.out
  subst hkc
  have kn0 : (0 : Int) ≤ (k.val : Int) ∧ (k.val : Int) < 4 := by have := k.isLt; omega
  clear HCL hc1 hc2 HKC
  have HN0 := hid (show S = S.put S.cells from rfl)
  go_loopw [8, 9] (fun iv _ wr => ∃ i : Nat, iv = .int .i64 i ∧ i ≤ cnt ∧ RL w base X B3 B4 Br (.slice (some ⟨gt, 0, none⟩) S.cells.length cpt) (.slice (some ⟨gm, 0, none⟩) S.cells.length cpm) ks #[.int .i64 op, .int .i64 k.val, .int .i64 seq, .int .i64 cf, .int .i64 ct, .slice ua data.length uc] (S.put (chF ⟨op, k.val, seq, cf, ct, data⟩ k d cnt S.cells ((List.finRange cnt).take i))) (.slice none 0 0) wr) (fun iv _ _ => cnt - (intOf iv).toNat)
  case atStart =>
    have e0 : S.put (chF ⟨op, k.val, seq, cf, ct, data⟩ k d cnt S.cells ((List.finRange cnt).take 0)) = S := by simp [chF, StD.put]
    exact ⟨0, rfl, Nat.zero_le _, by rw [e0]; exact RL0.out⟩
  case round =>
    obtain ⟨i, rfl, hi, hRL⟩ := hrel
    have hLl := chF_len ⟨op, k.val, seq, cf, ct, data⟩ k d cnt S.cells ((List.finRange cnt).take i)
    by_cases hlt : i < cnt
    · have hltI : (i : Int) < (cnt : Int) := by omega
      have hTK : (List.finRange cnt).take (i + 1) = (List.finRange cnt).take i ++ [⟨i, hlt⟩] := by rw [List.take_add_one, List.getElem?_eq_getElem (by simpa using hlt)]; simp
      have HSN := hid (show chF ⟨op, k.val, seq, cf, ct, data⟩ k d cnt S.cells ((List.finRange cnt).take (i + 1)) = chStep ⟨op, k.val, seq, cf, ct, data⟩ k d cnt (chF ⟨op, k.val, seq, cf, ct, data⟩ k d cnt S.cells ((List.finRange cnt).take i)) ⟨i, hlt⟩ by rw [hTK, chF_snoc])
      clear hTK
      obtain ⟨L, hL⟩ : ∃ L, L = chF ⟨op, k.val, seq, cf, ct, data⟩ k d cnt S.cells ((List.finRange cnt).take i) := ⟨_, rfl⟩
      rw [← hL] at hRL hLl HSN
      clear hL
      have HRL := hid hRL
      clear hRL
      obtain ⟨x0, x1, x2, x3, x4, x5, y0, y1, y2, y3, y4⟩ := rcells HRL.out.c HRL.out.st
      (try simp only [StD.put] at y0 y1 y2)
      have hf := HF.out
      have ht := HT.out
      (try simp only at hf); (try simp only at ht)
      have wci : IntKind.i64.wrap (cf + (i : Int)) = cf + (i : Int) := IntWalk.i64_in _ ⟨by omega, by omega⟩
      have wcj : IntKind.i64.wrap (cf + (i : Int) - S.from') = ((d + i : Nat) : Int) := by rw [IntWalk.i64_in _ ⟨by omega, by omega⟩]; omega
      clear hf ht
      obtain ⟨j, hj⟩ : ∃ j, j = d + i := ⟨_, rfl⟩
      rw [← hj] at wcj
      have HJ := hid hj
      have hjL : j < L.length := by omega
      have hjS : (0 : Int) ≤ (j : Int) ∧ (j : Int) < (S.cells.length : Int) := by omega
      have hjk : j < ks.length := by have := HRL.out.st.n; simp only [StD.put] at this; omega
      clear hj hLl
      go_wp2_with fail
      go_quiet (fail)
      generalize hW : wr.drewN _ = W
      have hBW : Below wr.heap.size wr W := by rw [← hW]; exact belowN _ _
      have HRLW := hid (HRL.out.later hBW)
      clear hW hBW x0 x1 x2 x3 x4 x5 y0 y1 y2 y3 y4
      obtain ⟨x0, x1, x2, x3, x4, x5, y0, y1, y2, y3, y4⟩ := rcells HRLW.out.c HRLW.out.st
      (try simp only [StD.put] at y0 y1 y2)
      have cr := HRLW.out.st.rowAt j hjk
      have cm := HRLW.out.st.markAt j hjk hjL k
      simp only [StD.put] at cm
      obtain ⟨K1, hK1⟩ : ∃ K1, K1 = ks[j] := ⟨_, rfl⟩
      rw [← hK1] at cr cm
      have HK1 := hid hK1
      clear hK1
      obtain ⟨m, hmm⟩ : ∃ m, m = L[j].m k := ⟨_, rfl⟩
      rw [← hmm] at cm
      have HM := hid hmm
      clear hmm
      by_cases hms : m < seq
      · have hd : decide (m < seq) = true := decide_eq_true hms
        go_wp2_with fail
        go_quiet (fail)
        generalize hW : W.drewN _ = W2
        have hBW : Below W.heap.size W W2 := by rw [← hW]; exact belowN _ _
        have HRL2 := hid (HRLW.out.later hBW)
        clear hW hBW x0 x1 x2 x3 x4 x5 y0 y1 y2 y3 y4
        have cr2 := HRL2.out.st.rowAt j hjk
        have cm2 := HRL2.out.st.markAt j hjk hjL k
        simp only [StD.put] at cm2
        rw [← HK1.out] at cr2 cm2
        rw [← HM.out] at cm2
        have HMB2 := hid (HRL2.out.st.marks j hjk hjL).2
        rw [← HK1.out] at HMB2
        have fz2 : W2.drew.frozen? ⟨K1, k.val, none⟩ = false := by show W2.frozen? _ = _; simp [World.frozen?, HMB2.out]
        have cmd : W2.drew.cell? ⟨K1, k.val, none⟩ = some (.int .i64 m) := cm2
        obtain ⟨x0, x1, x2, x3, x4, x5, y0, y1, y2, y3, y4⟩ := rcells HRL2.out.c HRL2.out.st
        (try simp only [StD.put] at y0 y1 y2)
        obtain ⟨curm, hgm⟩ := own_typed HRL2.out.st.rows (q := gm) rfl
        have HS1 : Hid (∀ Y, Kt [3] W2 Y → Y.cell? ⟨X, 4, none⟩ = some (.slice (some ⟨gm, 0, none⟩) S.cells.length cpm) ∧ Y.cell? ⟨gm, j, none⟩ = some (.slice (some ⟨K1, 0, none⟩) 4 4) ∧ Y.cell? ⟨B3, 1, none⟩ = some (.int .i64 k.val) ∧ Y.cell? ⟨B3, 2, none⟩ = some (.int .i64 seq)) := hid fun Y hY => ⟨hY.cell HRL2.out.st.head (by decide) y4, hY.cell hgm (by decide) cr2, hY.cell HRL2.out.c (by decide) x1, hY.cell HRL2.out.c (by decide) x2⟩
        clear x0 x1 x2 x3 x4 x5 y0 y1 y2 y3 y4 cr cm cr2 cm2 hgm
        go_upto_region 18 with fail
        refine wp_region_held_drew (S := fun Y => Y.cell? ⟨X, 4, none⟩ = some (.slice (some ⟨gm, 0, none⟩) S.cells.length cpm) ∧ Y.cell? ⟨gm, j, none⟩ = some (.slice (some ⟨K1, 0, none⟩) 4 4) ∧ Y.cell? ⟨B3, 1, none⟩ = some (.int .i64 k.val) ∧ Y.cell? ⟨B3, 2, none⟩ = some (.int .i64 seq)) (by kernel_rfl) (HS1.out _ (Kt.below _ ((Below.refl _ _).drew))) (fun hHeld => ?_)
        refine wpAnyH_take (i := 0) (v := ?rv0) rfl (by kernel_rfl) (by kernel_rfl) (by kernel_rfl) (fun _ _ _ h => h) (Or.inl ⟨by rfl, ?ry0⟩) (by assumption) ?rr0
        case ry0 => (intro w hSw; (try dsimp only at hSw); go_simp; try with_reducible rfl)
        (try simp only [Act.put, List.setIfInBounds_toArray, List.set_cons_zero, List.set_cons_succ, List.getElem_toArray, List.getElem_cons_succ, List.getElem_cons_zero])
        refine wpAnyH_take (i := 1) (v := ?rv1) rfl (by kernel_rfl) (by kernel_rfl) (by kernel_rfl) (fun _ _ _ h => h) (Or.inl ⟨by rfl, ?ry1⟩) (by assumption) ?rr1
        case ry1 => (intro w hSw; (try dsimp only at hSw); go_simp; try with_reducible rfl)
        (try simp only [Act.put, List.setIfInBounds_toArray, List.set_cons_zero, List.set_cons_succ, List.getElem_toArray, List.getElem_cons_succ, List.getElem_cons_zero])
        refine wpAnyH_take (i := 2) (v := ?rv2) rfl (by kernel_rfl) (by kernel_rfl) (by kernel_rfl) (fun _ _ _ h => h) (Or.inl ⟨by rfl, ?ry2⟩) (by assumption) ?rr2
        case ry2 => (intro w hSw; (try dsimp only at hSw); go_simp; try with_reducible rfl)
        (try simp only [Act.put, List.setIfInBounds_toArray, List.set_cons_zero, List.set_cons_succ, List.getElem_toArray, List.getElem_cons_succ, List.getElem_cons_zero])
        refine wpAnyH_take (i := 3) (v := ?rv3) rfl (by kernel_rfl) (by kernel_rfl) (by kernel_rfl) (fun _ _ _ h => h) (Or.inl ⟨by rfl, ?ry3⟩) (by assumption) ?rr3
        case ry3 => (intro w hSw; (try dsimp only at hSw); go_simp; try with_reducible rfl)
        (try simp only [Act.put, List.setIfInBounds_toArray, List.set_cons_zero, List.set_cons_succ, List.getElem_toArray, List.getElem_cons_succ, List.getElem_cons_zero])
        refine wpAnyH_take (i := 4) (v := ?rv4) rfl (by kernel_rfl) (by kernel_rfl) (by kernel_rfl) (fun _ _ _ h => h) (Or.inl ⟨by rfl, ?ry4⟩) (by assumption) ?rr4
        case ry4 => (intro w hSw; (try dsimp only at hSw); go_simp; try with_reducible rfl)
        (try simp only [Act.put, List.setIfInBounds_toArray, List.set_cons_zero, List.set_cons_succ, List.getElem_toArray, List.getElem_cons_succ, List.getElem_cons_zero])
        refine wpAnyH_take (i := 5) (v := ?rv5) rfl (by kernel_rfl) (by kernel_rfl) (by kernel_rfl) (fun _ _ _ h => h) (Or.inl ⟨by rfl, ?ry5⟩) (by assumption) ?rr5
        case ry5 => (intro w hSw; (try dsimp only at hSw); go_simp; try with_reducible rfl)
        (try simp only [Act.put, List.setIfInBounds_toArray, List.set_cons_zero, List.set_cons_succ, List.getElem_toArray, List.getElem_cons_succ, List.getElem_cons_zero])
        refine wpAnyH_take (i := 6) (v := ?rv6) rfl (by kernel_rfl) (by kernel_rfl) (by kernel_rfl) (fun _ _ _ h => h) (Or.inl ⟨by rfl, ?ry6⟩) (by assumption) ?rr6
        case ry6 => (intro w hSw; (try dsimp only at hSw); go_simp; try with_reducible rfl)
        (try simp only [Act.put, List.setIfInBounds_toArray, List.set_cons_zero, List.set_cons_succ, List.getElem_toArray, List.getElem_cons_succ, List.getElem_cons_zero])
        refine wpAnyH_take (i := 7) (v := ?rv7) rfl (by kernel_rfl) (by kernel_rfl) (by kernel_rfl) (fun _ _ _ h => h) (Or.inl ⟨by rfl, ?ry7⟩) (by assumption) ?rr7
        case ry7 => (intro w hSw; (try dsimp only at hSw); go_simp; try with_reducible rfl)
        (try simp only [Act.put, List.setIfInBounds_toArray, List.set_cons_zero, List.set_cons_succ, List.getElem_toArray, List.getElem_cons_succ, List.getElem_cons_zero])
        refine wpAnyH_take (i := 8) (v := ?rv8) rfl (by kernel_rfl) (by kernel_rfl) (by kernel_rfl) (fun _ _ _ h => h) (Or.inl ⟨by rfl, ?ry8⟩) (by assumption) ?rr8
        case ry8 => (intro w hSw; (try dsimp only at hSw); go_simp; try with_reducible rfl)
        (try simp only [Act.put, List.setIfInBounds_toArray, List.set_cons_zero, List.set_cons_succ, List.getElem_toArray, List.getElem_cons_succ, List.getElem_cons_zero])
        refine wpAnyH_take (i := 9) (v := ?rv9) rfl (by kernel_rfl) (by kernel_rfl) (by kernel_rfl) (fun _ _ _ h => h) (Or.inl ⟨by rfl, ?ry9⟩) (by assumption) ?rr9
        case ry9 => (intro w hSw; (try dsimp only at hSw); go_simp; try with_reducible rfl)
        (try simp only [Act.put, List.setIfInBounds_toArray, List.set_cons_zero, List.set_cons_succ, List.getElem_toArray, List.getElem_cons_succ, List.getElem_cons_zero])
        refine wpAnyH_take (i := 10) (v := ?rv10) rfl (by kernel_rfl) (by kernel_rfl) (by kernel_rfl) (fun _ _ _ h => h) (Or.inl ⟨by rfl, ?ry10⟩) (by assumption) ?rr10
        case ry10 => (intro w hSw; (try dsimp only at hSw); go_simp; try with_reducible rfl)
        (try simp only [Act.put, List.setIfInBounds_toArray, List.set_cons_zero, List.set_cons_succ, List.getElem_toArray, List.getElem_cons_succ, List.getElem_cons_zero])
        refine wpAnyH_take (i := 11) (v := ?rv11) rfl (by kernel_rfl) (by kernel_rfl) (by kernel_rfl) (fun _ _ _ h => h) (Or.inl ⟨by rfl, ?ry11⟩) (by assumption) ?rr11
        case ry11 => (intro w hSw; (try dsimp only at hSw); go_simp; try with_reducible rfl)
        (try simp only [Act.put, List.setIfInBounds_toArray, List.set_cons_zero, List.set_cons_succ, List.getElem_toArray, List.getElem_cons_succ, List.getElem_cons_zero])
        refine wpAnyH_ready (rs := [12]) (by kernel_rfl) (by simp) ?_
        refine AllReadyH.cons rfl (fun K hK => ?_) AllReadyH.nil
        rw [if_pos (by rfl)]
        go_simp
        refine hK.out _ _ (HS1.out _ ((Kt.refl [3] _).set _ _ _ HMB2.out (by simp))) (fun hHeld => ?_)
        try clear hK K
        (try simp only [Act.put, List.setIfInBounds_toArray, List.set_cons_zero, List.set_cons_succ, List.getElem_toArray, List.getElem_cons_succ, List.getElem_cons_zero])
        refine wpAnyH_done (by kernel_rfl) ?_ _
        obtain ⟨W3, hW3⟩ : ∃ W3, W3 = (W2.setCell ⟨K1, k.val, none⟩ (.int .i64 seq)).drew := ⟨_, rfl⟩
        have HRL3 : Hid (RL w base X B3 B4 Br (.slice (some ⟨gt, 0, none⟩) S.cells.length cpt) (.slice (some ⟨gm, 0, none⟩) S.cells.length cpm) ks #[.int .i64 op, .int .i64 k.val, .int .i64 seq, .int .i64 cf, .int .i64 ct, .slice ua data.length uc] (S.put (L.set j (setMark L[j] k seq))) (.slice none 0 0) W3) := hid (by
          have := HRL2.out.mark j hjL hjk k seq
          rw [← HK1.out] at this
          rw [hW3]; exact this.later ((Below.refl _ _).drew))
        have HBW3 : Hid (∀ q, q < w.heap.size → ¬ RB X (.slice (some ⟨gt, 0, none⟩) S.cells.length cpt) ks q → W3.heap[q]? = w.heap[q]?) := hid HRL3.out.but.block
        rw [← hW3]
        clear hW3 fz2 cmd hHeld HS1 HMB2
        have hjL3 : j < (L.set j (setMark L[j] k seq)).length := by simpa using hjL
        have ct3 := HRL3.out.st.textAt j (by simpa [StD.put] using hjL3)
        obtain ⟨curt, hgt⟩ := own_typed HRL3.out.st.texts (q := gt) rfl
        have ft3 : W3.frozen? ⟨gt, j, none⟩ = false := by simp [World.frozen?, hgt]
        obtain ⟨x0, x1, x2, x3, x4, x5, y0, y1, y2, y3, y4⟩ := rcells HRL3.out.c HRL3.out.st
        (try simp only [StD.put] at y0 y1 y2)
        obtain ⟨W4, hW4⟩ : ∃ W4, W4 = W3.setCell ⟨gt, j, none⟩ (.string ⟨#[]⟩) := ⟨_, rfl⟩
        have HRL4 : Hid (RL w base X B3 B4 Br (.slice (some ⟨gt, 0, none⟩) S.cells.length cpt) (.slice (some ⟨gm, 0, none⟩) S.cells.length cpm) ks #[.int .i64 op, .int .i64 k.val, .int .i64 seq, .int .i64 cf, .int .i64 ct, .slice ua data.length uc] (S.put (L.set j { text := ⟨#[]⟩, m := fun i => if i = k then seq else L[j].m i })) (.slice none 0 0) W4) := hid (by
          have := HRL3.out.text j hjL3 ⟨#[]⟩
          rw [set_two L j hjL k seq] at this
          rw [hW4]; exact this)
        have HE : Hid (∀ s : ByteArray, (s = if op = 2 then data.getD i ⟨#[]⟩ else ⟨#[]⟩) → chStep ⟨op, k.val, seq, cf, ct, data⟩ k d cnt L ⟨i, hlt⟩ = L.set j { text := s, m := fun i => if i = k then seq else L[j].m i }) := hid (by
          intro s hs
          unfold chStep
          show L.set (d + i) (chC _ k i (L.getD (d + i) zeroC)) = _
          rw [← HJ.out]
          have e1 : L.getD j zeroC = L[j] := by simp [List.getD, List.getElem?_eq_getElem hjL]
          rw [e1, chC, if_neg (by show ¬ seq ≤ L[j].m k; rw [← HM.out]; omega), hs])
        have HW4 := hid hW4
        clear hW4 hgt
        go_upto_region 20 with fail
        rw [← HW4.out]
        clear ct3 ft3 HW4 x0 x1 x2 x3 x4 x5 y0 y1 y2 y3 y4
        obtain ⟨x0, x1, x2, x3, x4, x5, y0, y1, y2, y3, y4⟩ := rcells HRL4.out.c HRL4.out.st
        (try simp only [StD.put] at y0 y1 y2)
        have hop2 : op = 2 := by simpa using ho2
        have hxd : i < data.length := by have := HDL.out hop2; (try simp only at this); omega
        have HS4 := hid (HE.out data[i] (by rw [if_pos hop2]; simp [List.getD, List.getElem?_eq_getElem hxd]))
        have hub : Strs w (.slice ua data.length uc) data := HU.out.u
        obtain ⟨gd, od, rfl⟩ := hub.addr (by omega)
        have cd0 := hub.lit i hxd
        have hgdl := World.block_lt_of_cell? _ _ cd0
        have hnR : ¬ RB X (.slice (some ⟨gt, 0, none⟩) S.cells.length cpt) ks gd := HUD.out _ _ _ rfl (by omega)
        have hgt : gd ≠ gt := fun e => hnR (.inr (.inl (by rw [e]; rfl)))
        have cd4 : W4.cell? ⟨gd, od + i, none⟩ = some (.string data[i]) := (World.cell?_of_block (a := ⟨gd, od + i, none⟩) (HRL4.out.but.block gd hgdl hnR)).trans cd0
        generalize data[i] = s at cd4 HS4
        obtain ⟨curt, hgtt⟩ := own_typed HRL4.out.st.texts (q := gt) rfl
        have hjL4 : j < (L.set j ({ text := ⟨#[]⟩, m := fun i => if i = k then seq else L[j].m i } : CellD)).length := by simpa using hjL
        have ct4 : W4.drew.cell? ⟨gt, j, none⟩ = _ := HRL4.out.st.textAt j (by simpa [StD.put] using hjL4)
        have ft4 : W4.drew.frozen? ⟨gt, j, none⟩ = false := by show W4.frozen? _ = _; simp [World.frozen?, hgtt]
        have hXg : X ≠ gt := fun e => by have := HRL4.out.st.head; rw [e, hgtt] at this; cases this
        have hBg : B3 ≠ gt := fun e => by have := HRL4.out.c; rw [e, hgtt] at this; cases this
        have HS3 : Hid (∀ Y : World, (∀ q, q ≠ gt → Y.heap[q]? = W4.heap[q]?) → Y.cell? ⟨X, 3, none⟩ = some (.slice (some ⟨gt, 0, none⟩) S.cells.length cpt) ∧ Y.cell? ⟨B3, 5, none⟩ = some (.slice (some ⟨gd, od, none⟩) data.length uc) ∧ Y.cell? ⟨gd, od + i, none⟩ = some (.string s)) := hid fun Y hY => ⟨(World.cell?_of_block (a := ⟨X, 3, none⟩) (hY X hXg)).trans y3, (World.cell?_of_block (a := ⟨B3, 5, none⟩) (hY B3 hBg)).trans x5, (World.cell?_of_block (a := ⟨gd, od + i, none⟩) (hY gd hgt)).trans cd4⟩
        have hxi : 0 ≤ (i : Int) ∧ (i : Int) < (data.length : Int) := by omega
        clear hop2 cd0 hgtt cd4 x1 x2 x3 x4 x5 y0 y1 y2 y3 y4 hub
        go_upto_region 21 with fail
        refine wp_region_held_drew (S := fun Y => Y.cell? ⟨X, 3, none⟩ = some (.slice (some ⟨gt, 0, none⟩) S.cells.length cpt) ∧ Y.cell? ⟨B3, 5, none⟩ = some (.slice (some ⟨gd, od, none⟩) data.length uc) ∧ Y.cell? ⟨gd, od + i, none⟩ = some (.string s)) (by kernel_rfl) (HS3.out _ (fun _ _ => rfl)) (fun hHeld => ?_)
        refine wpAnyH_take (i := 0) (v := ?tv0) rfl (by kernel_rfl) (by kernel_rfl) (by kernel_rfl) (fun _ _ _ h => h) (Or.inl ⟨by rfl, ?ty0⟩) (by assumption) ?tr0
        case ty0 => (intro w hSw; (try dsimp only at hSw); go_simp; try with_reducible rfl)
        (try simp only [Act.put, List.setIfInBounds_toArray, List.set_cons_zero, List.set_cons_succ, List.getElem_toArray, List.getElem_cons_succ, List.getElem_cons_zero])
        refine wpAnyH_take (i := 1) (v := ?tv1) rfl (by kernel_rfl) (by kernel_rfl) (by kernel_rfl) (fun _ _ _ h => h) (Or.inl ⟨by rfl, ?ty1⟩) (by assumption) ?tr1
        case ty1 => (intro w hSw; (try dsimp only at hSw); go_simp; try with_reducible rfl)
        (try simp only [Act.put, List.setIfInBounds_toArray, List.set_cons_zero, List.set_cons_succ, List.getElem_toArray, List.getElem_cons_succ, List.getElem_cons_zero])
        refine wpAnyH_take (i := 2) (v := ?tv2) rfl (by kernel_rfl) (by kernel_rfl) (by kernel_rfl) (fun _ _ _ h => h) (Or.inl ⟨by rfl, ?ty2⟩) (by assumption) ?tr2
        case ty2 => (intro w hSw; (try dsimp only at hSw); go_simp; try with_reducible rfl)
        (try simp only [Act.put, List.setIfInBounds_toArray, List.set_cons_zero, List.set_cons_succ, List.getElem_toArray, List.getElem_cons_succ, List.getElem_cons_zero])
        refine wpAnyH_take (i := 3) (v := ?tv3) rfl (by kernel_rfl) (by kernel_rfl) (by kernel_rfl) (fun _ _ _ h => h) (Or.inl ⟨by rfl, ?ty3⟩) (by assumption) ?tr3
        case ty3 => (intro w hSw; (try dsimp only at hSw); go_simp; try with_reducible rfl)
        (try simp only [Act.put, List.setIfInBounds_toArray, List.set_cons_zero, List.set_cons_succ, List.getElem_toArray, List.getElem_cons_succ, List.getElem_cons_zero])
        refine wpAnyH_take (i := 4) (v := ?tv4) rfl (by kernel_rfl) (by kernel_rfl) (by kernel_rfl) (fun _ _ _ h => h) (Or.inl ⟨by rfl, ?ty4⟩) (by assumption) ?tr4
        case ty4 => (intro w hSw; (try dsimp only at hSw); go_simp; try with_reducible rfl)
        (try simp only [Act.put, List.setIfInBounds_toArray, List.set_cons_zero, List.set_cons_succ, List.getElem_toArray, List.getElem_cons_succ, List.getElem_cons_zero])
        refine wpAnyH_take (i := 5) (v := ?tv5) rfl (by kernel_rfl) (by kernel_rfl) (by kernel_rfl) (fun _ _ _ h => h) (Or.inl ⟨by rfl, ?ty5⟩) (by assumption) ?tr5
        case ty5 => (intro w hSw; (try dsimp only at hSw); go_simp; try with_reducible rfl)
        (try simp only [Act.put, List.setIfInBounds_toArray, List.set_cons_zero, List.set_cons_succ, List.getElem_toArray, List.getElem_cons_succ, List.getElem_cons_zero])
        refine wpAnyH_take (i := 6) (v := ?tv6) rfl (by kernel_rfl) (by kernel_rfl) (by kernel_rfl) (fun _ _ _ h => h) (Or.inl ⟨by rfl, ?ty6⟩) (by assumption) ?tr6
        case ty6 => (intro w hSw; (try dsimp only at hSw); go_simp; try with_reducible rfl)
        (try simp only [Act.put, List.setIfInBounds_toArray, List.set_cons_zero, List.set_cons_succ, List.getElem_toArray, List.getElem_cons_succ, List.getElem_cons_zero])
        refine wpAnyH_take (i := 7) (v := ?tv7) rfl (by kernel_rfl) (by kernel_rfl) (by kernel_rfl) (fun _ _ _ h => h) (Or.inl ⟨by rfl, ?ty7⟩) (by assumption) ?tr7
        case ty7 => (intro w hSw; (try dsimp only at hSw); go_simp; try with_reducible rfl)
        (try simp only [Act.put, List.setIfInBounds_toArray, List.set_cons_zero, List.set_cons_succ, List.getElem_toArray, List.getElem_cons_succ, List.getElem_cons_zero])
        refine wpAnyH_take (i := 8) (v := ?tv8) rfl (by kernel_rfl) (by kernel_rfl) (by kernel_rfl) (fun _ _ _ h => h) (Or.inl ⟨by rfl, ?ty8⟩) (by assumption) ?tr8
        case ty8 => (intro w hSw; (try dsimp only at hSw); go_simp; try with_reducible rfl)
        (try simp only [Act.put, List.setIfInBounds_toArray, List.set_cons_zero, List.set_cons_succ, List.getElem_toArray, List.getElem_cons_succ, List.getElem_cons_zero])
        refine wpAnyH_take (i := 9) (v := ?tv9) rfl (by kernel_rfl) (by kernel_rfl) (by kernel_rfl) (fun _ _ _ h => h) (Or.inl ⟨by rfl, ?ty9⟩) (by assumption) ?tr9
        case ty9 => (intro w hSw; (try dsimp only at hSw); go_simp; try with_reducible rfl)
        (try simp only [Act.put, List.setIfInBounds_toArray, List.set_cons_zero, List.set_cons_succ, List.getElem_toArray, List.getElem_cons_succ, List.getElem_cons_zero])
        refine wpAnyH_take (i := 10) (v := ?tv10) rfl (by kernel_rfl) (by kernel_rfl) (by kernel_rfl) (fun _ _ _ h => h) (Or.inl ⟨by rfl, ?ty10⟩) (by assumption) ?tr10
        case ty10 => (intro w hSw; (try dsimp only at hSw); go_simp; try with_reducible rfl)
        (try simp only [Act.put, List.setIfInBounds_toArray, List.set_cons_zero, List.set_cons_succ, List.getElem_toArray, List.getElem_cons_succ, List.getElem_cons_zero])
        refine wpAnyH_ready (rs := [11]) (by kernel_rfl) (by simp) ?_
        refine AllReadyH.cons rfl (fun K hK => ?_) AllReadyH.nil
        rw [if_pos (by rfl)]
        go_simp
        refine hK.out _ _ (HS3.out _ (fun q hq => Below.heap_setCell _ ⟨gt, j, none⟩ _ q hq)) (fun hHeld => ?_)
        try clear hK K
        (try simp only [Act.put, List.setIfInBounds_toArray, List.set_cons_zero, List.set_cons_succ, List.getElem_toArray, List.getElem_cons_succ, List.getElem_cons_zero])
        refine wpAnyH_done (by kernel_rfl) ?_ _
        go_wp2_with fail
        go_roundw
        case rel =>
          refine ⟨i + 1, by go_num, by omega, ?_⟩
          rw [HSN.out, HS4.out]
          have := HRL4.out.text j hjL4 s
          rw [set_three L j hjL] at this
          exact this.later ((Below.refl _ _).drew)
        case measure => simp [intOf]; omega
      · have hd : decide (m < seq) = false := decide_eq_false hms
        have e : chStep ⟨op, k.val, seq, cf, ct, data⟩ k d cnt L ⟨i, hlt⟩ = L := by
          unfold chStep
          show L.set (d + i) (chC _ k i (L.getD (d + i) zeroC)) = L
          rw [← HJ.out]
          have e1 : L.getD j zeroC = L[j] := by simp [List.getD, List.getElem?_eq_getElem hjL]
          rw [e1, chC, if_pos (by show seq ≤ L[j].m k; rw [← HM.out]; omega)]
          simp
        have HE := hid (HSN.out.trans e)
        clear e
        go_wp2_with fail
        go_quiet (fail)
        go_wp2_with fail
        go_roundw
        case rel => exact ⟨i + 1, by go_num, by omega, by rw [HE.out]; exact HRLW.out.later (belowN _ _)⟩
        case measure => simp [intOf]; omega
    · have hltI : ¬ (i : Int) < (cnt : Int) := by omega
      obtain rfl : i = cnt := by omega
      rw [List.take_of_length_le (by simp)] at hRL
      have HRL := hid hRL
      clear hRL
      obtain ⟨x0, x1, x2, x3, x4, x5, y0, y1, y2, y3, y4⟩ := rcells HRL.out.c HRL.out.st
      (try simp only [StD.put] at y0 y1 y2)
      have hf := HF.out
      have ht := HT.out
      (try simp only at hf); (try simp only at ht)
      have wci : IntKind.i64.wrap (cf + (i : Int)) = cf + (i : Int) := IntWalk.i64_in _ ⟨by omega, by omega⟩
      have wcj : IntKind.i64.wrap (cf + (i : Int) - S.from') = ((d + i : Nat) : Int) := by rw [IntWalk.i64_in _ ⟨by omega, by omega⟩]; omega
      clear hf ht
      have a0 : wr.cell? ⟨Br, 0, none⟩ = some (.bool true) := by rw [cell_of_row _ _ _ _ _ _ HRL.out.o]; rfl
      have a1 : wr.cell? ⟨Br, 1, none⟩ = some (.slice none 0 0) := by rw [cell_of_row _ _ _ _ _ _ HRL.out.o]; rfl
      have d0 : wr.cell? ⟨B4, 0, none⟩ = some (.bool false) := by rw [cell_of_row _ _ _ _ _ _ HRL.out.r]; rfl
      have d1 : wr.cell? ⟨B4, 1, none⟩ = some (.slice none 0 0) := by rw [cell_of_row _ _ _ _ _ _ HRL.out.r]; rfl
      have e0 : wr.frozen? ⟨B4, 0, none⟩ = false := by simp [World.frozen?, HRL.out.r]
      have e1 : wr.frozen? ⟨B4, 1, none⟩ = false := by simp [World.frozen?, HRL.out.r]
      go_wp2_with fail
      have hE := rreply_end (w := w) (.bool true) (.slice none 0 0) HRL.out.r HRL.out.st HRL.out.but (by have := HwB.out; omega)
      (try simp only [Exit.inBlock, Exit.then])
      refine bodyPost_ret (results_reply rfl _ _ B4 _ _ _ _ rfl hE.1) rfl ?_
      exact ⟨none, 0, rfl, World.ownsRow_nil _ _ _ _, hE.2.1, hE.2.2.1⟩
set_option linter.unusedSimpArgs false in
set_option maxRecDepth 100000 in
set_option maxHeartbeats 8000000 in
theorem rapply_trim (base X : Nat) (vt vm : Value) (ks : List Nat) (S : StD) (c : CmdD) (k : Fin 4) (d cnt : Nat) (u : Value) (w : World) (hR : RSt w base X vt vm ks S) (hI : StI S) (hu : CmdOk w c u) (hm : mayB c = true) (hcl : c.op = 3) (hk : c.client = (k.val : Int)) (hf : c.from' = S.from' + d) (ht : c.to = c.from' + cnt) (hN : d + cnt ≤ S.cells.length) (hfr : S.fr = false) (hdl : c.op = 2 → c.data.length = cnt) (hud : ∀ a n cp, u = .slice (some a) n cp → 0 < n → ¬ RB X vt ks a.block) :
    Calls Try.prog 39 #[.pointer (some ⟨X, 0, none⟩), cmdV c u] w (RApP base X vt vm ks (S.put (chF c k d cnt S.cells (List.finRange cnt))) true 0 [] w) := by
  have HDL := hid hdl
  have HUD := hid hud
  have HKC := hid hk
  clear hdl hud hk
  have HMB := hid hm
  have HCL := hid hcl
  have HF := hid hf
  have HT := hid ht
  have HN := hid hN
  have HFR := hid hfr
  have HI := hid hI
  have hbn := hI.n
  have hbf := hI.f
  have hbt := hI.t
  have hbft := hI.ft
  have hcnt : cnt ≤ 256 := by omega
  have hdN : d + cnt ≤ 256 := by omega
  clear hm hcl hf ht hN hfr hI
  have HR := hid hR
  have HU := hid hu
  obtain ⟨ua, uc, rfl⟩ := hu.u.shape
  have hXl := lt_of_block hR.head
  clear hR hu
  have hMay := hid fun W (hW : CmdOk W c (.slice ua c.data.length uc)) => rmay_any c _ W hW
  obtain ⟨op, client, seq, cf, ct, data⟩ := c
  unfold cmdV at hMay ⊢
  simp only at hMay ⊢
  obtain ⟨w0, hw0⟩ : ∃ w0, w0 = (w.alloc (.cells #[.int .i64 op, .int .i64 client, .int .i64 seq, .int .i64 cf, .int .i64 ct, .slice ua data.length uc] 24)).alloc (.cells #[.bool false, .slice none 0 0] 60) := ⟨_, rfl⟩
  have hb0 : Below w.heap.size w w0 := by rw [hw0]; exact ((Below.refl _ _).alloc (Nat.le_refl _) _).alloc (by simp) _
  have h30 : w0.heap[w.heap.size]? = some (.cells #[.int .i64 op, .int .i64 client, .int .i64 seq, .int .i64 cf, .int .i64 ct, .slice ua data.length uc] 24 (0, 0)) := by rw [hw0]; exact heap_alloc2_old _ _ _
  have h40 : w0.heap[w.heap.size + 1]? = some (.cells #[.bool false, .slice none 0 0] 60 (0, 0)) := by rw [hw0]; exact heap_alloc2_new _ _ _
  have HW0 := hid hw0
  clear hw0
  go_enter Try.func39, Try.ntmps39
  go_upto_region 1 with fail
  rw [← HW0.out]
  obtain ⟨B3, hB3⟩ : ∃ B, B = w.heap.size := ⟨_, rfl⟩
  obtain ⟨B4, hB4⟩ : ∃ B, B = w.heap.size + 1 := ⟨_, rfl⟩
  rw [← hB3] at h30
  rw [← hB4] at h40
  rw [← hB4, ← hB3]
  have hXB : X < B3 ∧ B3 < B4 := by omega
  have HwB : Hid (w.heap.size = B3) := hid hB3.symm
  clear hB3 hB4 HW0
  have q0 : w0.cell? ⟨B3, 0, none⟩ = some (.int .i64 op) := by rw [cell_of_row _ _ _ _ _ _ h30]; rfl
  have q1 : w0.cell? ⟨B3, 1, none⟩ = some (.int .i64 client) := by rw [cell_of_row _ _ _ _ _ _ h30]; rfl
  have q2 : w0.cell? ⟨B3, 2, none⟩ = some (.int .i64 seq) := by rw [cell_of_row _ _ _ _ _ _ h30]; rfl
  have q3 : w0.cell? ⟨B3, 3, none⟩ = some (.int .i64 cf) := by rw [cell_of_row _ _ _ _ _ _ h30]; rfl
  have q4 : w0.cell? ⟨B3, 4, none⟩ = some (.int .i64 ct) := by rw [cell_of_row _ _ _ _ _ _ h30]; rfl
  have q5 : w0.cell? ⟨B3, 5, none⟩ = some (.slice ua data.length uc) := by rw [cell_of_row _ _ _ _ _ _ h30]; rfl
  have H30 := hid h30
  have H40 := hid h40
  have B0 := hid hb0
  clear h30 h40 hb0
  go_wp2_with fail
  refine (hMay.out w0 (HU.out.below B0.out)).mono ?_
  rintro e w1 ⟨rfl, hb1⟩
  have H31 := hid ((hb1.block B3 (lt_of_block H30.out)).trans H30.out)
  have H41 := hid ((hb1.block B4 (lt_of_block H40.out)).trans H40.out)
  have B1 := hid (B0.out.trans (hb1.mono B0.out.size))
  clear hb1 q0 q1 q2 q3 q4 q5 H30 H40 B0 hMay
  have hm := HMB.out
  have hcl := HCL.out
  have hf := HF.out
  have ht := HT.out
  have hN := HN.out
  (try simp only at hf); (try simp only at ht); (try simp only at hcl)
  rw [hm]
  have R1 := hid (HR.out.below B1.out)
  obtain ⟨x0, x1, x2, x3, x4, x5, y0, y1, y2, y3, y4⟩ := rcells H31.out R1.out
  have d0 : w1.cell? ⟨B4, 0, none⟩ = some (.bool false) := by rw [cell_of_row _ _ _ _ _ _ H41.out]; rfl
  have d1 : w1.cell? ⟨B4, 1, none⟩ = some (.slice none 0 0) := by rw [cell_of_row _ _ _ _ _ _ H41.out]; rfl
  have e0 : w1.frozen? ⟨B4, 0, none⟩ = false := by simp [World.frozen?, H41.out]
  have e1 : w1.frozen? ⟨B4, 1, none⟩ = false := by simp [World.frozen?, H41.out]
  have hc1 : decide (1 ≤ op) = true := decide_eq_true (by omega)
  have hc2 : decide (op ≤ 4) = true := decide_eq_true (by omega)
  have hc5 : (op == 5) = false := by simp; omega
  have hd1 : decide (cf < S.from') = false := decide_eq_false (by omega)
  have hd2 : decide (S.to < ct) = false := decide_eq_false (by omega)
  have hwct : IntKind.i64.wrap (ct - cf) = (cnt : Int) := by rw [IntWalk.i64_in _ ⟨by omega, by omega⟩]; omega
  have ho1 : (op == 1) = false := by rw [hcl]; rfl
  have ho2 : (op == 2) = false := by rw [hcl]; rfl
  have ho3 : (op == 3) = true := by rw [hcl]; rfl
  have hSp : 0 < S.cells.length := by omega
  clear hm HMB hcl hf ht hbn
  go_upto_region 4 with fail
  go_quiet (fail)
  generalize hW : w1.drewN _ = W
  have hBW : Below w1.heap.size w1 W := by rw [← hW]; exact belowN _ _
  have BW := hid (B1.out.trans (hBW.mono B1.out.size))
  have RW := hid (R1.out.below hBW)
  have H3W := hid ((hBW.block B3 (lt_of_block H31.out)).trans H31.out)
  have H4W := hid ((hBW.block B4 (lt_of_block H41.out)).trans H41.out)
  clear hW hBW x0 x1 x2 x3 x4 x5 y0 y1 y2 y3 y4 d0 d1 e0 e1 H31 H41 R1 B1
  obtain ⟨x0, x1, x2, x3, x4, x5, y0, y1, y2, y3, y4⟩ := rcells H3W.out RW.out
  have d0 : W.cell? ⟨B4, 0, none⟩ = some (.bool false) := by rw [cell_of_row _ _ _ _ _ _ H4W.out]; rfl
  have d1 : W.cell? ⟨B4, 1, none⟩ = some (.slice none 0 0) := by rw [cell_of_row _ _ _ _ _ _ H4W.out]; rfl
  have e0 : W.frozen? ⟨B4, 0, none⟩ = false := by simp [World.frozen?, H4W.out]
  have e1 : W.frozen? ⟨B4, 1, none⟩ = false := by simp [World.frozen?, H4W.out]
  rw [HFR.out] at y2
  obtain ⟨w7, hw7⟩ : ∃ w7, w7 = W.alloc (.cells #[.bool true, .slice none 0 0] 60) := ⟨_, rfl⟩
  have b7 : Below W.heap.size W w7 := by rw [hw7]; exact (Below.refl _ _).alloc (Nat.le_refl _) _
  have h77 : w7.heap[W.heap.size]? = some (.cells #[.bool true, .slice none 0 0] 60 (0, 0)) := by rw [hw7]; exact heap_alloc_new _ _
  have H37 := hid ((b7.block B3 (lt_of_block H3W.out)).trans H3W.out)
  have H47 := hid ((b7.block B4 (lt_of_block H4W.out)).trans H4W.out)
  have B7 := hid (BW.out.trans (b7.mono BW.out.size))
  have R7 := hid (RW.out.below b7)
  have HW7 := hid hw7
  have H77 := hid h77
  have HB47 := hid (lt_of_block H4W.out)
  clear hw7 h77 b7
  go_upto_region 9 with fail
  rw [← HW7.out]
  obtain ⟨Br, hBr⟩ : ∃ B, B = W.heap.size := ⟨_, rfl⟩
  rw [← hBr] at H77 HB47 ⊢
  have HBrw : Hid (w.heap.size ≤ Br) := hid (by have := BW.out.size; omega)
  clear hBr HW7 x0 x1 x2 x3 x4 x5 y0 y1 y2 y3 y4 d0 d1 e0 e1 H3W H4W RW BW
  obtain ⟨x0, x1, x2, x3, x4, x5, y0, y1, y2, y3, y4⟩ := rcells H37.out R7.out
  clear hd1 hd2
  go_wp2_with fail
  have RL0 : Hid (RL w base X B3 B4 Br vt vm ks #[.int .i64 op, .int .i64 client, .int .i64 seq, .int .i64 cf, .int .i64 ct, .slice ua data.length uc] S (.slice none 0 0) w7) := hid ⟨H37.out, H47.out, H77.out, R7.out, ButR.of_below B7.out⟩
  clear x0 x1 x2 x3 x4 x5 y0 y1 y2 y3 y4 H37 H47 H77 R7 B7
  have hvs : ∃ gt cpt gm cpm, vt = .slice (some ⟨gt, 0, none⟩) S.cells.length cpt ∧ vm = .slice (some ⟨gm, 0, none⟩) S.cells.length cpm := by
    obtain ⟨gt, cpt, e1, -⟩ := own_some HR.out.texts hSp
    obtain ⟨gm, cpm, e2, -⟩ := own_some HR.out.rows hSp
    exact ⟨gt, cpt, gm, cpm, e1, e2⟩
  obtain ⟨gt, cpt, gm, cpm, rfl, rfl⟩ := hvs
  have hkc : client = (k.val : Int) := HKC.out
  subst hkc
  have kn0 : (0 : Int) ≤ (k.val : Int) ∧ (k.val : Int) < 4 := by have := k.isLt; omega
  clear HCL hc1 hc2 HKC
  have HN0 := hid (show S = S.put S.cells from rfl)
  go_loopw [8, 9] (fun iv _ wr => ∃ i : Nat, iv = .int .i64 i ∧ i ≤ cnt ∧ RL w base X B3 B4 Br (.slice (some ⟨gt, 0, none⟩) S.cells.length cpt) (.slice (some ⟨gm, 0, none⟩) S.cells.length cpm) ks #[.int .i64 op, .int .i64 k.val, .int .i64 seq, .int .i64 cf, .int .i64 ct, .slice ua data.length uc] (S.put (chF ⟨op, k.val, seq, cf, ct, data⟩ k d cnt S.cells ((List.finRange cnt).take i))) (.slice none 0 0) wr) (fun iv _ _ => cnt - (intOf iv).toNat)
  case atStart =>
    have e0 : S.put (chF ⟨op, k.val, seq, cf, ct, data⟩ k d cnt S.cells ((List.finRange cnt).take 0)) = S := by simp [chF, StD.put]
    exact ⟨0, rfl, Nat.zero_le _, by rw [e0]; exact RL0.out⟩
  case round =>
    obtain ⟨i, rfl, hi, hRL⟩ := hrel
    have hLl := chF_len ⟨op, k.val, seq, cf, ct, data⟩ k d cnt S.cells ((List.finRange cnt).take i)
    by_cases hlt : i < cnt
    · have hltI : (i : Int) < (cnt : Int) := by omega
      have hTK : (List.finRange cnt).take (i + 1) = (List.finRange cnt).take i ++ [⟨i, hlt⟩] := by rw [List.take_add_one, List.getElem?_eq_getElem (by simpa using hlt)]; simp
      have HSN := hid (show chF ⟨op, k.val, seq, cf, ct, data⟩ k d cnt S.cells ((List.finRange cnt).take (i + 1)) = chStep ⟨op, k.val, seq, cf, ct, data⟩ k d cnt (chF ⟨op, k.val, seq, cf, ct, data⟩ k d cnt S.cells ((List.finRange cnt).take i)) ⟨i, hlt⟩ by rw [hTK, chF_snoc])
      clear hTK
      obtain ⟨L, hL⟩ : ∃ L, L = chF ⟨op, k.val, seq, cf, ct, data⟩ k d cnt S.cells ((List.finRange cnt).take i) := ⟨_, rfl⟩
      rw [← hL] at hRL hLl HSN
      clear hL
      have HRL := hid hRL
      clear hRL
      obtain ⟨x0, x1, x2, x3, x4, x5, y0, y1, y2, y3, y4⟩ := rcells HRL.out.c HRL.out.st
      (try simp only [StD.put] at y0 y1 y2)
      have hf := HF.out
      have ht := HT.out
      (try simp only at hf); (try simp only at ht)
      have wci : IntKind.i64.wrap (cf + (i : Int)) = cf + (i : Int) := IntWalk.i64_in _ ⟨by omega, by omega⟩
      have wcj : IntKind.i64.wrap (cf + (i : Int) - S.from') = ((d + i : Nat) : Int) := by rw [IntWalk.i64_in _ ⟨by omega, by omega⟩]; omega
      clear hf ht
      obtain ⟨j, hj⟩ : ∃ j, j = d + i := ⟨_, rfl⟩
      rw [← hj] at wcj
      have HJ := hid hj
      have hjL : j < L.length := by omega
      have hjS : (0 : Int) ≤ (j : Int) ∧ (j : Int) < (S.cells.length : Int) := by omega
      have hjk : j < ks.length := by have := HRL.out.st.n; simp only [StD.put] at this; omega
      clear hj hLl
      go_wp2_with fail
      go_quiet (fail)
      generalize hW : wr.drewN _ = W
      have hBW : Below wr.heap.size wr W := by rw [← hW]; exact belowN _ _
      have HRLW := hid (HRL.out.later hBW)
      clear hW hBW x0 x1 x2 x3 x4 x5 y0 y1 y2 y3 y4
      obtain ⟨x0, x1, x2, x3, x4, x5, y0, y1, y2, y3, y4⟩ := rcells HRLW.out.c HRLW.out.st
      (try simp only [StD.put] at y0 y1 y2)
      have cr := HRLW.out.st.rowAt j hjk
      have cm := HRLW.out.st.markAt j hjk hjL k
      simp only [StD.put] at cm
      obtain ⟨K1, hK1⟩ : ∃ K1, K1 = ks[j] := ⟨_, rfl⟩
      rw [← hK1] at cr cm
      have HK1 := hid hK1
      clear hK1
      obtain ⟨m, hmm⟩ : ∃ m, m = L[j].m k := ⟨_, rfl⟩
      rw [← hmm] at cm
      have HM := hid hmm
      clear hmm
      by_cases hms : m < seq
      · have hd : decide (m < seq) = true := decide_eq_true hms
        go_wp2_with fail
        go_quiet (fail)
        generalize hW : W.drewN _ = W2
        have hBW : Below W.heap.size W W2 := by rw [← hW]; exact belowN _ _
        have HRL2 := hid (HRLW.out.later hBW)
        clear hW hBW x0 x1 x2 x3 x4 x5 y0 y1 y2 y3 y4
        have cr2 := HRL2.out.st.rowAt j hjk
        have cm2 := HRL2.out.st.markAt j hjk hjL k
        simp only [StD.put] at cm2
        rw [← HK1.out] at cr2 cm2
        rw [← HM.out] at cm2
        have HMB2 := hid (HRL2.out.st.marks j hjk hjL).2
        rw [← HK1.out] at HMB2
        have fz2 : W2.drew.frozen? ⟨K1, k.val, none⟩ = false := by show W2.frozen? _ = _; simp [World.frozen?, HMB2.out]
        have cmd : W2.drew.cell? ⟨K1, k.val, none⟩ = some (.int .i64 m) := cm2
        obtain ⟨x0, x1, x2, x3, x4, x5, y0, y1, y2, y3, y4⟩ := rcells HRL2.out.c HRL2.out.st
        (try simp only [StD.put] at y0 y1 y2)
        obtain ⟨curm, hgm⟩ := own_typed HRL2.out.st.rows (q := gm) rfl
        have HS1 : Hid (∀ Y, Kt [3] W2 Y → Y.cell? ⟨X, 4, none⟩ = some (.slice (some ⟨gm, 0, none⟩) S.cells.length cpm) ∧ Y.cell? ⟨gm, j, none⟩ = some (.slice (some ⟨K1, 0, none⟩) 4 4) ∧ Y.cell? ⟨B3, 1, none⟩ = some (.int .i64 k.val) ∧ Y.cell? ⟨B3, 2, none⟩ = some (.int .i64 seq)) := hid fun Y hY => ⟨hY.cell HRL2.out.st.head (by decide) y4, hY.cell hgm (by decide) cr2, hY.cell HRL2.out.c (by decide) x1, hY.cell HRL2.out.c (by decide) x2⟩
        clear x0 x1 x2 x3 x4 x5 y0 y1 y2 y3 y4 cr cm cr2 cm2 hgm
        go_upto_region 18 with fail
        refine wp_region_held_drew (S := fun Y => Y.cell? ⟨X, 4, none⟩ = some (.slice (some ⟨gm, 0, none⟩) S.cells.length cpm) ∧ Y.cell? ⟨gm, j, none⟩ = some (.slice (some ⟨K1, 0, none⟩) 4 4) ∧ Y.cell? ⟨B3, 1, none⟩ = some (.int .i64 k.val) ∧ Y.cell? ⟨B3, 2, none⟩ = some (.int .i64 seq)) (by kernel_rfl) (HS1.out _ (Kt.below _ ((Below.refl _ _).drew))) (fun hHeld => ?_)
        refine wpAnyH_take (i := 0) (v := ?rv0) rfl (by kernel_rfl) (by kernel_rfl) (by kernel_rfl) (fun _ _ _ h => h) (Or.inl ⟨by rfl, ?ry0⟩) (by assumption) ?rr0
        case ry0 => (intro w hSw; (try dsimp only at hSw); go_simp; try with_reducible rfl)
        (try simp only [Act.put, List.setIfInBounds_toArray, List.set_cons_zero, List.set_cons_succ, List.getElem_toArray, List.getElem_cons_succ, List.getElem_cons_zero])
        refine wpAnyH_take (i := 1) (v := ?rv1) rfl (by kernel_rfl) (by kernel_rfl) (by kernel_rfl) (fun _ _ _ h => h) (Or.inl ⟨by rfl, ?ry1⟩) (by assumption) ?rr1
        case ry1 => (intro w hSw; (try dsimp only at hSw); go_simp; try with_reducible rfl)
        (try simp only [Act.put, List.setIfInBounds_toArray, List.set_cons_zero, List.set_cons_succ, List.getElem_toArray, List.getElem_cons_succ, List.getElem_cons_zero])
        refine wpAnyH_take (i := 2) (v := ?rv2) rfl (by kernel_rfl) (by kernel_rfl) (by kernel_rfl) (fun _ _ _ h => h) (Or.inl ⟨by rfl, ?ry2⟩) (by assumption) ?rr2
        case ry2 => (intro w hSw; (try dsimp only at hSw); go_simp; try with_reducible rfl)
        (try simp only [Act.put, List.setIfInBounds_toArray, List.set_cons_zero, List.set_cons_succ, List.getElem_toArray, List.getElem_cons_succ, List.getElem_cons_zero])
        refine wpAnyH_take (i := 3) (v := ?rv3) rfl (by kernel_rfl) (by kernel_rfl) (by kernel_rfl) (fun _ _ _ h => h) (Or.inl ⟨by rfl, ?ry3⟩) (by assumption) ?rr3
        case ry3 => (intro w hSw; (try dsimp only at hSw); go_simp; try with_reducible rfl)
        (try simp only [Act.put, List.setIfInBounds_toArray, List.set_cons_zero, List.set_cons_succ, List.getElem_toArray, List.getElem_cons_succ, List.getElem_cons_zero])
        refine wpAnyH_take (i := 4) (v := ?rv4) rfl (by kernel_rfl) (by kernel_rfl) (by kernel_rfl) (fun _ _ _ h => h) (Or.inl ⟨by rfl, ?ry4⟩) (by assumption) ?rr4
        case ry4 => (intro w hSw; (try dsimp only at hSw); go_simp; try with_reducible rfl)
        (try simp only [Act.put, List.setIfInBounds_toArray, List.set_cons_zero, List.set_cons_succ, List.getElem_toArray, List.getElem_cons_succ, List.getElem_cons_zero])
        refine wpAnyH_take (i := 5) (v := ?rv5) rfl (by kernel_rfl) (by kernel_rfl) (by kernel_rfl) (fun _ _ _ h => h) (Or.inl ⟨by rfl, ?ry5⟩) (by assumption) ?rr5
        case ry5 => (intro w hSw; (try dsimp only at hSw); go_simp; try with_reducible rfl)
        (try simp only [Act.put, List.setIfInBounds_toArray, List.set_cons_zero, List.set_cons_succ, List.getElem_toArray, List.getElem_cons_succ, List.getElem_cons_zero])
        refine wpAnyH_take (i := 6) (v := ?rv6) rfl (by kernel_rfl) (by kernel_rfl) (by kernel_rfl) (fun _ _ _ h => h) (Or.inl ⟨by rfl, ?ry6⟩) (by assumption) ?rr6
        case ry6 => (intro w hSw; (try dsimp only at hSw); go_simp; try with_reducible rfl)
        (try simp only [Act.put, List.setIfInBounds_toArray, List.set_cons_zero, List.set_cons_succ, List.getElem_toArray, List.getElem_cons_succ, List.getElem_cons_zero])
        refine wpAnyH_take (i := 7) (v := ?rv7) rfl (by kernel_rfl) (by kernel_rfl) (by kernel_rfl) (fun _ _ _ h => h) (Or.inl ⟨by rfl, ?ry7⟩) (by assumption) ?rr7
        case ry7 => (intro w hSw; (try dsimp only at hSw); go_simp; try with_reducible rfl)
        (try simp only [Act.put, List.setIfInBounds_toArray, List.set_cons_zero, List.set_cons_succ, List.getElem_toArray, List.getElem_cons_succ, List.getElem_cons_zero])
        refine wpAnyH_take (i := 8) (v := ?rv8) rfl (by kernel_rfl) (by kernel_rfl) (by kernel_rfl) (fun _ _ _ h => h) (Or.inl ⟨by rfl, ?ry8⟩) (by assumption) ?rr8
        case ry8 => (intro w hSw; (try dsimp only at hSw); go_simp; try with_reducible rfl)
        (try simp only [Act.put, List.setIfInBounds_toArray, List.set_cons_zero, List.set_cons_succ, List.getElem_toArray, List.getElem_cons_succ, List.getElem_cons_zero])
        refine wpAnyH_take (i := 9) (v := ?rv9) rfl (by kernel_rfl) (by kernel_rfl) (by kernel_rfl) (fun _ _ _ h => h) (Or.inl ⟨by rfl, ?ry9⟩) (by assumption) ?rr9
        case ry9 => (intro w hSw; (try dsimp only at hSw); go_simp; try with_reducible rfl)
        (try simp only [Act.put, List.setIfInBounds_toArray, List.set_cons_zero, List.set_cons_succ, List.getElem_toArray, List.getElem_cons_succ, List.getElem_cons_zero])
        refine wpAnyH_take (i := 10) (v := ?rv10) rfl (by kernel_rfl) (by kernel_rfl) (by kernel_rfl) (fun _ _ _ h => h) (Or.inl ⟨by rfl, ?ry10⟩) (by assumption) ?rr10
        case ry10 => (intro w hSw; (try dsimp only at hSw); go_simp; try with_reducible rfl)
        (try simp only [Act.put, List.setIfInBounds_toArray, List.set_cons_zero, List.set_cons_succ, List.getElem_toArray, List.getElem_cons_succ, List.getElem_cons_zero])
        refine wpAnyH_take (i := 11) (v := ?rv11) rfl (by kernel_rfl) (by kernel_rfl) (by kernel_rfl) (fun _ _ _ h => h) (Or.inl ⟨by rfl, ?ry11⟩) (by assumption) ?rr11
        case ry11 => (intro w hSw; (try dsimp only at hSw); go_simp; try with_reducible rfl)
        (try simp only [Act.put, List.setIfInBounds_toArray, List.set_cons_zero, List.set_cons_succ, List.getElem_toArray, List.getElem_cons_succ, List.getElem_cons_zero])
        refine wpAnyH_ready (rs := [12]) (by kernel_rfl) (by simp) ?_
        refine AllReadyH.cons rfl (fun K hK => ?_) AllReadyH.nil
        rw [if_pos (by rfl)]
        go_simp
        refine hK.out _ _ (HS1.out _ ((Kt.refl [3] _).set _ _ _ HMB2.out (by simp))) (fun hHeld => ?_)
        try clear hK K
        (try simp only [Act.put, List.setIfInBounds_toArray, List.set_cons_zero, List.set_cons_succ, List.getElem_toArray, List.getElem_cons_succ, List.getElem_cons_zero])
        refine wpAnyH_done (by kernel_rfl) ?_ _
        obtain ⟨W3, hW3⟩ : ∃ W3, W3 = (W2.setCell ⟨K1, k.val, none⟩ (.int .i64 seq)).drew := ⟨_, rfl⟩
        have HRL3 : Hid (RL w base X B3 B4 Br (.slice (some ⟨gt, 0, none⟩) S.cells.length cpt) (.slice (some ⟨gm, 0, none⟩) S.cells.length cpm) ks #[.int .i64 op, .int .i64 k.val, .int .i64 seq, .int .i64 cf, .int .i64 ct, .slice ua data.length uc] (S.put (L.set j (setMark L[j] k seq))) (.slice none 0 0) W3) := hid (by
          have := HRL2.out.mark j hjL hjk k seq
          rw [← HK1.out] at this
          rw [hW3]; exact this.later ((Below.refl _ _).drew))
        have HBW3 : Hid (∀ q, q < w.heap.size → ¬ RB X (.slice (some ⟨gt, 0, none⟩) S.cells.length cpt) ks q → W3.heap[q]? = w.heap[q]?) := hid HRL3.out.but.block
        rw [← hW3]
        clear hW3 fz2 cmd hHeld HS1 HMB2
        have hjL3 : j < (L.set j (setMark L[j] k seq)).length := by simpa using hjL
        have ct3 := HRL3.out.st.textAt j (by simpa [StD.put] using hjL3)
        obtain ⟨curt, hgt⟩ := own_typed HRL3.out.st.texts (q := gt) rfl
        have ft3 : W3.frozen? ⟨gt, j, none⟩ = false := by simp [World.frozen?, hgt]
        obtain ⟨x0, x1, x2, x3, x4, x5, y0, y1, y2, y3, y4⟩ := rcells HRL3.out.c HRL3.out.st
        (try simp only [StD.put] at y0 y1 y2)
        obtain ⟨W4, hW4⟩ : ∃ W4, W4 = W3.setCell ⟨gt, j, none⟩ (.string ⟨#[]⟩) := ⟨_, rfl⟩
        have HRL4 : Hid (RL w base X B3 B4 Br (.slice (some ⟨gt, 0, none⟩) S.cells.length cpt) (.slice (some ⟨gm, 0, none⟩) S.cells.length cpm) ks #[.int .i64 op, .int .i64 k.val, .int .i64 seq, .int .i64 cf, .int .i64 ct, .slice ua data.length uc] (S.put (L.set j { text := ⟨#[]⟩, m := fun i => if i = k then seq else L[j].m i })) (.slice none 0 0) W4) := hid (by
          have := HRL3.out.text j hjL3 ⟨#[]⟩
          rw [set_two L j hjL k seq] at this
          rw [hW4]; exact this)
        have HE : Hid (∀ s : ByteArray, (s = if op = 2 then data.getD i ⟨#[]⟩ else ⟨#[]⟩) → chStep ⟨op, k.val, seq, cf, ct, data⟩ k d cnt L ⟨i, hlt⟩ = L.set j { text := s, m := fun i => if i = k then seq else L[j].m i }) := hid (by
          intro s hs
          unfold chStep
          show L.set (d + i) (chC _ k i (L.getD (d + i) zeroC)) = _
          rw [← HJ.out]
          have e1 : L.getD j zeroC = L[j] := by simp [List.getD, List.getElem?_eq_getElem hjL]
          rw [e1, chC, if_neg (by show ¬ seq ≤ L[j].m k; rw [← HM.out]; omega), hs])
        have HW4 := hid hW4
        clear hW4 hgt
        go_upto_region 20 with fail
        rw [← HW4.out]
        clear ct3 ft3 HW4 x0 x1 x2 x3 x4 x5 y0 y1 y2 y3 y4
        obtain ⟨x0, x1, x2, x3, x4, x5, y0, y1, y2, y3, y4⟩ := rcells HRL4.out.c HRL4.out.st
        (try simp only [StD.put] at y0 y1 y2)
        have hop3 : op ≠ 2 := by simpa using ho2
        have HS4 := hid (HE.out ⟨#[]⟩ (by rw [if_neg hop3]))
        clear hop3
        go_wp2_with fail
        go_roundw
        case rel => exact ⟨i + 1, by go_num, by omega, by rw [HSN.out, HS4.out]; exact HRL4.out⟩
        case measure => simp [intOf]; omega
      · have hd : decide (m < seq) = false := decide_eq_false hms
        have e : chStep ⟨op, k.val, seq, cf, ct, data⟩ k d cnt L ⟨i, hlt⟩ = L := by
          unfold chStep
          show L.set (d + i) (chC _ k i (L.getD (d + i) zeroC)) = L
          rw [← HJ.out]
          have e1 : L.getD j zeroC = L[j] := by simp [List.getD, List.getElem?_eq_getElem hjL]
          rw [e1, chC, if_pos (by show seq ≤ L[j].m k; rw [← HM.out]; omega)]
          simp
        have HE := hid (HSN.out.trans e)
        clear e
        go_wp2_with fail
        go_quiet (fail)
        go_wp2_with fail
        go_roundw
        case rel => exact ⟨i + 1, by go_num, by omega, by rw [HE.out]; exact HRLW.out.later (belowN _ _)⟩
        case measure => simp [intOf]; omega
    · have hltI : ¬ (i : Int) < (cnt : Int) := by omega
      obtain rfl : i = cnt := by omega
      rw [List.take_of_length_le (by simp)] at hRL
      have HRL := hid hRL
      clear hRL
      obtain ⟨x0, x1, x2, x3, x4, x5, y0, y1, y2, y3, y4⟩ := rcells HRL.out.c HRL.out.st
      (try simp only [StD.put] at y0 y1 y2)
      have hf := HF.out
      have ht := HT.out
      (try simp only at hf); (try simp only at ht)
      have wci : IntKind.i64.wrap (cf + (i : Int)) = cf + (i : Int) := IntWalk.i64_in _ ⟨by omega, by omega⟩
      have wcj : IntKind.i64.wrap (cf + (i : Int) - S.from') = ((d + i : Nat) : Int) := by rw [IntWalk.i64_in _ ⟨by omega, by omega⟩]; omega
      clear hf ht
      have a0 : wr.cell? ⟨Br, 0, none⟩ = some (.bool true) := by rw [cell_of_row _ _ _ _ _ _ HRL.out.o]; rfl
      have a1 : wr.cell? ⟨Br, 1, none⟩ = some (.slice none 0 0) := by rw [cell_of_row _ _ _ _ _ _ HRL.out.o]; rfl
      have d0 : wr.cell? ⟨B4, 0, none⟩ = some (.bool false) := by rw [cell_of_row _ _ _ _ _ _ HRL.out.r]; rfl
      have d1 : wr.cell? ⟨B4, 1, none⟩ = some (.slice none 0 0) := by rw [cell_of_row _ _ _ _ _ _ HRL.out.r]; rfl
      have e0 : wr.frozen? ⟨B4, 0, none⟩ = false := by simp [World.frozen?, HRL.out.r]
      have e1 : wr.frozen? ⟨B4, 1, none⟩ = false := by simp [World.frozen?, HRL.out.r]
      go_wp2_with fail
      have hE := rreply_end (w := w) (.bool true) (.slice none 0 0) HRL.out.r HRL.out.st HRL.out.but (by have := HwB.out; omega)
      (try simp only [Exit.inBlock, Exit.then])
      refine bodyPost_ret (results_reply rfl _ _ B4 _ _ _ _ rfl hE.1) rfl ?_
      exact ⟨none, 0, rfl, World.ownsRow_nil _ _ _ _, hE.2.1, hE.2.2.1⟩
end Go.Proofs.Ytabmnelenfghhaa
