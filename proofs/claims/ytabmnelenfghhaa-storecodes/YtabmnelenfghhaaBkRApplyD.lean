/- What the document's Apply answers to a read. -/
import Derived.Test.YtabmnelenfghhaaBkRApplyB
namespace Go.Proofs.Ytabmnelenfghhaa
open Go.RowKit
set_option linter.unusedVariables false
set_option linter.unusedSimpArgs false

set_option maxRecDepth 100000 in
set_option maxHeartbeats 8000000 in
theorem rapply_read (base X : Nat) (vt vm : Value) (ks : List Nat) (S : StD) (c : CmdD) (d cnt : Nat) (u : Value) (w : World) (hR : RSt w base X vt vm ks S) (hI : StI S) (hu : CmdOk w c u) (hm : mayB c = true) (hcl : c.op = 1) (hf : c.from' = S.from' + d) (ht : c.to = c.from' + cnt) (hN : d + cnt ≤ S.cells.length) (hfr : S.fr = false) :
    Calls Try.prog 39 #[.pointer (some ⟨X, 0, none⟩), cmdV c u] w (RApP base X vt vm ks S true 0 (txF S d (List.finRange cnt)) w) := by
  have HMB := hid hm
  have HCL := hid hcl
  have HF := hid hf
  have HT := hid ht
  have HN := hid hN
  have HFR := hid hfr
  have HI := hid hI
  have hbn := hI.n
  have hbf := hI.f
  have hbt := hI.t
  have hbft := hI.ft
  have hcnt : cnt ≤ 256 := by omega
  have hdN : d + cnt ≤ 256 := by omega
  clear hm hcl hf ht hN hfr hI
  have HR := hid hR
  have HU := hid hu
  obtain ⟨ua, uc, rfl⟩ := hu.u.shape
  have hXl := lt_of_block hR.head
  clear hR hu
  have hMay := hid fun W (hW : CmdOk W c (.slice ua c.data.length uc)) => rmay_any c _ W hW
  obtain ⟨op, client, seq, cf, ct, data⟩ := c
  unfold cmdV at hMay ⊢
  simp only at hMay ⊢
  obtain ⟨w0, hw0⟩ : ∃ w0, w0 = (w.alloc (.cells #[.int .i64 op, .int .i64 client, .int .i64 seq, .int .i64 cf, .int .i64 ct, .slice ua data.length uc] 24)).alloc (.cells #[.bool false, .slice none 0 0] 60) := ⟨_, rfl⟩
  have hb0 : Below w.heap.size w w0 := by rw [hw0]; exact ((Below.refl _ _).alloc (Nat.le_refl _) _).alloc (by simp) _
  have h30 : w0.heap[w.heap.size]? = some (.cells #[.int .i64 op, .int .i64 client, .int .i64 seq, .int .i64 cf, .int .i64 ct, .slice ua data.length uc] 24 (0, 0)) := by rw [hw0]; exact heap_alloc2_old _ _ _
  have h40 : w0.heap[w.heap.size + 1]? = some (.cells #[.bool false, .slice none 0 0] 60 (0, 0)) := by rw [hw0]; exact heap_alloc2_new _ _ _
  have HW0 := hid hw0
  clear hw0
  go_enter Try.func39, Try.ntmps39
  go_upto_region 1 with fail
  rw [← HW0.out]
  obtain ⟨B3, hB3⟩ : ∃ B, B = w.heap.size := ⟨_, rfl⟩
  obtain ⟨B4, hB4⟩ : ∃ B, B = w.heap.size + 1 := ⟨_, rfl⟩
  rw [← hB3] at h30
  rw [← hB4] at h40
  rw [← hB4, ← hB3]
  have hXB : X < B3 ∧ B3 < B4 := by omega
  have HwB : Hid (w.heap.size = B3) := hid hB3.symm
  clear hB3 hB4 HW0
  have q0 : w0.cell? ⟨B3, 0, none⟩ = some (.int .i64 op) := by rw [cell_of_row _ _ _ _ _ _ h30]; rfl
  have q1 : w0.cell? ⟨B3, 1, none⟩ = some (.int .i64 client) := by rw [cell_of_row _ _ _ _ _ _ h30]; rfl
  have q2 : w0.cell? ⟨B3, 2, none⟩ = some (.int .i64 seq) := by rw [cell_of_row _ _ _ _ _ _ h30]; rfl
  have q3 : w0.cell? ⟨B3, 3, none⟩ = some (.int .i64 cf) := by rw [cell_of_row _ _ _ _ _ _ h30]; rfl
  have q4 : w0.cell? ⟨B3, 4, none⟩ = some (.int .i64 ct) := by rw [cell_of_row _ _ _ _ _ _ h30]; rfl
  have q5 : w0.cell? ⟨B3, 5, none⟩ = some (.slice ua data.length uc) := by rw [cell_of_row _ _ _ _ _ _ h30]; rfl
  have H30 := hid h30
  have H40 := hid h40
  have B0 := hid hb0
  clear h30 h40 hb0
  go_wp2_with fail
  refine (hMay.out w0 (HU.out.below B0.out)).mono ?_
  rintro e w1 ⟨rfl, hb1⟩
  have H31 := hid ((hb1.block B3 (lt_of_block H30.out)).trans H30.out)
  have H41 := hid ((hb1.block B4 (lt_of_block H40.out)).trans H40.out)
  have B1 := hid (B0.out.trans (hb1.mono B0.out.size))
  clear hb1 q0 q1 q2 q3 q4 q5 H30 H40 B0 hMay
  have hm := HMB.out
  have hcl := HCL.out
  have hf := HF.out
  have ht := HT.out
  have hN := HN.out
  (try simp only at hf); (try simp only at ht); (try simp only at hcl)
  rw [hm]
  have R1 := hid (HR.out.below B1.out)
  obtain ⟨x0, x1, x2, x3, x4, x5, y0, y1, y2, y3, y4⟩ := rcells H31.out R1.out
  have d0 : w1.cell? ⟨B4, 0, none⟩ = some (.bool false) := by rw [cell_of_row _ _ _ _ _ _ H41.out]; rfl
  have d1 : w1.cell? ⟨B4, 1, none⟩ = some (.slice none 0 0) := by rw [cell_of_row _ _ _ _ _ _ H41.out]; rfl
  have e0 : w1.frozen? ⟨B4, 0, none⟩ = false := by simp [World.frozen?, H41.out]
  have e1 : w1.frozen? ⟨B4, 1, none⟩ = false := by simp [World.frozen?, H41.out]
  have hc1 : decide (1 ≤ op) = true := decide_eq_true (by omega)
  have hc2 : decide (op ≤ 4) = true := decide_eq_true (by omega)
  have hc5 : (op == 5) = false := by simp; omega
  have hd1 : decide (cf < S.from') = false := decide_eq_false (by omega)
  have hd2 : decide (S.to < ct) = false := decide_eq_false (by omega)
  have hwct : IntKind.i64.wrap (ct - cf) = (cnt : Int) := by rw [IntWalk.i64_in _ ⟨by omega, by omega⟩]; omega
  have ho1 : (op == 1) = true := by rw [hcl]; rfl
  have ho2 : (op == 2) = false := by rw [hcl]; rfl
  have ho3 : (op == 3) = false := by rw [hcl]; rfl
  have hSp : 0 < S.cells.length := by omega
  clear hm HMB hcl hf ht hbn
  go_upto_region 4 with fail
  go_quiet (fail)
  generalize hW : w1.drewN _ = W
  have hBW : Below w1.heap.size w1 W := by rw [← hW]; exact belowN _ _
  have BW := hid (B1.out.trans (hBW.mono B1.out.size))
  have RW := hid (R1.out.below hBW)
  have H3W := hid ((hBW.block B3 (lt_of_block H31.out)).trans H31.out)
  have H4W := hid ((hBW.block B4 (lt_of_block H41.out)).trans H41.out)
  clear hW hBW x0 x1 x2 x3 x4 x5 y0 y1 y2 y3 y4 d0 d1 e0 e1 H31 H41 R1 B1
  obtain ⟨x0, x1, x2, x3, x4, x5, y0, y1, y2, y3, y4⟩ := rcells H3W.out RW.out
  have d0 : W.cell? ⟨B4, 0, none⟩ = some (.bool false) := by rw [cell_of_row _ _ _ _ _ _ H4W.out]; rfl
  have d1 : W.cell? ⟨B4, 1, none⟩ = some (.slice none 0 0) := by rw [cell_of_row _ _ _ _ _ _ H4W.out]; rfl
  have e0 : W.frozen? ⟨B4, 0, none⟩ = false := by simp [World.frozen?, H4W.out]
  have e1 : W.frozen? ⟨B4, 1, none⟩ = false := by simp [World.frozen?, H4W.out]
  rw [HFR.out] at y2
  obtain ⟨w7, hw7⟩ : ∃ w7, w7 = W.alloc (.cells #[.bool true, .slice none 0 0] 60) := ⟨_, rfl⟩
  have b7 : Below W.heap.size W w7 := by rw [hw7]; exact (Below.refl _ _).alloc (Nat.le_refl _) _
  have h77 : w7.heap[W.heap.size]? = some (.cells #[.bool true, .slice none 0 0] 60 (0, 0)) := by rw [hw7]; exact heap_alloc_new _ _
  have H37 := hid ((b7.block B3 (lt_of_block H3W.out)).trans H3W.out)
  have H47 := hid ((b7.block B4 (lt_of_block H4W.out)).trans H4W.out)
  have B7 := hid (BW.out.trans (b7.mono BW.out.size))
  have R7 := hid (RW.out.below b7)
  have HW7 := hid hw7
  have H77 := hid h77
  have HB47 := hid (lt_of_block H4W.out)
  clear hw7 h77 b7
  go_upto_region 9 with fail
  rw [← HW7.out]
  obtain ⟨Br, hBr⟩ : ∃ B, B = W.heap.size := ⟨_, rfl⟩
  rw [← hBr] at H77 HB47 ⊢
  have HBrw : Hid (w.heap.size ≤ Br) := hid (by have := BW.out.size; omega)
  clear hBr HW7 x0 x1 x2 x3 x4 x5 y0 y1 y2 y3 y4 d0 d1 e0 e1 H3W H4W RW BW
  obtain ⟨x0, x1, x2, x3, x4, x5, y0, y1, y2, y3, y4⟩ := rcells H37.out R7.out
  clear hd1 hd2
  go_wp2_with fail
  have RL0 : Hid (RL w base X B3 B4 Br vt vm ks #[.int .i64 op, .int .i64 client, .int .i64 seq, .int .i64 cf, .int .i64 ct, .slice ua data.length uc] S (.slice none 0 0) w7) := hid ⟨H37.out, H47.out, H77.out, R7.out, ButR.of_below B7.out⟩
  clear x0 x1 x2 x3 x4 x5 y0 y1 y2 y3 y4 H37 H47 H77 R7 B7
  have hvs : ∃ gt cpt gm cpm, vt = .slice (some ⟨gt, 0, none⟩) S.cells.length cpt ∧ vm = .slice (some ⟨gm, 0, none⟩) S.cells.length cpm := by
    obtain ⟨gt, cpt, e1, -⟩ := own_some HR.out.texts hSp
    obtain ⟨gm, cpm, e2, -⟩ := own_some HR.out.rows hSp
    exact ⟨gt, cpt, gm, cpm, e1, e2⟩
  obtain ⟨gt, cpt, gm, cpm, rfl, rfl⟩ := hvs
  clear HCL hc1 hc2
  have hgtw : gt < w.heap.size := (HR.out.texts.lt gt rfl).2
  go_loopw [8, 9] (fun iv _ wr => ∃ (i : Nat) (va : Option Addr) (vc : Nat), iv = .int .i64 i ∧ i ≤ cnt ∧ RL w base X B3 B4 Br (.slice (some ⟨gt, 0, none⟩) S.cells.length cpt) (.slice (some ⟨gm, 0, none⟩) S.cells.length cpm) ks #[.int .i64 op, .int .i64 client, .int .i64 seq, .int .i64 cf, .int .i64 ct, .slice ua data.length uc] S (.slice va i vc) wr ∧ wr.ownsRow w.heap.size 9 1 (.slice va i vc) i (tvs (txF S d ((List.finRange cnt).take i)))) (fun iv _ _ => cnt - (intOf iv).toNat)
  case atStart => exact ⟨0, none, 0, rfl, Nat.zero_le _, RL0.out, World.ownsRow_nil _ _ _ _⟩
  case round =>
    obtain ⟨i, va, vc, rfl, hi, hRL, hO⟩ := hrel
    have HRL := hid hRL
    have HO0 := hid hO
    clear hRL hO
    obtain ⟨x0, x1, x2, x3, x4, x5, y0, y1, y2, y3, y4⟩ := rcells HRL.out.c HRL.out.st
    (try simp only [StD.put] at y0 y1 y2)
    have hf := HF.out
    have ht := HT.out
    (try simp only at hf); (try simp only at ht)
    have wci : IntKind.i64.wrap (cf + (i : Int)) = cf + (i : Int) := IntWalk.i64_in _ ⟨by omega, by omega⟩
    have wcj : IntKind.i64.wrap (cf + (i : Int) - S.from') = ((d + i : Nat) : Int) := by rw [IntWalk.i64_in _ ⟨by omega, by omega⟩]; omega
    clear hf ht
    by_cases hlt : i < cnt
    · have hltI : (i : Int) < (cnt : Int) := by omega
      have hTK : (List.finRange cnt).take (i + 1) = (List.finRange cnt).take i ++ [⟨i, hlt⟩] := by rw [List.take_add_one, List.getElem?_eq_getElem (by simpa using hlt)]; simp
      have HSN := hid (show txF S d ((List.finRange cnt).take (i + 1)) = txF S d ((List.finRange cnt).take i) ++ [(S.cells.getD (d + i) zeroC).text] by rw [hTK, txF_snoc])
      clear hTK
      obtain ⟨j, hj⟩ : ∃ j, j = d + i := ⟨_, rfl⟩
      rw [← hj] at wcj HSN
      have hjL : j < S.cells.length := by omega
      have hjS : (0 : Int) ≤ (j : Int) ∧ (j : Int) < (S.cells.length : Int) := by omega
      rw [show S.cells.getD j zeroC = S.cells[j] from by simp [List.getD, List.getElem?_eq_getElem hjL]] at HSN
      obtain ⟨l, hl⟩ : ∃ l, l = txF S d ((List.finRange cnt).take i) := ⟨_, rfl⟩
      rw [← hl] at HSN HO0
      clear hj hl
      go_wp2_with fail
      go_quiet (fail)
      generalize hW : wr.drewN _ = W
      have hBW : Below wr.heap.size wr W := by rw [← hW]; exact belowN _ _
      have HRLW := hid (HRL.out.later hBW)
      have HO := hid (own_below HO0.out hBW)
      clear hW hBW x0 x1 x2 x3 x4 x5 y0 y1 y2 y3 y4 HRL HO0
      obtain ⟨x0, x1, x2, x3, x4, x5, y0, y1, y2, y3, y4⟩ := rcells HRLW.out.c HRLW.out.st
      have ct0 := HRLW.out.st.textAt j hjL
      have b1 : W.cell? ⟨Br, 1, none⟩ = some (.slice va i vc) := by rw [cell_of_row _ _ _ _ _ _ HRLW.out.o]; rfl
      generalize S.cells[j].text = tx at ct0 HSN
      have hgtl : gt < W.heap.size := (HRLW.out.st.texts.lt gt rfl).2
      have HGT : Hid (∃ cs, W.heap[gt]? = some (.cells cs 9 (0, 0))) := hid (own_typed HRLW.out.st.texts rfl)
      have HNB : Hid (∀ q, q < W.heap.size → (∀ cs fr, W.heap[q]? ≠ some (.cells cs 9 fr)) → some q ≠ (Value.slice va i vc).ownBlock) := hid fun q _ hn e => by
        obtain ⟨cur, hc⟩ := own_typed HO.out e.symm
        exact hn _ _ hc
      go_upto_region 16 with fail
      clear x1 x2 x3 x4 x5 y0 y1 y2 y4
      have HSB : Hid (∀ Y, Below W.heap.size W Y → Y.cell? ⟨X, 3, none⟩ = some (.slice (some ⟨gt, 0, none⟩) S.cells.length cpt) ∧ Y.cell? ⟨gt, j, none⟩ = some (.string tx)) := hid fun Y hY => ⟨cell_later hY y3, cell_later hY ct0⟩
      refine wp_region_held_drew (S := fun Y => Y.cell? ⟨X, 3, none⟩ = some (.slice (some ⟨gt, 0, none⟩) S.cells.length cpt) ∧ Y.cell? ⟨gt, j, none⟩ = some (.string tx)) (by kernel_rfl) (HSB.out _ ((Below.refl _ _).drew)) (fun hHeld => ?_)
      refine wpAnyH_take (i := 0) (v := ?rv0) rfl (by kernel_rfl) (by kernel_rfl) (by kernel_rfl) (fun _ _ _ h => h) (Or.inl ⟨by rfl, ?ry0⟩) (by assumption) ?rr0
      case ry0 => (intro w hSw; (try dsimp only at hSw); go_simp; try with_reducible rfl)
      (try simp only [Act.put, List.setIfInBounds_toArray, List.set_cons_zero, List.set_cons_succ, List.getElem_toArray, List.getElem_cons_succ, List.getElem_cons_zero])
      refine wpAnyH_take (i := 2) (v := ?rv2) rfl (by kernel_rfl) (by kernel_rfl) (by kernel_rfl) (fun _ _ _ h => h) (Or.inl ⟨by rfl, ?ry2⟩) (by assumption) ?rr2
      case ry2 => (intro w hSw; (try dsimp only at hSw); go_simp; try with_reducible rfl)
      (try simp only [Act.put, List.setIfInBounds_toArray, List.set_cons_zero, List.set_cons_succ, List.getElem_toArray, List.getElem_cons_succ, List.getElem_cons_zero])
      refine wpAnyH_take (i := 3) (v := ?rv3) rfl (by kernel_rfl) (by kernel_rfl) (by kernel_rfl) (fun _ _ _ h => h) (Or.inl ⟨by rfl, ?ry3⟩) (by assumption) ?rr3
      case ry3 => (intro w hSw; (try dsimp only at hSw); go_simp; try with_reducible rfl)
      (try simp only [Act.put, List.setIfInBounds_toArray, List.set_cons_zero, List.set_cons_succ, List.getElem_toArray, List.getElem_cons_succ, List.getElem_cons_zero])
      refine wpAnyH_take (i := 4) (v := ?rv4) rfl (by kernel_rfl) (by kernel_rfl) (by kernel_rfl) (fun _ _ _ h => h) (Or.inl ⟨by rfl, ?ry4⟩) (by assumption) ?rr4
      case ry4 => (intro w hSw; (try dsimp only at hSw); go_simp; try with_reducible rfl)
      (try simp only [Act.put, List.setIfInBounds_toArray, List.set_cons_zero, List.set_cons_succ, List.getElem_toArray, List.getElem_cons_succ, List.getElem_cons_zero])
      refine wpAnyH_take (i := 5) (v := ?rv5) rfl (by kernel_rfl) (by kernel_rfl) (by kernel_rfl) (fun _ _ _ h => h) (Or.inl ⟨by rfl, ?ry5⟩) (by assumption) ?rr5
      case ry5 => (intro w hSw; (try dsimp only at hSw); go_simp; try with_reducible rfl)
      (try simp only [Act.put, List.setIfInBounds_toArray, List.set_cons_zero, List.set_cons_succ, List.getElem_toArray, List.getElem_cons_succ, List.getElem_cons_zero])
      refine wpAnyH_take (i := 6) (v := ?rv6) rfl (by kernel_rfl) (by kernel_rfl) (by kernel_rfl) (fun _ _ _ h => h) (Or.inl ⟨by rfl, ?ry6⟩) (by assumption) ?rr6
      case ry6 => (intro w hSw; (try dsimp only at hSw); go_simp; try with_reducible rfl)
      (try simp only [Act.put, List.setIfInBounds_toArray, List.set_cons_zero, List.set_cons_succ, List.getElem_toArray, List.getElem_cons_succ, List.getElem_cons_zero])
      refine wpAnyH_take (i := 7) (v := ?rv7) rfl (by kernel_rfl) (by kernel_rfl) (by kernel_rfl) (fun _ _ _ h => h) (Or.inl ⟨by rfl, ?ry7⟩) (by assumption) ?rr7
      case ry7 => (intro w hSw; (try dsimp only at hSw); go_simp; try with_reducible rfl)
      (try simp only [Act.put, List.setIfInBounds_toArray, List.set_cons_zero, List.set_cons_succ, List.getElem_toArray, List.getElem_cons_succ, List.getElem_cons_zero])
      refine wpAnyH_take (i := 8) (v := ?rv8) rfl (by kernel_rfl) (by kernel_rfl) (by kernel_rfl) (fun _ _ _ h => h) (Or.inl ⟨by rfl, ?ry8⟩) (by assumption) ?rr8
      case ry8 => (intro w hSw; (try dsimp only at hSw); go_simp; try with_reducible rfl)
      (try simp only [Act.put, List.setIfInBounds_toArray, List.set_cons_zero, List.set_cons_succ, List.getElem_toArray, List.getElem_cons_succ, List.getElem_cons_zero])
      refine wpAnyH_ready (rs := [1, 9]) (by kernel_rfl) (by simp) ?_
      refine AllReadyH.cons rfl (fun K hK => ?_) (AllReadyH.cons rfl (fun K hK => ?_) AllReadyH.nil)
      · rw [if_pos (by rfl)]
        go_simp
        refine hK.out _ _ hHeld (fun hHeld => ?_)
        clear hK K
        (try simp only [Act.put, List.setIfInBounds_toArray, List.set_cons_zero, List.set_cons_succ, List.getElem_toArray, List.getElem_cons_succ, List.getElem_cons_zero])
        refine wpAnyH_ready (rs := [9]) (by kernel_rfl) (by simp) ?_
        refine AllReadyH.cons rfl (fun K hK => ?_) AllReadyH.nil
        rw [if_pos (by rfl)]
        go_simp
        refine hK.out _ _ (HSB.out _ (((Below.refl _ _).alloc (Nat.le_refl _) _).drew)) (fun hHeld => ?_)
        clear hK K
        (try simp only [Act.put, List.setIfInBounds_toArray, List.set_cons_zero, List.set_cons_succ, List.getElem_toArray, List.getElem_cons_succ, List.getElem_cons_zero])
        refine wpAnyH_ready (rs := [10]) (by kernel_rfl) (by simp) ?_
        refine AllReadyH.cons rfl (fun K hK => ?_) AllReadyH.nil
        rw [if_pos (by rfl)]
        refine wp_app rowStr _ _ rfl w.heap.size (.slice va i vc) i (tvs l) rfl (own_below HO.out (((Below.refl _ _).drew).alloc (Nat.le_refl _) _)) W.heap.size 1 1 [.string tx] rfl rfl ?ys (by simp [Value.oneCell']) (by omega) (by have := HRLW.out.but.size; simp; omega) ?_
        case ys =>
          intro j' u hj'
          match j' with
          | 0 => simp at hj'; subst hj'; show (W.alloc _).cell? _ = _; rw [cell_of_row _ _ _ _ _ _ (heap_alloc_new W _)]; rfl
          | j' + 1 => simp at hj'
        intro va' vc' W2 ho2 hg2
        have kt2 : ∀ q, q < W.heap.size → some q ≠ (Value.slice va i vc).ownBlock → W2.heap[q]? = W.heap[q]? := fun q hq hne => (hg2.block q (by simp; omega) hne).trans (Below.heap_alloc _ _ _ hq)
        have hX2 := kt2 X (lt_of_block HRLW.out.st.head) (HNB.out X (lt_of_block HRLW.out.st.head) (fun cs fr h => by rw [HRLW.out.st.head] at h; cases h))
        have hg2' := kt2 gt hgtl (fun e => by have := (HO.out.lt gt e.symm).1; omega)
        refine hK.out _ _ ⟨(World.cell?_of_block (a := ⟨X, 3, none⟩) hX2).trans y3, (World.cell?_of_block (a := ⟨gt, j, none⟩) hg2').trans ct0⟩ (fun hHeld => ?_)
        clear hK K
        (try simp only [Act.put, List.setIfInBounds_toArray, List.set_cons_zero, List.set_cons_succ, List.getElem_toArray, List.getElem_cons_succ, List.getElem_cons_zero])
        have hB2 := (kt2 Br (lt_of_block HRLW.out.o) (HNB.out Br (lt_of_block HRLW.out.o) (fun cs fr h => by rw [HRLW.out.o] at h; cases h)))
        have c12 : W2.cell? ⟨Br, 1, none⟩ = some (.slice va i vc) := (World.cell?_of_block (a := ⟨Br, 1, none⟩) hB2).trans b1
        have f12 : W2.frozen? ⟨Br, 1, none⟩ = false := by simp [World.frozen?, hB2, HRLW.out.o]
        have hgBr : gt ≠ Br ∧ X ≠ Br := ⟨fun e => by have := HGT.out; rw [e, HRLW.out.o] at this; simp at this, fun e => by have := HRLW.out.st.head; rw [e, HRLW.out.o] at this; simp at this⟩
        refine wpAnyH_take (i := 11) (v := ?pv11) rfl (by kernel_rfl) (by kernel_rfl) (by kernel_rfl) (fun _ _ _ h => h) (Or.inl ⟨by rfl, ?py11⟩) (by assumption) ?pr11
        case py11 => (intro w hSw; (try dsimp only at hSw); go_simp; try with_reducible rfl)
        (try simp only [Act.put, List.setIfInBounds_toArray, List.set_cons_zero, List.set_cons_succ, List.getElem_toArray, List.getElem_cons_succ, List.getElem_cons_zero])
        refine wpAnyH_ready (rs := [12]) (by kernel_rfl) (by simp) ?_
        refine AllReadyH.cons rfl (fun K hK => ?_) AllReadyH.nil
        rw [if_pos (by rfl)]
        go_simp
        refine hK.out _ _ ⟨(World.cell?_of_block (a := ⟨X, 3, none⟩) (Below.heap_setCell _ ⟨Br, 1, none⟩ _ X hgBr.2)).trans hHeld.1, (World.cell?_of_block (a := ⟨gt, j, none⟩) (Below.heap_setCell _ ⟨Br, 1, none⟩ _ gt hgBr.1)).trans hHeld.2⟩ (fun hHeld => ?_)
        clear hK K
        (try simp only [Act.put, List.setIfInBounds_toArray, List.set_cons_zero, List.set_cons_succ, List.getElem_toArray, List.getElem_cons_succ, List.getElem_cons_zero])
        refine wpAnyH_done (by kernel_rfl) ?_ _
        have KT : Kt [9] W W2 := fun q cs t fr hq hn => kt2 q (lt_of_block hq) (HNB.out q (lt_of_block hq) (fun cs' fr' h => by rw [hq] at h; cases h; exact hn (by simp)))
        have hBr2 : W2.heap[Br]? = _ := hB2.trans HRLW.out.o
        have K3 : Kt [60] W2 (W2.setCell ⟨Br, 1, none⟩ (.slice va' (i + 1) vc')) := (Kt.refl _ _).set Br 1 _ hBr2 (by simp)
        have hbut : ButR (RB X (.slice (some ⟨gt, 0, none⟩) S.cells.length cpt) ks) w (W2.setCell ⟨Br, 1, none⟩ (.slice va' (i + 1) vc')) := (⟨hg2.os.trans HRLW.out.but.os, hg2.tape.trans HRLW.out.but.tape, hg2.output.trans HRLW.out.but.output, by have := hg2.size; have := HRLW.out.but.size; simp at *; omega, fun q hq hn => (kt2 q (Nat.lt_of_lt_of_le hq HRLW.out.but.size) (fun e => by have := (HO.out.lt q e.symm).1; omega)).trans (HRLW.out.but.block q hq hn)⟩ : ButR _ w W2).setNew (.inl HBrw.out) 1 _
        have hst2 : RSt (W2.setCell ⟨Br, 1, none⟩ (.slice va' (i + 1) vc')) base X (.slice (some ⟨gt, 0, none⟩) S.cells.length cpt) (.slice (some ⟨gm, 0, none⟩) S.cells.length cpm) ks S := by
          have h2 : RSt W2 base X (.slice (some ⟨gt, 0, none⟩) S.cells.length cpt) (.slice (some ⟨gm, 0, none⟩) S.cells.length cpm) ks S := by
            have h := HRLW.out.st
            refine ⟨(KT X _ _ _ h.head (by decide)).trans h.head, own_kept h.texts fun q cs hq hh => ?_, own_kt h.rows KT (by decide), h.n, fun q h1 h2 => ?_, h.nd⟩
            · cases hq; exact hg2'
            · obtain ⟨a, b⟩ := h.marks q h1 h2
              exact ⟨a, (KT _ _ _ _ b (by decide)).trans b⟩
          exact h2.kt K3 (by decide)
        have hh3 := (KT _ _ _ _ HRLW.out.c (by decide)).trans HRLW.out.c
        have hh4 : W2.heap[B4]? = _ := (KT _ _ _ _ HRLW.out.r (by decide)).trans HRLW.out.r
        have HRL3 : Hid (RL w base X B3 B4 Br (.slice (some ⟨gt, 0, none⟩) S.cells.length cpt) (.slice (some ⟨gm, 0, none⟩) S.cells.length cpm) ks #[.int .i64 op, .int .i64 client, .int .i64 seq, .int .i64 cf, .int .i64 ct, .slice ua data.length uc] S (.slice va' (i + 1) vc') (W2.setCell ⟨Br, 1, none⟩ (.slice va' (i + 1) vc'))) := hid ⟨(K3 _ _ _ _ hh3 (by decide)).trans hh3, (Below.heap_setCell _ ⟨Br, 1, none⟩ _ B4 (show B4 ≠ Br by have := HB47.out; omega)).trans hh4, by rw [heap_setCell_same W2 Br 1 _ 60 _ hBr2]; simp, hst2, hbut⟩
        have HO3 : Hid ((W2.setCell ⟨Br, 1, none⟩ (.slice va' (i + 1) vc')).ownsRow w.heap.size 9 1 (.slice va' (i + 1) vc') (i + 1) (tvs (l ++ [tx]))) := hid (by rw [tvs_snoc]; exact own_kt ho2 K3 (by decide))
        generalize W2.setCell ⟨Br, 1, none⟩ (.slice va' (i + 1) vc') = W4 at HRL3 HO3 ⊢
        clear kt2 hX2 hg2' hB2 c12 f12 hgBr KT hBr2 K3 hbut hst2 hh3 hh4 ho2 hg2 hHeld y3 ct0 b1
        obtain ⟨x0, x1, x2, x3, x4, x5, y0, y1, y2, y3, y4⟩ := rcells HRL3.out.c HRL3.out.st
        go_wp2_with fail
        go_quiet (fail)
        go_wp2_with fail
        go_roundw
        case rel => exact ⟨i + 1, va', vc', by go_num, by omega, HRL3.out.later (belowN _ _), by rw [HSN.out]; exact own_below HO3.out (belowN _ _)⟩
        case measure => simp [intOf]; omega
      · rw [if_pos (by rfl)]
        go_simp
        refine hK.out _ _ (HSB.out _ (((Below.refl _ _).alloc (Nat.le_refl _) _).drew)) (fun hHeld => ?_)
        clear hK K
        (try simp only [Act.put, List.setIfInBounds_toArray, List.set_cons_zero, List.set_cons_succ, List.getElem_toArray, List.getElem_cons_succ, List.getElem_cons_zero])
        have c5' : ((W.alloc (.cells #[.string tx] 9)).drew).cell? ⟨Br, 1, none⟩ = some (.slice va i vc) := cell_later (((Below.refl _ _).alloc (Nat.le_refl W.heap.size) (.cells #[.string tx] 9)).drew) b1
        refine wpAnyH_ready (rs := [1]) (by kernel_rfl) (by simp) ?_
        refine AllReadyH.cons rfl (fun K hK => ?_) AllReadyH.nil
        rw [if_pos (by rfl)]
        go_simp
        refine hK.out _ _ hHeld (fun hHeld => ?_)
        clear hK K
        (try simp only [Act.put, List.setIfInBounds_toArray, List.set_cons_zero, List.set_cons_succ, List.getElem_toArray, List.getElem_cons_succ, List.getElem_cons_zero])
        clear c5'
        refine wpAnyH_ready (rs := [10]) (by kernel_rfl) (by simp) ?_
        refine AllReadyH.cons rfl (fun K hK => ?_) AllReadyH.nil
        rw [if_pos (by rfl)]
        refine wp_app rowStr _ _ rfl w.heap.size (.slice va i vc) i (tvs l) rfl (own_below HO.out (((Below.refl _ _).drew).alloc (Nat.le_refl _) _)) W.heap.size 1 1 [.string tx] rfl rfl ?ys (by simp [Value.oneCell']) (by omega) (by have := HRLW.out.but.size; simp; omega) ?_
        case ys =>
          intro j' u hj'
          match j' with
          | 0 => simp at hj'; subst hj'; show (W.alloc _).cell? _ = _; rw [cell_of_row _ _ _ _ _ _ (heap_alloc_new W _)]; rfl
          | j' + 1 => simp at hj'
        intro va' vc' W2 ho2 hg2
        have kt2 : ∀ q, q < W.heap.size → some q ≠ (Value.slice va i vc).ownBlock → W2.heap[q]? = W.heap[q]? := fun q hq hne => (hg2.block q (by simp; omega) hne).trans (Below.heap_alloc _ _ _ hq)
        have hX2 := kt2 X (lt_of_block HRLW.out.st.head) (HNB.out X (lt_of_block HRLW.out.st.head) (fun cs fr h => by rw [HRLW.out.st.head] at h; cases h))
        have hg2' := kt2 gt hgtl (fun e => by have := (HO.out.lt gt e.symm).1; omega)
        refine hK.out _ _ ⟨(World.cell?_of_block (a := ⟨X, 3, none⟩) hX2).trans y3, (World.cell?_of_block (a := ⟨gt, j, none⟩) hg2').trans ct0⟩ (fun hHeld => ?_)
        clear hK K
        (try simp only [Act.put, List.setIfInBounds_toArray, List.set_cons_zero, List.set_cons_succ, List.getElem_toArray, List.getElem_cons_succ, List.getElem_cons_zero])
        have hB2 := (kt2 Br (lt_of_block HRLW.out.o) (HNB.out Br (lt_of_block HRLW.out.o) (fun cs fr h => by rw [HRLW.out.o] at h; cases h)))
        have c12 : W2.cell? ⟨Br, 1, none⟩ = some (.slice va i vc) := (World.cell?_of_block (a := ⟨Br, 1, none⟩) hB2).trans b1
        have f12 : W2.frozen? ⟨Br, 1, none⟩ = false := by simp [World.frozen?, hB2, HRLW.out.o]
        have hgBr : gt ≠ Br ∧ X ≠ Br := ⟨fun e => by have := HGT.out; rw [e, HRLW.out.o] at this; simp at this, fun e => by have := HRLW.out.st.head; rw [e, HRLW.out.o] at this; simp at this⟩
        refine wpAnyH_take (i := 11) (v := ?qv11) rfl (by kernel_rfl) (by kernel_rfl) (by kernel_rfl) (fun _ _ _ h => h) (Or.inl ⟨by rfl, ?qy11⟩) (by assumption) ?qr11
        case qy11 => (intro w hSw; (try dsimp only at hSw); go_simp; try with_reducible rfl)
        (try simp only [Act.put, List.setIfInBounds_toArray, List.set_cons_zero, List.set_cons_succ, List.getElem_toArray, List.getElem_cons_succ, List.getElem_cons_zero])
        refine wpAnyH_ready (rs := [12]) (by kernel_rfl) (by simp) ?_
        refine AllReadyH.cons rfl (fun K hK => ?_) AllReadyH.nil
        rw [if_pos (by rfl)]
        go_simp
        refine hK.out _ _ ⟨(World.cell?_of_block (a := ⟨X, 3, none⟩) (Below.heap_setCell _ ⟨Br, 1, none⟩ _ X hgBr.2)).trans hHeld.1, (World.cell?_of_block (a := ⟨gt, j, none⟩) (Below.heap_setCell _ ⟨Br, 1, none⟩ _ gt hgBr.1)).trans hHeld.2⟩ (fun hHeld => ?_)
        clear hK K
        (try simp only [Act.put, List.setIfInBounds_toArray, List.set_cons_zero, List.set_cons_succ, List.getElem_toArray, List.getElem_cons_succ, List.getElem_cons_zero])
        refine wpAnyH_done (by kernel_rfl) ?_ _
        have KT : Kt [9] W W2 := fun q cs t fr hq hn => kt2 q (lt_of_block hq) (HNB.out q (lt_of_block hq) (fun cs' fr' h => by rw [hq] at h; cases h; exact hn (by simp)))
        have hBr2 : W2.heap[Br]? = _ := hB2.trans HRLW.out.o
        have K3 : Kt [60] W2 (W2.setCell ⟨Br, 1, none⟩ (.slice va' (i + 1) vc')) := (Kt.refl _ _).set Br 1 _ hBr2 (by simp)
        have hbut : ButR (RB X (.slice (some ⟨gt, 0, none⟩) S.cells.length cpt) ks) w (W2.setCell ⟨Br, 1, none⟩ (.slice va' (i + 1) vc')) := (⟨hg2.os.trans HRLW.out.but.os, hg2.tape.trans HRLW.out.but.tape, hg2.output.trans HRLW.out.but.output, by have := hg2.size; have := HRLW.out.but.size; simp at *; omega, fun q hq hn => (kt2 q (Nat.lt_of_lt_of_le hq HRLW.out.but.size) (fun e => by have := (HO.out.lt q e.symm).1; omega)).trans (HRLW.out.but.block q hq hn)⟩ : ButR _ w W2).setNew (.inl HBrw.out) 1 _
        have hst2 : RSt (W2.setCell ⟨Br, 1, none⟩ (.slice va' (i + 1) vc')) base X (.slice (some ⟨gt, 0, none⟩) S.cells.length cpt) (.slice (some ⟨gm, 0, none⟩) S.cells.length cpm) ks S := by
          have h2 : RSt W2 base X (.slice (some ⟨gt, 0, none⟩) S.cells.length cpt) (.slice (some ⟨gm, 0, none⟩) S.cells.length cpm) ks S := by
            have h := HRLW.out.st
            refine ⟨(KT X _ _ _ h.head (by decide)).trans h.head, own_kept h.texts fun q cs hq hh => ?_, own_kt h.rows KT (by decide), h.n, fun q h1 h2 => ?_, h.nd⟩
            · cases hq; exact hg2'
            · obtain ⟨a, b⟩ := h.marks q h1 h2
              exact ⟨a, (KT _ _ _ _ b (by decide)).trans b⟩
          exact h2.kt K3 (by decide)
        have hh3 := (KT _ _ _ _ HRLW.out.c (by decide)).trans HRLW.out.c
        have hh4 : W2.heap[B4]? = _ := (KT _ _ _ _ HRLW.out.r (by decide)).trans HRLW.out.r
        have HRL3 : Hid (RL w base X B3 B4 Br (.slice (some ⟨gt, 0, none⟩) S.cells.length cpt) (.slice (some ⟨gm, 0, none⟩) S.cells.length cpm) ks #[.int .i64 op, .int .i64 client, .int .i64 seq, .int .i64 cf, .int .i64 ct, .slice ua data.length uc] S (.slice va' (i + 1) vc') (W2.setCell ⟨Br, 1, none⟩ (.slice va' (i + 1) vc'))) := hid ⟨(K3 _ _ _ _ hh3 (by decide)).trans hh3, (Below.heap_setCell _ ⟨Br, 1, none⟩ _ B4 (show B4 ≠ Br by have := HB47.out; omega)).trans hh4, by rw [heap_setCell_same W2 Br 1 _ 60 _ hBr2]; simp, hst2, hbut⟩
        have HO3 : Hid ((W2.setCell ⟨Br, 1, none⟩ (.slice va' (i + 1) vc')).ownsRow w.heap.size 9 1 (.slice va' (i + 1) vc') (i + 1) (tvs (l ++ [tx]))) := hid (by rw [tvs_snoc]; exact own_kt ho2 K3 (by decide))
        generalize W2.setCell ⟨Br, 1, none⟩ (.slice va' (i + 1) vc') = W4 at HRL3 HO3 ⊢
        clear kt2 hX2 hg2' hB2 c12 f12 hgBr KT hBr2 K3 hbut hst2 hh3 hh4 ho2 hg2 hHeld y3 ct0 b1
        obtain ⟨x0, x1, x2, x3, x4, x5, y0, y1, y2, y3, y4⟩ := rcells HRL3.out.c HRL3.out.st
        go_wp2_with fail
        go_quiet (fail)
        go_wp2_with fail
        go_roundw
        case rel => exact ⟨i + 1, va', vc', by go_num, by omega, HRL3.out.later (belowN _ _), by rw [HSN.out]; exact own_below HO3.out (belowN _ _)⟩
        case measure => simp [intOf]; omega
    · have hltI : ¬ (i : Int) < (cnt : Int) := by omega
      obtain rfl : i = cnt := by omega
      have HOE := HO0
      rw [List.take_of_length_le (by simp)] at HOE
      clear HO0
      have a0 : wr.cell? ⟨Br, 0, none⟩ = some (.bool true) := by rw [cell_of_row _ _ _ _ _ _ HRL.out.o]; rfl
      have a1 : wr.cell? ⟨Br, 1, none⟩ = some (.slice va i vc) := by rw [cell_of_row _ _ _ _ _ _ HRL.out.o]; rfl
      have d0 : wr.cell? ⟨B4, 0, none⟩ = some (.bool false) := by rw [cell_of_row _ _ _ _ _ _ HRL.out.r]; rfl
      have d1 : wr.cell? ⟨B4, 1, none⟩ = some (.slice none 0 0) := by rw [cell_of_row _ _ _ _ _ _ HRL.out.r]; rfl
      have e0 : wr.frozen? ⟨B4, 0, none⟩ = false := by simp [World.frozen?, HRL.out.r]
      have e1 : wr.frozen? ⟨B4, 1, none⟩ = false := by simp [World.frozen?, HRL.out.r]
      go_wp2_with fail
      have hE := rreply_end (w := w) (.bool true) (.slice va i vc) HRL.out.r HRL.out.st HRL.out.but (by have := HwB.out; omega)
      (try simp only [Exit.inBlock, Exit.then])
      refine bodyPost_ret (results_reply rfl _ _ B4 _ _ _ _ rfl hE.1) rfl ?_
      have hO8 := own_kt HOE.out hE.2.2.2 (by decide)
      have hln : (txF S d (List.finRange i)).length = i := by rw [txF_len]; simp
      refine ⟨va, vc, ?_, ?_, hE.2.1, hE.2.2.1⟩
      · rw [hln]; rfl
      · rw [hln]; exact hO8
end Go.Proofs.Ytabmnelenfghhaa
