/- Which instances may be, to the document. Conditions: their lists lie in memory. -/
import Derived.Test.YthhcpoafnmhnhaaInRMayI
namespace Go.Proofs.Ythhcpoafnmhnhaa
open Go.RowKit
set_option linter.unusedVariables false
set_option linter.unusedSimpArgs false

set_option maxRecDepth 100000 in
set_option maxHeartbeats 8000000 in
theorem rmayI_any (x : InD) (u v : Value) (w : World) (hx : InM w x u v) (hc : CmdOk w x.cmd u) :
    Calls Try.prog 19 #[instV x u v] w fun e w' => e = .returned (.bool (instB x)) ∧ Below w.heap.size w w' := by
  obtain ⟨xua, xuc, rfl⟩ := hx.d.shape
  obtain ⟨xva, xvc, rfl⟩ := hx.r.shape
  have hL := hx.r.len
  have hLd := strs_len hx.d
  have HRF := hid (fun W => rmayRef_any x.ref W)
  have HB1 := hid (fun W => rmayBallot_any x.bal W)
  have HB2 := hid (fun W => rmayBallot_any x.vote W)
  have HLS := hid (fun W => rless_any x.bal x.vote W)
  have HSC := hid (fun W h1 => rsameCmd_any x.cmd ⟨0, 0, 0, 0, 0, []⟩ (.slice xua x.cmd.data.length xuc) (.slice none 0 0) W h1 (Strs.nil _))
  have HMC := hid (fun W h1 => rmay_any x.cmd (.slice xua x.cmd.data.length xuc) W h1)
  have HX := hid hx
  have HC := hid hc
  have HBX := hid (rmayI_eq x)
  clear hx hc
  rw [← HBX.out]
  clear HBX
  unfold rmayI rbare
  obtain ⟨⟨xr0, xr1⟩, ⟨xb0, xb1⟩, ⟨xv0, xv1⟩, xst, xsm, ⟨xc0, xc1, xc2, xc3, xc4, xcd⟩, xsq, l⟩ := x
  unfold cmdV at HSC HMC
  unfold instV instC
  simp only at HRF HB1 HB2 HLS HSC HMC HX HC hL hLd ⊢
  generalize refB (xr0, xr1) = rb at *
  generalize balB (xb0, xb1) = bb at *
  generalize balB (xv0, xv1) = bv at *
  generalize decide (cmp2 (xb0, xb1) (xv0, xv1) < 0) = ls at *
  generalize cmdEqB _ _ = sc at *
  generalize mayB _ = mc at *
  obtain ⟨res, hres⟩ : ∃ res, res = (if (!rb || (!bb || (!bv || (ls || (decide (xst < 0) || (decide (3 < xst) || (decide (xsq < 0) || decide (1099511627776 < xsq)))))))) = true then false else if (xst == 0) = true then eqB (xv0, xv1) ((0 : Int), (0 : Int)) && (!xsm && (sc && (xsq == 0 && l.length == 0))) else (List.range l.length).all (depB l) && (mc && decide (l.length ≤ 4096))) := ⟨_, rfl⟩
  rw [← hres]
  obtain ⟨w1, hw1⟩ : ∃ w1, w1 = w.alloc (.cells #[.int .i64 xr0, .int .i64 xr1, .int .i64 xb0, .int .i64 xb1, .int .i64 xv0, .int .i64 xv1, .int .i64 xst, .bool xsm, .int .i64 xc0, .int .i64 xc1, .int .i64 xc2, .int .i64 xc3, .int .i64 xc4, .slice xua xcd.length xuc, .int .i64 xsq, .slice xva l.length xvc] 38) := ⟨_, rfl⟩
  have hb1 : Below w.heap.size w w1 := by rw [hw1]; exact (Below.refl _ _).alloc (Nat.le_refl _) _
  have hA : w1.heap[w.heap.size]? = some (.cells #[.int .i64 xr0, .int .i64 xr1, .int .i64 xb0, .int .i64 xb1, .int .i64 xv0, .int .i64 xv1, .int .i64 xst, .bool xsm, .int .i64 xc0, .int .i64 xc1, .int .i64 xc2, .int .i64 xc3, .int .i64 xc4, .slice xua xcd.length xuc, .int .i64 xsq, .slice xva l.length xvc] 38 (0, 0)) := by rw [hw1]; exact heap_alloc_new _ _
  have HW1 := hid hw1
  have B1 := hid hb1
  have HRS := hid hres
  clear hw1 hb1 hres
  go_enter Try.func19, Try.ntmps19
  go_upto_region 1 with fail
  rw [← HW1.out]
  obtain ⟨A, hAe⟩ : ∃ A, A = w.heap.size := ⟨_, rfl⟩
  rw [← hAe] at hA
  rw [← hAe]
  clear hAe HW1
  have SW : Hid (∀ X, Below w1.heap.size w1 X → X.cell? ⟨A, 0, none⟩ = some (.int .i64 xr0) ∧ X.cell? ⟨A, 1, none⟩ = some (.int .i64 xr1) ∧ X.cell? ⟨A, 2, none⟩ = some (.int .i64 xb0) ∧ X.cell? ⟨A, 3, none⟩ = some (.int .i64 xb1) ∧ X.cell? ⟨A, 4, none⟩ = some (.int .i64 xv0) ∧ X.cell? ⟨A, 5, none⟩ = some (.int .i64 xv1) ∧ X.cell? ⟨A, 6, none⟩ = some (.int .i64 xst) ∧ X.cell? ⟨A, 7, none⟩ = some (.bool xsm) ∧ X.cell? ⟨A, 8, none⟩ = some (.int .i64 xc0) ∧ X.cell? ⟨A, 9, none⟩ = some (.int .i64 xc1) ∧ X.cell? ⟨A, 10, none⟩ = some (.int .i64 xc2) ∧ X.cell? ⟨A, 11, none⟩ = some (.int .i64 xc3) ∧ X.cell? ⟨A, 12, none⟩ = some (.int .i64 xc4) ∧ X.cell? ⟨A, 13, none⟩ = some (.slice xua xcd.length xuc) ∧ X.cell? ⟨A, 14, none⟩ = some (.int .i64 xsq) ∧ X.cell? ⟨A, 15, none⟩ = some (.slice xva l.length xvc)) := hid fun X hX => by
    have h1 := (hX.block A (lt_of_block hA)).trans hA
    refine ⟨?_, ?_, ?_, ?_, ?_, ?_, ?_, ?_, ?_, ?_, ?_, ?_, ?_, ?_, ?_, ?_⟩ <;> (rw [cell_of_row _ _ _ _ _ _ h1]; rfl)
  have HA := hid hA
  clear hA
  obtain ⟨p0, p1, p2, p3, p4, p5, p6, p7, p8, p9, p10, p11, p12, p13, p14, p15⟩ := SW.out w1 (Below.refl _ _)
  have BZ : Hid (Below w1.heap.size w1 w1) := hid (Below.refl _ _)
  have hrs := HRS.out
  clear HRS
  cases rb
  case' true => cases bb
  case' true.true => cases bv
  case' true.true.true => cases ls
  case' true.true.true.false => cases d1 : decide (xst < 0)
  case' true.true.true.false.false => cases d2 : decide (3 < xst)
  case' true.true.true.false.false.false => cases d3 : decide (xsq < 0)
  case' true.true.true.false.false.false.false => cases d4 : decide (1099511627776 < xsq)
  case true.true.true.false.false.false.false.false =>
    rw [d1, d2, d3, d4] at hrs
    simp only [Bool.not_true, Bool.or_self, Bool.false_eq_true, if_false] at hrs
    have HRS := hid hrs
    clear hrs
    go_upto_region 3 with ((first | (go_at_call 30; refine (HRF.out _).mono ?_) | (go_at_call 31; first | (with_reducible refine (HB1.out _).mono ?_) | (with_reducible refine (HB2.out _).mono ?_)) | (go_at_call 32; refine (HLS.out _).mono ?_)); rintro e wz ⟨rfl, hbz⟩; have BY := hid (BZ.out.trans (hbz.mono BZ.out.size)); clear BZ; have BZ := BY; clear BY p0 p1 p2 p3 p4 p5 p6 p7 p8 p9 p10 p11 p12 p13 p14 p15 hbz; obtain ⟨p0, p1, p2, p3, p4, p5, p6, p7, p8, p9, p10, p11, p12, p13, p14, p15⟩ := SW.out _ BZ.out)
    clear d1 d2 d3 d4 HRF HB1 HB2 HLS
    cases hst : (xst == 0)
    · rw [hst] at HRS
      simp only [Bool.false_eq_true, if_false] at HRS
      clear HSC
      have HV := hid ((HX.out.below B1.out).below BZ.out).r
      have HCZ := hid ((HC.out.below B1.out).below BZ.out)
      simp only at HV HCZ
      have HRN : Hid ((List.range l.length).all (depB l) = false → res = false) := hid fun h => by rw [HRS.out, h]; rfl
      go_wp2_with fail
      clear p0 p1 p2 p3 p4 p5 p6 p7 p8 p9 p10 p11 p12 p13 p14 p15 hst
      go_loopw [3, 4, 80] (fun _ _ iv wr => ∃ i : Nat, iv = .int .i64 i ∧ i ≤ l.length ∧ (∀ j, j < i → depB l j = true) ∧ Below wz.heap.size wz wr) (fun _ _ iv _ => l.length - (intOf iv).toNat)
      case atStart => exact ⟨0, rfl, Nat.zero_le _, (fun j hj => by omega), Below.refl _ _⟩
      case round =>
        obtain ⟨i, rfl, hi, hall, hbr⟩ := hrel
        have HALL := hid hall
        have BR := hid (BZ.out.trans (hbr.mono BZ.out.size))
        have HVR := hid (HV.out.below hbr)
        have HBr := hid hbr
        clear hall hbr
        by_cases hlt : (i : Int) < (l.length : Int)
        · have hil : i < l.length := by omega
          obtain ⟨gd, od, rfl⟩ := HVR.out.addr (by omega)
          obtain ⟨c0, c1⟩ := HVR.out.lit i hil
          have HDB : Hid (depB l i = (refB l[i] && (i == 0 || refLt (l.getD (i - 1) (0, 0)) l[i]))) := hid (by unfold depB; rw [show l.getD i (0, 0) = l[i] from by simp [List.getD, List.getElem?_eq_getElem hil]])
          obtain ⟨r, hr⟩ : ∃ r, r = l[i] := ⟨_, rfl⟩
          rw [← hr] at c0 c1 HDB
          clear hr
          obtain ⟨p, hp⟩ : ∃ p, p = l.getD (i - 1) (0, 0) := ⟨_, rfl⟩
          rw [← hp] at HDB
          have HP : Hid (0 < i → ∀ X, Below wr.heap.size wr X → X.cell? ⟨gd, od + (i - 1) * 2, none⟩ = some (.int .i64 p.1) ∧ X.cell? ⟨gd, od + (i - 1) * 2 + 1, none⟩ = some (.int .i64 p.2)) := hid fun h0 X hX => by
            have := (HVR.out.below hX).lit (i - 1) (by omega)
            rw [hp, show l.getD (i - 1) (0, 0) = l[i - 1] from by simp [List.getD, List.getElem?_eq_getElem (show i - 1 < l.length by omega)]]
            exact this
          clear hp
          have HNX : Hid (depB l i = true → ∀ j, j < i + 1 → depB l j = true) := hid fun h j hj => by
            rcases Nat.lt_or_ge j i with h1 | h1
            · exact HALL.out j h1
            · have e : j = i := by omega
              rw [e]; exact h
          have HNB : Hid (depB l i = false → res = false) := hid fun h => HRN.out (all_range_no hil h)
          have HRR := hid (fun W => rmayRef_any r W)
          have HLL := hid (fun W => r6less_any p r W)
          obtain ⟨r0, r1⟩ := r
          obtain ⟨q0, q1⟩ := p
          simp only at c0 c1 HRR HLL HP
          obtain ⟨wb, hwb⟩ : ∃ wb, wb = wr.alloc (.cells #[.int .i64 r0, .int .i64 r1] 24) := ⟨_, rfl⟩
          have hbb : Below wr.heap.size wr wb := by rw [hwb]; exact (Below.refl _ _).alloc (Nat.le_refl _) _
          have hAb : wb.heap[wr.heap.size]? = some (.cells #[.int .i64 r0, .int .i64 r1] 24 (0, 0)) := by rw [hwb]; exact heap_alloc_new _ _
          have HWB := hid hwb
          have HBB := hid hbb
          clear hwb hbb
          go_upto_region 8 with fail
          rw [← HWB.out]
          obtain ⟨Ab, hAbe⟩ : ∃ Ab, Ab = wr.heap.size := ⟨_, rfl⟩
          rw [← hAbe] at hAb
          rw [← hAbe]
          clear hAbe HWB c0 c1
          have HAb := hid hAb
          clear hAb
          cases hrb : refB (r0, r1) with
          | false =>
            have HNO := hid (HNB.out (by rw [HDB.out, hrb]; rfl))
            rw [hrb] at HRR
            have SV : Hid (∀ X, Below wb.heap.size wb X → X.cell? ⟨Ab, 0, none⟩ = some (.int .i64 r0) ∧ X.cell? ⟨Ab, 1, none⟩ = some (.int .i64 r1)) := hid fun X hX => by
              have h1 := (hX.block Ab (lt_of_block HAb.out)).trans HAb.out
              constructor <;> (rw [cell_of_row _ _ _ _ _ _ h1]; rfl)
            refine wp_region_held_drew (S := fun X => X.cell? ⟨Ab, 0, none⟩ = some (.int .i64 r0) ∧ X.cell? ⟨Ab, 1, none⟩ = some (.int .i64 r1)) (by kernel_rfl) (SV.out _ ((Below.refl _ _).drew)) (fun hHeld => ?_)
            refine wpAnyH_take (i := 0) (v := ?pv0) rfl (by kernel_rfl) (by kernel_rfl) (by kernel_rfl) (fun _ _ _ h => h) (Or.inl ⟨by rfl, ?py0⟩) (by assumption) ?pr0
            case py0 => (intro w hSw; (try dsimp only at hSw); go_simp; try with_reducible rfl)
            (try simp only [Act.put, List.setIfInBounds_toArray, List.set_cons_zero, List.set_cons_succ, List.getElem_toArray, List.getElem_cons_succ, List.getElem_cons_zero])
            refine wpAnyH_ready (rs := [1]) (by kernel_rfl) (by simp) ?_
            refine AllReadyH.cons rfl (fun K hK => ?_) AllReadyH.nil
            rw [if_pos (by rfl)]
            go_wp2_with fail
            refine (HRR.out _).mono ?_
            rintro e w2 ⟨rfl, hb2⟩
            have B2 := hid (((Below.refl wb.heap.size wb).drew).trans hb2)
            clear hb2
            refine hK.out _ _ (SV.out _ B2.out) (fun hHeld => ?_)
            try clear hK K
            (try simp only [Act.put, List.setIfInBounds_toArray, List.set_cons_zero, List.set_cons_succ, List.getElem_toArray, List.getElem_cons_succ, List.getElem_cons_zero])
            refine wpAnyH_take (i := 2) (v := ?pv2) rfl (by kernel_rfl) (by kernel_rfl) (by kernel_rfl) (fun _ _ _ h => h) (Or.inl ⟨by rfl, ?py2⟩) (by assumption) ?pr2
            case py2 => (intro w hSw; (try dsimp only at hSw); go_simp; try with_reducible rfl)
            (try simp only [Act.put, List.setIfInBounds_toArray, List.set_cons_zero, List.set_cons_succ, List.getElem_toArray, List.getElem_cons_succ, List.getElem_cons_zero])
            refine wpAnyH_take (i := 3) (v := ?pv3) rfl (by kernel_rfl) (by kernel_rfl) (by kernel_rfl) (fun _ _ _ h => h) (Or.inl ⟨by rfl, ?py3⟩) (by assumption) ?pr3
            case py3 => (intro w hSw; (try dsimp only at hSw); go_simp; try with_reducible rfl)
            (try simp only [Act.put, List.setIfInBounds_toArray, List.set_cons_zero, List.set_cons_succ, List.getElem_toArray, List.getElem_cons_succ, List.getElem_cons_zero])
            refine wpAnyH_take (i := 4) (v := undef) rfl (by kernel_rfl) (by kernel_rfl) (by kernel_rfl) (fun _ _ _ h => h) (Or.inr ⟨by rfl, rfl⟩) (by assumption) ?_
            (try simp only [Act.put, List.setIfInBounds_toArray, List.set_cons_zero, List.set_cons_succ, List.getElem_toArray, List.getElem_cons_succ, List.getElem_cons_zero])
            refine wpAnyH_take (i := 5) (v := undef) rfl (by kernel_rfl) (by kernel_rfl) (by kernel_rfl) (fun _ _ _ h => h) (Or.inr ⟨by rfl, rfl⟩) (by assumption) ?_
            (try simp only [Act.put, List.setIfInBounds_toArray, List.set_cons_zero, List.set_cons_succ, List.getElem_toArray, List.getElem_cons_succ, List.getElem_cons_zero])
            refine wpAnyH_take (i := 6) (v := undef) rfl (by kernel_rfl) (by kernel_rfl) (by kernel_rfl) (fun _ _ _ h => h) (Or.inr ⟨by rfl, rfl⟩) (by assumption) ?_
            (try simp only [Act.put, List.setIfInBounds_toArray, List.set_cons_zero, List.set_cons_succ, List.getElem_toArray, List.getElem_cons_succ, List.getElem_cons_zero])
            refine wpAnyH_take (i := 7) (v := undef) rfl (by kernel_rfl) (by kernel_rfl) (by kernel_rfl) (fun _ _ _ h => h) (Or.inr ⟨by rfl, rfl⟩) (by assumption) ?_
            (try simp only [Act.put, List.setIfInBounds_toArray, List.set_cons_zero, List.set_cons_succ, List.getElem_toArray, List.getElem_cons_succ, List.getElem_cons_zero])
            refine wpAnyH_take (i := 8) (v := undef) rfl (by kernel_rfl) (by kernel_rfl) (by kernel_rfl) (fun _ _ _ h => h) (Or.inr ⟨by rfl, rfl⟩) (by assumption) ?_
            (try simp only [Act.put, List.setIfInBounds_toArray, List.set_cons_zero, List.set_cons_succ, List.getElem_toArray, List.getElem_cons_succ, List.getElem_cons_zero])
            refine wpAnyH_take (i := 9) (v := undef) rfl (by kernel_rfl) (by kernel_rfl) (by kernel_rfl) (fun _ _ _ h => h) (Or.inr ⟨by rfl, rfl⟩) (by assumption) ?_
            (try simp only [Act.put, List.setIfInBounds_toArray, List.set_cons_zero, List.set_cons_succ, List.getElem_toArray, List.getElem_cons_succ, List.getElem_cons_zero])
            refine wpAnyH_take (i := 10) (v := undef) rfl (by kernel_rfl) (by kernel_rfl) (by kernel_rfl) (fun _ _ _ h => h) (Or.inr ⟨by rfl, rfl⟩) (by assumption) ?_
            (try simp only [Act.put, List.setIfInBounds_toArray, List.set_cons_zero, List.set_cons_succ, List.getElem_toArray, List.getElem_cons_succ, List.getElem_cons_zero])
            refine wpAnyH_take (i := 11) (v := undef) rfl (by kernel_rfl) (by kernel_rfl) (by kernel_rfl) (fun _ _ _ h => h) (Or.inr ⟨by rfl, rfl⟩) (by assumption) ?_
            (try simp only [Act.put, List.setIfInBounds_toArray, List.set_cons_zero, List.set_cons_succ, List.getElem_toArray, List.getElem_cons_succ, List.getElem_cons_zero])
            refine wpAnyH_take (i := 12) (v := undef) rfl (by kernel_rfl) (by kernel_rfl) (by kernel_rfl) (fun _ _ _ h => h) (Or.inr ⟨by rfl, rfl⟩) (by assumption) ?_
            (try simp only [Act.put, List.setIfInBounds_toArray, List.set_cons_zero, List.set_cons_succ, List.getElem_toArray, List.getElem_cons_succ, List.getElem_cons_zero])
            refine wpAnyH_take (i := 13) (v := undef) rfl (by kernel_rfl) (by kernel_rfl) (by kernel_rfl) (fun _ _ _ h => h) (Or.inr ⟨by rfl, rfl⟩) (by assumption) ?_
            (try simp only [Act.put, List.setIfInBounds_toArray, List.set_cons_zero, List.set_cons_succ, List.getElem_toArray, List.getElem_cons_succ, List.getElem_cons_zero])
            refine wpAnyH_take (i := 14) (v := undef) rfl (by kernel_rfl) (by kernel_rfl) (by kernel_rfl) (fun _ _ _ h => h) (Or.inr ⟨by rfl, rfl⟩) (by assumption) ?_
            (try simp only [Act.put, List.setIfInBounds_toArray, List.set_cons_zero, List.set_cons_succ, List.getElem_toArray, List.getElem_cons_succ, List.getElem_cons_zero])
            refine wpAnyH_take (i := 15) (v := undef) rfl (by kernel_rfl) (by kernel_rfl) (by kernel_rfl) (fun _ _ _ h => h) (Or.inr ⟨by rfl, rfl⟩) (by assumption) ?_
            (try simp only [Act.put, List.setIfInBounds_toArray, List.set_cons_zero, List.set_cons_succ, List.getElem_toArray, List.getElem_cons_succ, List.getElem_cons_zero])
            refine wpAnyH_take (i := 16) (v := undef) rfl (by kernel_rfl) (by kernel_rfl) (by kernel_rfl) (fun _ _ _ h => h) (Or.inr ⟨by rfl, rfl⟩) (by assumption) ?_
            (try simp only [Act.put, List.setIfInBounds_toArray, List.set_cons_zero, List.set_cons_succ, List.getElem_toArray, List.getElem_cons_succ, List.getElem_cons_zero])
            refine wpAnyH_take (i := 17) (v := ?pv17) rfl (by kernel_rfl) (by kernel_rfl) (by kernel_rfl) (fun _ _ _ h => h) (Or.inl ⟨by rfl, ?py17⟩) (by assumption) ?pr17
            case py17 => (intro w hSw; (try dsimp only at hSw); go_simp; try with_reducible rfl)
            (try simp only [Act.put, List.setIfInBounds_toArray, List.set_cons_zero, List.set_cons_succ, List.getElem_toArray, List.getElem_cons_succ, List.getElem_cons_zero])
            refine wpAnyH_done (by kernel_rfl) ?_ _
            have BX := B2
            go_wp2_with fail
            go_ret
            exact ⟨by rw [HNO.out]; rfl, B1.out.trans ((BR.out.trans ((HBB.out.trans (BX.out.mono HBB.out.size)).mono BR.out.size)).mono B1.out.size)⟩
          | true =>
            rw [hrb] at HRR
            by_cases hi0 : i = 0
            · subst hi0
              have HOK := hid (HNX.out (by rw [HDB.out, hrb]; rfl))
              have SV : Hid (∀ X, Below wb.heap.size wb X → X.cell? ⟨Ab, 0, none⟩ = some (.int .i64 r0) ∧ X.cell? ⟨Ab, 1, none⟩ = some (.int .i64 r1)) := hid fun X hX => by
                have h1 := (hX.block Ab (lt_of_block HAb.out)).trans HAb.out
                constructor <;> (rw [cell_of_row _ _ _ _ _ _ h1]; rfl)
              refine wp_region_held_drew (S := fun X => X.cell? ⟨Ab, 0, none⟩ = some (.int .i64 r0) ∧ X.cell? ⟨Ab, 1, none⟩ = some (.int .i64 r1)) (by kernel_rfl) (SV.out _ ((Below.refl _ _).drew)) (fun hHeld => ?_)
              refine wpAnyH_take (i := 0) (v := ?qv0) rfl (by kernel_rfl) (by kernel_rfl) (by kernel_rfl) (fun _ _ _ h => h) (Or.inl ⟨by rfl, ?qy0⟩) (by assumption) ?qr0
              case qy0 => (intro w hSw; (try dsimp only at hSw); go_simp; try with_reducible rfl)
              (try simp only [Act.put, List.setIfInBounds_toArray, List.set_cons_zero, List.set_cons_succ, List.getElem_toArray, List.getElem_cons_succ, List.getElem_cons_zero])
              refine wpAnyH_ready (rs := [1]) (by kernel_rfl) (by simp) ?_
              refine AllReadyH.cons rfl (fun K hK => ?_) AllReadyH.nil
              rw [if_pos (by rfl)]
              go_wp2_with fail
              refine (HRR.out _).mono ?_
              rintro e w2 ⟨rfl, hb2⟩
              have B2 := hid (((Below.refl wb.heap.size wb).drew).trans hb2)
              clear hb2
              refine hK.out _ _ (SV.out _ B2.out) (fun hHeld => ?_)
              try clear hK K
              (try simp only [Act.put, List.setIfInBounds_toArray, List.set_cons_zero, List.set_cons_succ, List.getElem_toArray, List.getElem_cons_succ, List.getElem_cons_zero])
              refine wpAnyH_take (i := 2) (v := ?qv2) rfl (by kernel_rfl) (by kernel_rfl) (by kernel_rfl) (fun _ _ _ h => h) (Or.inl ⟨by rfl, ?qy2⟩) (by assumption) ?qr2
              case qy2 => (intro w hSw; (try dsimp only at hSw); go_simp; try with_reducible rfl)
              (try simp only [Act.put, List.setIfInBounds_toArray, List.set_cons_zero, List.set_cons_succ, List.getElem_toArray, List.getElem_cons_succ, List.getElem_cons_zero])
              refine wpAnyH_take (i := 3) (v := ?qv3) rfl (by kernel_rfl) (by kernel_rfl) (by kernel_rfl) (fun _ _ _ h => h) (Or.inl ⟨by rfl, ?qy3⟩) (by assumption) ?qr3
              case qy3 => (intro w hSw; (try dsimp only at hSw); go_simp; try with_reducible rfl)
              (try simp only [Act.put, List.setIfInBounds_toArray, List.set_cons_zero, List.set_cons_succ, List.getElem_toArray, List.getElem_cons_succ, List.getElem_cons_zero])
              refine wpAnyH_take (i := 4) (v := ?qv4) rfl (by kernel_rfl) (by kernel_rfl) (by kernel_rfl) (fun _ _ _ h => h) (Or.inl ⟨by rfl, ?qy4⟩) (by assumption) ?qr4
              case qy4 => (intro w hSw; (try dsimp only at hSw); go_simp; try with_reducible rfl)
              (try simp only [Act.put, List.setIfInBounds_toArray, List.set_cons_zero, List.set_cons_succ, List.getElem_toArray, List.getElem_cons_succ, List.getElem_cons_zero])
              refine wpAnyH_take (i := 5) (v := .bool false) rfl (by kernel_rfl) (by kernel_rfl) (by kernel_rfl) (fun _ _ _ h => h) (Or.inl ⟨by rfl, ?qy5⟩) (by assumption) ?qr5
              case qy5 => (intro w hSw; (try dsimp only at hSw); go_simp; try with_reducible rfl)
              (try simp only [Act.put, List.setIfInBounds_toArray, List.set_cons_zero, List.set_cons_succ, List.getElem_toArray, List.getElem_cons_succ, List.getElem_cons_zero])
              refine wpAnyH_take (i := 6) (v := .bool false) rfl (by kernel_rfl) (by kernel_rfl) (by kernel_rfl) (fun _ _ _ h => h) (Or.inl ⟨by rfl, ?qy6⟩) (by assumption) ?qr6
              case qy6 => (intro w hSw; (try dsimp only at hSw); go_simp; try with_reducible rfl)
              (try simp only [Act.put, List.setIfInBounds_toArray, List.set_cons_zero, List.set_cons_succ, List.getElem_toArray, List.getElem_cons_succ, List.getElem_cons_zero])
              refine wpAnyH_take (i := 7) (v := undef) rfl (by kernel_rfl) (by kernel_rfl) (by kernel_rfl) (fun _ _ _ h => h) (Or.inr ⟨by rfl, rfl⟩) (by assumption) ?_
              (try simp only [Act.put, List.setIfInBounds_toArray, List.set_cons_zero, List.set_cons_succ, List.getElem_toArray, List.getElem_cons_succ, List.getElem_cons_zero])
              refine wpAnyH_take (i := 8) (v := undef) rfl (by kernel_rfl) (by kernel_rfl) (by kernel_rfl) (fun _ _ _ h => h) (Or.inr ⟨by rfl, rfl⟩) (by assumption) ?_
              (try simp only [Act.put, List.setIfInBounds_toArray, List.set_cons_zero, List.set_cons_succ, List.getElem_toArray, List.getElem_cons_succ, List.getElem_cons_zero])
              refine wpAnyH_take (i := 9) (v := undef) rfl (by kernel_rfl) (by kernel_rfl) (by kernel_rfl) (fun _ _ _ h => h) (Or.inr ⟨by rfl, rfl⟩) (by assumption) ?_
              (try simp only [Act.put, List.setIfInBounds_toArray, List.set_cons_zero, List.set_cons_succ, List.getElem_toArray, List.getElem_cons_succ, List.getElem_cons_zero])
              refine wpAnyH_take (i := 10) (v := undef) rfl (by kernel_rfl) (by kernel_rfl) (by kernel_rfl) (fun _ _ _ h => h) (Or.inr ⟨by rfl, rfl⟩) (by assumption) ?_
              (try simp only [Act.put, List.setIfInBounds_toArray, List.set_cons_zero, List.set_cons_succ, List.getElem_toArray, List.getElem_cons_succ, List.getElem_cons_zero])
              refine wpAnyH_take (i := 11) (v := undef) rfl (by kernel_rfl) (by kernel_rfl) (by kernel_rfl) (fun _ _ _ h => h) (Or.inr ⟨by rfl, rfl⟩) (by assumption) ?_
              (try simp only [Act.put, List.setIfInBounds_toArray, List.set_cons_zero, List.set_cons_succ, List.getElem_toArray, List.getElem_cons_succ, List.getElem_cons_zero])
              refine wpAnyH_take (i := 12) (v := undef) rfl (by kernel_rfl) (by kernel_rfl) (by kernel_rfl) (fun _ _ _ h => h) (Or.inr ⟨by rfl, rfl⟩) (by assumption) ?_
              (try simp only [Act.put, List.setIfInBounds_toArray, List.set_cons_zero, List.set_cons_succ, List.getElem_toArray, List.getElem_cons_succ, List.getElem_cons_zero])
              refine wpAnyH_take (i := 13) (v := undef) rfl (by kernel_rfl) (by kernel_rfl) (by kernel_rfl) (fun _ _ _ h => h) (Or.inr ⟨by rfl, rfl⟩) (by assumption) ?_
              (try simp only [Act.put, List.setIfInBounds_toArray, List.set_cons_zero, List.set_cons_succ, List.getElem_toArray, List.getElem_cons_succ, List.getElem_cons_zero])
              refine wpAnyH_take (i := 14) (v := undef) rfl (by kernel_rfl) (by kernel_rfl) (by kernel_rfl) (fun _ _ _ h => h) (Or.inr ⟨by rfl, rfl⟩) (by assumption) ?_
              (try simp only [Act.put, List.setIfInBounds_toArray, List.set_cons_zero, List.set_cons_succ, List.getElem_toArray, List.getElem_cons_succ, List.getElem_cons_zero])
              refine wpAnyH_take (i := 15) (v := undef) rfl (by kernel_rfl) (by kernel_rfl) (by kernel_rfl) (fun _ _ _ h => h) (Or.inr ⟨by rfl, rfl⟩) (by assumption) ?_
              (try simp only [Act.put, List.setIfInBounds_toArray, List.set_cons_zero, List.set_cons_succ, List.getElem_toArray, List.getElem_cons_succ, List.getElem_cons_zero])
              refine wpAnyH_take (i := 16) (v := ?qv16) rfl (by kernel_rfl) (by kernel_rfl) (by kernel_rfl) (fun _ _ _ h => h) (Or.inl ⟨by rfl, ?qy16⟩) (by assumption) ?qr16
              case qy16 => (intro w hSw; (try dsimp only at hSw); go_simp; try with_reducible rfl)
              (try simp only [Act.put, List.setIfInBounds_toArray, List.set_cons_zero, List.set_cons_succ, List.getElem_toArray, List.getElem_cons_succ, List.getElem_cons_zero])
              refine wpAnyH_take (i := 17) (v := ?qv17) rfl (by kernel_rfl) (by kernel_rfl) (by kernel_rfl) (fun _ _ _ h => h) (Or.inl ⟨by rfl, ?qy17⟩) (by assumption) ?qr17
              case qy17 => (intro w hSw; (try dsimp only at hSw); go_simp; try with_reducible rfl)
              (try simp only [Act.put, List.setIfInBounds_toArray, List.set_cons_zero, List.set_cons_succ, List.getElem_toArray, List.getElem_cons_succ, List.getElem_cons_zero])
              refine wpAnyH_done (by kernel_rfl) ?_ _
              go_wp2_with fail
              go_roundw
              case rel => exact ⟨0 + 1, by go_num, by omega, HOK.out, HBr.out.trans ((HBB.out.trans (B2.out.mono HBB.out.size)).mono HBr.out.size)⟩
              case measure => simp [intOf]; omega
            · have h0g : decide ((0 : Int) < (i : Int)) = true := by apply decide_eq_true; omega
              have hip : 0 < i := by omega
              have hwi : IntKind.i64.wrap ((i : Int) - 1) = ((i - 1 : Nat) : Int) := by rw [IntWalk.i64_in _ ⟨by omega, by omega⟩]; omega
              have hix : ((i - 1 : Nat) : Int) < (l.length : Int) := by omega
              have SV : Hid (∀ X, Below wb.heap.size wb X → X.cell? ⟨Ab, 0, none⟩ = some (.int .i64 r0) ∧ X.cell? ⟨Ab, 1, none⟩ = some (.int .i64 r1) ∧ X.cell? ⟨gd, od + (i - 1) * 2, none⟩ = some (.int .i64 q0) ∧ X.cell? ⟨gd, od + (i - 1) * 2 + 1, none⟩ = some (.int .i64 q1) ∧ X.cell? ⟨A, 15, none⟩ = some (.slice (some ⟨gd, od, none⟩) l.length xvc)) := hid fun X hX => by
                have h1 := (hX.block Ab (lt_of_block HAb.out)).trans HAb.out
                have h3 := HBB.out.trans (hX.mono HBB.out.size)
                have h2 := HP.out hip X h3
                have h4 := SW.out X (BR.out.trans (h3.mono BR.out.size))
                refine ⟨?_, ?_, h2.1, h2.2, h4.2.2.2.2.2.2.2.2.2.2.2.2.2.2.2⟩ <;> (rw [cell_of_row _ _ _ _ _ _ h1]; rfl)
              cases hls : refLt (q0, q1) (r0, r1) with
              | false =>
                have HNO := hid (HNB.out (by rw [HDB.out, hrb, hls, beq_eq_false_iff_ne.2 hi0]; rfl))
                rw [hls] at HLL
                clear hi0 hls hrb
                refine wp_region_held_drew (S := fun X => X.cell? ⟨Ab, 0, none⟩ = some (.int .i64 r0) ∧ X.cell? ⟨Ab, 1, none⟩ = some (.int .i64 r1) ∧ X.cell? ⟨gd, od + (i - 1) * 2, none⟩ = some (.int .i64 q0) ∧ X.cell? ⟨gd, od + (i - 1) * 2 + 1, none⟩ = some (.int .i64 q1) ∧ X.cell? ⟨A, 15, none⟩ = some (.slice (some ⟨gd, od, none⟩) l.length xvc)) (by kernel_rfl) (SV.out _ ((Below.refl _ _).drew)) (fun hHeld => ?_)
                refine wpAnyH_take (i := 0) (v := ?sv0) rfl (by kernel_rfl) (by kernel_rfl) (by kernel_rfl) (fun _ _ _ h => h) (Or.inl ⟨by rfl, ?sy0⟩) (by assumption) ?sr0
                case sy0 => (intro w hSw; (try dsimp only at hSw); go_simp; try with_reducible rfl)
                (try simp only [Act.put, List.setIfInBounds_toArray, List.set_cons_zero, List.set_cons_succ, List.getElem_toArray, List.getElem_cons_succ, List.getElem_cons_zero])
                refine wpAnyH_ready (rs := [1]) (by kernel_rfl) (by simp) ?_
                refine AllReadyH.cons rfl (fun K hK => ?_) AllReadyH.nil
                rw [if_pos (by rfl)]
                go_wp2_with fail
                refine (HRR.out _).mono ?_
                rintro e w2 ⟨rfl, hb2⟩
                have B2 := hid (((Below.refl wb.heap.size wb).drew).trans hb2)
                clear hb2
                refine hK.out _ _ (SV.out _ B2.out) (fun hHeld => ?_)
                try clear hK K
                (try simp only [Act.put, List.setIfInBounds_toArray, List.set_cons_zero, List.set_cons_succ, List.getElem_toArray, List.getElem_cons_succ, List.getElem_cons_zero])
                refine wpAnyH_take (i := 2) (v := ?sv2) rfl (by kernel_rfl) (by kernel_rfl) (by kernel_rfl) (fun _ _ _ h => h) (Or.inl ⟨by rfl, ?sy2⟩) (by assumption) ?sr2
                case sy2 => (intro w hSw; (try dsimp only at hSw); go_simp; try with_reducible rfl)
                (try simp only [Act.put, List.setIfInBounds_toArray, List.set_cons_zero, List.set_cons_succ, List.getElem_toArray, List.getElem_cons_succ, List.getElem_cons_zero])
                refine wpAnyH_take (i := 3) (v := ?sv3) rfl (by kernel_rfl) (by kernel_rfl) (by kernel_rfl) (fun _ _ _ h => h) (Or.inl ⟨by rfl, ?sy3⟩) (by assumption) ?sr3
                case sy3 => (intro w hSw; (try dsimp only at hSw); go_simp; try with_reducible rfl)
                (try simp only [Act.put, List.setIfInBounds_toArray, List.set_cons_zero, List.set_cons_succ, List.getElem_toArray, List.getElem_cons_succ, List.getElem_cons_zero])
                refine wpAnyH_take (i := 4) (v := ?sv4) rfl (by kernel_rfl) (by kernel_rfl) (by kernel_rfl) (fun _ _ _ h => h) (Or.inl ⟨by rfl, ?sy4⟩) (by assumption) ?sr4
                case sy4 => (intro w hSw; (try dsimp only at hSw); go_simp; try with_reducible rfl)
                (try simp only [Act.put, List.setIfInBounds_toArray, List.set_cons_zero, List.set_cons_succ, List.getElem_toArray, List.getElem_cons_succ, List.getElem_cons_zero])
                refine wpAnyH_take (i := 5) (v := .bool true) rfl (by kernel_rfl) (by kernel_rfl) (by kernel_rfl) (fun _ _ _ h => h) (Or.inl ⟨by rfl, ?sy5⟩) (by assumption) ?sr5
                case sy5 => (intro w hSw; (try dsimp only at hSw); go_simp; try with_reducible rfl)
                (try simp only [Act.put, List.setIfInBounds_toArray, List.set_cons_zero, List.set_cons_succ, List.getElem_toArray, List.getElem_cons_succ, List.getElem_cons_zero])
                refine wpAnyH_take (i := 6) (v := .bool true) rfl (by kernel_rfl) (by kernel_rfl) (by kernel_rfl) (fun _ _ _ h => h) (Or.inl ⟨by rfl, ?sy6⟩) (by assumption) ?sr6
                case sy6 => (intro w hSw; (try dsimp only at hSw); go_simp; try with_reducible rfl)
                (try simp only [Act.put, List.setIfInBounds_toArray, List.set_cons_zero, List.set_cons_succ, List.getElem_toArray, List.getElem_cons_succ, List.getElem_cons_zero])
                refine wpAnyH_take (i := 7) (v := ?sv7) rfl (by kernel_rfl) (by kernel_rfl) (by kernel_rfl) (fun _ _ _ h => h) (Or.inl ⟨by rfl, ?sy7⟩) (by assumption) ?sr7
                case sy7 => (intro w hSw; (try dsimp only at hSw); go_simp; try with_reducible rfl)
                (try simp only [Act.put, List.setIfInBounds_toArray, List.set_cons_zero, List.set_cons_succ, List.getElem_toArray, List.getElem_cons_succ, List.getElem_cons_zero])
                refine wpAnyH_take (i := 8) (v := ?sv8) rfl (by kernel_rfl) (by kernel_rfl) (by kernel_rfl) (fun _ _ _ h => h) (Or.inl ⟨by rfl, ?sy8⟩) (by assumption) ?sr8
                case sy8 => (intro w hSw; (try dsimp only at hSw); go_simp; try with_reducible rfl)
                (try simp only [Act.put, List.setIfInBounds_toArray, List.set_cons_zero, List.set_cons_succ, List.getElem_toArray, List.getElem_cons_succ, List.getElem_cons_zero])
                refine wpAnyH_take (i := 9) (v := ?sv9) rfl (by kernel_rfl) (by kernel_rfl) (by kernel_rfl) (fun _ _ _ h => h) (Or.inl ⟨by rfl, ?sy9⟩) (by assumption) ?sr9
                case sy9 => (intro w hSw; (try dsimp only at hSw); go_simp; try with_reducible rfl)
                (try simp only [Act.put, List.setIfInBounds_toArray, List.set_cons_zero, List.set_cons_succ, List.getElem_toArray, List.getElem_cons_succ, List.getElem_cons_zero])
                refine wpAnyH_take (i := 10) (v := ?sv10) rfl (by kernel_rfl) (by kernel_rfl) (by kernel_rfl) (fun _ _ _ h => h) (Or.inl ⟨by rfl, ?sy10⟩) (by assumption) ?sr10
                case sy10 => (intro w hSw; (try dsimp only at hSw); go_simp; try with_reducible rfl)
                (try simp only [Act.put, List.setIfInBounds_toArray, List.set_cons_zero, List.set_cons_succ, List.getElem_toArray, List.getElem_cons_succ, List.getElem_cons_zero])
                refine wpAnyH_take (i := 11) (v := ?sv11) rfl (by kernel_rfl) (by kernel_rfl) (by kernel_rfl) (fun _ _ _ h => h) (Or.inl ⟨by rfl, ?sy11⟩) (by assumption) ?sr11
                case sy11 => (intro w hSw; (try dsimp only at hSw); go_simp; try with_reducible rfl)
                (try simp only [Act.put, List.setIfInBounds_toArray, List.set_cons_zero, List.set_cons_succ, List.getElem_toArray, List.getElem_cons_succ, List.getElem_cons_zero])
                refine wpAnyH_take (i := 12) (v := ?sv12) rfl (by kernel_rfl) (by kernel_rfl) (by kernel_rfl) (fun _ _ _ h => h) (Or.inl ⟨by rfl, ?sy12⟩) (by assumption) ?sr12
                case sy12 => (intro w hSw; (try dsimp only at hSw); go_simp; try with_reducible rfl)
                (try simp only [Act.put, List.setIfInBounds_toArray, List.set_cons_zero, List.set_cons_succ, List.getElem_toArray, List.getElem_cons_succ, List.getElem_cons_zero])
                refine wpAnyH_take (i := 13) (v := ?sv13) rfl (by kernel_rfl) (by kernel_rfl) (by kernel_rfl) (fun _ _ _ h => h) (Or.inl ⟨by rfl, ?sy13⟩) (by assumption) ?sr13
                case sy13 => (intro w hSw; (try dsimp only at hSw); go_simp; try with_reducible rfl)
                (try simp only [Act.put, List.setIfInBounds_toArray, List.set_cons_zero, List.set_cons_succ, List.getElem_toArray, List.getElem_cons_succ, List.getElem_cons_zero])
                refine wpAnyH_ready (rs := [14]) (by kernel_rfl) (by simp) ?_
                refine AllReadyH.cons rfl (fun K hK => ?_) AllReadyH.nil
                rw [if_pos (by rfl)]
                go_wp2_with fail
                refine (HLL.out _).mono ?_
                rintro e w3 ⟨rfl, hb3⟩
                have B3 := hid (B2.out.trans (hb3.mono B2.out.size))
                clear hb3
                refine hK.out _ _ (SV.out _ B3.out) (fun hHeld => ?_)
                try clear hK K
                (try simp only [Act.put, List.setIfInBounds_toArray, List.set_cons_zero, List.set_cons_succ, List.getElem_toArray, List.getElem_cons_succ, List.getElem_cons_zero])
                refine wpAnyH_take (i := 15) (v := ?sv15) rfl (by kernel_rfl) (by kernel_rfl) (by kernel_rfl) (fun _ _ _ h => h) (Or.inl ⟨by rfl, ?sy15⟩) (by assumption) ?sr15
                case sy15 => (intro w hSw; (try dsimp only at hSw); go_simp; try with_reducible rfl)
                (try simp only [Act.put, List.setIfInBounds_toArray, List.set_cons_zero, List.set_cons_succ, List.getElem_toArray, List.getElem_cons_succ, List.getElem_cons_zero])
                refine wpAnyH_take (i := 16) (v := ?sv16) rfl (by kernel_rfl) (by kernel_rfl) (by kernel_rfl) (fun _ _ _ h => h) (Or.inl ⟨by rfl, ?sy16⟩) (by assumption) ?sr16
                case sy16 => (intro w hSw; (try dsimp only at hSw); go_simp; try with_reducible rfl)
                (try simp only [Act.put, List.setIfInBounds_toArray, List.set_cons_zero, List.set_cons_succ, List.getElem_toArray, List.getElem_cons_succ, List.getElem_cons_zero])
                refine wpAnyH_take (i := 17) (v := ?sv17) rfl (by kernel_rfl) (by kernel_rfl) (by kernel_rfl) (fun _ _ _ h => h) (Or.inl ⟨by rfl, ?sy17⟩) (by assumption) ?sr17
                case sy17 => (intro w hSw; (try dsimp only at hSw); go_simp; try with_reducible rfl)
                (try simp only [Act.put, List.setIfInBounds_toArray, List.set_cons_zero, List.set_cons_succ, List.getElem_toArray, List.getElem_cons_succ, List.getElem_cons_zero])
                refine wpAnyH_done (by kernel_rfl) ?_ _
                have BX := B3
                go_wp2_with fail
                go_ret
                exact ⟨by rw [HNO.out]; rfl, B1.out.trans ((BR.out.trans ((HBB.out.trans (BX.out.mono HBB.out.size)).mono BR.out.size)).mono B1.out.size)⟩
              | true =>
                have HOK := hid (HNX.out (by rw [HDB.out, hrb, hls]; simp))
                rw [hls] at HLL
                clear hi0 hls hrb
                refine wp_region_held_drew (S := fun X => X.cell? ⟨Ab, 0, none⟩ = some (.int .i64 r0) ∧ X.cell? ⟨Ab, 1, none⟩ = some (.int .i64 r1) ∧ X.cell? ⟨gd, od + (i - 1) * 2, none⟩ = some (.int .i64 q0) ∧ X.cell? ⟨gd, od + (i - 1) * 2 + 1, none⟩ = some (.int .i64 q1) ∧ X.cell? ⟨A, 15, none⟩ = some (.slice (some ⟨gd, od, none⟩) l.length xvc)) (by kernel_rfl) (SV.out _ ((Below.refl _ _).drew)) (fun hHeld => ?_)
                refine wpAnyH_take (i := 0) (v := ?tv0) rfl (by kernel_rfl) (by kernel_rfl) (by kernel_rfl) (fun _ _ _ h => h) (Or.inl ⟨by rfl, ?ty0⟩) (by assumption) ?tr0
                case ty0 => (intro w hSw; (try dsimp only at hSw); go_simp; try with_reducible rfl)
                (try simp only [Act.put, List.setIfInBounds_toArray, List.set_cons_zero, List.set_cons_succ, List.getElem_toArray, List.getElem_cons_succ, List.getElem_cons_zero])
                refine wpAnyH_ready (rs := [1]) (by kernel_rfl) (by simp) ?_
                refine AllReadyH.cons rfl (fun K hK => ?_) AllReadyH.nil
                rw [if_pos (by rfl)]
                go_wp2_with fail
                refine (HRR.out _).mono ?_
                rintro e w2 ⟨rfl, hb2⟩
                have B2 := hid (((Below.refl wb.heap.size wb).drew).trans hb2)
                clear hb2
                refine hK.out _ _ (SV.out _ B2.out) (fun hHeld => ?_)
                try clear hK K
                (try simp only [Act.put, List.setIfInBounds_toArray, List.set_cons_zero, List.set_cons_succ, List.getElem_toArray, List.getElem_cons_succ, List.getElem_cons_zero])
                refine wpAnyH_take (i := 2) (v := ?tv2) rfl (by kernel_rfl) (by kernel_rfl) (by kernel_rfl) (fun _ _ _ h => h) (Or.inl ⟨by rfl, ?ty2⟩) (by assumption) ?tr2
                case ty2 => (intro w hSw; (try dsimp only at hSw); go_simp; try with_reducible rfl)
                (try simp only [Act.put, List.setIfInBounds_toArray, List.set_cons_zero, List.set_cons_succ, List.getElem_toArray, List.getElem_cons_succ, List.getElem_cons_zero])
                refine wpAnyH_take (i := 3) (v := ?tv3) rfl (by kernel_rfl) (by kernel_rfl) (by kernel_rfl) (fun _ _ _ h => h) (Or.inl ⟨by rfl, ?ty3⟩) (by assumption) ?tr3
                case ty3 => (intro w hSw; (try dsimp only at hSw); go_simp; try with_reducible rfl)
                (try simp only [Act.put, List.setIfInBounds_toArray, List.set_cons_zero, List.set_cons_succ, List.getElem_toArray, List.getElem_cons_succ, List.getElem_cons_zero])
                refine wpAnyH_take (i := 4) (v := ?tv4) rfl (by kernel_rfl) (by kernel_rfl) (by kernel_rfl) (fun _ _ _ h => h) (Or.inl ⟨by rfl, ?ty4⟩) (by assumption) ?tr4
                case ty4 => (intro w hSw; (try dsimp only at hSw); go_simp; try with_reducible rfl)
                (try simp only [Act.put, List.setIfInBounds_toArray, List.set_cons_zero, List.set_cons_succ, List.getElem_toArray, List.getElem_cons_succ, List.getElem_cons_zero])
                refine wpAnyH_take (i := 5) (v := .bool true) rfl (by kernel_rfl) (by kernel_rfl) (by kernel_rfl) (fun _ _ _ h => h) (Or.inl ⟨by rfl, ?ty5⟩) (by assumption) ?tr5
                case ty5 => (intro w hSw; (try dsimp only at hSw); go_simp; try with_reducible rfl)
                (try simp only [Act.put, List.setIfInBounds_toArray, List.set_cons_zero, List.set_cons_succ, List.getElem_toArray, List.getElem_cons_succ, List.getElem_cons_zero])
                refine wpAnyH_take (i := 6) (v := .bool true) rfl (by kernel_rfl) (by kernel_rfl) (by kernel_rfl) (fun _ _ _ h => h) (Or.inl ⟨by rfl, ?ty6⟩) (by assumption) ?tr6
                case ty6 => (intro w hSw; (try dsimp only at hSw); go_simp; try with_reducible rfl)
                (try simp only [Act.put, List.setIfInBounds_toArray, List.set_cons_zero, List.set_cons_succ, List.getElem_toArray, List.getElem_cons_succ, List.getElem_cons_zero])
                refine wpAnyH_take (i := 7) (v := ?tv7) rfl (by kernel_rfl) (by kernel_rfl) (by kernel_rfl) (fun _ _ _ h => h) (Or.inl ⟨by rfl, ?ty7⟩) (by assumption) ?tr7
                case ty7 => (intro w hSw; (try dsimp only at hSw); go_simp; try with_reducible rfl)
                (try simp only [Act.put, List.setIfInBounds_toArray, List.set_cons_zero, List.set_cons_succ, List.getElem_toArray, List.getElem_cons_succ, List.getElem_cons_zero])
                refine wpAnyH_take (i := 8) (v := ?tv8) rfl (by kernel_rfl) (by kernel_rfl) (by kernel_rfl) (fun _ _ _ h => h) (Or.inl ⟨by rfl, ?ty8⟩) (by assumption) ?tr8
                case ty8 => (intro w hSw; (try dsimp only at hSw); go_simp; try with_reducible rfl)
                (try simp only [Act.put, List.setIfInBounds_toArray, List.set_cons_zero, List.set_cons_succ, List.getElem_toArray, List.getElem_cons_succ, List.getElem_cons_zero])
                refine wpAnyH_take (i := 9) (v := ?tv9) rfl (by kernel_rfl) (by kernel_rfl) (by kernel_rfl) (fun _ _ _ h => h) (Or.inl ⟨by rfl, ?ty9⟩) (by assumption) ?tr9
                case ty9 => (intro w hSw; (try dsimp only at hSw); go_simp; try with_reducible rfl)
                (try simp only [Act.put, List.setIfInBounds_toArray, List.set_cons_zero, List.set_cons_succ, List.getElem_toArray, List.getElem_cons_succ, List.getElem_cons_zero])
                refine wpAnyH_take (i := 10) (v := ?tv10) rfl (by kernel_rfl) (by kernel_rfl) (by kernel_rfl) (fun _ _ _ h => h) (Or.inl ⟨by rfl, ?ty10⟩) (by assumption) ?tr10
                case ty10 => (intro w hSw; (try dsimp only at hSw); go_simp; try with_reducible rfl)
                (try simp only [Act.put, List.setIfInBounds_toArray, List.set_cons_zero, List.set_cons_succ, List.getElem_toArray, List.getElem_cons_succ, List.getElem_cons_zero])
                refine wpAnyH_take (i := 11) (v := ?tv11) rfl (by kernel_rfl) (by kernel_rfl) (by kernel_rfl) (fun _ _ _ h => h) (Or.inl ⟨by rfl, ?ty11⟩) (by assumption) ?tr11
                case ty11 => (intro w hSw; (try dsimp only at hSw); go_simp; try with_reducible rfl)
                (try simp only [Act.put, List.setIfInBounds_toArray, List.set_cons_zero, List.set_cons_succ, List.getElem_toArray, List.getElem_cons_succ, List.getElem_cons_zero])
                refine wpAnyH_take (i := 12) (v := ?tv12) rfl (by kernel_rfl) (by kernel_rfl) (by kernel_rfl) (fun _ _ _ h => h) (Or.inl ⟨by rfl, ?ty12⟩) (by assumption) ?tr12
                case ty12 => (intro w hSw; (try dsimp only at hSw); go_simp; try with_reducible rfl)
                (try simp only [Act.put, List.setIfInBounds_toArray, List.set_cons_zero, List.set_cons_succ, List.getElem_toArray, List.getElem_cons_succ, List.getElem_cons_zero])
                refine wpAnyH_take (i := 13) (v := ?tv13) rfl (by kernel_rfl) (by kernel_rfl) (by kernel_rfl) (fun _ _ _ h => h) (Or.inl ⟨by rfl, ?ty13⟩) (by assumption) ?tr13
                case ty13 => (intro w hSw; (try dsimp only at hSw); go_simp; try with_reducible rfl)
                (try simp only [Act.put, List.setIfInBounds_toArray, List.set_cons_zero, List.set_cons_succ, List.getElem_toArray, List.getElem_cons_succ, List.getElem_cons_zero])
                refine wpAnyH_ready (rs := [14]) (by kernel_rfl) (by simp) ?_
                refine AllReadyH.cons rfl (fun K hK => ?_) AllReadyH.nil
                rw [if_pos (by rfl)]
                go_wp2_with fail
                refine (HLL.out _).mono ?_
                rintro e w3 ⟨rfl, hb3⟩
                have B3 := hid (B2.out.trans (hb3.mono B2.out.size))
                clear hb3
                refine hK.out _ _ (SV.out _ B3.out) (fun hHeld => ?_)
                try clear hK K
                (try simp only [Act.put, List.setIfInBounds_toArray, List.set_cons_zero, List.set_cons_succ, List.getElem_toArray, List.getElem_cons_succ, List.getElem_cons_zero])
                refine wpAnyH_take (i := 15) (v := ?tv15) rfl (by kernel_rfl) (by kernel_rfl) (by kernel_rfl) (fun _ _ _ h => h) (Or.inl ⟨by rfl, ?ty15⟩) (by assumption) ?tr15
                case ty15 => (intro w hSw; (try dsimp only at hSw); go_simp; try with_reducible rfl)
                (try simp only [Act.put, List.setIfInBounds_toArray, List.set_cons_zero, List.set_cons_succ, List.getElem_toArray, List.getElem_cons_succ, List.getElem_cons_zero])
                refine wpAnyH_take (i := 16) (v := ?tv16) rfl (by kernel_rfl) (by kernel_rfl) (by kernel_rfl) (fun _ _ _ h => h) (Or.inl ⟨by rfl, ?ty16⟩) (by assumption) ?tr16
                case ty16 => (intro w hSw; (try dsimp only at hSw); go_simp; try with_reducible rfl)
                (try simp only [Act.put, List.setIfInBounds_toArray, List.set_cons_zero, List.set_cons_succ, List.getElem_toArray, List.getElem_cons_succ, List.getElem_cons_zero])
                refine wpAnyH_take (i := 17) (v := ?tv17) rfl (by kernel_rfl) (by kernel_rfl) (by kernel_rfl) (fun _ _ _ h => h) (Or.inl ⟨by rfl, ?ty17⟩) (by assumption) ?tr17
                case ty17 => (intro w hSw; (try dsimp only at hSw); go_simp; try with_reducible rfl)
                (try simp only [Act.put, List.setIfInBounds_toArray, List.set_cons_zero, List.set_cons_succ, List.getElem_toArray, List.getElem_cons_succ, List.getElem_cons_zero])
                refine wpAnyH_done (by kernel_rfl) ?_ _
                go_wp2_with fail
                go_roundw
                case rel => exact ⟨i + 1, by go_num, by omega, HOK.out, HBr.out.trans ((HBB.out.trans (B3.out.mono HBB.out.size)).mono HBr.out.size)⟩
                case measure => simp [intOf]; omega
        · obtain rfl : i = l.length := by omega
          have HRX : Hid (res = (mc && decide (l.length ≤ 4096))) := hid (by rw [HRS.out, all_range_yes HALL.out]; rfl)
          have e4 : decide ((l.length : Int) ≤ 4096) = decide (l.length ≤ 4096) := by rw [Bool.eq_iff_iff]; simp; omega
          have HMR := hid (HMC.out wr (HCZ.out.below HBr.out))
          obtain ⟨p0, p1, p2, p3, p4, p5, p6, p7, p8, p9, p10, p11, p12, p13, p14, p15⟩ := SW.out _ BR.out
          cases mc with
          | false =>
            go_wp2_with (go_at_call 33; refine HMR.out.mono ?_; rintro e wf ⟨rfl, hbf⟩; have BF := hid (BR.out.trans (hbf.mono BR.out.size)); clear hbf)
            go_ret
            exact ⟨by rw [HRX.out]; rfl, B1.out.trans (BF.out.mono B1.out.size)⟩
          | true =>
            go_wp2_with (go_at_call 33; refine HMR.out.mono ?_; rintro e wf ⟨rfl, hbf⟩; have BF := hid (BR.out.trans (hbf.mono BR.out.size)); clear hbf p15; obtain ⟨-, -, -, -, -, -, -, -, -, -, -, -, -, -, -, p15⟩ := SW.out _ BF.out)
            go_ret
            exact ⟨by rw [HRX.out, ← e4]; rfl, B1.out.trans (BF.out.mono B1.out.size)⟩
    · rw [hst] at HRS
      simp only [if_true] at HRS
      clear HMC
      have HSZ := hid (HSC.out wz ((HX.out.below B1.out).below BZ.out).d)
      have eL : ((l.length : Int) == 0) = (l.length == 0) := by
        cases hd : l.length == 0
        · simp at hd ⊢; exact hd
        · simp at hd ⊢; exact hd
      by_cases hv : (xv0, xv1) = ((0 : Int), (0 : Int))
      · have HR1 : Hid (res = (!xsm && (sc && (xsq == 0 && l.length == 0)))) := hid (by rw [HRS.out, eqB_of hv]; rfl)
        obtain ⟨rfl, rfl⟩ := Prod.mk.inj hv
        clear hv HRS
        cases xsm with
        | true =>
          go_wp2_with fail
          go_ret
          exact ⟨by rw [HR1.out]; rfl, B1.out.trans (BZ.out.mono B1.out.size)⟩
        | false =>
          cases sc with
          | false =>
            go_wp2_with (go_at_call 24; refine HSZ.out.mono ?_; rintro e wf ⟨rfl, hbf⟩; have BF := hid (BZ.out.trans (hbf.mono BZ.out.size)); clear hbf)
            go_ret
            exact ⟨by rw [HR1.out]; rfl, B1.out.trans (BF.out.mono B1.out.size)⟩
          | true =>
            cases hq : (xsq == 0)
            · go_wp2_with (go_at_call 24; refine HSZ.out.mono ?_; rintro e wf ⟨rfl, hbf⟩; have BF := hid (BZ.out.trans (hbf.mono BZ.out.size)); clear hbf; clear p14 p15; obtain ⟨-, -, -, -, -, -, -, -, -, -, -, -, -, -, p14, p15⟩ := SW.out _ BF.out)
              go_ret
              exact ⟨by rw [HR1.out, hq]; rfl, B1.out.trans (BF.out.mono B1.out.size)⟩
            · go_wp2_with (go_at_call 24; refine HSZ.out.mono ?_; rintro e wf ⟨rfl, hbf⟩; have BF := hid (BZ.out.trans (hbf.mono BZ.out.size)); clear hbf; clear p14 p15; obtain ⟨-, -, -, -, -, -, -, -, -, -, -, -, -, -, p14, p15⟩ := SW.out _ BF.out)
              go_ret
              exact ⟨by rw [HR1.out, hq, ← eL]; rfl, B1.out.trans (BF.out.mono B1.out.size)⟩
      · have HR1 : Hid (res = false) := hid (by rw [HRS.out, eqB_no hv]; rfl)
        clear HRS
        rcases pair_no hv with hv0 | ⟨rfl, hv1⟩
        · go_wp2_with fail
          go_ret
          exact ⟨by rw [HR1.out]; rfl, B1.out.trans (BZ.out.mono B1.out.size)⟩
        · go_wp2_with fail
          go_ret
          exact ⟨by rw [HR1.out]; rfl, B1.out.trans (BZ.out.mono B1.out.size)⟩
  all_goals
    have HR : Hid (res = false) := hid (by rw [hrs]; simp [*])
    clear hrs
    go_wp2_with ((first | (go_at_call 30; refine (HRF.out _).mono ?_) | (go_at_call 31; first | (with_reducible refine (HB1.out _).mono ?_) | (with_reducible refine (HB2.out _).mono ?_)) | (go_at_call 32; refine (HLS.out _).mono ?_)); rintro e wz ⟨rfl, hbz⟩; have BY := hid (BZ.out.trans (hbz.mono BZ.out.size)); clear BZ; have BZ := BY; clear BY p0 p1 p2 p3 p4 p5 p6 p7 p8 p9 p10 p11 p12 p13 p14 p15 hbz; obtain ⟨p0, p1, p2, p3, p4, p5, p6, p7, p8, p9, p10, p11, p12, p13, p14, p15⟩ := SW.out _ BZ.out)
    go_ret
    exact ⟨by rw [HR.out]; rfl, B1.out.trans (BZ.out.mono B1.out.size)⟩
end Go.Proofs.Ythhcpoafnmhnhaa
