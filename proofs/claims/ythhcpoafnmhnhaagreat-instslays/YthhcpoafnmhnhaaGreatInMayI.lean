/- Which instances may be. Conditions: their lists lie in memory; the command is not too great. -/
import Derived.Test.YthhcpoafnmhnhaaGreatInSame
import Derived.Test.YthhcpoafnmhnhaaGreatInDeps
import Derived.Test.YthhcpoafnmhnhaaGreatBkMay
namespace Go.Proofs.YthhcpoafnmhnhaaGreat
open Go.RowKit
set_option linter.unusedVariables false
set_option linter.unusedSimpArgs false

/-- The instance of which but its Ref and Ballot nothing is known. -/
def bareD (x : InD) : InD := ⟨x.ref, x.bal, (0, 0), 0, false, ⟨0, 0, 0, 0, 0, []⟩, 0, []⟩
noncomputable def bareB (x : InD) : Bool := instEqB x (bareD x)
set_option maxRecDepth 100000 in
set_option maxHeartbeats 4000000 in
theorem isBare_any (x : InD) (u v : Value) (w : World) (hx : InM w x u v) :
    Calls Tryz.prog 55 #[instV x u v] w fun e w' => e = .returned (.bool (bareB x)) ∧ Below w.heap.size w w' := by
  obtain ⟨xua, xuc, rfl⟩ := hx.d.shape
  obtain ⟨xva, xvc, rfl⟩ := hx.r.shape
  have HS := hid (fun W h1 h2 => isame_any x (bareD x) (.slice xua x.cmd.data.length xuc) (.slice xva x.deps.length xvc) (.slice none 0 0) (.slice none 0 0) W h1 h2)
  have HX := hid hx
  clear hx
  have HRB : Hid (instEqB x (bareD x) = bareB x) := hid rfl
  rw [← HRB.out]
  generalize instEqB x (bareD x) = r at *
  obtain ⟨⟨xr0, xr1⟩, ⟨xb0, xb1⟩, ⟨xv0, xv1⟩, xst, xsm, ⟨xc0, xc1, xc2, xc3, xc4, xcd⟩, xsq, xds⟩ := x
  unfold instV instC bareD at HS
  unfold instV instC
  simp only at HS HX ⊢
  obtain ⟨w1, hw1⟩ : ∃ w1, w1 = w.alloc (.cells #[.int .i64 xr0, .int .i64 xr1, .int .i64 xb0, .int .i64 xb1, .int .i64 xv0, .int .i64 xv1, .int .i64 xst, .bool xsm, .int .i64 xc0, .int .i64 xc1, .int .i64 xc2, .int .i64 xc3, .int .i64 xc4, .slice xua xcd.length xuc, .int .i64 xsq, .slice xva xds.length xvc] 31) := ⟨_, rfl⟩
  have hb1 : Below w.heap.size w w1 := by rw [hw1]; exact (Below.refl _ _).alloc (Nat.le_refl _) _
  have hA : w1.heap[w.heap.size]? = some (.cells #[.int .i64 xr0, .int .i64 xr1, .int .i64 xb0, .int .i64 xb1, .int .i64 xv0, .int .i64 xv1, .int .i64 xst, .bool xsm, .int .i64 xc0, .int .i64 xc1, .int .i64 xc2, .int .i64 xc3, .int .i64 xc4, .slice xua xcd.length xuc, .int .i64 xsq, .slice xva xds.length xvc] 31 (0, 0)) := by rw [hw1]; exact heap_alloc_new _ _
  have HW1 := hid hw1
  have B1 := hid hb1
  clear hw1 hb1
  go_enter Tryz.func55, Tryz.ntmps55
  go_upto_region 1 with fail
  rw [← HW1.out]
  obtain ⟨A, hAe⟩ : ∃ A, A = w.heap.size := ⟨_, rfl⟩
  rw [← hAe] at hA
  rw [← hAe]
  clear hAe HW1
  have SW : Hid (∀ X, Below w1.heap.size w1 X → X.cell? ⟨A, 0, none⟩ = some (.int .i64 xr0) ∧ X.cell? ⟨A, 1, none⟩ = some (.int .i64 xr1) ∧ X.cell? ⟨A, 2, none⟩ = some (.int .i64 xb0) ∧ X.cell? ⟨A, 3, none⟩ = some (.int .i64 xb1) ∧ X.cell? ⟨A, 4, none⟩ = some (.int .i64 xv0) ∧ X.cell? ⟨A, 5, none⟩ = some (.int .i64 xv1) ∧ X.cell? ⟨A, 6, none⟩ = some (.int .i64 xst) ∧ X.cell? ⟨A, 7, none⟩ = some (.bool xsm) ∧ X.cell? ⟨A, 8, none⟩ = some (.int .i64 xc0) ∧ X.cell? ⟨A, 9, none⟩ = some (.int .i64 xc1) ∧ X.cell? ⟨A, 10, none⟩ = some (.int .i64 xc2) ∧ X.cell? ⟨A, 11, none⟩ = some (.int .i64 xc3) ∧ X.cell? ⟨A, 12, none⟩ = some (.int .i64 xc4) ∧ X.cell? ⟨A, 13, none⟩ = some (.slice xua xcd.length xuc) ∧ X.cell? ⟨A, 14, none⟩ = some (.int .i64 xsq) ∧ X.cell? ⟨A, 15, none⟩ = some (.slice xva xds.length xvc)) := hid fun X hX => by
    have h1 := (hX.block A (lt_of_block hA)).trans hA
    refine ⟨?_, ?_, ?_, ?_, ?_, ?_, ?_, ?_, ?_, ?_, ?_, ?_, ?_, ?_, ?_, ?_⟩ <;> (rw [cell_of_row _ _ _ _ _ _ h1]; rfl)
  clear hA
  obtain ⟨p0, p1, p2, p3, p4, p5, p6, p7, p8, p9, p10, p11, p12, p13, p14, p15⟩ := SW.out w1 (Below.refl _ _)
  go_wp2_with fail
  refine (HS.out _ (HX.out.below B1.out) ⟨Strs.nil _, Rfs.nil _⟩).mono ?_
  rintro e w2 ⟨rfl, hb2⟩
  have B2 := hid (B1.out.trans (hb2.mono B1.out.size))
  clear hb2
  go_wp2_with fail
  go_ret
  exact ⟨rfl, B2.out⟩
/-- May it be an instance? -/
noncomputable def instB (x : InD) : Bool := refB x.ref && (balB x.bal && (balB x.vote && (!decide (cmp2 x.bal x.vote < 0) && (decide (0 ≤ x.st) && (decide (x.st ≤ 3) && (mayB x.cmd && (decide (0 ≤ x.seq) && (decide (x.seq ≤ 1099511627776) && (depsB x.deps && (!(x.st == 0) || bareB x))))))))))
set_option maxRecDepth 100000 in
set_option maxHeartbeats 8000000 in
theorem imay_any (x : InD) (u v : Value) (w : World) (hx : InM w x u v) (hc : CmdOk w x.cmd u) (hcb : ∀ W, Below w.heap.size w W → CmdOk W x.cmd u) :
    Calls Tryz.prog 34 #[instV x u v] w fun e w' => e = .returned (.bool (instB x)) ∧ Below w.heap.size w w' := by
  obtain ⟨xua, xuc, rfl⟩ := hx.d.shape
  obtain ⟨xva, xvc, rfl⟩ := hx.r.shape
  have HRF := hid (fun W => mayRef_any x.ref W)
  have HBA := hid (fun W => mayBallot_any x.bal W)
  have HVO := hid (fun W => mayBallot_any x.vote W)
  have HLB := hid (fun W => lessBallot_any x.bal x.vote W)
  have HMA := hid (fun W h => may_any x.cmd (.slice xua x.cmd.data.length xuc) W h)
  have HDE := hid (fun W h => mayDeps_any x.deps (.slice xva x.deps.length xvc) W h)
  have HBR := hid (fun W h => isBare_any x (.slice xua x.cmd.data.length xuc) (.slice xva x.deps.length xvc) W h)
  have HX := hid hx
  have HCB := hid hcb
  clear hx hc hcb
  obtain ⟨res, hres⟩ : ∃ res, res = instB x := ⟨_, rfl⟩
  rw [← hres]
  unfold instB at hres
  generalize bareB x = rbr at *
  obtain ⟨⟨xr0, xr1⟩, ⟨xb0, xb1⟩, ⟨xv0, xv1⟩, xst, xsm, ⟨xc0, xc1, xc2, xc3, xc4, xcd⟩, xsq, xds⟩ := x
  unfold cmdV at HMA
  unfold instV instC at HBR
  unfold instV instC
  simp only at HRF HBA HVO HLB HMA HDE HBR HX HCB hres ⊢
  generalize refB _ = rrf at *
  generalize hba : balB (xb0, xb1) = rba at *
  generalize hvo : balB (xv0, xv1) = rvo at *
  clear hba hvo
  generalize decide (cmp2 _ _ < 0) = rlb at *
  generalize mayB _ = rma at *
  generalize depsB _ = rde at *
  have HRES := hid hres
  clear hres
  obtain ⟨w1, hw1⟩ : ∃ w1, w1 = w.alloc (.cells #[.int .i64 xr0, .int .i64 xr1, .int .i64 xb0, .int .i64 xb1, .int .i64 xv0, .int .i64 xv1, .int .i64 xst, .bool xsm, .int .i64 xc0, .int .i64 xc1, .int .i64 xc2, .int .i64 xc3, .int .i64 xc4, .slice xua xcd.length xuc, .int .i64 xsq, .slice xva xds.length xvc] 31) := ⟨_, rfl⟩
  have hb1 : Below w.heap.size w w1 := by rw [hw1]; exact (Below.refl _ _).alloc (Nat.le_refl _) _
  have hA : w1.heap[w.heap.size]? = some (.cells #[.int .i64 xr0, .int .i64 xr1, .int .i64 xb0, .int .i64 xb1, .int .i64 xv0, .int .i64 xv1, .int .i64 xst, .bool xsm, .int .i64 xc0, .int .i64 xc1, .int .i64 xc2, .int .i64 xc3, .int .i64 xc4, .slice xua xcd.length xuc, .int .i64 xsq, .slice xva xds.length xvc] 31 (0, 0)) := by rw [hw1]; exact heap_alloc_new _ _
  have HW1 := hid hw1
  have B1 := hid hb1
  clear hw1 hb1
  go_enter Tryz.func34, Tryz.ntmps34
  go_upto_region 1 with fail
  rw [← HW1.out]
  obtain ⟨A, hAe⟩ : ∃ A, A = w.heap.size := ⟨_, rfl⟩
  rw [← hAe] at hA
  rw [← hAe]
  clear hAe HW1
  have SW : Hid (∀ X, Below w1.heap.size w1 X → X.cell? ⟨A, 0, none⟩ = some (.int .i64 xr0) ∧ X.cell? ⟨A, 1, none⟩ = some (.int .i64 xr1) ∧ X.cell? ⟨A, 2, none⟩ = some (.int .i64 xb0) ∧ X.cell? ⟨A, 3, none⟩ = some (.int .i64 xb1) ∧ X.cell? ⟨A, 4, none⟩ = some (.int .i64 xv0) ∧ X.cell? ⟨A, 5, none⟩ = some (.int .i64 xv1) ∧ X.cell? ⟨A, 6, none⟩ = some (.int .i64 xst) ∧ X.cell? ⟨A, 7, none⟩ = some (.bool xsm) ∧ X.cell? ⟨A, 8, none⟩ = some (.int .i64 xc0) ∧ X.cell? ⟨A, 9, none⟩ = some (.int .i64 xc1) ∧ X.cell? ⟨A, 10, none⟩ = some (.int .i64 xc2) ∧ X.cell? ⟨A, 11, none⟩ = some (.int .i64 xc3) ∧ X.cell? ⟨A, 12, none⟩ = some (.int .i64 xc4) ∧ X.cell? ⟨A, 13, none⟩ = some (.slice xua xcd.length xuc) ∧ X.cell? ⟨A, 14, none⟩ = some (.int .i64 xsq) ∧ X.cell? ⟨A, 15, none⟩ = some (.slice xva xds.length xvc)) := hid fun X hX => by
    have h1 := (hX.block A (lt_of_block hA)).trans hA
    refine ⟨?_, ?_, ?_, ?_, ?_, ?_, ?_, ?_, ?_, ?_, ?_, ?_, ?_, ?_, ?_, ?_⟩ <;> (rw [cell_of_row _ _ _ _ _ _ h1]; rfl)
  clear hA
  have hres := HRES.out
  clear HRES
  have BZ := hid (Below.refl w1.heap.size w1)
  obtain ⟨p0, p1, p2, p3, p4, p5, p6, p7, p8, p9, p10, p11, p12, p13, p14, p15⟩ := SW.out w1 (Below.refl _ _)
  go_wp2_with fail
  refine (HRF.out _).mono ?_
  rintro e wa ⟨rfl, hbwa⟩
  have BY := hid (BZ.out.trans (hbwa.mono BZ.out.size))
  clear p0 p1 p2 p3 p4 p5 p6 p7 p8 p9 p10 p11 p12 p13 p14 p15 hbwa BZ
  have BZ := BY
  clear BY
  obtain ⟨p0, p1, p2, p3, p4, p5, p6, p7, p8, p9, p10, p11, p12, p13, p14, p15⟩ := SW.out _ BZ.out
  cases rrf
  case false =>
    have HR : Hid (res = false) := hid (by rw [hres]; rfl)
    clear hres
    go_wp2_with fail
    go_ret
    exact ⟨by rw [HR.out]; rfl, B1.out.trans (BZ.out.mono B1.out.size)⟩
  case true =>
    replace hres := hres.trans (Bool.true_and _)
    go_wp2_with fail
    refine (HBA.out _).mono ?_
    rintro e wb ⟨rfl, hbwb⟩
    have BY := hid (BZ.out.trans (hbwb.mono BZ.out.size))
    clear p0 p1 p2 p3 p4 p5 p6 p7 p8 p9 p10 p11 p12 p13 p14 p15 hbwb BZ
    have BZ := BY
    clear BY
    obtain ⟨p0, p1, p2, p3, p4, p5, p6, p7, p8, p9, p10, p11, p12, p13, p14, p15⟩ := SW.out _ BZ.out
    cases rba
    case false =>
      have HR : Hid (res = false) := hid (by rw [hres]; rfl)
      clear hres
      go_wp2_with fail
      go_ret
      exact ⟨by rw [HR.out]; rfl, B1.out.trans (BZ.out.mono B1.out.size)⟩
    case true =>
      replace hres := hres.trans (Bool.true_and _)
      go_wp2_with fail
      refine (HVO.out _).mono ?_
      rintro e wd ⟨rfl, hbwd⟩
      have BY := hid (BZ.out.trans (hbwd.mono BZ.out.size))
      clear p0 p1 p2 p3 p4 p5 p6 p7 p8 p9 p10 p11 p12 p13 p14 p15 hbwd BZ
      have BZ := BY
      clear BY
      obtain ⟨p0, p1, p2, p3, p4, p5, p6, p7, p8, p9, p10, p11, p12, p13, p14, p15⟩ := SW.out _ BZ.out
      cases rvo
      case false =>
        have HR : Hid (res = false) := hid (by rw [hres]; rfl)
        clear hres
        go_wp2_with fail
        go_ret
        exact ⟨by rw [HR.out]; rfl, B1.out.trans (BZ.out.mono B1.out.size)⟩
      case true =>
        replace hres := hres.trans (Bool.true_and _)
        go_wp2_with fail
        refine (HLB.out _).mono ?_
        rintro e we ⟨rfl, hbwe⟩
        have BY := hid (BZ.out.trans (hbwe.mono BZ.out.size))
        clear p0 p1 p2 p3 p4 p5 p6 p7 p8 p9 p10 p11 p12 p13 p14 p15 hbwe BZ
        have BZ := BY
        clear BY
        obtain ⟨p0, p1, p2, p3, p4, p5, p6, p7, p8, p9, p10, p11, p12, p13, p14, p15⟩ := SW.out _ BZ.out
        cases rlb
        case true =>
          have HR : Hid (res = false) := hid (by rw [hres]; rfl)
          clear hres
          go_wp2_with fail
          go_ret
          exact ⟨by rw [HR.out]; rfl, B1.out.trans (BZ.out.mono B1.out.size)⟩
        case false =>
          replace hres := hres.trans (Bool.true_and _)
          cases hs0 : decide (0 ≤ xst)
          case false =>
            have HR : Hid (res = false) := hid (by rw [hres, hs0]; rfl)
            clear hres
            go_wp2_with fail
            go_ret
            exact ⟨by rw [HR.out]; rfl, B1.out.trans (BZ.out.mono B1.out.size)⟩
          case true =>
            rw [hs0, Bool.true_and] at hres
            cases hs1 : decide (xst ≤ 3)
            case false =>
              have HR : Hid (res = false) := hid (by rw [hres, hs1]; rfl)
              clear hres
              go_wp2_with fail
              go_ret
              exact ⟨by rw [HR.out]; rfl, B1.out.trans (BZ.out.mono B1.out.size)⟩
            case true =>
              rw [hs1, Bool.true_and] at hres
              go_wp2_with fail
              refine (HMA.out _ (HCB.out _ (B1.out.trans (BZ.out.mono B1.out.size)))).mono ?_
              rintro e wf ⟨rfl, hbwf⟩
              have BY := hid (BZ.out.trans (hbwf.mono BZ.out.size))
              clear p0 p1 p2 p3 p4 p5 p6 p7 p8 p9 p10 p11 p12 p13 p14 p15 hbwf BZ
              have BZ := BY
              clear BY
              obtain ⟨p0, p1, p2, p3, p4, p5, p6, p7, p8, p9, p10, p11, p12, p13, p14, p15⟩ := SW.out _ BZ.out
              cases rma
              case false =>
                have HR : Hid (res = false) := hid (by rw [hres]; rfl)
                clear hres
                go_wp2_with fail
                go_ret
                exact ⟨by rw [HR.out]; rfl, B1.out.trans (BZ.out.mono B1.out.size)⟩
              case true =>
                replace hres := hres.trans (Bool.true_and _)
                cases hq0 : decide (0 ≤ xsq)
                case false =>
                  have HR : Hid (res = false) := hid (by rw [hres, hq0]; rfl)
                  clear hres
                  go_wp2_with fail
                  go_ret
                  exact ⟨by rw [HR.out]; rfl, B1.out.trans (BZ.out.mono B1.out.size)⟩
                case true =>
                  rw [hq0, Bool.true_and] at hres
                  cases hq1 : decide (xsq ≤ 1099511627776)
                  case false =>
                    have HR : Hid (res = false) := hid (by rw [hres, hq1]; rfl)
                    clear hres
                    go_wp2_with fail
                    go_ret
                    exact ⟨by rw [HR.out]; rfl, B1.out.trans (BZ.out.mono B1.out.size)⟩
                  case true =>
                    rw [hq1, Bool.true_and] at hres
                    go_wp2_with fail
                    refine (HDE.out _ (HX.out.r.below (B1.out.trans (BZ.out.mono B1.out.size)))).mono ?_
                    rintro e wg ⟨rfl, hbwg⟩
                    have BY := hid (BZ.out.trans (hbwg.mono BZ.out.size))
                    clear p0 p1 p2 p3 p4 p5 p6 p7 p8 p9 p10 p11 p12 p13 p14 p15 hbwg BZ
                    have BZ := BY
                    clear BY
                    obtain ⟨p0, p1, p2, p3, p4, p5, p6, p7, p8, p9, p10, p11, p12, p13, p14, p15⟩ := SW.out _ BZ.out
                    cases rde
                    case false =>
                      have HR : Hid (res = false) := hid (by rw [hres]; rfl)
                      clear hres
                      go_wp2_with fail
                      go_ret
                      exact ⟨by rw [HR.out]; rfl, B1.out.trans (BZ.out.mono B1.out.size)⟩
                    case true =>
                      replace hres := hres.trans (Bool.true_and _)
                      cases hst : (xst == 0)
                      case false =>
                        have HR : Hid (res = true) := hid (by rw [hres, hst]; rfl)
                        have hst' : (xst != 0) = true := by simp only [bne, hst]; rfl
                        clear hres
                        go_wp2_with fail
                        go_ret
                        exact ⟨by rw [HR.out]; rfl, B1.out.trans (BZ.out.mono B1.out.size)⟩
                      case true =>
                        have HR : Hid (res = rbr) := hid (by rw [hres, hst]; rfl)
                        have hst' : (xst != 0) = false := by simp only [bne, hst]; rfl
                        clear hres
                        go_wp2_with fail
                        refine (HBR.out _ (HX.out.below (B1.out.trans (BZ.out.mono B1.out.size)))).mono ?_
                        rintro e wh ⟨rfl, hbh⟩
                        have BY := hid (BZ.out.trans (hbh.mono BZ.out.size))
                        clear hbh BZ
                        have BZ := BY
                        go_wp2_with fail
                        go_ret
                        exact ⟨by rw [HR.out]; rfl, B1.out.trans (BZ.out.mono B1.out.size)⟩
end Go.Proofs.YthhcpoafnmhnhaaGreat
