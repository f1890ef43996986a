/- What the document's Meddle answers. -/
import Derived.Test.YtadjeefigjdkiabInMeddle
import Derived.BigQuiet
namespace Go.Proofs.Ytadjeefigjdkiab
open Go.RowKit

theorem meddle_ref (a b : CmdD) (h1 : (a.op == 0) = false) (h2 : (b.op == 0) = false) (h3 : (a.op == 5) = false) (h4 : (b.op == 5) = false) (h5 : (a.client == b.client) = false) :
    meddleB a b = (decide (a.from' < a.to) && decide (b.from' < b.to) && decide (max a.from' b.from' < min a.to b.to) && !(leavesB a.op && leavesB b.op)) := by
  unfold meddleB touchB
  rw [h1, h2, h3, h4, h5]
  simp only [Bool.or_self, Bool.false_eq_true, if_false]
  congr 1
  rw [Bool.eq_iff_iff]
  simp only [Bool.not_eq_true', decide_eq_false_iff_not, Bool.and_eq_true, decide_eq_true_eq]
  omega
set_option maxRecDepth 100000 in
set_option maxHeartbeats 6400000 in
theorem rmeddle_any (a b : CmdD) (ua va : Option Addr) (na uc nb vc : Nat) (w : World) :
    Calls Try.prog 15 #[cmdV a (.slice ua na uc), cmdV b (.slice va nb vc)] w fun e w' => e = .returned (.bool (meddleB a b)) ∧ Below w.heap.size w w' := by
  obtain ⟨r, hr⟩ : ∃ r, r = meddleB a b := ⟨_, rfl⟩
  have HRF := hid (meddle_ref a b)
  rw [← hr] at HRF ⊢
  obtain ⟨a0, a1, a2, a3, a4, ad⟩ := a
  obtain ⟨b0, b1, b2, b3, b4, bd⟩ := b
  unfold cmdV
  unfold meddleB at hr
  simp only at HRF hr ⊢
  obtain ⟨w1, hw1⟩ : ∃ w1, w1 = (w.alloc (.cells #[.int .i64 a0, .int .i64 a1, .int .i64 a2, .int .i64 a3, .int .i64 a4, .slice ua na uc] 25)).alloc (.cells #[.int .i64 b0, .int .i64 b1, .int .i64 b2, .int .i64 b3, .int .i64 b4, .slice va nb vc] 25) := ⟨_, rfl⟩
  have hb1 : Below w.heap.size w w1 := by rw [hw1]; exact ((Below.refl _ _).alloc (Nat.le_refl _) _).alloc (by simp) _
  have hA : w1.heap[w.heap.size]? = some (.cells #[.int .i64 a0, .int .i64 a1, .int .i64 a2, .int .i64 a3, .int .i64 a4, .slice ua na uc] 25 (0, 0)) := by rw [hw1]; exact heap_alloc2_old _ _ _
  have hB : w1.heap[w.heap.size + 1]? = some (.cells #[.int .i64 b0, .int .i64 b1, .int .i64 b2, .int .i64 b3, .int .i64 b4, .slice va nb vc] 25 (0, 0)) := by rw [hw1]; exact heap_alloc2_new _ _ _
  have HW1 := hid hw1
  have B1 := hid hb1
  have HR := hid hr
  clear hw1 hb1 hr
  go_enter Try.func15, Try.ntmps15
  go_upto_region 1 with fail
  rw [← HW1.out]
  obtain ⟨A, hAe⟩ : ∃ A, A = w.heap.size := ⟨_, rfl⟩
  obtain ⟨B, hBe⟩ : ∃ B, B = w.heap.size + 1 := ⟨_, rfl⟩
  rw [← hAe] at hA
  rw [← hBe] at hB
  rw [← hBe, ← hAe]
  clear hAe hBe HW1
  have HA := hid hA
  have HB := hid hB
  clear hA hB
  have x0 : w1.cell? ⟨A, 0, none⟩ = some (.int .i64 a0) := by rw [cell_of_row _ _ _ _ _ _ HA.out]; rfl
  have x1 : w1.cell? ⟨A, 1, none⟩ = some (.int .i64 a1) := by rw [cell_of_row _ _ _ _ _ _ HA.out]; rfl
  have x3 : w1.cell? ⟨A, 3, none⟩ = some (.int .i64 a3) := by rw [cell_of_row _ _ _ _ _ _ HA.out]; rfl
  have x4 : w1.cell? ⟨A, 4, none⟩ = some (.int .i64 a4) := by rw [cell_of_row _ _ _ _ _ _ HA.out]; rfl
  have y0 : w1.cell? ⟨B, 0, none⟩ = some (.int .i64 b0) := by rw [cell_of_row _ _ _ _ _ _ HB.out]; rfl
  have y1 : w1.cell? ⟨B, 1, none⟩ = some (.int .i64 b1) := by rw [cell_of_row _ _ _ _ _ _ HB.out]; rfl
  have y3 : w1.cell? ⟨B, 3, none⟩ = some (.int .i64 b3) := by rw [cell_of_row _ _ _ _ _ _ HB.out]; rfl
  have y4 : w1.cell? ⟨B, 4, none⟩ = some (.int .i64 b4) := by rw [cell_of_row _ _ _ _ _ _ HB.out]; rfl
  cases z1 : (a0 == 0)
  case' false => cases z2 : (b0 == 0)
  case' false.false => cases z3 : (a0 == 5)
  case' false.false.false => cases z4 : (b0 == 5)
  case' false.false.false.false => cases z5 : (a1 == b1)
  case false.false.false.false.false =>
    have HR2 := hid (HRF.out z1 z2 z3 z4 z5)
    clear HR HRF
    go_upto_region 5 with fail
    clear z1 z2 z3 z4 z5
    go_quiet (fail)
    obtain ⟨w2, hw2⟩ : ∃ w2, w2 = w1.drewN nq := ⟨_, rfl⟩
    rw [← hw2]
    have b2 : Below w1.heap.size w1 w2 := by rw [hw2]; exact belowN w1 nq
    clear hw2
    have B2 := hid (B1.out.trans (b2.mono B1.out.size))
    replace x0 := cell_later b2 x0
    replace x3 := cell_later b2 x3
    replace x4 := cell_later b2 x4
    replace y0 := cell_later b2 y0
    replace y3 := cell_later b2 y3
    replace y4 := cell_later b2 y4
    clear b2 x1 y1
    go_upto_if 38 with fail
    go_cut [5] from 39 to 40 (fun f wx => f = .int .i64 (max a3 b3) ∧ wx = w2)
    case first =>
      by_cases h1 : a3 < b3
      · go_wp2_with fail
        go_meet
        case rel => exact ⟨by rw [show max a3 b3 = b3 by omega], rfl⟩
      · go_wp2_with fail
        go_meet
        case rel => exact ⟨by rw [show max a3 b3 = a3 by omega], rfl⟩
    case rest =>
      obtain ⟨rfl, rfl⟩ := hcut
      go_upto_if 44 with fail
      go_cut [6] from 45 to 46 (fun t wx => t = .int .i64 (min a4 b4) ∧ wx = wc)
      case first =>
        by_cases h2 : b4 < a4
        · go_wp2_with fail
          go_meet
          case rel => exact ⟨by rw [show min a4 b4 = b4 by omega], rfl⟩
        · go_wp2_with fail
          go_meet
          case rel => exact ⟨by rw [show min a4 b4 = a4 by omega], rfl⟩
      case rest =>
        rename World => wd
        obtain ⟨rfl, hwd⟩ := hcut
        rw [hwd]
        clear hwd
        obtain ⟨mx, hmx⟩ : ∃ mx, mx = max a3 b3 := ⟨_, rfl⟩
        obtain ⟨mn, hmn⟩ : ∃ mn, mn = min a4 b4 := ⟨_, rfl⟩
        rw [← hmx, ← hmn] at HR2
        rw [← hmx, ← hmn]
        clear hmx hmn
        go_upto_region 10 with fail
        go_cut [7] from 47 to 64 (fun l wx => l = .bool (leavesB a0 && leavesB b0) ∧ wx = wc)
        case first =>
          cases k1 : (a0 == 1) <;> cases k2 : (a0 == 4) <;> cases k3 : (b0 == 1) <;> cases k4 : (b0 == 4)
          all_goals
            go_wp2_with fail
            go_meet
            case rel => exact ⟨by unfold leavesB; rw [k1, k2, k3, k4]; rfl, rfl⟩
        case rest =>
          rename World => we
          obtain ⟨rfl, hwe⟩ := hcut
          rw [hwe]
          clear hwe
          generalize (leavesB a0 && leavesB b0) = lk at HR2 ⊢
          cases c1 : decide (a3 < a4)
          case' true => cases c2 : decide (b3 < b4)
          case' true.true => cases c3 : decide (mx < mn)
          all_goals
            simp only [c1] at HR2
            (try simp only [c2] at HR2)
            (try simp only [c3] at HR2)
            go_wp2_with fail
            go_ret
            exact ⟨by rw [HR2.out]; cases lk <;> rfl, B2.out⟩
  all_goals
    go_wp2_with fail
    go_ret
    exact ⟨by rw [HR.out]; simp [*], B1.out⟩
end Go.Proofs.Ytadjeefigjdkiab
