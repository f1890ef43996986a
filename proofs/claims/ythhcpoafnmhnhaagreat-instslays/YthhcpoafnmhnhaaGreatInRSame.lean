/- Which two instances are the same to the document. Conditions: their lists lie in memory. -/
import Derived.Test.YthhcpoafnmhnhaaGreatInLight
namespace Go.Proofs.YthhcpoafnmhnhaaGreat
open Go.RowKit
set_option linter.unusedVariables false
set_option linter.unusedSimpArgs false

set_option maxRecDepth 100000 in
set_option maxHeartbeats 4000000 in
theorem rsameRefs_any (l m : List (Int × Int)) (u v : Value) (w : World) (hu : Rfs w u l) (hv : Rfs w v m) :
    Calls Tryz.prog 33 #[u, v] w fun e w' => e = .returned (.bool (eqB l m)) ∧ Below w.heap.size w w' := by
  have HU := hid hu
  have HV := hid hv
  have hL : (l.length : Int) ≤ 9223372036854775807 := by obtain ⟨_, _, _, e, h1, h2, h3, _⟩ := hu; omega
  have hM : (m.length : Int) ≤ 9223372036854775807 := by obtain ⟨_, _, _, e, h1, h2, h3, _⟩ := hv; omega
  obtain ⟨ua, uc, rfl⟩ := hu.shape
  obtain ⟨va, vc, rfl⟩ := hv.shape
  clear hu hv
  by_cases hlm : l.length = m.length
  · have HLM := hid hlm
    have hne : ((l.length : Int) != (m.length : Int)) = false := by simp; omega
    clear hlm
    go_enter Tryz.func33, Tryz.ntmps33
    go_wp2_with fail
    clear hne
    go_loopw [5, 13] (fun _ iv wr => ∃ i : Nat, iv = .int .i64 i ∧ i ≤ l.length ∧ (∀ j (h1 : j < l.length) (h2 : j < m.length), j < i → l[j] = m[j]) ∧ Below w.heap.size w wr) (fun _ iv _ => l.length - (intOf iv).toNat)
    case atStart => exact ⟨0, rfl, Nat.zero_le _, (fun j _ _ hj => by omega), Below.refl _ _⟩
    case round =>
      obtain ⟨i, rfl, hi, hall, hbr⟩ := hrel
      have HALL := hid hall
      have BR := hid hbr
      clear hall hbr
      by_cases hlt : (i : Int) < (l.length : Int)
      · have hil : i < l.length := by omega
        have him : i < m.length := by rw [← HLM.out]; exact hil
        have himI : (i : Int) < (m.length : Int) := by omega
        obtain ⟨gd, od, rfl⟩ := HU.out.addr (by omega)
        obtain ⟨ge, oe, rfl⟩ := HV.out.addr (by omega)
        obtain ⟨c0, d0⟩ := (HU.out.below BR.out).lit i hil
        obtain ⟨c1, d1⟩ := (HV.out.below BR.out).lit i him
        have HNE : Hid (¬ l[i] = m[i] → eqB l m = false) := hid fun h => eqB_no (ne_at hil him h)
        have HEQ : Hid (l[i] = m[i] → ∀ j (h1 : j < l.length) (h2 : j < m.length), j < i + 1 → l[j] = m[j]) := hid fun h j h1 h2 hj => by
          rcases Nat.lt_or_ge j i with h3 | h3
          · exact HALL.out j h1 h2 h3
          · have e : j = i := by omega
            simp only [e]; exact h
        generalize l[i] = x at c0 d0 HNE HEQ
        generalize m[i] = y at c1 d1 HNE HEQ
        obtain ⟨x0, x1⟩ := x
        obtain ⟨y0, y1⟩ := y
        simp only at c0 c1 d0 d1
        by_cases hxy : (x0, x1) = (y0, y1)
        · have HOK := hid (HEQ.out hxy)
          clear HEQ HNE
          obtain ⟨rfl, rfl⟩ := Prod.mk.inj hxy
          clear hxy
          go_upto_region 6 with fail
          go_quiet (fail)
          go_wp2_with fail
          go_roundw
          case rel => exact ⟨i + 1, by go_num, by omega, HOK.out, BR.out.trans ((belowN wr _).mono BR.out.size)⟩
          case measure => simp [intOf]; omega
        · have HNO := hid (HNE.out hxy)
          by_cases h0 : x0 = y0
          · subst h0
            have h1 : (x1 == y1) = false := by
              rw [beq_eq_false_iff_ne]; intro e; exact hxy (by rw [e])
            clear HEQ HNE hxy
            go_upto_region 6 with fail
            go_quiet (fail)
            go_wp2_with fail
            go_ret
            exact ⟨by rw [HNO.out]; rfl, BR.out.trans ((belowN wr _).mono BR.out.size)⟩
          · have h1 : (x0 == y0) = false := by rw [beq_eq_false_iff_ne]; exact h0
            clear HEQ HNE hxy h0
            go_upto_region 6 with fail
            go_quiet (fail)
            go_wp2_with fail
            go_ret
            exact ⟨by rw [HNO.out]; rfl, BR.out.trans ((belowN wr _).mono BR.out.size)⟩
      · obtain rfl : i = l.length := by omega
        have HY := hid (eqB_of (eq_all HLM.out fun j h1 h2 => HALL.out j h1 h2 h1))
        go_wp2_with fail
        go_ret
        exact ⟨by rw [HY.out]; rfl, BR.out⟩
  · have hne : ((l.length : Int) != (m.length : Int)) = true := by simp; omega
    have HNO : Hid (eqB l m = false) := hid (eqB_no fun e => hlm (by rw [e]))
    clear hlm
    go_enter Tryz.func33, Tryz.ntmps33
    go_wp2_with fail
    go_ret
    exact ⟨by rw [HNO.out]; rfl, Below.refl _ _⟩
set_option maxRecDepth 100000 in
set_option maxHeartbeats 4000000 in
theorem rsameCmd_any (a b : CmdD) (u v : Value) (w : World) (hu : Strs w u a.data) (hv : Strs w v b.data) :
    Calls Tryz.prog 32 #[cmdV a u, cmdV b v] w fun e w' => e = .returned (.bool (cmdEqB a b)) ∧ Below w.heap.size w w' := by
  obtain ⟨ua, uc, rfl⟩ := hu.shape
  obtain ⟨va, vc, rfl⟩ := hv.shape
  have hL := strs_len hu
  have hM := strs_len hv
  have HU := hid hu
  have HV := hid hv
  clear hu hv
  obtain ⟨a0, a1, a2, a3, a4, ad⟩ := a
  obtain ⟨b0, b1, b2, b3, b4, bd⟩ := b
  unfold cmdV cmdEqB
  simp only at HU HV hL hM ⊢
  obtain ⟨res, hres⟩ : ∃ res, res = (a0 == b0 && (a1 == b1 && (a2 == b2 && (a3 == b3 && (a4 == b4 && eqB ad bd))))) := ⟨_, rfl⟩
  rw [← hres]
  have HRS := hid hres
  clear hres
  obtain ⟨w1, hw1⟩ : ∃ w1, w1 = (w.alloc (.cells #[.int .i64 a0, .int .i64 a1, .int .i64 a2, .int .i64 a3, .int .i64 a4, .slice ua ad.length uc] 28)).alloc (.cells #[.int .i64 b0, .int .i64 b1, .int .i64 b2, .int .i64 b3, .int .i64 b4, .slice va bd.length vc] 28) := ⟨_, rfl⟩
  have hb1 : Below w.heap.size w w1 := by rw [hw1]; exact ((Below.refl _ _).alloc (Nat.le_refl _) _).alloc (by simp) _
  have hA : w1.heap[w.heap.size]? = some (.cells #[.int .i64 a0, .int .i64 a1, .int .i64 a2, .int .i64 a3, .int .i64 a4, .slice ua ad.length uc] 28 (0, 0)) := by rw [hw1]; exact heap_alloc2_old _ _ _
  have hB : w1.heap[w.heap.size + 1]? = some (.cells #[.int .i64 b0, .int .i64 b1, .int .i64 b2, .int .i64 b3, .int .i64 b4, .slice va bd.length vc] 28 (0, 0)) := by rw [hw1]; exact heap_alloc2_new _ _ _
  have HW1 := hid hw1
  have B1 := hid hb1
  clear hw1 hb1
  go_enter Tryz.func32, Tryz.ntmps32
  go_upto_region 1 with fail
  rw [← HW1.out]
  obtain ⟨A, hAe⟩ : ∃ A, A = w.heap.size := ⟨_, rfl⟩
  obtain ⟨B, hBe⟩ : ∃ B, B = w.heap.size + 1 := ⟨_, rfl⟩
  rw [← hAe] at hA
  rw [← hBe] at hB
  rw [← hBe, ← hAe]
  clear hAe hBe HW1
  have x0 : w1.cell? ⟨A, 0, none⟩ = some (.int .i64 a0) := by rw [cell_of_row _ _ _ _ _ _ hA]; rfl
  have x1 : w1.cell? ⟨A, 1, none⟩ = some (.int .i64 a1) := by rw [cell_of_row _ _ _ _ _ _ hA]; rfl
  have x2 : w1.cell? ⟨A, 2, none⟩ = some (.int .i64 a2) := by rw [cell_of_row _ _ _ _ _ _ hA]; rfl
  have x3 : w1.cell? ⟨A, 3, none⟩ = some (.int .i64 a3) := by rw [cell_of_row _ _ _ _ _ _ hA]; rfl
  have x4 : w1.cell? ⟨A, 4, none⟩ = some (.int .i64 a4) := by rw [cell_of_row _ _ _ _ _ _ hA]; rfl
  have x5 : w1.cell? ⟨A, 5, none⟩ = some (.slice ua ad.length uc) := by rw [cell_of_row _ _ _ _ _ _ hA]; rfl
  have y0 : w1.cell? ⟨B, 0, none⟩ = some (.int .i64 b0) := by rw [cell_of_row _ _ _ _ _ _ hB]; rfl
  have y1 : w1.cell? ⟨B, 1, none⟩ = some (.int .i64 b1) := by rw [cell_of_row _ _ _ _ _ _ hB]; rfl
  have y2 : w1.cell? ⟨B, 2, none⟩ = some (.int .i64 b2) := by rw [cell_of_row _ _ _ _ _ _ hB]; rfl
  have y3 : w1.cell? ⟨B, 3, none⟩ = some (.int .i64 b3) := by rw [cell_of_row _ _ _ _ _ _ hB]; rfl
  have y4 : w1.cell? ⟨B, 4, none⟩ = some (.int .i64 b4) := by rw [cell_of_row _ _ _ _ _ _ hB]; rfl
  have y5 : w1.cell? ⟨B, 5, none⟩ = some (.slice va bd.length vc) := by rw [cell_of_row _ _ _ _ _ _ hB]; rfl
  clear hA hB
  have hres := HRS.out
  have n0 : (a0 != b0) = !(a0 == b0) := rfl
  have n1 : (a1 != b1) = !(a1 == b1) := rfl
  have n2 : (a2 != b2) = !(a2 == b2) := rfl
  have n3 : (a3 != b3) = !(a3 == b3) := rfl
  have n4 : (a4 != b4) = !(a4 == b4) := rfl
  cases h0 : (a0 == b0)
  case' true => cases h1 : (a1 == b1)
  case' true.true => cases h2 : (a2 == b2)
  case' true.true.true => cases h3 : (a3 == b3)
  case' true.true.true.true => cases h4 : (a4 == b4)
  case true.true.true.true.true =>
    have HR : Hid (res = eqB ad bd) := hid (by rw [hres, h0, h1, h2, h3, h4]; rfl)
    rw [h0] at n0; rw [h1] at n1; rw [h2] at n2; rw [h3] at n3; rw [h4] at n4
    simp only [Bool.not_true] at n0 n1 n2 n3 n4
    clear hres h0 h1 h2 h3 h4
    by_cases hlm : ad.length = bd.length
    · have HLM := hid hlm
      have hne : ((ad.length : Int) != (bd.length : Int)) = false := by simp; omega
      clear hlm
      have HUA := hid (HU.out.below B1.out)
      have HVB := hid (HV.out.below B1.out)
      go_wp2_with fail
      clear hne n0 n1 n2 n3 n4 x0 x1 x2 x3 x4 y0 y1 y2 y3 y4
      go_loopw [5, 51] (fun _ iv wr => ∃ i : Nat, iv = .int .i64 i ∧ i ≤ ad.length ∧ (∀ j (h1 : j < ad.length) (h2 : j < bd.length), j < i → ad[j] = bd[j]) ∧ Below w1.heap.size w1 wr) (fun _ iv _ => ad.length - (intOf iv).toNat)
      case atStart => exact ⟨0, rfl, Nat.zero_le _, (fun j _ _ hj => by omega), Below.refl _ _⟩
      case round =>
        obtain ⟨i, rfl, hi, hall, hbr⟩ := hrel
        have HALL := hid hall
        have BR := hid hbr
        clear hall
        by_cases hlt : (i : Int) < (ad.length : Int)
        · have hil : i < ad.length := by omega
          have him : i < bd.length := by rw [← HLM.out]; exact hil
          have himI : (i : Int) < (bd.length : Int) := by omega
          obtain ⟨gd, od, rfl⟩ := HUA.out.addr (by omega)
          obtain ⟨ge, oe, rfl⟩ := HVB.out.addr (by omega)
          have c0 := (HUA.out.below BR.out).lit i hil
          have c1 := (HVB.out.below BR.out).lit i him
          have z5 : wr.cell? ⟨A, 5, none⟩ = some (.slice (some ⟨gd, od, none⟩) ad.length uc) := cell_later hbr x5
          have t5 : wr.cell? ⟨B, 5, none⟩ = some (.slice (some ⟨ge, oe, none⟩) bd.length vc) := cell_later hbr y5
          have HNE : Hid (¬ ad[i] = bd[i] → eqB ad bd = false) := hid fun h => eqB_no (ne_at hil him h)
          have HEQ : Hid (ad[i] = bd[i] → ∀ j (h1 : j < ad.length) (h2 : j < bd.length), j < i + 1 → ad[j] = bd[j]) := hid fun h j h1 h2 hj => by
            rcases Nat.lt_or_ge j i with h3 | h3
            · exact HALL.out j h1 h2 h3
            · have e : j = i := by omega
              simp only [e]; exact h
          generalize ad[i] = x at c0 HNE HEQ
          generalize bd[i] = y at c1 HNE HEQ
          clear x5 y5 hbr
          by_cases hxy : x = y
          · have HOK := hid (HEQ.out hxy)
            clear HEQ HNE
            subst hxy
            go_upto_region 6 with fail
            go_quiet (fail)
            go_wp2_with fail
            go_roundw
            case rel => exact ⟨i + 1, by go_num, by omega, HOK.out, BR.out.trans ((belowN wr _).mono BR.out.size)⟩
            case measure => simp [intOf]; omega
          · have HNO := hid (HNE.out hxy)
            have hxe := toList_ne hxy
            clear HEQ HNE hxy
            go_upto_region 6 with fail
            go_quiet (fail)
            go_wp2_with fail
            go_ret
            exact ⟨by rw [HR.out, HNO.out]; rfl, B1.out.trans ((BR.out.trans ((belowN wr _).mono BR.out.size)).mono B1.out.size)⟩
        · obtain rfl : i = ad.length := by omega
          have HY := hid (eqB_of (eq_all HLM.out fun j h1 h2 => HALL.out j h1 h2 h1))
          go_wp2_with fail
          go_ret
          exact ⟨by rw [HR.out, HY.out]; rfl, B1.out.trans (BR.out.mono B1.out.size)⟩
    · have hne : ((ad.length : Int) != (bd.length : Int)) = true := by simp; omega
      have HNO : Hid (eqB ad bd = false) := hid (eqB_no fun e => hlm (by rw [e]))
      clear hlm
      go_wp2_with fail
      go_ret
      exact ⟨by rw [HR.out, HNO.out]; rfl, B1.out⟩
  all_goals
    have HR : Hid (res = false) := hid (by rw [hres]; simp [*])
    clear hres
    rw [h0] at n0
    (try rw [h1] at n1)
    (try rw [h2] at n2)
    (try rw [h3] at n3)
    (try rw [h4] at n4)
    go_wp2_with fail
    go_ret
    exact ⟨by rw [HR.out]; rfl, B1.out⟩
set_option maxRecDepth 100000 in
set_option maxHeartbeats 8000000 in
theorem rsame_any (x y : InD) (u v u' v' : Value) (w : World) (hx : InM w x u v) (hy : InM w y u' v') :
    Calls Tryz.prog 11 #[instV x u v, instV y u' v'] w fun e w' => e = .returned (.bool (instEqB x y)) ∧ Below w.heap.size w w' := by
  obtain ⟨xua, xuc, rfl⟩ := hx.d.shape
  obtain ⟨xva, xvc, rfl⟩ := hx.r.shape
  obtain ⟨yua, yuc, rfl⟩ := hy.d.shape
  obtain ⟨yva, yvc, rfl⟩ := hy.r.shape
  have HC := hid (fun W h1 h2 => rsameCmd_any x.cmd y.cmd (.slice xua x.cmd.data.length xuc) (.slice yua y.cmd.data.length yuc) W h1 h2)
  have HE := hid (fun W h1 h2 => rsameRefs_any x.deps y.deps (.slice xva x.deps.length xvc) (.slice yva y.deps.length yvc) W h1 h2)
  have HX := hid hx
  have HY := hid hy
  clear hx hy
  obtain ⟨⟨xr0, xr1⟩, ⟨xb0, xb1⟩, ⟨xv0, xv1⟩, xst, xsm, ⟨xc0, xc1, xc2, xc3, xc4, xcd⟩, xsq, xds⟩ := x
  obtain ⟨⟨yr0, yr1⟩, ⟨yb0, yb1⟩, ⟨yv0, yv1⟩, yst, ysm, ⟨yc0, yc1, yc2, yc3, yc4, ycd⟩, ysq, yds⟩ := y
  unfold cmdV at HC
  unfold instV instC instEqB
  simp only at HC HE HX HY ⊢
  generalize cmdEqB _ _ = rc at *
  generalize eqB xds yds = rd at *
  obtain ⟨res, hres⟩ : ∃ res, res = (eqB (xr0, xr1) (yr0, yr1) && (eqB (xb0, xb1) (yb0, yb1) && (eqB (xv0, xv1) (yv0, yv1) && (xst == yst && (xsm == ysm && (xsq == ysq && (rc && rd))))))) := ⟨_, rfl⟩
  rw [← hres]
  have HRES := hid hres
  clear hres
  obtain ⟨w1, hw1⟩ : ∃ w1, w1 = (w.alloc (.cells #[.int .i64 xr0, .int .i64 xr1, .int .i64 xb0, .int .i64 xb1, .int .i64 xv0, .int .i64 xv1, .int .i64 xst, .bool xsm, .int .i64 xc0, .int .i64 xc1, .int .i64 xc2, .int .i64 xc3, .int .i64 xc4, .slice xua xcd.length xuc, .int .i64 xsq, .slice xva xds.length xvc] 31)).alloc (.cells #[.int .i64 yr0, .int .i64 yr1, .int .i64 yb0, .int .i64 yb1, .int .i64 yv0, .int .i64 yv1, .int .i64 yst, .bool ysm, .int .i64 yc0, .int .i64 yc1, .int .i64 yc2, .int .i64 yc3, .int .i64 yc4, .slice yua ycd.length yuc, .int .i64 ysq, .slice yva yds.length yvc] 31) := ⟨_, rfl⟩
  have hb1 : Below w.heap.size w w1 := by rw [hw1]; exact ((Below.refl _ _).alloc (Nat.le_refl _) _).alloc (by simp) _
  have hA : w1.heap[w.heap.size]? = some (.cells #[.int .i64 xr0, .int .i64 xr1, .int .i64 xb0, .int .i64 xb1, .int .i64 xv0, .int .i64 xv1, .int .i64 xst, .bool xsm, .int .i64 xc0, .int .i64 xc1, .int .i64 xc2, .int .i64 xc3, .int .i64 xc4, .slice xua xcd.length xuc, .int .i64 xsq, .slice xva xds.length xvc] 31 (0, 0)) := by rw [hw1]; exact heap_alloc2_old _ _ _
  have hB : w1.heap[w.heap.size + 1]? = some (.cells #[.int .i64 yr0, .int .i64 yr1, .int .i64 yb0, .int .i64 yb1, .int .i64 yv0, .int .i64 yv1, .int .i64 yst, .bool ysm, .int .i64 yc0, .int .i64 yc1, .int .i64 yc2, .int .i64 yc3, .int .i64 yc4, .slice yua ycd.length yuc, .int .i64 ysq, .slice yva yds.length yvc] 31 (0, 0)) := by rw [hw1]; exact heap_alloc2_new _ _ _
  have HW1 := hid hw1
  have B1 := hid hb1
  clear hw1 hb1
  go_enter Tryz.func11, Tryz.ntmps11
  go_upto_region 1 with fail
  rw [← HW1.out]
  obtain ⟨A, hAe⟩ : ∃ A, A = w.heap.size := ⟨_, rfl⟩
  obtain ⟨B, hBe⟩ : ∃ B, B = w.heap.size + 1 := ⟨_, rfl⟩
  rw [← hAe] at hA
  rw [← hBe] at hB
  rw [← hBe, ← hAe]
  clear hAe hBe HW1
  have p0 : w1.cell? ⟨A, 0, none⟩ = some (.int .i64 xr0) := by rw [cell_of_row _ _ _ _ _ _ hA]; rfl
  have p1 : w1.cell? ⟨A, 1, none⟩ = some (.int .i64 xr1) := by rw [cell_of_row _ _ _ _ _ _ hA]; rfl
  have p2 : w1.cell? ⟨A, 2, none⟩ = some (.int .i64 xb0) := by rw [cell_of_row _ _ _ _ _ _ hA]; rfl
  have p3 : w1.cell? ⟨A, 3, none⟩ = some (.int .i64 xb1) := by rw [cell_of_row _ _ _ _ _ _ hA]; rfl
  have p4 : w1.cell? ⟨A, 4, none⟩ = some (.int .i64 xv0) := by rw [cell_of_row _ _ _ _ _ _ hA]; rfl
  have p5 : w1.cell? ⟨A, 5, none⟩ = some (.int .i64 xv1) := by rw [cell_of_row _ _ _ _ _ _ hA]; rfl
  have p6 : w1.cell? ⟨A, 6, none⟩ = some (.int .i64 xst) := by rw [cell_of_row _ _ _ _ _ _ hA]; rfl
  have p7 : w1.cell? ⟨A, 7, none⟩ = some (.bool xsm) := by rw [cell_of_row _ _ _ _ _ _ hA]; rfl
  have p8 : w1.cell? ⟨A, 8, none⟩ = some (.int .i64 xc0) := by rw [cell_of_row _ _ _ _ _ _ hA]; rfl
  have p9 : w1.cell? ⟨A, 9, none⟩ = some (.int .i64 xc1) := by rw [cell_of_row _ _ _ _ _ _ hA]; rfl
  have p10 : w1.cell? ⟨A, 10, none⟩ = some (.int .i64 xc2) := by rw [cell_of_row _ _ _ _ _ _ hA]; rfl
  have p11 : w1.cell? ⟨A, 11, none⟩ = some (.int .i64 xc3) := by rw [cell_of_row _ _ _ _ _ _ hA]; rfl
  have p12 : w1.cell? ⟨A, 12, none⟩ = some (.int .i64 xc4) := by rw [cell_of_row _ _ _ _ _ _ hA]; rfl
  have p13 : w1.cell? ⟨A, 13, none⟩ = some (.slice xua xcd.length xuc) := by rw [cell_of_row _ _ _ _ _ _ hA]; rfl
  have p14 : w1.cell? ⟨A, 14, none⟩ = some (.int .i64 xsq) := by rw [cell_of_row _ _ _ _ _ _ hA]; rfl
  have p15 : w1.cell? ⟨A, 15, none⟩ = some (.slice xva xds.length xvc) := by rw [cell_of_row _ _ _ _ _ _ hA]; rfl
  have q0 : w1.cell? ⟨B, 0, none⟩ = some (.int .i64 yr0) := by rw [cell_of_row _ _ _ _ _ _ hB]; rfl
  have q1 : w1.cell? ⟨B, 1, none⟩ = some (.int .i64 yr1) := by rw [cell_of_row _ _ _ _ _ _ hB]; rfl
  have q2 : w1.cell? ⟨B, 2, none⟩ = some (.int .i64 yb0) := by rw [cell_of_row _ _ _ _ _ _ hB]; rfl
  have q3 : w1.cell? ⟨B, 3, none⟩ = some (.int .i64 yb1) := by rw [cell_of_row _ _ _ _ _ _ hB]; rfl
  have q4 : w1.cell? ⟨B, 4, none⟩ = some (.int .i64 yv0) := by rw [cell_of_row _ _ _ _ _ _ hB]; rfl
  have q5 : w1.cell? ⟨B, 5, none⟩ = some (.int .i64 yv1) := by rw [cell_of_row _ _ _ _ _ _ hB]; rfl
  have q6 : w1.cell? ⟨B, 6, none⟩ = some (.int .i64 yst) := by rw [cell_of_row _ _ _ _ _ _ hB]; rfl
  have q7 : w1.cell? ⟨B, 7, none⟩ = some (.bool ysm) := by rw [cell_of_row _ _ _ _ _ _ hB]; rfl
  have q8 : w1.cell? ⟨B, 8, none⟩ = some (.int .i64 yc0) := by rw [cell_of_row _ _ _ _ _ _ hB]; rfl
  have q9 : w1.cell? ⟨B, 9, none⟩ = some (.int .i64 yc1) := by rw [cell_of_row _ _ _ _ _ _ hB]; rfl
  have q10 : w1.cell? ⟨B, 10, none⟩ = some (.int .i64 yc2) := by rw [cell_of_row _ _ _ _ _ _ hB]; rfl
  have q11 : w1.cell? ⟨B, 11, none⟩ = some (.int .i64 yc3) := by rw [cell_of_row _ _ _ _ _ _ hB]; rfl
  have q12 : w1.cell? ⟨B, 12, none⟩ = some (.int .i64 yc4) := by rw [cell_of_row _ _ _ _ _ _ hB]; rfl
  have q13 : w1.cell? ⟨B, 13, none⟩ = some (.slice yua ycd.length yuc) := by rw [cell_of_row _ _ _ _ _ _ hB]; rfl
  have q14 : w1.cell? ⟨B, 14, none⟩ = some (.int .i64 ysq) := by rw [cell_of_row _ _ _ _ _ _ hB]; rfl
  have q15 : w1.cell? ⟨B, 15, none⟩ = some (.slice yva yds.length yvc) := by rw [cell_of_row _ _ _ _ _ _ hB]; rfl
  have HA := hid hA
  have HB := hid hB
  clear hA hB
  have hres := HRES.out
  clear HRES
  by_cases hp2 : (xr0, xr1) = (yr0, yr1)
  · obtain ⟨rfl, rfl⟩ := Prod.mk.inj hp2
    rw [eqB_of rfl, Bool.true_and] at hres
    clear hp2
    by_cases hp4 : (xb0, xb1) = (yb0, yb1)
    · obtain ⟨rfl, rfl⟩ := Prod.mk.inj hp4
      rw [eqB_of rfl, Bool.true_and] at hres
      clear hp4
      by_cases hp6 : (xv0, xv1) = (yv0, yv1)
      · obtain ⟨rfl, rfl⟩ := Prod.mk.inj hp6
        rw [eqB_of rfl, Bool.true_and] at hres
        clear hp6
        cases hb8 : (xst == yst)
        · have HR : Hid (res = false) := hid (by rw [hres, hb8]; rfl)
          clear hres
          go_wp2_with fail
          go_ret
          exact ⟨by rw [HR.out]; rfl, B1.out⟩
        · rw [hb8, Bool.true_and] at hres
          cases hb10 : (xsm == ysm)
          · have HR : Hid (res = false) := hid (by rw [hres, hb10]; rfl)
            clear hres
            go_wp2_with fail
            go_ret
            exact ⟨by rw [HR.out]; rfl, B1.out⟩
          · rw [hb10, Bool.true_and] at hres
            cases hb12 : (xsq == ysq)
            · have HR : Hid (res = false) := hid (by rw [hres, hb12]; rfl)
              clear hres
              go_wp2_with fail
              go_ret
              exact ⟨by rw [HR.out]; rfl, B1.out⟩
            · rw [hb12, Bool.true_and] at hres
              have HRS := hid hres
              clear hres
              go_wp2_with fail
              refine (HC.out _ (HX.out.d.below B1.out) (HY.out.d.below B1.out)).mono ?_
              rintro e w2 ⟨rfl, hb2⟩
              have B2 := hid (B1.out.trans (hb2.mono B1.out.size))
              have hA2 := (hb2.block A (lt_of_block HA.out)).trans HA.out
              have hB2 := (hb2.block B (lt_of_block HB.out)).trans HB.out
              have HX2 := hid (HX.out.r.below B2.out)
              have HY2 := hid (HY.out.r.below B2.out)
              clear hb2 p0 p1 p2 p3 p4 p5 p6 p7 p8 p9 p10 p11 p12 p13 p14 p15 q0 q1 q2 q3 q4 q5 q6 q7 q8 q9 q10 q11 q12 q13 q14 q15
              have s15 : w2.cell? ⟨A, 15, none⟩ = some (.slice xva xds.length xvc) := by rw [cell_of_row _ _ _ _ _ _ hA2]; rfl
              have t15 : w2.cell? ⟨B, 15, none⟩ = some (.slice yva yds.length yvc) := by rw [cell_of_row _ _ _ _ _ _ hB2]; rfl
              clear hA2 hB2
              cases rc with
              | false =>
                go_wp2_with fail
                go_ret
                exact ⟨by rw [HRS.out]; rfl, B2.out⟩
              | true =>
                go_wp2_with fail
                refine (HE.out _ HX2.out HY2.out).mono ?_
                rintro e w3 ⟨rfl, hb3⟩
                have B3 := hid (B2.out.trans (hb3.mono B2.out.size))
                clear hb3
                go_wp2_with fail
                go_ret
                exact ⟨by rw [HRS.out]; rfl, B3.out⟩
      · have HR : Hid (res = false) := hid (by rw [hres, eqB_no hp6]; rfl)
        clear hres
        rcases pair_no hp6 with h0 | ⟨rfl, h1⟩
        · clear hp6
          go_wp2_with fail
          go_ret
          exact ⟨by rw [HR.out]; rfl, B1.out⟩
        · clear hp6
          go_wp2_with fail
          go_ret
          exact ⟨by rw [HR.out]; rfl, B1.out⟩
    · have HR : Hid (res = false) := hid (by rw [hres, eqB_no hp4]; rfl)
      clear hres
      rcases pair_no hp4 with h0 | ⟨rfl, h1⟩
      · clear hp4
        go_wp2_with fail
        go_ret
        exact ⟨by rw [HR.out]; rfl, B1.out⟩
      · clear hp4
        go_wp2_with fail
        go_ret
        exact ⟨by rw [HR.out]; rfl, B1.out⟩
  · have HR : Hid (res = false) := hid (by rw [hres, eqB_no hp2]; rfl)
    clear hres
    rcases pair_no hp2 with h0 | ⟨rfl, h1⟩
    · clear hp2
      go_wp2_with fail
      go_ret
      exact ⟨by rw [HR.out]; rfl, B1.out⟩
    · clear hp2
      go_wp2_with fail
      go_ret
      exact ⟨by rw [HR.out]; rfl, B1.out⟩
end Go.Proofs.YthhcpoafnmhnhaaGreat
