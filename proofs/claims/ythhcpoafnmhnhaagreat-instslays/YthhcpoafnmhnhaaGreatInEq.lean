/- What slices.Equal answers of rows of texts and of Refs. Conditions: they lie in memory. -/
import Derived.Test.YthhcpoafnmhnhaaGreatInMay
import Derived.BigQuiet
namespace Go.Proofs.YthhcpoafnmhnhaaGreat
open Go.RowKit
set_option linter.unusedVariables false
set_option linter.unusedSimpArgs false

open Classical in
/-- Are they the same? -/
noncomputable def eqB {α : Type} (a b : α) : Bool := decide (a = b)
theorem eqB_of {α : Type} {a b : α} (h : a = b) : eqB a b = true := by unfold eqB; simp [h]
theorem eqB_no {α : Type} {a b : α} (h : ¬ a = b) : eqB a b = false := by unfold eqB; simp [h]
theorem toList_ne {x y : ByteArray} (h : ¬ x = y) : (x.toList == y.toList) = false := by
  rw [ByteArray.toList_eq, ByteArray.toList_eq, beq_eq_false_iff_ne]
  intro e
  exact h (ByteArray.ext (Array.toList_inj.mp e))
theorem ne_at {α : Type} {l m : List α} {i : Nat} (h1 : i < l.length) (h2 : i < m.length) (h : ¬ l[i] = m[i]) : ¬ l = m := fun e => by subst e; exact h rfl
theorem eq_all {α : Type} {l m : List α} (hl : l.length = m.length) (h : ∀ j (h1 : j < l.length) (h2 : j < m.length), l[j] = m[j]) : l = m := List.ext_getElem hl h
set_option maxRecDepth 100000 in
set_option maxHeartbeats 4000000 in
theorem equalS_any (l m : List ByteArray) (u v : Value) (w : World) (hu : Strs w u l) (hv : Strs w v m) :
    Calls Tryz.prog 101 #[u, v] w fun e w' => e = .returned (.bool (eqB l m)) ∧ Below w.heap.size w w' := by
  have HU := hid hu
  have HV := hid hv
  have hL : (l.length : Int) ≤ 9223372036854775807 := by obtain ⟨_, _, _, e, h1, h2, h3, _⟩ := hu; omega
  have hM : (m.length : Int) ≤ 9223372036854775807 := by obtain ⟨_, _, _, e, h1, h2, h3, _⟩ := hv; omega
  obtain ⟨ua, uc, rfl⟩ := hu.shape
  obtain ⟨va, vc, rfl⟩ := hv.shape
  clear hu hv
  by_cases hlm : l.length = m.length
  · have HLM := hid hlm
    have hne : ((l.length : Int) != (m.length : Int)) = false := by simp; omega
    clear hlm
    go_enter Tryz.func101, Tryz.ntmps101
    go_wp2_with fail
    clear hne
    go_loopw [5, 13] (fun _ iv wr => ∃ i : Nat, iv = .int .i64 i ∧ i ≤ l.length ∧ (∀ j (h1 : j < l.length) (h2 : j < m.length), j < i → l[j] = m[j]) ∧ Below w.heap.size w wr) (fun _ iv _ => l.length - (intOf iv).toNat)
    case atStart => exact ⟨0, rfl, Nat.zero_le _, (fun j _ _ hj => by omega), Below.refl _ _⟩
    case round =>
      obtain ⟨i, rfl, hi, hall, hbr⟩ := hrel
      have HALL := hid hall
      have BR := hid hbr
      clear hall hbr
      by_cases hlt : (i : Int) < (l.length : Int)
      · have hil : i < l.length := by omega
        have him : i < m.length := by rw [← HLM.out]; exact hil
        have himI : (i : Int) < (m.length : Int) := by omega
        obtain ⟨gd, od, rfl⟩ := HU.out.addr (by omega)
        obtain ⟨ge, oe, rfl⟩ := HV.out.addr (by omega)
        have c0 := (HU.out.below BR.out).lit i hil
        have c1 := (HV.out.below BR.out).lit i him
        have HNE : Hid (¬ l[i] = m[i] → eqB l m = false) := hid fun h => eqB_no (ne_at hil him h)
        have HEQ : Hid (l[i] = m[i] → ∀ j (h1 : j < l.length) (h2 : j < m.length), j < i + 1 → l[j] = m[j]) := hid fun h j h1 h2 hj => by
          rcases Nat.lt_or_ge j i with h3 | h3
          · exact HALL.out j h1 h2 h3
          · have e : j = i := by omega
            simp only [e]; exact h
        generalize l[i] = x at c0 HNE HEQ
        generalize m[i] = y at c1 HNE HEQ
        by_cases hxy : x = y
        · have HOK := hid (HEQ.out hxy)
          clear HEQ HNE
          subst hxy
          go_upto_region 6 with fail
          go_quiet (fail)
          go_wp2_with fail
          go_roundw
          case rel => exact ⟨i + 1, by go_num, by omega, HOK.out, BR.out.trans ((belowN wr _).mono BR.out.size)⟩
          case measure => simp [intOf]; omega
        · have HNO := hid (HNE.out hxy)
          have hxe := toList_ne hxy
          clear HEQ HNE hxy
          go_upto_region 6 with fail
          go_quiet (fail)
          go_wp2_with fail
          go_ret
          exact ⟨by rw [HNO.out]; rfl, BR.out.trans ((belowN wr _).mono BR.out.size)⟩
      · obtain rfl : i = l.length := by omega
        have HY := hid (eqB_of (eq_all HLM.out fun j h1 h2 => HALL.out j h1 h2 h1))
        go_wp2_with fail
        go_ret
        exact ⟨by rw [HY.out]; rfl, BR.out⟩
  · have hne : ((l.length : Int) != (m.length : Int)) = true := by simp; omega
    have HNO : Hid (eqB l m = false) := hid (eqB_no fun e => hlm (by rw [e]))
    clear hlm
    go_enter Tryz.func101, Tryz.ntmps101
    go_wp2_with fail
    go_ret
    exact ⟨by rw [HNO.out]; rfl, Below.refl _ _⟩
set_option maxRecDepth 100000 in
set_option maxHeartbeats 4000000 in
theorem equalR_any (l m : List (Int × Int)) (u v : Value) (w : World) (hu : Rfs w u l) (hv : Rfs w v m) :
    Calls Tryz.prog 86 #[u, v] w fun e w' => e = .returned (.bool (eqB l m)) ∧ Below w.heap.size w w' := by
  have HU := hid hu
  have HV := hid hv
  have hL : (l.length : Int) ≤ 9223372036854775807 := by obtain ⟨_, _, _, e, h1, h2, h3, _⟩ := hu; omega
  have hM : (m.length : Int) ≤ 9223372036854775807 := by obtain ⟨_, _, _, e, h1, h2, h3, _⟩ := hv; omega
  obtain ⟨ua, uc, rfl⟩ := hu.shape
  obtain ⟨va, vc, rfl⟩ := hv.shape
  clear hu hv
  by_cases hlm : l.length = m.length
  · have HLM := hid hlm
    have hne : ((l.length : Int) != (m.length : Int)) = false := by simp; omega
    clear hlm
    go_enter Tryz.func86, Tryz.ntmps86
    go_wp2_with fail
    clear hne
    go_loopw [5, 13] (fun _ iv wr => ∃ i : Nat, iv = .int .i64 i ∧ i ≤ l.length ∧ (∀ j (h1 : j < l.length) (h2 : j < m.length), j < i → l[j] = m[j]) ∧ Below w.heap.size w wr) (fun _ iv _ => l.length - (intOf iv).toNat)
    case atStart => exact ⟨0, rfl, Nat.zero_le _, (fun j _ _ hj => by omega), Below.refl _ _⟩
    case round =>
      obtain ⟨i, rfl, hi, hall, hbr⟩ := hrel
      have HALL := hid hall
      have BR := hid hbr
      clear hall hbr
      by_cases hlt : (i : Int) < (l.length : Int)
      · have hil : i < l.length := by omega
        have him : i < m.length := by rw [← HLM.out]; exact hil
        have himI : (i : Int) < (m.length : Int) := by omega
        obtain ⟨gd, od, rfl⟩ := HU.out.addr (by omega)
        obtain ⟨ge, oe, rfl⟩ := HV.out.addr (by omega)
        obtain ⟨c0, d0⟩ := (HU.out.below BR.out).lit i hil
        obtain ⟨c1, d1⟩ := (HV.out.below BR.out).lit i him
        have HNE : Hid (¬ l[i] = m[i] → eqB l m = false) := hid fun h => eqB_no (ne_at hil him h)
        have HEQ : Hid (l[i] = m[i] → ∀ j (h1 : j < l.length) (h2 : j < m.length), j < i + 1 → l[j] = m[j]) := hid fun h j h1 h2 hj => by
          rcases Nat.lt_or_ge j i with h3 | h3
          · exact HALL.out j h1 h2 h3
          · have e : j = i := by omega
            simp only [e]; exact h
        generalize l[i] = x at c0 d0 HNE HEQ
        generalize m[i] = y at c1 d1 HNE HEQ
        obtain ⟨x0, x1⟩ := x
        obtain ⟨y0, y1⟩ := y
        simp only at c0 c1 d0 d1
        by_cases hxy : (x0, x1) = (y0, y1)
        · have HOK := hid (HEQ.out hxy)
          clear HEQ HNE
          obtain ⟨rfl, rfl⟩ := Prod.mk.inj hxy
          clear hxy
          go_upto_region 6 with fail
          go_quiet (fail)
          go_wp2_with fail
          go_roundw
          case rel => exact ⟨i + 1, by go_num, by omega, HOK.out, BR.out.trans ((belowN wr _).mono BR.out.size)⟩
          case measure => simp [intOf]; omega
        · have HNO := hid (HNE.out hxy)
          by_cases h0 : x0 = y0
          · subst h0
            have h1 : (x1 == y1) = false := by
              rw [beq_eq_false_iff_ne]; intro e; exact hxy (by rw [e])
            clear HEQ HNE hxy
            go_upto_region 6 with fail
            go_quiet (fail)
            go_wp2_with fail
            go_ret
            exact ⟨by rw [HNO.out]; rfl, BR.out.trans ((belowN wr _).mono BR.out.size)⟩
          · have h1 : (x0 == y0) = false := by rw [beq_eq_false_iff_ne]; exact h0
            clear HEQ HNE hxy h0
            go_upto_region 6 with fail
            go_quiet (fail)
            go_wp2_with fail
            go_ret
            exact ⟨by rw [HNO.out]; rfl, BR.out.trans ((belowN wr _).mono BR.out.size)⟩
      · obtain rfl : i = l.length := by omega
        have HY := hid (eqB_of (eq_all HLM.out fun j h1 h2 => HALL.out j h1 h2 h1))
        go_wp2_with fail
        go_ret
        exact ⟨by rw [HY.out]; rfl, BR.out⟩
  · have hne : ((l.length : Int) != (m.length : Int)) = true := by simp; omega
    have HNO : Hid (eqB l m = false) := hid (eqB_no fun e => hlm (by rw [e]))
    clear hlm
    go_enter Tryz.func86, Tryz.ntmps86
    go_wp2_with fail
    go_ret
    exact ⟨by rw [HNO.out]; rfl, Below.refl _ _⟩
end Go.Proofs.YthhcpoafnmhnhaaGreat
