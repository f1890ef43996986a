/- Two commands that are the same are the same to the document, and two replies. -/
import Derived.Test.YtabmnelenfghhaaBkMay
import Derived.Deep.CutBlock
import Derived.Deep.CutRange
import Derived.BigQuiet
import Derived.Deep.RegionHeld3
namespace Go.Proofs.Ytabmnelenfghhaa
open Go.RowKit
set_option linter.unusedVariables false
set_option linter.unusedSimpArgs false

theorem Strs.len {w : World} {v : Value} {l : List ByteArray} (h : Strs w v l) : (l.length : Int) ≤ 9223372036854775807 := by
  obtain ⟨ao, n, cap, rfl, h1, h2, h3, -⟩ := h; omega
set_option maxRecDepth 100000 in
set_option maxHeartbeats 4000000 in
theorem sameCmd_any (c : CmdD) (u v : Value) (w : World) (hu : Strs w u c.data) (hv : Strs w v c.data) :
    Calls Try.prog 13 #[cmdV c u, cmdV c v] w fun e w' => e = .returned (.bool true) ∧ Below w.heap.size w w' := by
  obtain ⟨ua, uc, rfl⟩ := hu.shape
  obtain ⟨va, vc, rfl⟩ := hv.shape
  have hL := hu.len
  have HU0 := hid hu
  have HV0 := hid hv
  clear hu hv
  obtain ⟨op, cl, seq, cf, ct, data⟩ := c
  unfold cmdV
  simp only at HU0 HV0 hL ⊢
  obtain ⟨w1, hw1⟩ : ∃ w1, w1 = (w.alloc (.cells #[.int .i64 op, .int .i64 cl, .int .i64 seq, .int .i64 cf, .int .i64 ct, .slice ua data.length uc] 24)).alloc (.cells #[.int .i64 op, .int .i64 cl, .int .i64 seq, .int .i64 cf, .int .i64 ct, .slice va data.length vc] 24) := ⟨_, rfl⟩
  have hb1 : Below w.heap.size w w1 := by rw [hw1]; exact ((Below.refl _ _).alloc (Nat.le_refl _) _).alloc (by simp) _
  have hA : w1.heap[w.heap.size]? = some (.cells #[.int .i64 op, .int .i64 cl, .int .i64 seq, .int .i64 cf, .int .i64 ct, .slice ua data.length uc] 24 (0, 0)) := by rw [hw1]; exact heap_alloc2_old _ _ _
  have hB : w1.heap[w.heap.size + 1]? = some (.cells #[.int .i64 op, .int .i64 cl, .int .i64 seq, .int .i64 cf, .int .i64 ct, .slice va data.length vc] 24 (0, 0)) := by rw [hw1]; exact heap_alloc2_new _ _ _
  have HW1 := hid hw1
  have B1 := hid hb1
  have HU := hid (HU0.out.below hb1)
  have HV := hid (HV0.out.below hb1)
  clear hw1 hb1 HU0 HV0
  go_enter Try.func13, Try.ntmps13
  go_upto_region 1 with fail
  rw [← HW1.out]
  obtain ⟨A, hAe⟩ : ∃ A, A = w.heap.size := ⟨_, rfl⟩
  obtain ⟨B, hBe⟩ : ∃ B, B = w.heap.size + 1 := ⟨_, rfl⟩
  rw [← hAe] at hA
  rw [← hBe] at hB
  rw [← hBe, ← hAe]
  clear hAe hBe HW1
  have x0 : w1.cell? ⟨A, 0, none⟩ = some (.int .i64 op) := by rw [cell_of_row _ _ _ _ _ _ hA]; rfl
  have x1 : w1.cell? ⟨A, 1, none⟩ = some (.int .i64 cl) := by rw [cell_of_row _ _ _ _ _ _ hA]; rfl
  have x2 : w1.cell? ⟨A, 2, none⟩ = some (.int .i64 seq) := by rw [cell_of_row _ _ _ _ _ _ hA]; rfl
  have x3 : w1.cell? ⟨A, 3, none⟩ = some (.int .i64 cf) := by rw [cell_of_row _ _ _ _ _ _ hA]; rfl
  have x4 : w1.cell? ⟨A, 4, none⟩ = some (.int .i64 ct) := by rw [cell_of_row _ _ _ _ _ _ hA]; rfl
  have x5 : w1.cell? ⟨A, 5, none⟩ = some (.slice ua data.length uc) := by rw [cell_of_row _ _ _ _ _ _ hA]; rfl
  have y0 : w1.cell? ⟨B, 0, none⟩ = some (.int .i64 op) := by rw [cell_of_row _ _ _ _ _ _ hB]; rfl
  have y1 : w1.cell? ⟨B, 1, none⟩ = some (.int .i64 cl) := by rw [cell_of_row _ _ _ _ _ _ hB]; rfl
  have y2 : w1.cell? ⟨B, 2, none⟩ = some (.int .i64 seq) := by rw [cell_of_row _ _ _ _ _ _ hB]; rfl
  have y3 : w1.cell? ⟨B, 3, none⟩ = some (.int .i64 cf) := by rw [cell_of_row _ _ _ _ _ _ hB]; rfl
  have y4 : w1.cell? ⟨B, 4, none⟩ = some (.int .i64 ct) := by rw [cell_of_row _ _ _ _ _ _ hB]; rfl
  have y5 : w1.cell? ⟨B, 5, none⟩ = some (.slice va data.length vc) := by rw [cell_of_row _ _ _ _ _ _ hB]; rfl
  clear hA hB
  go_wp2_with fail
  go_loopw [5, 51] (fun _ iv wr => ∃ i : Nat, iv = .int .i64 i ∧ i ≤ data.length ∧ Below w1.heap.size w1 wr) (fun _ iv _ => data.length - (intOf iv).toNat)
  case atStart => exact ⟨0, rfl, Nat.zero_le _, Below.refl _ _⟩
  case round =>
    obtain ⟨i, rfl, hi, hbr⟩ := hrel
    have HBR := hid hbr
    by_cases hlt : i < data.length
    · have hltI : (i : Int) < (data.length : Int) := by omega
      have hix : 0 ≤ (i : Int) ∧ (i : Int) < (data.length : Int) := by omega
      obtain ⟨gd, od, rfl⟩ := HU.out.addr (by omega)
      obtain ⟨ge, oe, rfl⟩ := HV.out.addr (by omega)
      have cd : wr.cell? ⟨gd, od + i, none⟩ = some (.string data[i]) := cell_later hbr (HU.out.lit i hlt)
      have ce : wr.cell? ⟨ge, oe + i, none⟩ = some (.string data[i]) := cell_later hbr (HV.out.lit i hlt)
      generalize data[i] = s at cd ce
      have z5 : wr.cell? ⟨A, 5, none⟩ = some (.slice (some ⟨gd, od, none⟩) data.length uc) := cell_later hbr x5
      have t5 : wr.cell? ⟨B, 5, none⟩ = some (.slice (some ⟨ge, oe, none⟩) data.length vc) := cell_later hbr y5
      clear x0 x1 x2 x3 x4 x5 y0 y1 y2 y3 y4 y5 hbr
      go_wp2_with fail
      go_quiet (fail)
      go_wp2_with fail
      go_roundw
      case rel => exact ⟨i + 1, by go_num, by omega, HBR.out.trans ((belowN wr _).mono HBR.out.size)⟩
      case measure => simp [intOf]; omega
    · have hltI : ¬ (i : Int) < (data.length : Int) := by omega
      go_wp2_with fail
      go_ret
      exact ⟨rfl, B1.out.trans (HBR.out.mono B1.out.size)⟩
set_option maxRecDepth 100000 in
set_option maxHeartbeats 4000000 in
theorem sameReply_any (ok : Bool) (l : List ByteArray) (u v : Value) (w : World) (hu : Strs w u l) (hv : Strs w v l) :
    Calls Try.prog 40 #[.agg #[.bool ok, u], .agg #[.bool ok, v]] w fun e w' => e = .returned (.bool true) ∧ Below w.heap.size w w' := by
  obtain ⟨ua, uc, rfl⟩ := hu.shape
  obtain ⟨va, vc, rfl⟩ := hv.shape
  obtain ⟨w1, hw1⟩ : ∃ w1, w1 = (w.alloc (.cells #[.bool ok, .slice ua l.length uc] 60)).alloc (.cells #[.bool ok, .slice va l.length vc] 60) := ⟨_, rfl⟩
  have hb1 : Below w.heap.size w w1 := by rw [hw1]; exact ((Below.refl _ _).alloc (Nat.le_refl _) _).alloc (by simp) _
  have hA : w1.heap[w.heap.size]? = some (.cells #[.bool ok, .slice ua l.length uc] 60 (0, 0)) := by rw [hw1]; exact heap_alloc2_old _ _ _
  have hB : w1.heap[w.heap.size + 1]? = some (.cells #[.bool ok, .slice va l.length vc] 60 (0, 0)) := by rw [hw1]; exact heap_alloc2_new _ _ _
  have HW1 := hid hw1
  have B1 := hid hb1
  have HU := hid (hu.below hb1)
  have HV := hid (hv.below hb1)
  clear hw1 hb1 hu hv
  go_enter Try.func40, Try.ntmps40
  go_upto_region 1 with fail
  rw [← HW1.out]
  obtain ⟨A, hAe⟩ : ∃ A, A = w.heap.size := ⟨_, rfl⟩
  obtain ⟨B, hBe⟩ : ∃ B, B = w.heap.size + 1 := ⟨_, rfl⟩
  rw [← hAe] at hA
  rw [← hBe] at hB
  rw [← hBe, ← hAe]
  clear hAe hBe HW1
  have x0 : w1.cell? ⟨A, 0, none⟩ = some (.bool ok) := by rw [cell_of_row _ _ _ _ _ _ hA]; rfl
  have x1 : w1.cell? ⟨A, 1, none⟩ = some (.slice ua l.length uc) := by rw [cell_of_row _ _ _ _ _ _ hA]; rfl
  have y0 : w1.cell? ⟨B, 0, none⟩ = some (.bool ok) := by rw [cell_of_row _ _ _ _ _ _ hB]; rfl
  have y1 : w1.cell? ⟨B, 1, none⟩ = some (.slice va l.length vc) := by rw [cell_of_row _ _ _ _ _ _ hB]; rfl
  clear hA hB
  have hbb : (ok == ok) = true := by cases ok <;> rfl
  go_wp2_with fail
  refine (sameCmd_any ⟨0, 0, 0, 0, 0, l⟩ _ _ _ HU.out HV.out).mono ?_
  rintro e w2 ⟨rfl, hb2⟩
  have B2 := hid (B1.out.trans (hb2.mono B1.out.size))
  clear hb2
  go_wp2_with fail
  go_ret
  exact ⟨rfl, B2.out⟩
end Go.Proofs.Ytabmnelenfghhaa
