/- The law InstsOrders: what any table says of the order of any command. Conditions: instances and command lie in memory. -/
import Derived.Test.YtadjeefigjdkiabInROrder
import Derived.Test.YtadjeefigjdkiabInLives
namespace Go.Proofs.Ytadjeefigjdkiab
open Go.RowKit Go.Maps Go.Shelf
set_option linter.unusedVariables false
set_option linter.unusedSimpArgs false

set_option maxRecDepth 100000 in
set_option maxHeartbeats 8000000 in
theorem instsOrders_any (v : Value) (l : List EnI) (c : CmdD) (ua : Option Addr) (un uc : Nat) (self : Int × Int) (w : World) (hv : Ins w v l) (hj : ∀ e ∈ l, InJ e.x) :
    Calls Try.prog 3 #[v, cmdV c (.slice ua un uc), .agg #[.int .i64 self.1, .int .i64 self.2]] w fun e w' => e = .returned (.bool true) ∧ Below w.heap.size w w' := by
  have HPY := hid (fun W h => play_any v l W h hj)
  have HVW := hid hv
  obtain ⟨xa, xc, rfl⟩ := hv.shape
  have HTO := hid (fun tb mb nn D L W h1 h2 h3 => iorderL_any tb mb nn D L c ua un uc self W h1 h2 h3)
  have HRO := hid (fun v X W h1 h2 => rorder_any v X c ua un uc self W h1 h2)
  have HSM : Hid (∀ X L : List EnI, X.map (fun y => y.x) = L.map (fun y => y.x) → (orF c self X).1 = (orF c self L).1 ∧ ∀ r, r ∈ (orF c self X).2 ↔ r ∈ (orF c self L).2) := hid fun X L h => orF_same h c self
  unfold OrdP at HRO
  clear hv hj
  generalize orF c self = F at *
  obtain ⟨c0, c1, c2, c3, c4, cd⟩ := c
  obtain ⟨s0, s1⟩ := self
  unfold cmdV at HTO HRO ⊢
  simp only at HTO HRO ⊢
  obtain ⟨w1, hw1⟩ : ∃ w1, w1 = (w.alloc (.cells #[.int .i64 c0, .int .i64 c1, .int .i64 c2, .int .i64 c3, .int .i64 c4, .slice ua un uc] 25)).alloc (.cells #[.int .i64 s0, .int .i64 s1] 27) := ⟨_, rfl⟩
  have b1 : Below w.heap.size w w1 := by rw [hw1]; exact ((Below.refl _ _).alloc (Nat.le_refl _) _).alloc (by simp) _
  have hP : w1.heap[w.heap.size]? = some (.cells #[.int .i64 c0, .int .i64 c1, .int .i64 c2, .int .i64 c3, .int .i64 c4, .slice ua un uc] 25 (0, 0)) := by rw [hw1]; exact heap_alloc2_old _ _ _
  have hZ : w1.heap[w.heap.size + 1]? = some (.cells #[.int .i64 s0, .int .i64 s1] 27 (0, 0)) := by rw [hw1]; exact heap_alloc2_new _ _ _
  have HW1 := hid hw1
  have B1 := hid b1
  clear hw1 b1
  go_enter Try.func3, Try.ntmps3
  go_upto_region 1 with fail
  rw [← HW1.out]
  obtain ⟨P, hPe⟩ : ∃ P, P = w.heap.size := ⟨_, rfl⟩
  obtain ⟨Z, hZe⟩ : ∃ Z, Z = w.heap.size + 1 := ⟨_, rfl⟩
  rw [← hPe] at hP
  rw [← hZe] at hZ
  rw [← hZe, ← hPe]
  clear hPe hZe HW1
  have SC : Hid (∀ X, Below w1.heap.size w1 X → X.cell? ⟨P, 0, none⟩ = some (.int .i64 c0) ∧ X.cell? ⟨P, 1, none⟩ = some (.int .i64 c1) ∧ X.cell? ⟨P, 2, none⟩ = some (.int .i64 c2) ∧ X.cell? ⟨P, 3, none⟩ = some (.int .i64 c3) ∧ X.cell? ⟨P, 4, none⟩ = some (.int .i64 c4) ∧ X.cell? ⟨P, 5, none⟩ = some (.slice ua un uc) ∧ X.cell? ⟨Z, 0, none⟩ = some (.int .i64 s0) ∧ X.cell? ⟨Z, 1, none⟩ = some (.int .i64 s1)) := hid fun X hX => by
    have h1 := (hX.block P (lt_of_block hP)).trans hP
    have h2 := (hX.block Z (lt_of_block hZ)).trans hZ
    refine ⟨?_, ?_, ?_, ?_, ?_, ?_, ?_, ?_⟩ <;> first | (rw [cell_of_row _ _ _ _ _ _ h1]; rfl) | (rw [cell_of_row _ _ _ _ _ _ h2]; rfl)
  clear hP hZ
  go_wp2_with fail
  refine (HPY.out w1 (HVW.out.below B1.out)).mono ?_
  rintro e w2 ⟨tb, mb, nn, D, L, X, va, vc, rfl, hPL, hL60, hnn, hJX⟩
  have PL := hid hPL
  have HX := hid (ins_own hPL.row hPL.memX)
  have HFX := hid (HSM.out X L hPL.same)
  have B2 := hid hPL.bel
  have hXL : X.length ≤ 60 := by rw [hPL.len]; exact hL60
  clear hPL hJX HPY HVW
  obtain ⟨f0, f1, f2, f3, f4, f5, z0, z1⟩ := SC.out w2 B2.out
  go_wp2_with fail
  refine (HTO.out tb mb nn D L w2 PL.out.tab PL.out.tl (by omega)).mono ?_
  rintro e w3 ⟨m3, va3, vc3, rfl, hm3, hr3, ho3, hb3⟩
  have HM3 := hid hm3
  have HR3 := hid hr3
  have HF3 := hid (rfs_rvs ho3)
  have B3 := hid (B2.out.trans (hb3.mono B2.out.size))
  have HX3 := hid (HX.out.below hb3)
  clear hm3 hr3 ho3 hb3 f0 f1 f2 f3 f4 f5 z0 z1 HX
  obtain ⟨f0, f1, f2, f3, f4, f5, z0, z1⟩ := SC.out w3 B3.out
  go_wp2_with fail
  refine (HRO.out (.slice va X.length vc) X w3 HX3.out (by omega)).mono ?_
  rintro e w4 ⟨m4, va4, vc4, rfl, hm4, hr4, hf4, hb4⟩
  obtain rfl : m4 = m3 := rise_unique hr4 HR3.out fun r => (hm4 r).trans ((HFX.out.2 r).trans (HM3.out r).symm)
  have HF4 := hid hf4
  have HF34 := hid (HF3.out.below hb4)
  have B4 := hid (B3.out.trans (hb4.mono B3.out.size))
  rw [HFX.out.1]
  have HEQ := hid (eqB_of (rfl : m4 = m4))
  clear hm4 hr4 hf4 hb4 f0 f1 f2 f3 f4 f5 z0 z1 HM3 HR3 HF3
  generalize (F L).1 = g
  go_wp2_with fail
  refine (rsameRefs_any m4 m4 _ _ w4 HF34.out HF4.out).mono ?_
  rintro e w5 ⟨rfl, hb5⟩
  rw [HEQ.out]
  have B5 := hid (B4.out.trans (hb5.mono B4.out.size))
  clear hb5
  go_wp2_with fail
  refine (lives_any _).mono ?_
  rintro e w6 ⟨rfl, hb6⟩
  have B6 := hid (B5.out.trans (hb6.mono B5.out.size))
  clear hb6
  go_wp2_with fail
  go_ret
  exact ⟨rfl, B1.out.trans (B6.out.mono B1.out.size)⟩
end Go.Proofs.Ytadjeefigjdkiab
