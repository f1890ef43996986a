/- For any span and any commands (the first 40): a store does what the document says. -/
import Derived.Test.YtappdhgabbjoiaaBkPlay
import Derived.Test.YtappdhgabbjoiaaBkAlike
import Derived.Test.YtappdhgabbjoiaaBkSmall
namespace Go.Proofs.Ytappdhgabbjoiaa
open Go.RowKit
set_option linter.unusedVariables false
set_option linter.unusedSimpArgs false

set_option maxRecDepth 100000 in
set_option maxHeartbeats 3200000 in
theorem applies_any (x : Sp) (v : Value) (l : List (CmdD × Value)) (w : World) (hl : Cmds w v l) (hz : ∀ y ∈ l, CmdJ y.1) :
    Calls Try.prog 3 #[.agg #[.int .i64 x.1, .int .i64 x.2], v] w fun e w' => e = .returned (.bool true) ∧ Below w.heap.size w w' := by
  obtain ⟨va, vc, rfl⟩ := hl.shape
  obtain ⟨f, t⟩ := x
  have HC := hid hl
  have HZ := hid hz
  clear hl hz
  obtain ⟨w1, hw1⟩ : ∃ w1, w1 = w.alloc (.cells #[.int .i64 f, .int .i64 t] 23) := ⟨_, rfl⟩
  have hb1 : Below w.heap.size w w1 := by rw [hw1]; exact (Below.refl _ _).alloc (Nat.le_refl _) _
  have hA : w1.heap[w.heap.size]? = some (.cells #[.int .i64 f, .int .i64 t] 23 (0, 0)) := by rw [hw1]; exact heap_alloc_new _ _
  have HW1 := hid hw1
  have B1 := hid hb1
  clear hw1 hb1
  go_enter Try.func3, Try.ntmps3
  go_upto_region 1 with fail
  rw [← HW1.out]
  obtain ⟨A, hAe⟩ : ∃ A, A = w.heap.size := ⟨_, rfl⟩
  rw [← hAe] at hA
  rw [← hAe]
  clear hAe HW1
  have x0 : w1.cell? ⟨A, 0, none⟩ = some (.int .i64 f) := by rw [cell_of_row _ _ _ _ _ _ hA]; rfl
  have x1 : w1.cell? ⟨A, 1, none⟩ = some (.int .i64 t) := by rw [cell_of_row _ _ _ _ _ _ hA]; rfl
  clear hA
  go_wp2_with fail
  refine (small_any (f, t) _).mono ?_
  rintro e w2 ⟨⟨p, q⟩, rfl, hm, hb2⟩
  have B2 := hid (B1.out.trans (hb2.mono B1.out.size))
  have HM := hid hm
  clear hb2 hm x0 x1
  go_wp2_with fail
  refine (play_any (p, q) _ l 40 w2 HM.out (HC.out.below B2.out) HZ.out).mono ?_
  rintro e w3 ⟨b, g, base, X, vt, vm, ks, S, rfl, -, -, -, -, -, -, hps⟩
  have PS3 := hid hps
  have B3 := hid (B2.out.trans (hps.bel.mono B2.out.size))
  clear hps
  go_wp2_with fail
  refine (alike_any b g base X vt vm ks S w3 PS3.out.st PS3.out.rst).mono ?_
  rintro e w4 ⟨rfl, hb4⟩
  have B4 := hid (B3.out.trans (hb4.mono B3.out.size))
  clear hb4
  go_wp2_with fail
  refine (lives_any _).mono ?_
  rintro e w5 ⟨rfl, hb5⟩
  have B5 := hid (B4.out.trans (hb5.mono B4.out.size))
  clear hb5
  go_wp2_with fail
  go_ret
  exact ⟨rfl, B5.out⟩
end Go.Proofs.Ytappdhgabbjoiaa
