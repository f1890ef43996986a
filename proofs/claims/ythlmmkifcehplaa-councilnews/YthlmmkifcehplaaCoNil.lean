/- What the calls of a council that there is not answer. -/
import Derived.Test.YthlmmkifcehplaaCoEx
namespace Go.Proofs.Ythlmmkifcehplaa
open Go.RowKit
set_option linter.unusedVariables false
set_option linter.unusedSimpArgs false

set_option maxRecDepth 100000 in
theorem leader_nil (w : World) : Calls Try.prog 15 #[.pointer none] w fun e w' => e = .returned (.int .i64 (-1)) ∧ w' = w := by
  go_enter Try.func15, Try.ntmps15
  go_wp2_with fail
  go_ret
  exact ⟨rfl, rfl⟩
set_option maxRecDepth 100000 in
theorem leads_nil (w : World) : Calls Try.prog 16 #[.pointer none] w fun e w' => e = .returned (.bool false) ∧ w' = w := by
  go_enter Try.func16, Try.ntmps16
  go_wp2_with fail
  go_ret
  exact ⟨rfl, rfl⟩
set_option maxRecDepth 100000 in
theorem last_nil (w : World) : Calls Try.prog 17 #[.pointer none] w fun e w' => e = .returned (.int .i64 0) ∧ w' = w := by
  go_enter Try.func17, Try.ntmps17
  go_wp2_with fail
  go_ret
  exact ⟨rfl, rfl⟩
set_option maxRecDepth 100000 in
theorem told_nil (w : World) : Calls Try.prog 18 #[.pointer none] w fun e w' => e = .returned (.int .i64 0) ∧ w' = w := by
  go_enter Try.func18, Try.ntmps18
  go_wp2_with fail
  go_ret
  exact ⟨rfl, rfl⟩
set_option maxRecDepth 100000 in
theorem term_nil (w : World) : Calls Try.prog 19 #[.pointer none] w fun e w' => e = .returned (.int .i64 0) ∧ w' = w := by
  go_enter Try.func19, Try.ntmps19
  go_wp2_with fail
  go_ret
  exact ⟨rfl, rfl⟩
set_option maxRecDepth 100000 in
theorem cvoters_nil (w : World) : Calls Try.prog 20 #[.pointer none] w fun e w' => e = .returned (.slice none 0 0) ∧ w' = w := by
  go_enter Try.func20, Try.ntmps20
  go_wp2_with fail
  go_ret
  exact ⟨rfl, rfl⟩
set_option maxRecDepth 100000 in
theorem encode_nil (w : World) : Calls Try.prog 21 #[.pointer none] w fun e w' => e = .returned (.slice none 0 0) ∧ w' = w := by
  go_enter Try.func21, Try.ntmps21
  go_wp2_with fail
  go_ret
  exact ⟨rfl, rfl⟩
set_option maxRecDepth 100000 in
set_option maxHeartbeats 1600000 in
theorem tick_nil (w : World) : Calls Try.prog 22 #[.pointer none] w fun e w' => e = .returned (.agg #[.bool false, .slice none 0 0, .slice none 0 0]) ∧ Below w.heap.size w w' := by
  obtain ⟨w1, hw1⟩ : ∃ w1, w1 = (w.alloc wd0).alloc wd0 := ⟨_, rfl⟩
  have B1 : Hid (Below w.heap.size w w1) := hid (by rw [hw1]; exact ((Below.refl _ _).alloc (Nat.le_refl _) _).alloc (by simp) _)
  have hR : w1.heap[w.heap.size]? = some wd0 := by rw [hw1]; exact heap_alloc2_old _ _ _
  have hWb : w1.heap[w.heap.size + 1]? = some wd0 := by rw [hw1]; exact heap_alloc2_new _ _ _
  have HW1 := hid hw1
  unfold wd0 at HW1
  clear hw1
  go_enter Try.func22, Try.ntmps22
  go_upto_region 2 with fail
  rw [← HW1.out]
  obtain ⟨R, hRe⟩ : ∃ R, R = w.heap.size := ⟨_, rfl⟩
  obtain ⟨wb, hwbe⟩ : ∃ wb, wb = w.heap.size + 1 := ⟨_, rfl⟩
  have HPL : Hid (w.heap.size ≤ R) := hid (by omega)
  rw [← hwbe] at hWb
  rw [← hRe] at hR
  rw [← hwbe, ← hRe]
  clear HW1 hRe hwbe
  go_wp2_with (first | (refine wpl_loadW rfl _ rfl wb rfl _ _ _ _ _ hWb ?_) | (refine wpl_storeW rfl _ _ rfl R _ _ _ rfl rfl rfl rfl rfl _ _ _ _ hR ?_))
  (try simp only [Exit.inBlock, Exit.then])
  refine bodyPost_ret (results_word rfl _ _ R _ _ _ _ _ rfl (setRow_heap _ _ _ _ _ _ hR)) rfl ?_
  exact ⟨rfl, ⟨B1.out.os, B1.out.tape, B1.out.output, by simpa using B1.out.size, fun q hq => (setRow_other _ _ _ _ (by have := HPL.out; omega)).trans (B1.out.block q hq)⟩⟩
set_option maxRecDepth 100000 in
set_option maxHeartbeats 1600000 in
theorem hear_nil (cs : Array Value) (w : World) : Calls Try.prog 23 #[.pointer none, .agg cs] w fun e w' => e = .returned (.agg #[.bool false, .slice none 0 0, .slice none 0 0]) ∧ Below w.heap.size w w' := by
  obtain ⟨w0, hw0⟩ : ∃ w0, w0 = w.alloc (.cells cs 55) := ⟨_, rfl⟩
  have hs0 : w0.heap.size = w.heap.size + 1 := by rw [hw0]; simp
  have B0 : Hid (Below w.heap.size w w0) := hid (by rw [hw0]; exact (Below.refl _ _).alloc (Nat.le_refl _) _)
  obtain ⟨w1, hw1⟩ : ∃ w1, w1 = (w0.alloc wd0).alloc wd0 := ⟨_, rfl⟩
  have B1 : Hid (Below w.heap.size w w1) := hid (by rw [hw1]; exact (B0.out.alloc (by omega) _).alloc (by simp; omega) _)
  have hR : w1.heap[w0.heap.size]? = some wd0 := by rw [hw1]; exact heap_alloc2_old _ _ _
  have hWb : w1.heap[w0.heap.size + 1]? = some wd0 := by rw [hw1]; exact heap_alloc2_new _ _ _
  have HW1 := hid hw1
  have HW0 := hid hw0
  unfold wd0 at HW1
  rw [hs0] at hR hWb
  clear hw1 hw0
  go_enter Try.func23, Try.ntmps23
  go_upto_region 2 with fail
  rw [← HW0.out, ← HW1.out]
  obtain ⟨R, hRe⟩ : ∃ R, R = w.heap.size + 1 := ⟨_, rfl⟩
  obtain ⟨wb, hwbe⟩ : ∃ wb, wb = w.heap.size + 1 + 1 := ⟨_, rfl⟩
  have HPL : Hid (w.heap.size ≤ R) := hid (by omega)
  rw [← hwbe] at hWb
  rw [← hRe] at hR
  rw [← hwbe, ← hRe]
  clear HW1 HW0 hRe hwbe hs0
  go_wp2_with (first | (refine wpl_loadW rfl _ rfl wb rfl _ _ _ _ _ hWb ?_) | (refine wpl_storeW rfl _ _ rfl R _ _ _ rfl rfl rfl rfl rfl _ _ _ _ hR ?_))
  (try simp only [Exit.inBlock, Exit.then])
  refine bodyPost_ret (results_word rfl _ _ R _ _ _ _ _ rfl (setRow_heap _ _ _ _ _ _ hR)) rfl ?_
  exact ⟨rfl, ⟨B1.out.os, B1.out.tape, B1.out.output, by simpa using B1.out.size, fun q hq => (setRow_other _ _ _ _ (by have := HPL.out; omega)).trans (B1.out.block q hq)⟩⟩
set_option maxRecDepth 100000 in
set_option maxHeartbeats 1600000 in
theorem compact_nil (i : Int) (s : ByteArray) (w : World) : Calls Try.prog 14 #[.pointer none, .int .i64 i, .string s] w fun e w' => e = .returned (.tuple #[.agg #[.bool false, .slice none 0 0, .slice none 0 0], .int .i64 8]) ∧ Below w.heap.size w w' := by
  obtain ⟨w1, hw1⟩ : ∃ w1, w1 = w.alloc wd0 := ⟨_, rfl⟩
  have B1 : Hid (Below w.heap.size w w1) := hid (by rw [hw1]; exact (Below.refl _ _).alloc (Nat.le_refl _) _)
  have hR : w1.heap[w.heap.size]? = some wd0 := by rw [hw1]; exact heap_alloc_new _ _
  have HW1 := hid hw1
  unfold wd0 at HW1
  clear hw1
  go_enter Try.func14, Try.ntmps14
  go_upto_region 1 with fail
  rw [← HW1.out]
  obtain ⟨R, hRe⟩ : ∃ R, R = w.heap.size := ⟨_, rfl⟩
  have HPL : Hid (w.heap.size ≤ R) := hid (by omega)
  rw [← hRe] at hR
  rw [← hRe]
  clear HW1 hRe
  go_wp2_with (refine wpl_storeW rfl _ _ rfl R (.bool false) (.slice none 0 0) (.slice none 0 0) rfl rfl rfl rfl rfl _ _ _ _ hR ?_)
  (try simp only [Exit.inBlock, Exit.then])
  refine bodyPost_ret (results_wordE rfl _ _ R _ _ _ _ _ rfl (setRow_heap _ _ _ _ _ _ hR)) rfl ?_
  exact ⟨rfl, ⟨B1.out.os, B1.out.tape, B1.out.output, by simpa using B1.out.size, fun q hq => (setRow_other _ _ _ _ (by have := HPL.out; omega)).trans (B1.out.block q hq)⟩⟩
end Go.Proofs.Ythlmmkifcehplaa
