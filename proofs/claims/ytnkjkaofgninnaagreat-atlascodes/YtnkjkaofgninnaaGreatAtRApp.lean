/- The document's Apply. Conditions: its map of shards lies in memory. -/
import Derived.Test.YtnkjkaofgninnaaGreatAtAt
namespace Go.Proofs.YtnkjkaofgninnaaGreat
open Go.RowKit Go.Maps Go.Shelf
set_option linter.unusedVariables false
set_option linter.unusedSimpArgs false

set_option maxRecDepth 100000 in
set_option maxHeartbeats 8000000 in
theorem rapp_bad (b : Nat) (c : ChD) (w : World) (h : akB c.k = false ∨ namD c ≠ c) :
    Calls Tryz.prog 15 #[.pointer (some ⟨b, 0, none⟩), chV c] w fun e w' => e = .returned (.int .i64 1) ∧ Below w.heap.size w w' := by
  obtain ⟨k, sh, ot, at', out, in'⟩ := c
  obtain ⟨w1, hw1⟩ : ∃ w1, w1 = w.alloc (.cells #[.int .i64 k, .int .i64 sh, .int .i64 ot, .int .i64 at', .int .i64 out, .int .i64 in'] 41) := ⟨_, rfl⟩
  have HB1 : Hid (Below w.heap.size w w1) := hid (by rw [hw1]; exact (Below.refl _ _).alloc (Nat.le_refl _) _)
  have HC1 : Hid (w1.heap[w.heap.size]? = some (.cells #[.int .i64 k, .int .i64 sh, .int .i64 ot, .int .i64 at', .int .i64 out, .int .i64 in'] 41 (0, 0))) := hid (by rw [hw1]; exact heap_alloc_new _ _)
  have HW1 := hid hw1
  clear hw1
  by_cases h1 : k < 1
  · have g1 : ¬ 1 ≤ k := by omega
    clear h
    unfold chV
    go_enter Tryz.func15, Tryz.ntmps15
    go_upto_region 1 with fail
    rw [← HW1.out]
    clear HW1
    obtain ⟨C, hCe⟩ : ∃ C, C = w.heap.size := ⟨_, rfl⟩
    rw [← hCe]
    rw [← hCe] at HC1
    have HCE : Hid (w.heap.size ≤ C) := hid (by omega)
    clear hCe
    have a0 : w1.cell? ⟨C, 0, none⟩ = some (.int .i64 _) := (cell_of_row _ _ _ _ _ _ HC1.out).trans rfl
    have a1 : w1.cell? ⟨C, 1, none⟩ = some (.int .i64 _) := (cell_of_row _ _ _ _ _ _ HC1.out).trans rfl
    have a2 : w1.cell? ⟨C, 2, none⟩ = some (.int .i64 _) := (cell_of_row _ _ _ _ _ _ HC1.out).trans rfl
    have a3 : w1.cell? ⟨C, 3, none⟩ = some (.int .i64 _) := (cell_of_row _ _ _ _ _ _ HC1.out).trans rfl
    have a4 : w1.cell? ⟨C, 4, none⟩ = some (.int .i64 _) := (cell_of_row _ _ _ _ _ _ HC1.out).trans rfl
    have a5 : w1.cell? ⟨C, 5, none⟩ = some (.int .i64 _) := (cell_of_row _ _ _ _ _ _ HC1.out).trans rfl
    go_wp2_with fail
    go_ret
    exact ⟨rfl, HB1.out⟩
  by_cases h5 : 5 < k
  · have g1 : 1 ≤ k := by omega
    have g5 : ¬ k ≤ 5 := by omega
    clear h h1
    unfold chV
    go_enter Tryz.func15, Tryz.ntmps15
    go_upto_region 1 with fail
    rw [← HW1.out]
    clear HW1
    obtain ⟨C, hCe⟩ : ∃ C, C = w.heap.size := ⟨_, rfl⟩
    rw [← hCe]
    rw [← hCe] at HC1
    have HCE : Hid (w.heap.size ≤ C) := hid (by omega)
    clear hCe
    have a0 : w1.cell? ⟨C, 0, none⟩ = some (.int .i64 _) := (cell_of_row _ _ _ _ _ _ HC1.out).trans rfl
    have a1 : w1.cell? ⟨C, 1, none⟩ = some (.int .i64 _) := (cell_of_row _ _ _ _ _ _ HC1.out).trans rfl
    have a2 : w1.cell? ⟨C, 2, none⟩ = some (.int .i64 _) := (cell_of_row _ _ _ _ _ _ HC1.out).trans rfl
    have a3 : w1.cell? ⟨C, 3, none⟩ = some (.int .i64 _) := (cell_of_row _ _ _ _ _ _ HC1.out).trans rfl
    have a4 : w1.cell? ⟨C, 4, none⟩ = some (.int .i64 _) := (cell_of_row _ _ _ _ _ _ HC1.out).trans rfl
    have a5 : w1.cell? ⟨C, 5, none⟩ = some (.int .i64 _) := (cell_of_row _ _ _ _ _ _ HC1.out).trans rfl
    go_wp2_with fail
    go_ret
    exact ⟨rfl, HB1.out⟩
  have hk : akB k = true := by unfold akB; simp; omega
  have hn : namD ⟨k, sh, ot, at', out, in'⟩ ≠ ⟨k, sh, ot, at', out, in'⟩ := h.resolve_left (by simp [hk])
  clear h hk
  have g1 : 1 ≤ k := by omega
  have g5 : k ≤ 5 := by omega
  clear h1 h5
  have hd : k = 1 ∨ k = 2 ∨ k = 3 ∨ k = 4 ∨ k = 5 := by omega
  have z1 : ∀ x : Int, (x == 0) = false ∨ x = 0 := fun x => by by_cases h : x = 0 <;> simp [h]
  clear g1 g5
  rcases hd with rfl | rfl | rfl | rfl | rfl
  · rcases z1 ot with h | rfl
    · clear hn z1
      unfold chV
      go_enter Tryz.func15, Tryz.ntmps15
      go_upto_region 1 with fail
      rw [← HW1.out]
      clear HW1
      obtain ⟨C, hCe⟩ : ∃ C, C = w.heap.size := ⟨_, rfl⟩
      rw [← hCe]
      rw [← hCe] at HC1
      have HCE : Hid (w.heap.size ≤ C) := hid (by omega)
      clear hCe
      have a0 : w1.cell? ⟨C, 0, none⟩ = some (.int .i64 _) := (cell_of_row _ _ _ _ _ _ HC1.out).trans rfl
      have a1 : w1.cell? ⟨C, 1, none⟩ = some (.int .i64 _) := (cell_of_row _ _ _ _ _ _ HC1.out).trans rfl
      have a2 : w1.cell? ⟨C, 2, none⟩ = some (.int .i64 _) := (cell_of_row _ _ _ _ _ _ HC1.out).trans rfl
      have a3 : w1.cell? ⟨C, 3, none⟩ = some (.int .i64 _) := (cell_of_row _ _ _ _ _ _ HC1.out).trans rfl
      have a4 : w1.cell? ⟨C, 4, none⟩ = some (.int .i64 _) := (cell_of_row _ _ _ _ _ _ HC1.out).trans rfl
      have a5 : w1.cell? ⟨C, 5, none⟩ = some (.int .i64 _) := (cell_of_row _ _ _ _ _ _ HC1.out).trans rfl
      go_wp2_with fail
      go_ret
      exact ⟨rfl, HB1.out⟩
    rcases z1 out with h | rfl
    · clear hn z1
      unfold chV
      go_enter Tryz.func15, Tryz.ntmps15
      go_upto_region 1 with fail
      rw [← HW1.out]
      clear HW1
      obtain ⟨C, hCe⟩ : ∃ C, C = w.heap.size := ⟨_, rfl⟩
      rw [← hCe]
      rw [← hCe] at HC1
      have HCE : Hid (w.heap.size ≤ C) := hid (by omega)
      clear hCe
      have a0 : w1.cell? ⟨C, 0, none⟩ = some (.int .i64 _) := (cell_of_row _ _ _ _ _ _ HC1.out).trans rfl
      have a1 : w1.cell? ⟨C, 1, none⟩ = some (.int .i64 _) := (cell_of_row _ _ _ _ _ _ HC1.out).trans rfl
      have a2 : w1.cell? ⟨C, 2, none⟩ = some (.int .i64 _) := (cell_of_row _ _ _ _ _ _ HC1.out).trans rfl
      have a3 : w1.cell? ⟨C, 3, none⟩ = some (.int .i64 _) := (cell_of_row _ _ _ _ _ _ HC1.out).trans rfl
      have a4 : w1.cell? ⟨C, 4, none⟩ = some (.int .i64 _) := (cell_of_row _ _ _ _ _ _ HC1.out).trans rfl
      have a5 : w1.cell? ⟨C, 5, none⟩ = some (.int .i64 _) := (cell_of_row _ _ _ _ _ _ HC1.out).trans rfl
      go_wp2_with fail
      go_ret
      exact ⟨rfl, HB1.out⟩
    rcases z1 in' with h | rfl
    · clear hn z1
      unfold chV
      go_enter Tryz.func15, Tryz.ntmps15
      go_upto_region 1 with fail
      rw [← HW1.out]
      clear HW1
      obtain ⟨C, hCe⟩ : ∃ C, C = w.heap.size := ⟨_, rfl⟩
      rw [← hCe]
      rw [← hCe] at HC1
      have HCE : Hid (w.heap.size ≤ C) := hid (by omega)
      clear hCe
      have a0 : w1.cell? ⟨C, 0, none⟩ = some (.int .i64 _) := (cell_of_row _ _ _ _ _ _ HC1.out).trans rfl
      have a1 : w1.cell? ⟨C, 1, none⟩ = some (.int .i64 _) := (cell_of_row _ _ _ _ _ _ HC1.out).trans rfl
      have a2 : w1.cell? ⟨C, 2, none⟩ = some (.int .i64 _) := (cell_of_row _ _ _ _ _ _ HC1.out).trans rfl
      have a3 : w1.cell? ⟨C, 3, none⟩ = some (.int .i64 _) := (cell_of_row _ _ _ _ _ _ HC1.out).trans rfl
      have a4 : w1.cell? ⟨C, 4, none⟩ = some (.int .i64 _) := (cell_of_row _ _ _ _ _ _ HC1.out).trans rfl
      have a5 : w1.cell? ⟨C, 5, none⟩ = some (.int .i64 _) := (cell_of_row _ _ _ _ _ _ HC1.out).trans rfl
      go_wp2_with fail
      go_ret
      exact ⟨rfl, HB1.out⟩
    exact absurd rfl hn
  · rcases z1 at' with h | rfl
    · clear hn z1
      unfold chV
      go_enter Tryz.func15, Tryz.ntmps15
      go_upto_region 1 with fail
      rw [← HW1.out]
      clear HW1
      obtain ⟨C, hCe⟩ : ∃ C, C = w.heap.size := ⟨_, rfl⟩
      rw [← hCe]
      rw [← hCe] at HC1
      have HCE : Hid (w.heap.size ≤ C) := hid (by omega)
      clear hCe
      have a0 : w1.cell? ⟨C, 0, none⟩ = some (.int .i64 _) := (cell_of_row _ _ _ _ _ _ HC1.out).trans rfl
      have a1 : w1.cell? ⟨C, 1, none⟩ = some (.int .i64 _) := (cell_of_row _ _ _ _ _ _ HC1.out).trans rfl
      have a2 : w1.cell? ⟨C, 2, none⟩ = some (.int .i64 _) := (cell_of_row _ _ _ _ _ _ HC1.out).trans rfl
      have a3 : w1.cell? ⟨C, 3, none⟩ = some (.int .i64 _) := (cell_of_row _ _ _ _ _ _ HC1.out).trans rfl
      have a4 : w1.cell? ⟨C, 4, none⟩ = some (.int .i64 _) := (cell_of_row _ _ _ _ _ _ HC1.out).trans rfl
      have a5 : w1.cell? ⟨C, 5, none⟩ = some (.int .i64 _) := (cell_of_row _ _ _ _ _ _ HC1.out).trans rfl
      go_wp2_with fail
      go_ret
      exact ⟨rfl, HB1.out⟩
    rcases z1 out with h | rfl
    · clear hn z1
      unfold chV
      go_enter Tryz.func15, Tryz.ntmps15
      go_upto_region 1 with fail
      rw [← HW1.out]
      clear HW1
      obtain ⟨C, hCe⟩ : ∃ C, C = w.heap.size := ⟨_, rfl⟩
      rw [← hCe]
      rw [← hCe] at HC1
      have HCE : Hid (w.heap.size ≤ C) := hid (by omega)
      clear hCe
      have a0 : w1.cell? ⟨C, 0, none⟩ = some (.int .i64 _) := (cell_of_row _ _ _ _ _ _ HC1.out).trans rfl
      have a1 : w1.cell? ⟨C, 1, none⟩ = some (.int .i64 _) := (cell_of_row _ _ _ _ _ _ HC1.out).trans rfl
      have a2 : w1.cell? ⟨C, 2, none⟩ = some (.int .i64 _) := (cell_of_row _ _ _ _ _ _ HC1.out).trans rfl
      have a3 : w1.cell? ⟨C, 3, none⟩ = some (.int .i64 _) := (cell_of_row _ _ _ _ _ _ HC1.out).trans rfl
      have a4 : w1.cell? ⟨C, 4, none⟩ = some (.int .i64 _) := (cell_of_row _ _ _ _ _ _ HC1.out).trans rfl
      have a5 : w1.cell? ⟨C, 5, none⟩ = some (.int .i64 _) := (cell_of_row _ _ _ _ _ _ HC1.out).trans rfl
      go_wp2_with fail
      go_ret
      exact ⟨rfl, HB1.out⟩
    rcases z1 in' with h | rfl
    · clear hn z1
      unfold chV
      go_enter Tryz.func15, Tryz.ntmps15
      go_upto_region 1 with fail
      rw [← HW1.out]
      clear HW1
      obtain ⟨C, hCe⟩ : ∃ C, C = w.heap.size := ⟨_, rfl⟩
      rw [← hCe]
      rw [← hCe] at HC1
      have HCE : Hid (w.heap.size ≤ C) := hid (by omega)
      clear hCe
      have a0 : w1.cell? ⟨C, 0, none⟩ = some (.int .i64 _) := (cell_of_row _ _ _ _ _ _ HC1.out).trans rfl
      have a1 : w1.cell? ⟨C, 1, none⟩ = some (.int .i64 _) := (cell_of_row _ _ _ _ _ _ HC1.out).trans rfl
      have a2 : w1.cell? ⟨C, 2, none⟩ = some (.int .i64 _) := (cell_of_row _ _ _ _ _ _ HC1.out).trans rfl
      have a3 : w1.cell? ⟨C, 3, none⟩ = some (.int .i64 _) := (cell_of_row _ _ _ _ _ _ HC1.out).trans rfl
      have a4 : w1.cell? ⟨C, 4, none⟩ = some (.int .i64 _) := (cell_of_row _ _ _ _ _ _ HC1.out).trans rfl
      have a5 : w1.cell? ⟨C, 5, none⟩ = some (.int .i64 _) := (cell_of_row _ _ _ _ _ _ HC1.out).trans rfl
      go_wp2_with fail
      go_ret
      exact ⟨rfl, HB1.out⟩
    exact absurd rfl hn
  · rcases z1 at' with h | rfl
    · clear hn z1
      unfold chV
      go_enter Tryz.func15, Tryz.ntmps15
      go_upto_region 1 with fail
      rw [← HW1.out]
      clear HW1
      obtain ⟨C, hCe⟩ : ∃ C, C = w.heap.size := ⟨_, rfl⟩
      rw [← hCe]
      rw [← hCe] at HC1
      have HCE : Hid (w.heap.size ≤ C) := hid (by omega)
      clear hCe
      have a0 : w1.cell? ⟨C, 0, none⟩ = some (.int .i64 _) := (cell_of_row _ _ _ _ _ _ HC1.out).trans rfl
      have a1 : w1.cell? ⟨C, 1, none⟩ = some (.int .i64 _) := (cell_of_row _ _ _ _ _ _ HC1.out).trans rfl
      have a2 : w1.cell? ⟨C, 2, none⟩ = some (.int .i64 _) := (cell_of_row _ _ _ _ _ _ HC1.out).trans rfl
      have a3 : w1.cell? ⟨C, 3, none⟩ = some (.int .i64 _) := (cell_of_row _ _ _ _ _ _ HC1.out).trans rfl
      have a4 : w1.cell? ⟨C, 4, none⟩ = some (.int .i64 _) := (cell_of_row _ _ _ _ _ _ HC1.out).trans rfl
      have a5 : w1.cell? ⟨C, 5, none⟩ = some (.int .i64 _) := (cell_of_row _ _ _ _ _ _ HC1.out).trans rfl
      go_wp2_with fail
      go_ret
      exact ⟨rfl, HB1.out⟩
    rcases z1 ot with h | rfl
    · clear hn z1
      unfold chV
      go_enter Tryz.func15, Tryz.ntmps15
      go_upto_region 1 with fail
      rw [← HW1.out]
      clear HW1
      obtain ⟨C, hCe⟩ : ∃ C, C = w.heap.size := ⟨_, rfl⟩
      rw [← hCe]
      rw [← hCe] at HC1
      have HCE : Hid (w.heap.size ≤ C) := hid (by omega)
      clear hCe
      have a0 : w1.cell? ⟨C, 0, none⟩ = some (.int .i64 _) := (cell_of_row _ _ _ _ _ _ HC1.out).trans rfl
      have a1 : w1.cell? ⟨C, 1, none⟩ = some (.int .i64 _) := (cell_of_row _ _ _ _ _ _ HC1.out).trans rfl
      have a2 : w1.cell? ⟨C, 2, none⟩ = some (.int .i64 _) := (cell_of_row _ _ _ _ _ _ HC1.out).trans rfl
      have a3 : w1.cell? ⟨C, 3, none⟩ = some (.int .i64 _) := (cell_of_row _ _ _ _ _ _ HC1.out).trans rfl
      have a4 : w1.cell? ⟨C, 4, none⟩ = some (.int .i64 _) := (cell_of_row _ _ _ _ _ _ HC1.out).trans rfl
      have a5 : w1.cell? ⟨C, 5, none⟩ = some (.int .i64 _) := (cell_of_row _ _ _ _ _ _ HC1.out).trans rfl
      go_wp2_with fail
      go_ret
      exact ⟨rfl, HB1.out⟩
    exact absurd rfl hn
  · rcases z1 at' with h | rfl
    · clear hn z1
      unfold chV
      go_enter Tryz.func15, Tryz.ntmps15
      go_upto_region 1 with fail
      rw [← HW1.out]
      clear HW1
      obtain ⟨C, hCe⟩ : ∃ C, C = w.heap.size := ⟨_, rfl⟩
      rw [← hCe]
      rw [← hCe] at HC1
      have HCE : Hid (w.heap.size ≤ C) := hid (by omega)
      clear hCe
      have a0 : w1.cell? ⟨C, 0, none⟩ = some (.int .i64 _) := (cell_of_row _ _ _ _ _ _ HC1.out).trans rfl
      have a1 : w1.cell? ⟨C, 1, none⟩ = some (.int .i64 _) := (cell_of_row _ _ _ _ _ _ HC1.out).trans rfl
      have a2 : w1.cell? ⟨C, 2, none⟩ = some (.int .i64 _) := (cell_of_row _ _ _ _ _ _ HC1.out).trans rfl
      have a3 : w1.cell? ⟨C, 3, none⟩ = some (.int .i64 _) := (cell_of_row _ _ _ _ _ _ HC1.out).trans rfl
      have a4 : w1.cell? ⟨C, 4, none⟩ = some (.int .i64 _) := (cell_of_row _ _ _ _ _ _ HC1.out).trans rfl
      have a5 : w1.cell? ⟨C, 5, none⟩ = some (.int .i64 _) := (cell_of_row _ _ _ _ _ _ HC1.out).trans rfl
      go_wp2_with fail
      go_ret
      exact ⟨rfl, HB1.out⟩
    rcases z1 ot with h | rfl
    · clear hn z1
      unfold chV
      go_enter Tryz.func15, Tryz.ntmps15
      go_upto_region 1 with fail
      rw [← HW1.out]
      clear HW1
      obtain ⟨C, hCe⟩ : ∃ C, C = w.heap.size := ⟨_, rfl⟩
      rw [← hCe]
      rw [← hCe] at HC1
      have HCE : Hid (w.heap.size ≤ C) := hid (by omega)
      clear hCe
      have a0 : w1.cell? ⟨C, 0, none⟩ = some (.int .i64 _) := (cell_of_row _ _ _ _ _ _ HC1.out).trans rfl
      have a1 : w1.cell? ⟨C, 1, none⟩ = some (.int .i64 _) := (cell_of_row _ _ _ _ _ _ HC1.out).trans rfl
      have a2 : w1.cell? ⟨C, 2, none⟩ = some (.int .i64 _) := (cell_of_row _ _ _ _ _ _ HC1.out).trans rfl
      have a3 : w1.cell? ⟨C, 3, none⟩ = some (.int .i64 _) := (cell_of_row _ _ _ _ _ _ HC1.out).trans rfl
      have a4 : w1.cell? ⟨C, 4, none⟩ = some (.int .i64 _) := (cell_of_row _ _ _ _ _ _ HC1.out).trans rfl
      have a5 : w1.cell? ⟨C, 5, none⟩ = some (.int .i64 _) := (cell_of_row _ _ _ _ _ _ HC1.out).trans rfl
      go_wp2_with fail
      go_ret
      exact ⟨rfl, HB1.out⟩
    rcases z1 out with h | rfl
    · clear hn z1
      unfold chV
      go_enter Tryz.func15, Tryz.ntmps15
      go_upto_region 1 with fail
      rw [← HW1.out]
      clear HW1
      obtain ⟨C, hCe⟩ : ∃ C, C = w.heap.size := ⟨_, rfl⟩
      rw [← hCe]
      rw [← hCe] at HC1
      have HCE : Hid (w.heap.size ≤ C) := hid (by omega)
      clear hCe
      have a0 : w1.cell? ⟨C, 0, none⟩ = some (.int .i64 _) := (cell_of_row _ _ _ _ _ _ HC1.out).trans rfl
      have a1 : w1.cell? ⟨C, 1, none⟩ = some (.int .i64 _) := (cell_of_row _ _ _ _ _ _ HC1.out).trans rfl
      have a2 : w1.cell? ⟨C, 2, none⟩ = some (.int .i64 _) := (cell_of_row _ _ _ _ _ _ HC1.out).trans rfl
      have a3 : w1.cell? ⟨C, 3, none⟩ = some (.int .i64 _) := (cell_of_row _ _ _ _ _ _ HC1.out).trans rfl
      have a4 : w1.cell? ⟨C, 4, none⟩ = some (.int .i64 _) := (cell_of_row _ _ _ _ _ _ HC1.out).trans rfl
      have a5 : w1.cell? ⟨C, 5, none⟩ = some (.int .i64 _) := (cell_of_row _ _ _ _ _ _ HC1.out).trans rfl
      go_wp2_with fail
      go_ret
      exact ⟨rfl, HB1.out⟩
    rcases z1 in' with h | rfl
    · clear hn z1
      unfold chV
      go_enter Tryz.func15, Tryz.ntmps15
      go_upto_region 1 with fail
      rw [← HW1.out]
      clear HW1
      obtain ⟨C, hCe⟩ : ∃ C, C = w.heap.size := ⟨_, rfl⟩
      rw [← hCe]
      rw [← hCe] at HC1
      have HCE : Hid (w.heap.size ≤ C) := hid (by omega)
      clear hCe
      have a0 : w1.cell? ⟨C, 0, none⟩ = some (.int .i64 _) := (cell_of_row _ _ _ _ _ _ HC1.out).trans rfl
      have a1 : w1.cell? ⟨C, 1, none⟩ = some (.int .i64 _) := (cell_of_row _ _ _ _ _ _ HC1.out).trans rfl
      have a2 : w1.cell? ⟨C, 2, none⟩ = some (.int .i64 _) := (cell_of_row _ _ _ _ _ _ HC1.out).trans rfl
      have a3 : w1.cell? ⟨C, 3, none⟩ = some (.int .i64 _) := (cell_of_row _ _ _ _ _ _ HC1.out).trans rfl
      have a4 : w1.cell? ⟨C, 4, none⟩ = some (.int .i64 _) := (cell_of_row _ _ _ _ _ _ HC1.out).trans rfl
      have a5 : w1.cell? ⟨C, 5, none⟩ = some (.int .i64 _) := (cell_of_row _ _ _ _ _ _ HC1.out).trans rfl
      go_wp2_with fail
      go_ret
      exact ⟨rfl, HB1.out⟩
    exact absurd rfl hn
  · rcases z1 at' with h | rfl
    · clear hn z1
      unfold chV
      go_enter Tryz.func15, Tryz.ntmps15
      go_upto_region 1 with fail
      rw [← HW1.out]
      clear HW1
      obtain ⟨C, hCe⟩ : ∃ C, C = w.heap.size := ⟨_, rfl⟩
      rw [← hCe]
      rw [← hCe] at HC1
      have HCE : Hid (w.heap.size ≤ C) := hid (by omega)
      clear hCe
      have a0 : w1.cell? ⟨C, 0, none⟩ = some (.int .i64 _) := (cell_of_row _ _ _ _ _ _ HC1.out).trans rfl
      have a1 : w1.cell? ⟨C, 1, none⟩ = some (.int .i64 _) := (cell_of_row _ _ _ _ _ _ HC1.out).trans rfl
      have a2 : w1.cell? ⟨C, 2, none⟩ = some (.int .i64 _) := (cell_of_row _ _ _ _ _ _ HC1.out).trans rfl
      have a3 : w1.cell? ⟨C, 3, none⟩ = some (.int .i64 _) := (cell_of_row _ _ _ _ _ _ HC1.out).trans rfl
      have a4 : w1.cell? ⟨C, 4, none⟩ = some (.int .i64 _) := (cell_of_row _ _ _ _ _ _ HC1.out).trans rfl
      have a5 : w1.cell? ⟨C, 5, none⟩ = some (.int .i64 _) := (cell_of_row _ _ _ _ _ _ HC1.out).trans rfl
      go_wp2_with fail
      go_ret
      exact ⟨rfl, HB1.out⟩
    rcases z1 ot with h | rfl
    · clear hn z1
      unfold chV
      go_enter Tryz.func15, Tryz.ntmps15
      go_upto_region 1 with fail
      rw [← HW1.out]
      clear HW1
      obtain ⟨C, hCe⟩ : ∃ C, C = w.heap.size := ⟨_, rfl⟩
      rw [← hCe]
      rw [← hCe] at HC1
      have HCE : Hid (w.heap.size ≤ C) := hid (by omega)
      clear hCe
      have a0 : w1.cell? ⟨C, 0, none⟩ = some (.int .i64 _) := (cell_of_row _ _ _ _ _ _ HC1.out).trans rfl
      have a1 : w1.cell? ⟨C, 1, none⟩ = some (.int .i64 _) := (cell_of_row _ _ _ _ _ _ HC1.out).trans rfl
      have a2 : w1.cell? ⟨C, 2, none⟩ = some (.int .i64 _) := (cell_of_row _ _ _ _ _ _ HC1.out).trans rfl
      have a3 : w1.cell? ⟨C, 3, none⟩ = some (.int .i64 _) := (cell_of_row _ _ _ _ _ _ HC1.out).trans rfl
      have a4 : w1.cell? ⟨C, 4, none⟩ = some (.int .i64 _) := (cell_of_row _ _ _ _ _ _ HC1.out).trans rfl
      have a5 : w1.cell? ⟨C, 5, none⟩ = some (.int .i64 _) := (cell_of_row _ _ _ _ _ _ HC1.out).trans rfl
      go_wp2_with fail
      go_ret
      exact ⟨rfl, HB1.out⟩
    rcases z1 out with h | rfl
    · clear hn z1
      unfold chV
      go_enter Tryz.func15, Tryz.ntmps15
      go_upto_region 1 with fail
      rw [← HW1.out]
      clear HW1
      obtain ⟨C, hCe⟩ : ∃ C, C = w.heap.size := ⟨_, rfl⟩
      rw [← hCe]
      rw [← hCe] at HC1
      have HCE : Hid (w.heap.size ≤ C) := hid (by omega)
      clear hCe
      have a0 : w1.cell? ⟨C, 0, none⟩ = some (.int .i64 _) := (cell_of_row _ _ _ _ _ _ HC1.out).trans rfl
      have a1 : w1.cell? ⟨C, 1, none⟩ = some (.int .i64 _) := (cell_of_row _ _ _ _ _ _ HC1.out).trans rfl
      have a2 : w1.cell? ⟨C, 2, none⟩ = some (.int .i64 _) := (cell_of_row _ _ _ _ _ _ HC1.out).trans rfl
      have a3 : w1.cell? ⟨C, 3, none⟩ = some (.int .i64 _) := (cell_of_row _ _ _ _ _ _ HC1.out).trans rfl
      have a4 : w1.cell? ⟨C, 4, none⟩ = some (.int .i64 _) := (cell_of_row _ _ _ _ _ _ HC1.out).trans rfl
      have a5 : w1.cell? ⟨C, 5, none⟩ = some (.int .i64 _) := (cell_of_row _ _ _ _ _ _ HC1.out).trans rfl
      go_wp2_with fail
      go_ret
      exact ⟨rfl, HB1.out⟩
    rcases z1 in' with h | rfl
    · clear hn z1
      unfold chV
      go_enter Tryz.func15, Tryz.ntmps15
      go_upto_region 1 with fail
      rw [← HW1.out]
      clear HW1
      obtain ⟨C, hCe⟩ : ∃ C, C = w.heap.size := ⟨_, rfl⟩
      rw [← hCe]
      rw [← hCe] at HC1
      have HCE : Hid (w.heap.size ≤ C) := hid (by omega)
      clear hCe
      have a0 : w1.cell? ⟨C, 0, none⟩ = some (.int .i64 _) := (cell_of_row _ _ _ _ _ _ HC1.out).trans rfl
      have a1 : w1.cell? ⟨C, 1, none⟩ = some (.int .i64 _) := (cell_of_row _ _ _ _ _ _ HC1.out).trans rfl
      have a2 : w1.cell? ⟨C, 2, none⟩ = some (.int .i64 _) := (cell_of_row _ _ _ _ _ _ HC1.out).trans rfl
      have a3 : w1.cell? ⟨C, 3, none⟩ = some (.int .i64 _) := (cell_of_row _ _ _ _ _ _ HC1.out).trans rfl
      have a4 : w1.cell? ⟨C, 4, none⟩ = some (.int .i64 _) := (cell_of_row _ _ _ _ _ _ HC1.out).trans rfl
      have a5 : w1.cell? ⟨C, 5, none⟩ = some (.int .i64 _) := (cell_of_row _ _ _ _ _ _ HC1.out).trans rfl
      go_wp2_with fail
      go_ret
      exact ⟨rfl, HB1.out⟩
    rcases z1 sh with h | rfl
    · clear hn z1
      unfold chV
      go_enter Tryz.func15, Tryz.ntmps15
      go_upto_region 1 with fail
      rw [← HW1.out]
      clear HW1
      obtain ⟨C, hCe⟩ : ∃ C, C = w.heap.size := ⟨_, rfl⟩
      rw [← hCe]
      rw [← hCe] at HC1
      have HCE : Hid (w.heap.size ≤ C) := hid (by omega)
      clear hCe
      have a0 : w1.cell? ⟨C, 0, none⟩ = some (.int .i64 _) := (cell_of_row _ _ _ _ _ _ HC1.out).trans rfl
      have a1 : w1.cell? ⟨C, 1, none⟩ = some (.int .i64 _) := (cell_of_row _ _ _ _ _ _ HC1.out).trans rfl
      have a2 : w1.cell? ⟨C, 2, none⟩ = some (.int .i64 _) := (cell_of_row _ _ _ _ _ _ HC1.out).trans rfl
      have a3 : w1.cell? ⟨C, 3, none⟩ = some (.int .i64 _) := (cell_of_row _ _ _ _ _ _ HC1.out).trans rfl
      have a4 : w1.cell? ⟨C, 4, none⟩ = some (.int .i64 _) := (cell_of_row _ _ _ _ _ _ HC1.out).trans rfl
      have a5 : w1.cell? ⟨C, 5, none⟩ = some (.int .i64 _) := (cell_of_row _ _ _ _ _ _ HC1.out).trans rfl
      go_wp2_with fail
      go_ret
      exact ⟨rfl, HB1.out⟩
    exact absurd rfl hn
end Go.Proofs.YtnkjkaofgninnaaGreat
