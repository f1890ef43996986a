/- The document's Apply where it makes no new shards. Conditions: its map of shards lies in memory. -/
import Derived.Test.YtnkjkaofgninnaaAtRTail
namespace Go.Proofs.Ytnkjkaofgninnaa
open Go.RowKit Go.Maps Go.Shelf
set_option linter.unusedVariables false
set_option linter.unusedSimpArgs false

/-- The five forms of a change that is named as it should be. -/
theorem ch_form (c : ChD) (hk : akB c.k = true) (hn : namD c = c) : c = ⟨1, c.sh, 0, c.at', 0, 0⟩ ∨ c = ⟨2, c.sh, c.ot, 0, 0, 0⟩ ∨ c = ⟨3, c.sh, 0, 0, c.out, c.in'⟩ ∨ c = ⟨4, c.sh, 0, 0, 0, 0⟩ ∨ c = ⟨5, 0, 0, 0, 0, 0⟩ := by
  obtain ⟨k, sh, ot, at', out, in'⟩ := c
  have hd : k = 1 ∨ k = 2 ∨ k = 3 ∨ k = 4 ∨ k = 5 := by simp [akB] at hk; omega
  rcases hd with rfl | rfl | rfl | rfl | rfl <;> simp [namD] at hn ⊢ <;> omega
set_option maxRecDepth 100000 in
set_option maxHeartbeats 8000000 in
theorem rapp_calm (xb : Nat) (N : AtN) (ov sv : Value) (Z : List SX) (w : World) (h : RB w xb N ov sv Z) (hop : N.op = []) :
    Calls Try.prog 20 #[.pointer (some ⟨xb, 0, none⟩), chV ⟨5, 0, 0, 0, 0, 0⟩] w fun e w' => e = .returned (.int .i64 8) ∧ Below w.heap.size w w' := by
  obtain ⟨k, hk⟩ : ∃ k : Int, k = 5 := ⟨_, rfl⟩
  obtain ⟨sh, hsh⟩ : ∃ k : Int, k = 0 := ⟨_, rfl⟩
  obtain ⟨ot, hot⟩ : ∃ k : Int, k = 0 := ⟨_, rfl⟩
  obtain ⟨at', hat⟩ : ∃ k : Int, k = 0 := ⟨_, rfl⟩
  obtain ⟨out, hout⟩ : ∃ k : Int, k = 0 := ⟨_, rfl⟩
  obtain ⟨in', hin⟩ : ∃ k : Int, k = 0 := ⟨_, rfl⟩
  obtain ⟨w1, hw1⟩ : ∃ w1, w1 = w.alloc (.cells #[.int .i64 k, .int .i64 sh, .int .i64 ot, .int .i64 at', .int .i64 out, .int .i64 in'] 24) := ⟨_, rfl⟩
  have HB1 : Hid (Below w.heap.size w w1) := hid (by rw [hw1]; exact (Below.refl _ _).alloc (Nat.le_refl _) _)
  have HC1 : Hid (w1.heap[w.heap.size]? = some (.cells #[.int .i64 k, .int .i64 sh, .int .i64 ot, .int .i64 at', .int .i64 out, .int .i64 in'] 24 (0, 0))) := hid (by rw [hw1]; exact heap_alloc_new _ _)
  have HW1 := hid hw1
  clear hw1
  subst hk hsh hot hat hout hin
  obtain rfl := h.nil hop
  have H1 := hid (h.below HB1.out)
  have b3 : w1.cell? ⟨xb, 3, none⟩ = some (.slice none 0 0) := H1.out.cell 3
  clear h hop
  unfold chV
  go_enter Try.func20, Try.ntmps20
  go_upto_region 1 with fail
  rw [← HW1.out]
  clear HW1
  obtain ⟨C, hCe⟩ : ∃ C, C = w.heap.size := ⟨_, rfl⟩
  rw [← hCe]
  rw [← hCe] at HC1
  have HCE : Hid (w.heap.size ≤ C) := hid (by omega)
  clear hCe
  have a0 : w1.cell? ⟨C, 0, none⟩ = some (.int .i64 _) := (cell_of_row _ _ _ _ _ _ HC1.out).trans rfl
  have a1 : w1.cell? ⟨C, 1, none⟩ = some (.int .i64 _) := (cell_of_row _ _ _ _ _ _ HC1.out).trans rfl
  have a2 : w1.cell? ⟨C, 2, none⟩ = some (.int .i64 _) := (cell_of_row _ _ _ _ _ _ HC1.out).trans rfl
  have a3 : w1.cell? ⟨C, 3, none⟩ = some (.int .i64 _) := (cell_of_row _ _ _ _ _ _ HC1.out).trans rfl
  have a4 : w1.cell? ⟨C, 4, none⟩ = some (.int .i64 _) := (cell_of_row _ _ _ _ _ _ HC1.out).trans rfl
  have a5 : w1.cell? ⟨C, 5, none⟩ = some (.int .i64 _) := (cell_of_row _ _ _ _ _ _ HC1.out).trans rfl
  go_wp2_with fail
  go_ret
  exact ⟨rfl, HB1.out⟩
set_option maxRecDepth 100000 in
set_option maxHeartbeats 8000000 in
theorem rapp_settle (xb : Nat) (N : AtN) (ov sv : Value) (Z : List SX) (w : World) (h : RB w xb N ov sv Z) (hop : N.op ≠ []) :
    Calls Try.prog 20 #[.pointer (some ⟨xb, 0, none⟩), chV ⟨5, 0, 0, 0, 0, 0⟩] w fun e w' => e = .returned (.int .i64 0) ∧ RB w' xb { N with op := [] } (.slice none 0 0) sv Z ∧ Tr (fun q => q = xb) w w' := by
  obtain ⟨k, hk⟩ : ∃ k : Int, k = 5 := ⟨_, rfl⟩
  obtain ⟨sh, hsh⟩ : ∃ k : Int, k = 0 := ⟨_, rfl⟩
  obtain ⟨ot, hot⟩ : ∃ k : Int, k = 0 := ⟨_, rfl⟩
  obtain ⟨at', hat⟩ : ∃ k : Int, k = 0 := ⟨_, rfl⟩
  obtain ⟨out, hout⟩ : ∃ k : Int, k = 0 := ⟨_, rfl⟩
  obtain ⟨in', hin⟩ : ∃ k : Int, k = 0 := ⟨_, rfl⟩
  obtain ⟨w1, hw1⟩ : ∃ w1, w1 = w.alloc (.cells #[.int .i64 k, .int .i64 sh, .int .i64 ot, .int .i64 at', .int .i64 out, .int .i64 in'] 24) := ⟨_, rfl⟩
  have HB1 : Hid (Below w.heap.size w w1) := hid (by rw [hw1]; exact (Below.refl _ _).alloc (Nat.le_refl _) _)
  have HC1 : Hid (w1.heap[w.heap.size]? = some (.cells #[.int .i64 k, .int .i64 sh, .int .i64 ot, .int .i64 at', .int .i64 out, .int .i64 in'] 24 (0, 0))) := hid (by rw [hw1]; exact heap_alloc_new _ _)
  have HW1 := hid hw1
  clear hw1
  subst hk hsh hot hat hout hin
  obtain ⟨⟨va, vc, rfl⟩, -⟩ := h.shapes
  have hpos : ¬ (N.op.length : Int) = 0 := by have := List.length_pos_iff.2 hop; omega
  have hpos2 : ((N.op.length : Int) == 0) = false := by simpa using hop
  have H1 := hid (h.below HB1.out)
  have b3 : w1.cell? ⟨xb, 3, none⟩ = some (.slice va N.op.length vc) := H1.out.cell 3
  have f3 := H1.out.fz 3
  clear h hop
  unfold chV
  go_enter Try.func20, Try.ntmps20
  go_upto_region 1 with fail
  rw [← HW1.out]
  clear HW1
  obtain ⟨C, hCe⟩ : ∃ C, C = w.heap.size := ⟨_, rfl⟩
  rw [← hCe]
  rw [← hCe] at HC1
  have HCE : Hid (w.heap.size ≤ C) := hid (by omega)
  clear hCe
  have a0 : w1.cell? ⟨C, 0, none⟩ = some (.int .i64 _) := (cell_of_row _ _ _ _ _ _ HC1.out).trans rfl
  have a1 : w1.cell? ⟨C, 1, none⟩ = some (.int .i64 _) := (cell_of_row _ _ _ _ _ _ HC1.out).trans rfl
  have a2 : w1.cell? ⟨C, 2, none⟩ = some (.int .i64 _) := (cell_of_row _ _ _ _ _ _ HC1.out).trans rfl
  have a3 : w1.cell? ⟨C, 3, none⟩ = some (.int .i64 _) := (cell_of_row _ _ _ _ _ _ HC1.out).trans rfl
  have a4 : w1.cell? ⟨C, 4, none⟩ = some (.int .i64 _) := (cell_of_row _ _ _ _ _ _ HC1.out).trans rfl
  have a5 : w1.cell? ⟨C, 5, none⟩ = some (.int .i64 _) := (cell_of_row _ _ _ _ _ _ HC1.out).trans rfl
  go_wp2_with fail
  go_ret
  have hT : Tr (fun q => q = xb) w1 (w1.setCell ⟨xb, 3, none⟩ (.slice none 0 0)) := Tr.set rfl
  exact ⟨rfl, ⟨heap_setCell_same _ _ _ _ _ _ H1.out.box, World.ownsRow_nil _ _ _ _, own_trx H1.out.box hT H1.out.row (by decide), fun x hx => ShM.trx H1.out.box hT (H1.out.mem x hx), fun _ => rfl⟩, (Tr.below HB1.out).trans hT⟩
set_option maxRecDepth 100000 in
set_option maxHeartbeats 8000000 in
theorem rapp_down (xb : Nat) (N : AtN) (ov sv : Value) (Z : List SX) (c : ChD) (w : World) (h : RB w xb N ov sv Z) (hak : akB c.k = true) (hnm : namD c = c) (h5 : c.k ≠ 5) (hop : N.op ≠ []) :
    Calls Try.prog 20 #[.pointer (some ⟨xb, 0, none⟩), chV c] w fun e w' => e = .returned (.int .i64 7) ∧ Below w.heap.size w w' := by
  obtain ⟨⟨va, vc, rfl⟩, -⟩ := h.shapes
  have hf := ch_form c hak hnm
  obtain ⟨k, sh, ot, at', out, in'⟩ := c
  clear hak hnm
  simp only at hf h5
  obtain ⟨w1, hw1⟩ : ∃ w1, w1 = w.alloc (.cells #[.int .i64 k, .int .i64 sh, .int .i64 ot, .int .i64 at', .int .i64 out, .int .i64 in'] 24) := ⟨_, rfl⟩
  have HB1 : Hid (Below w.heap.size w w1) := hid (by rw [hw1]; exact (Below.refl _ _).alloc (Nat.le_refl _) _)
  have HC1 : Hid (w1.heap[w.heap.size]? = some (.cells #[.int .i64 k, .int .i64 sh, .int .i64 ot, .int .i64 at', .int .i64 out, .int .i64 in'] 24 (0, 0))) := hid (by rw [hw1]; exact heap_alloc_new _ _)
  have HW1 := hid hw1
  clear hw1
  rcases hf with hf | hf | hf | hf | hf
  · obtain ⟨rfl, -, rfl, -, rfl, rfl⟩ := ChD.mk.inj hf
    clear hf h5
    have hpos : (0 : Int) < (N.op.length : Int) := by have := List.length_pos_iff.2 hop; omega
    have H1 := hid (h.below HB1.out)
    have b3 : w1.cell? ⟨xb, 3, none⟩ = some (.slice va N.op.length vc) := H1.out.cell 3
    clear h hop
    unfold chV
    go_enter Try.func20, Try.ntmps20
    go_upto_region 1 with fail
    rw [← HW1.out]
    clear HW1
    obtain ⟨C, hCe⟩ : ∃ C, C = w.heap.size := ⟨_, rfl⟩
    rw [← hCe]
    rw [← hCe] at HC1
    have HCE : Hid (w.heap.size ≤ C) := hid (by omega)
    clear hCe
    have a0 : w1.cell? ⟨C, 0, none⟩ = some (.int .i64 _) := (cell_of_row _ _ _ _ _ _ HC1.out).trans rfl
    have a1 : w1.cell? ⟨C, 1, none⟩ = some (.int .i64 _) := (cell_of_row _ _ _ _ _ _ HC1.out).trans rfl
    have a2 : w1.cell? ⟨C, 2, none⟩ = some (.int .i64 _) := (cell_of_row _ _ _ _ _ _ HC1.out).trans rfl
    have a3 : w1.cell? ⟨C, 3, none⟩ = some (.int .i64 _) := (cell_of_row _ _ _ _ _ _ HC1.out).trans rfl
    have a4 : w1.cell? ⟨C, 4, none⟩ = some (.int .i64 _) := (cell_of_row _ _ _ _ _ _ HC1.out).trans rfl
    have a5 : w1.cell? ⟨C, 5, none⟩ = some (.int .i64 _) := (cell_of_row _ _ _ _ _ _ HC1.out).trans rfl
    go_wp2_with fail
    go_ret
    exact ⟨rfl, HB1.out⟩
  · obtain ⟨rfl, -, -, rfl, rfl, rfl⟩ := ChD.mk.inj hf
    clear hf h5
    have hpos : (0 : Int) < (N.op.length : Int) := by have := List.length_pos_iff.2 hop; omega
    have H1 := hid (h.below HB1.out)
    have b3 : w1.cell? ⟨xb, 3, none⟩ = some (.slice va N.op.length vc) := H1.out.cell 3
    clear h hop
    unfold chV
    go_enter Try.func20, Try.ntmps20
    go_upto_region 1 with fail
    rw [← HW1.out]
    clear HW1
    obtain ⟨C, hCe⟩ : ∃ C, C = w.heap.size := ⟨_, rfl⟩
    rw [← hCe]
    rw [← hCe] at HC1
    have HCE : Hid (w.heap.size ≤ C) := hid (by omega)
    clear hCe
    have a0 : w1.cell? ⟨C, 0, none⟩ = some (.int .i64 _) := (cell_of_row _ _ _ _ _ _ HC1.out).trans rfl
    have a1 : w1.cell? ⟨C, 1, none⟩ = some (.int .i64 _) := (cell_of_row _ _ _ _ _ _ HC1.out).trans rfl
    have a2 : w1.cell? ⟨C, 2, none⟩ = some (.int .i64 _) := (cell_of_row _ _ _ _ _ _ HC1.out).trans rfl
    have a3 : w1.cell? ⟨C, 3, none⟩ = some (.int .i64 _) := (cell_of_row _ _ _ _ _ _ HC1.out).trans rfl
    have a4 : w1.cell? ⟨C, 4, none⟩ = some (.int .i64 _) := (cell_of_row _ _ _ _ _ _ HC1.out).trans rfl
    have a5 : w1.cell? ⟨C, 5, none⟩ = some (.int .i64 _) := (cell_of_row _ _ _ _ _ _ HC1.out).trans rfl
    go_wp2_with fail
    go_ret
    exact ⟨rfl, HB1.out⟩
  · obtain ⟨rfl, -, rfl, rfl, -, -⟩ := ChD.mk.inj hf
    clear hf h5
    have hpos : (0 : Int) < (N.op.length : Int) := by have := List.length_pos_iff.2 hop; omega
    have H1 := hid (h.below HB1.out)
    have b3 : w1.cell? ⟨xb, 3, none⟩ = some (.slice va N.op.length vc) := H1.out.cell 3
    clear h hop
    unfold chV
    go_enter Try.func20, Try.ntmps20
    go_upto_region 1 with fail
    rw [← HW1.out]
    clear HW1
    obtain ⟨C, hCe⟩ : ∃ C, C = w.heap.size := ⟨_, rfl⟩
    rw [← hCe]
    rw [← hCe] at HC1
    have HCE : Hid (w.heap.size ≤ C) := hid (by omega)
    clear hCe
    have a0 : w1.cell? ⟨C, 0, none⟩ = some (.int .i64 _) := (cell_of_row _ _ _ _ _ _ HC1.out).trans rfl
    have a1 : w1.cell? ⟨C, 1, none⟩ = some (.int .i64 _) := (cell_of_row _ _ _ _ _ _ HC1.out).trans rfl
    have a2 : w1.cell? ⟨C, 2, none⟩ = some (.int .i64 _) := (cell_of_row _ _ _ _ _ _ HC1.out).trans rfl
    have a3 : w1.cell? ⟨C, 3, none⟩ = some (.int .i64 _) := (cell_of_row _ _ _ _ _ _ HC1.out).trans rfl
    have a4 : w1.cell? ⟨C, 4, none⟩ = some (.int .i64 _) := (cell_of_row _ _ _ _ _ _ HC1.out).trans rfl
    have a5 : w1.cell? ⟨C, 5, none⟩ = some (.int .i64 _) := (cell_of_row _ _ _ _ _ _ HC1.out).trans rfl
    go_wp2_with fail
    go_ret
    exact ⟨rfl, HB1.out⟩
  · obtain ⟨rfl, -, rfl, rfl, rfl, rfl⟩ := ChD.mk.inj hf
    clear hf h5
    have hpos : (0 : Int) < (N.op.length : Int) := by have := List.length_pos_iff.2 hop; omega
    have H1 := hid (h.below HB1.out)
    have b3 : w1.cell? ⟨xb, 3, none⟩ = some (.slice va N.op.length vc) := H1.out.cell 3
    clear h hop
    unfold chV
    go_enter Try.func20, Try.ntmps20
    go_upto_region 1 with fail
    rw [← HW1.out]
    clear HW1
    obtain ⟨C, hCe⟩ : ∃ C, C = w.heap.size := ⟨_, rfl⟩
    rw [← hCe]
    rw [← hCe] at HC1
    have HCE : Hid (w.heap.size ≤ C) := hid (by omega)
    clear hCe
    have a0 : w1.cell? ⟨C, 0, none⟩ = some (.int .i64 _) := (cell_of_row _ _ _ _ _ _ HC1.out).trans rfl
    have a1 : w1.cell? ⟨C, 1, none⟩ = some (.int .i64 _) := (cell_of_row _ _ _ _ _ _ HC1.out).trans rfl
    have a2 : w1.cell? ⟨C, 2, none⟩ = some (.int .i64 _) := (cell_of_row _ _ _ _ _ _ HC1.out).trans rfl
    have a3 : w1.cell? ⟨C, 3, none⟩ = some (.int .i64 _) := (cell_of_row _ _ _ _ _ _ HC1.out).trans rfl
    have a4 : w1.cell? ⟨C, 4, none⟩ = some (.int .i64 _) := (cell_of_row _ _ _ _ _ _ HC1.out).trans rfl
    have a5 : w1.cell? ⟨C, 5, none⟩ = some (.int .i64 _) := (cell_of_row _ _ _ _ _ _ HC1.out).trans rfl
    go_wp2_with fail
    go_ret
    exact ⟨rfl, HB1.out⟩
  · exact absurd (ChD.mk.inj hf).1 h5
set_option maxRecDepth 100000 in
set_option maxHeartbeats 8000000 in
theorem rapp_miss (xb : Nat) (N : AtN) (ov sv : Value) (Z : List SX) (c : ChD) (w : World) (h : RB w xb N ov sv Z) (hak : akB c.k = true) (hnm : namD c = c) (h5 : c.k ≠ 5) (hop : N.op = []) (hl : Z.length ≤ 100000) (hno : ∀ z ∈ Z, z.s.id ≠ c.sh) :
    Calls Try.prog 20 #[.pointer (some ⟨xb, 0, none⟩), chV c] w fun e w' => e = .returned (.int .i64 8) ∧ Below w.heap.size w w' := by
  obtain rfl := h.nil hop
  have HL := hid hl
  have hf := ch_form c hak hnm
  obtain ⟨k, sh, ot, at', out, in'⟩ := c
  clear hak hnm hl
  simp only at hf h5 hno
  obtain ⟨w1, hw1⟩ : ∃ w1, w1 = w.alloc (.cells #[.int .i64 k, .int .i64 sh, .int .i64 ot, .int .i64 at', .int .i64 out, .int .i64 in'] 24) := ⟨_, rfl⟩
  have HB1 : Hid (Below w.heap.size w w1) := hid (by rw [hw1]; exact (Below.refl _ _).alloc (Nat.le_refl _) _)
  have HC1 : Hid (w1.heap[w.heap.size]? = some (.cells #[.int .i64 k, .int .i64 sh, .int .i64 ot, .int .i64 at', .int .i64 out, .int .i64 in'] 24 (0, 0))) := hid (by rw [hw1]; exact heap_alloc_new _ _)
  have HW1 := hid hw1
  clear hw1
  rcases hf with hf | hf | hf | hf | hf
  · obtain ⟨rfl, -, rfl, -, rfl, rfl⟩ := ChD.mk.inj hf
    clear hf h5
    have H1 := hid (h.below HB1.out)
    have b3 : w1.cell? ⟨xb, 3, none⟩ = some (.slice none 0 0) := H1.out.cell 3
    have HNO := hid hno
    clear h hop hno
    unfold chV
    go_enter Try.func20, Try.ntmps20
    go_upto_region 1 with fail
    rw [← HW1.out]
    clear HW1
    obtain ⟨C, hCe⟩ : ∃ C, C = w.heap.size := ⟨_, rfl⟩
    rw [← hCe]
    rw [← hCe] at HC1
    have HCE : Hid (w.heap.size ≤ C) := hid (by omega)
    clear hCe
    have a0 : w1.cell? ⟨C, 0, none⟩ = some (.int .i64 _) := (cell_of_row _ _ _ _ _ _ HC1.out).trans rfl
    have a1 : w1.cell? ⟨C, 1, none⟩ = some (.int .i64 _) := (cell_of_row _ _ _ _ _ _ HC1.out).trans rfl
    have a2 : w1.cell? ⟨C, 2, none⟩ = some (.int .i64 _) := (cell_of_row _ _ _ _ _ _ HC1.out).trans rfl
    have a3 : w1.cell? ⟨C, 3, none⟩ = some (.int .i64 _) := (cell_of_row _ _ _ _ _ _ HC1.out).trans rfl
    have a4 : w1.cell? ⟨C, 4, none⟩ = some (.int .i64 _) := (cell_of_row _ _ _ _ _ _ HC1.out).trans rfl
    have a5 : w1.cell? ⟨C, 5, none⟩ = some (.int .i64 _) := (cell_of_row _ _ _ _ _ _ HC1.out).trans rfl
    go_wp2_with (go_at_call 42; refine (rat_no xb N _ _ Z _ _ H1.out (by have := HL.out; omega) HNO.out).mono ?_; rintro e w2 ⟨rfl, hb2⟩; have B2 := hid (HB1.out.trans (hb2.mono HB1.out.size)); clear hb2)
    go_ret
    exact ⟨rfl, B2.out⟩
  · obtain ⟨rfl, -, -, rfl, rfl, rfl⟩ := ChD.mk.inj hf
    clear hf h5
    have H1 := hid (h.below HB1.out)
    have b3 : w1.cell? ⟨xb, 3, none⟩ = some (.slice none 0 0) := H1.out.cell 3
    have HNO := hid hno
    clear h hop hno
    unfold chV
    go_enter Try.func20, Try.ntmps20
    go_upto_region 1 with fail
    rw [← HW1.out]
    clear HW1
    obtain ⟨C, hCe⟩ : ∃ C, C = w.heap.size := ⟨_, rfl⟩
    rw [← hCe]
    rw [← hCe] at HC1
    have HCE : Hid (w.heap.size ≤ C) := hid (by omega)
    clear hCe
    have a0 : w1.cell? ⟨C, 0, none⟩ = some (.int .i64 _) := (cell_of_row _ _ _ _ _ _ HC1.out).trans rfl
    have a1 : w1.cell? ⟨C, 1, none⟩ = some (.int .i64 _) := (cell_of_row _ _ _ _ _ _ HC1.out).trans rfl
    have a2 : w1.cell? ⟨C, 2, none⟩ = some (.int .i64 _) := (cell_of_row _ _ _ _ _ _ HC1.out).trans rfl
    have a3 : w1.cell? ⟨C, 3, none⟩ = some (.int .i64 _) := (cell_of_row _ _ _ _ _ _ HC1.out).trans rfl
    have a4 : w1.cell? ⟨C, 4, none⟩ = some (.int .i64 _) := (cell_of_row _ _ _ _ _ _ HC1.out).trans rfl
    have a5 : w1.cell? ⟨C, 5, none⟩ = some (.int .i64 _) := (cell_of_row _ _ _ _ _ _ HC1.out).trans rfl
    go_wp2_with (go_at_call 42; refine (rat_no xb N _ _ Z _ _ H1.out (by have := HL.out; omega) HNO.out).mono ?_; rintro e w2 ⟨rfl, hb2⟩; have B2 := hid (HB1.out.trans (hb2.mono HB1.out.size)); clear hb2)
    go_ret
    exact ⟨rfl, B2.out⟩
  · obtain ⟨rfl, -, rfl, rfl, -, -⟩ := ChD.mk.inj hf
    clear hf h5
    have H1 := hid (h.below HB1.out)
    have b3 : w1.cell? ⟨xb, 3, none⟩ = some (.slice none 0 0) := H1.out.cell 3
    have HNO := hid hno
    clear h hop hno
    unfold chV
    go_enter Try.func20, Try.ntmps20
    go_upto_region 1 with fail
    rw [← HW1.out]
    clear HW1
    obtain ⟨C, hCe⟩ : ∃ C, C = w.heap.size := ⟨_, rfl⟩
    rw [← hCe]
    rw [← hCe] at HC1
    have HCE : Hid (w.heap.size ≤ C) := hid (by omega)
    clear hCe
    have a0 : w1.cell? ⟨C, 0, none⟩ = some (.int .i64 _) := (cell_of_row _ _ _ _ _ _ HC1.out).trans rfl
    have a1 : w1.cell? ⟨C, 1, none⟩ = some (.int .i64 _) := (cell_of_row _ _ _ _ _ _ HC1.out).trans rfl
    have a2 : w1.cell? ⟨C, 2, none⟩ = some (.int .i64 _) := (cell_of_row _ _ _ _ _ _ HC1.out).trans rfl
    have a3 : w1.cell? ⟨C, 3, none⟩ = some (.int .i64 _) := (cell_of_row _ _ _ _ _ _ HC1.out).trans rfl
    have a4 : w1.cell? ⟨C, 4, none⟩ = some (.int .i64 _) := (cell_of_row _ _ _ _ _ _ HC1.out).trans rfl
    have a5 : w1.cell? ⟨C, 5, none⟩ = some (.int .i64 _) := (cell_of_row _ _ _ _ _ _ HC1.out).trans rfl
    go_wp2_with (go_at_call 42; refine (rat_no xb N _ _ Z _ _ H1.out (by have := HL.out; omega) HNO.out).mono ?_; rintro e w2 ⟨rfl, hb2⟩; have B2 := hid (HB1.out.trans (hb2.mono HB1.out.size)); clear hb2)
    go_ret
    exact ⟨rfl, B2.out⟩
  · obtain ⟨rfl, -, rfl, rfl, rfl, rfl⟩ := ChD.mk.inj hf
    clear hf h5
    have H1 := hid (h.below HB1.out)
    have b3 : w1.cell? ⟨xb, 3, none⟩ = some (.slice none 0 0) := H1.out.cell 3
    have HNO := hid hno
    clear h hop hno
    unfold chV
    go_enter Try.func20, Try.ntmps20
    go_upto_region 1 with fail
    rw [← HW1.out]
    clear HW1
    obtain ⟨C, hCe⟩ : ∃ C, C = w.heap.size := ⟨_, rfl⟩
    rw [← hCe]
    rw [← hCe] at HC1
    have HCE : Hid (w.heap.size ≤ C) := hid (by omega)
    clear hCe
    have a0 : w1.cell? ⟨C, 0, none⟩ = some (.int .i64 _) := (cell_of_row _ _ _ _ _ _ HC1.out).trans rfl
    have a1 : w1.cell? ⟨C, 1, none⟩ = some (.int .i64 _) := (cell_of_row _ _ _ _ _ _ HC1.out).trans rfl
    have a2 : w1.cell? ⟨C, 2, none⟩ = some (.int .i64 _) := (cell_of_row _ _ _ _ _ _ HC1.out).trans rfl
    have a3 : w1.cell? ⟨C, 3, none⟩ = some (.int .i64 _) := (cell_of_row _ _ _ _ _ _ HC1.out).trans rfl
    have a4 : w1.cell? ⟨C, 4, none⟩ = some (.int .i64 _) := (cell_of_row _ _ _ _ _ _ HC1.out).trans rfl
    have a5 : w1.cell? ⟨C, 5, none⟩ = some (.int .i64 _) := (cell_of_row _ _ _ _ _ _ HC1.out).trans rfl
    go_wp2_with (go_at_call 42; refine (rat_no xb N _ _ Z _ _ H1.out (by have := HL.out; omega) HNO.out).mono ?_; rintro e w2 ⟨rfl, hb2⟩; have B2 := hid (HB1.out.trans (hb2.mono HB1.out.size)); clear hb2)
    go_ret
    exact ⟨rfl, B2.out⟩
  · exact absurd (ChD.mk.inj hf).1 h5
set_option maxRecDepth 100000 in
set_option maxHeartbeats 8000000 in
theorem rapp_unfit1 (xb : Nat) (N : AtN) (ov sv : Value) (Z P Q : List SX) (z : SX) (sh at' : Int) (w : World) (h : RB w xb N ov sv Z) (hZ : Z = P ++ z :: Q) (hi : z.s.id = sh) (hd : Z.Pairwise fun x y => x.s.id ≠ y.s.id) (hop : N.op = []) (hnx : 0 ≤ N.nx ∧ N.nx ≤ 1073741824) (hep : 0 ≤ N.ep ∧ N.ep ≤ 1073741824) (hl : Z.length ≤ 100000) (hno : ¬ (z.s.fr < at' ∧ at' < z.s.to)) :
    Calls Try.prog 20 #[.pointer (some ⟨xb, 0, none⟩), chV ⟨1, sh, 0, at', 0, 0⟩] w fun e w' => e = .returned (.int .i64 1) ∧ Below w.heap.size w w' := by
  obtain ⟨k, hk⟩ : ∃ k : Int, k = 1 := ⟨_, rfl⟩
  obtain ⟨ot, hot⟩ : ∃ k : Int, k = 0 := ⟨_, rfl⟩
  obtain ⟨out, hout⟩ : ∃ k : Int, k = 0 := ⟨_, rfl⟩
  obtain ⟨in', hin⟩ : ∃ k : Int, k = 0 := ⟨_, rfl⟩
  obtain ⟨w1, hw1⟩ : ∃ w1, w1 = w.alloc (.cells #[.int .i64 k, .int .i64 sh, .int .i64 ot, .int .i64 at', .int .i64 out, .int .i64 in'] 24) := ⟨_, rfl⟩
  have HB1 : Hid (Below w.heap.size w w1) := hid (by rw [hw1]; exact (Below.refl _ _).alloc (Nat.le_refl _) _)
  have HC1 : Hid (w1.heap[w.heap.size]? = some (.cells #[.int .i64 k, .int .i64 sh, .int .i64 ot, .int .i64 at', .int .i64 out, .int .i64 in'] 24 (0, 0))) := hid (by rw [hw1]; exact heap_alloc_new _ _)
  have HW1 := hid hw1
  clear hw1
  subst hk hot hout hin
  have HNF := hid hno
  clear hno
  have HZ := hid hZ
  have HI := hid hi
  have HD := hid hd
  have HOP := hid hop
  have HNX := hid hnx
  have HEP := hid hep
  have HL := hid hl
  obtain ⟨-, sva, svc, rfl⟩ := h.shapes
  obtain rfl := h.nil hop
  have hzl : 0 < Z.length := by rw [hZ]; simp; omega
  obtain ⟨g, rfl⟩ : ∃ g, sva = some ⟨g, 0, none⟩ := own_some h.row hzl
  obtain ⟨⟨sma, smc, hmv⟩, ⟨pa, pc, hpv⟩⟩ := (h.mem z (by rw [hZ]; simp)).shape
  have HMV := hid hmv
  have HPV := hid hpv
  have H1 := hid (h.below HB1.out)
  have b3 : w1.cell? ⟨xb, 3, none⟩ = some (.slice none 0 0) := H1.out.cell 3
  have b4 : w1.cell? ⟨xb, 4, none⟩ = some (.slice (some ⟨g, 0, none⟩) Z.length svc) := H1.out.cell 4
  clear hZ hi hd hop hnx hep hl hmv hpv hzl h
  unfold chV
  go_enter Try.func20, Try.ntmps20
  go_upto_region 1 with fail
  rw [← HW1.out]
  clear HW1
  obtain ⟨C, hCe⟩ : ∃ C, C = w.heap.size := ⟨_, rfl⟩
  rw [← hCe]
  rw [← hCe] at HC1
  have HCE : Hid (w.heap.size ≤ C) := hid (by omega)
  clear hCe
  have a0 : w1.cell? ⟨C, 0, none⟩ = some (.int .i64 _) := (cell_of_row _ _ _ _ _ _ HC1.out).trans rfl
  have a1 : w1.cell? ⟨C, 1, none⟩ = some (.int .i64 _) := (cell_of_row _ _ _ _ _ _ HC1.out).trans rfl
  have a2 : w1.cell? ⟨C, 2, none⟩ = some (.int .i64 _) := (cell_of_row _ _ _ _ _ _ HC1.out).trans rfl
  have a3 : w1.cell? ⟨C, 3, none⟩ = some (.int .i64 _) := (cell_of_row _ _ _ _ _ _ HC1.out).trans rfl
  have a4 : w1.cell? ⟨C, 4, none⟩ = some (.int .i64 _) := (cell_of_row _ _ _ _ _ _ HC1.out).trans rfl
  have a5 : w1.cell? ⟨C, 5, none⟩ = some (.int .i64 _) := (cell_of_row _ _ _ _ _ _ HC1.out).trans rfl
  go_upto_region 13 with (go_at_call 42; refine (rat_at xb N _ _ Z P Q z _ _ H1.out (by have := HL.out; omega) HZ.out HI.out HD.out).mono ?_; rintro e w2 ⟨rfl, hb2⟩; have B2 := hid hb2; clear hb2)
  clear a0 a1 a2 a3 a4 a5 b3 b4
  have H2 := hid (H1.out.below B2.out)
  have HC2 := hid ((B2.out.block C (lt_of_block HC1.out)).trans HC1.out)
  have HB2 := hid (HB1.out.trans (B2.out.mono HB1.out.size))
  clear H1 HC1 HB1 B2
  have b4 : w2.cell? ⟨xb, 4, none⟩ = some (.slice (some ⟨g, 0, none⟩) Z.length svc) := H2.out.cell 4
  have HPL : Hid (P.length < Z.length) := hid (by rw [HZ.out]; simp; try omega)
  have hpl : (P.length : Int) < (Z.length : Int) := by have := HPL.out; omega
  have hpn : ¬ (P.length : Int) < 0 := by omega
  have hRG : w2.rangeAt g (P.length * 5) [.int .i64 z.s.id, .int .i64 z.s.fr, .int .i64 z.s.to, .slice sma z.s.mem.length smc, .slice pa z.s.past.length pc] := own_range H2.out.row (P.length * 5) _ fun k v hv => by
    have := shvs_part Z P.length HPL.out k v (by
      have e : Z[P.length]'HPL.out = z := by have := HZ.out; subst this; simp
      rw [e]; unfold SX.c; rw [HMV.out, HPV.out]; exact hv)
    exact this
  obtain ⟨w3, hw3⟩ : ∃ w3, w3 = w2.alloc (.cells #[.int .i64 z.s.id, .int .i64 z.s.fr, .int .i64 z.s.to, .slice sma z.s.mem.length smc, .slice pa z.s.past.length pc] 46) := ⟨_, rfl⟩
  have HB3 : Hid (Below w2.heap.size w2 w3) := hid (by rw [hw3]; exact (Below.refl _ _).alloc (Nat.le_refl _) _)
  have HS3 : Hid (w3.heap[w2.heap.size]? = some (.cells #[.int .i64 z.s.id, .int .i64 z.s.fr, .int .i64 z.s.to, .slice sma z.s.mem.length smc, .slice pa z.s.past.length pc] 46 (0, 0))) := hid (by rw [hw3]; exact heap_alloc_new _ _)
  have HW3 := hid hw3
  clear hw3
  go_upto_region 16 with (refine wpl_loadM rfl _ rfl g (P.length * 5) (by go_simp) _ _ _ _ _ hRG ?_)
  rw [← HW3.out]
  clear HW3 hRG
  obtain ⟨S7, hS7⟩ : ∃ S7, S7 = w2.heap.size := ⟨_, rfl⟩
  rw [← hS7]
  rw [← hS7] at HS3
  have H3 := hid (H2.out.below HB3.out)
  have HC3 := hid ((HB3.out.block C (lt_of_block HC2.out)).trans HC2.out)
  have HBW3 := hid (HB2.out.trans (HB3.out.mono HB2.out.size))
  clear H2 HC2 HB2 HB3 hS7 b4
  have a0 : w3.cell? ⟨C, 0, none⟩ = some (.int .i64 _) := (cell_of_row _ _ _ _ _ _ HC3.out).trans rfl
  have s1 : w3.cell? ⟨S7, 1, none⟩ = some (.int .i64 z.s.fr) := (cell_of_row _ _ _ _ _ _ HS3.out).trans rfl
  have s2 : w3.cell? ⟨S7, 2, none⟩ = some (.int .i64 z.s.to) := (cell_of_row _ _ _ _ _ _ HS3.out).trans rfl
  obtain ⟨w4, hw4⟩ : ∃ w4, w4 = w3.alloc (.cells #[.int .i64 z.s.fr, .int .i64 z.s.to] 3) := ⟨_, rfl⟩
  have HB4 : Hid (Below w3.heap.size w3 w4) := hid (by rw [hw4]; exact (Below.refl _ _).alloc (Nat.le_refl _) _)
  have HE4 : Hid (w4.ownsRow w3.heap.size 3 1 (.slice (some ⟨w3.heap.size, 0, none⟩) 2 2) 2 (nvs [z.s.fr, z.s.to])) := hid (by rw [hw4]; exact own_many w3 3 #[.int .i64 z.s.fr, .int .i64 z.s.to] 1 2 (Nat.le_refl _) rfl (by omega))
  have HW4 := hid hw4
  clear hw4
  go_upto_region 18 with fail
  rw [← HW4.out]
  clear HW4 a0 s1 s2
  obtain ⟨E9, hE9⟩ : ∃ E9, E9 = w3.heap.size := ⟨_, rfl⟩
  rw [← hE9]
  rw [← hE9] at HE4
  have H4 := hid (H3.out.below HB4.out)
  have HC4 := hid ((HB4.out.block C (lt_of_block HC3.out)).trans HC3.out)
  have HS4 := hid ((HB4.out.block S7 (lt_of_block HS3.out)).trans HS3.out)
  have HBW4 := hid (HBW3.out.trans (HB4.out.mono HBW3.out.size))
  have HE9 : Hid (w.heap.size ≤ E9) := hid (by rw [hE9]; exact HBW3.out.size)
  clear H3 HC3 HS3 HBW3 HB4 hE9
  have a0 : w4.cell? ⟨C, 0, none⟩ = some (.int .i64 _) := (cell_of_row _ _ _ _ _ _ HC4.out).trans rfl
  have s3 : w4.cell? ⟨S7, 3, none⟩ = some (.slice sma z.s.mem.length smc) := (cell_of_row _ _ _ _ _ _ HS4.out).trans rfl
  have a3 : w4.cell? ⟨C, 3, none⟩ = some (.int .i64 _) := (cell_of_row _ _ _ _ _ _ HC4.out).trans rfl
  have a2 : w4.cell? ⟨C, 2, none⟩ = some (.int .i64 _) := (cell_of_row _ _ _ _ _ _ HC4.out).trans rfl
  have a4 : w4.cell? ⟨C, 4, none⟩ = some (.int .i64 _) := (cell_of_row _ _ _ _ _ _ HC4.out).trans rfl
  have a5 : w4.cell? ⟨C, 5, none⟩ = some (.int .i64 _) := (cell_of_row _ _ _ _ _ _ HC4.out).trans rfl
  have s1 : w4.cell? ⟨S7, 1, none⟩ = some (.int .i64 z.s.fr) := (cell_of_row _ _ _ _ _ _ HS4.out).trans rfl
  have s2 : w4.cell? ⟨S7, 2, none⟩ = some (.int .i64 z.s.to) := (cell_of_row _ _ _ _ _ _ HS4.out).trans rfl
  by_cases hg1 : at' ≤ z.s.fr
  · go_wp2_with fail
    go_ret
    exact ⟨rfl, HBW4.out⟩
  · have hg2 : z.s.to ≤ at' := by have := HNF.out; omega
    go_wp2_with fail
    go_ret
    exact ⟨rfl, HBW4.out⟩
set_option maxRecDepth 100000 in
set_option maxHeartbeats 8000000 in
theorem rapp_unfit3 (xb : Nat) (N : AtN) (ov sv : Value) (Z P Q : List SX) (z : SX) (sh out in' : Int) (w : World) (h : RB w xb N ov sv Z) (hZ : Z = P ++ z :: Q) (hi : z.s.id = sh) (hd : Z.Pairwise fun x y => x.s.id ≠ y.s.id) (hop : N.op = []) (hnx : 0 ≤ N.nx ∧ N.nx ≤ 1073741824) (hep : 0 ≤ N.ep ∧ N.ep ≤ 1073741824) (hl : Z.length ≤ 100000) (hmm : memB z.s.mem = true) (hsw : swB z.s.mem out in' = false) :
    Calls Try.prog 20 #[.pointer (some ⟨xb, 0, none⟩), chV ⟨3, sh, 0, 0, out, in'⟩] w fun e w' => e = .returned (.int .i64 1) ∧ Below w.heap.size w w' := by
  obtain ⟨hmr, hmn, -⟩ := mem_rise hmm
  obtain ⟨k, hk⟩ : ∃ k : Int, k = 3 := ⟨_, rfl⟩
  obtain ⟨ot, hot⟩ : ∃ k : Int, k = 0 := ⟨_, rfl⟩
  obtain ⟨at', hat⟩ : ∃ k : Int, k = 0 := ⟨_, rfl⟩
  obtain ⟨w1, hw1⟩ : ∃ w1, w1 = w.alloc (.cells #[.int .i64 k, .int .i64 sh, .int .i64 ot, .int .i64 at', .int .i64 out, .int .i64 in'] 24) := ⟨_, rfl⟩
  have HB1 : Hid (Below w.heap.size w w1) := hid (by rw [hw1]; exact (Below.refl _ _).alloc (Nat.le_refl _) _)
  have HC1 : Hid (w1.heap[w.heap.size]? = some (.cells #[.int .i64 k, .int .i64 sh, .int .i64 ot, .int .i64 at', .int .i64 out, .int .i64 in'] 24 (0, 0))) := hid (by rw [hw1]; exact heap_alloc_new _ _)
  have HW1 := hid hw1
  clear hw1
  subst hk hot hat
  have HSW := hid fun W v (hW : Nums W v z.s.mem) => rswap_any z.s.mem out in' v W hW hmr hmn
  have HSB := hid hsw
  clear hsw hmr hmn hmm
  have HZ := hid hZ
  have HI := hid hi
  have HD := hid hd
  have HOP := hid hop
  have HNX := hid hnx
  have HEP := hid hep
  have HL := hid hl
  obtain ⟨-, sva, svc, rfl⟩ := h.shapes
  obtain rfl := h.nil hop
  have hzl : 0 < Z.length := by rw [hZ]; simp; omega
  obtain ⟨g, rfl⟩ : ∃ g, sva = some ⟨g, 0, none⟩ := own_some h.row hzl
  obtain ⟨⟨sma, smc, hmv⟩, ⟨pa, pc, hpv⟩⟩ := (h.mem z (by rw [hZ]; simp)).shape
  have HMV := hid hmv
  have HPV := hid hpv
  have H1 := hid (h.below HB1.out)
  have b3 : w1.cell? ⟨xb, 3, none⟩ = some (.slice none 0 0) := H1.out.cell 3
  have b4 : w1.cell? ⟨xb, 4, none⟩ = some (.slice (some ⟨g, 0, none⟩) Z.length svc) := H1.out.cell 4
  clear hZ hi hd hop hnx hep hl hmv hpv hzl h
  unfold chV
  go_enter Try.func20, Try.ntmps20
  go_upto_region 1 with fail
  rw [← HW1.out]
  clear HW1
  obtain ⟨C, hCe⟩ : ∃ C, C = w.heap.size := ⟨_, rfl⟩
  rw [← hCe]
  rw [← hCe] at HC1
  have HCE : Hid (w.heap.size ≤ C) := hid (by omega)
  clear hCe
  have a0 : w1.cell? ⟨C, 0, none⟩ = some (.int .i64 _) := (cell_of_row _ _ _ _ _ _ HC1.out).trans rfl
  have a1 : w1.cell? ⟨C, 1, none⟩ = some (.int .i64 _) := (cell_of_row _ _ _ _ _ _ HC1.out).trans rfl
  have a2 : w1.cell? ⟨C, 2, none⟩ = some (.int .i64 _) := (cell_of_row _ _ _ _ _ _ HC1.out).trans rfl
  have a3 : w1.cell? ⟨C, 3, none⟩ = some (.int .i64 _) := (cell_of_row _ _ _ _ _ _ HC1.out).trans rfl
  have a4 : w1.cell? ⟨C, 4, none⟩ = some (.int .i64 _) := (cell_of_row _ _ _ _ _ _ HC1.out).trans rfl
  have a5 : w1.cell? ⟨C, 5, none⟩ = some (.int .i64 _) := (cell_of_row _ _ _ _ _ _ HC1.out).trans rfl
  go_upto_region 13 with (go_at_call 42; refine (rat_at xb N _ _ Z P Q z _ _ H1.out (by have := HL.out; omega) HZ.out HI.out HD.out).mono ?_; rintro e w2 ⟨rfl, hb2⟩; have B2 := hid hb2; clear hb2)
  clear a0 a1 a2 a3 a4 a5 b3 b4
  have H2 := hid (H1.out.below B2.out)
  have HC2 := hid ((B2.out.block C (lt_of_block HC1.out)).trans HC1.out)
  have HB2 := hid (HB1.out.trans (B2.out.mono HB1.out.size))
  clear H1 HC1 HB1 B2
  have b4 : w2.cell? ⟨xb, 4, none⟩ = some (.slice (some ⟨g, 0, none⟩) Z.length svc) := H2.out.cell 4
  have HPL : Hid (P.length < Z.length) := hid (by rw [HZ.out]; simp; try omega)
  have hpl : (P.length : Int) < (Z.length : Int) := by have := HPL.out; omega
  have hpn : ¬ (P.length : Int) < 0 := by omega
  have hRG : w2.rangeAt g (P.length * 5) [.int .i64 z.s.id, .int .i64 z.s.fr, .int .i64 z.s.to, .slice sma z.s.mem.length smc, .slice pa z.s.past.length pc] := own_range H2.out.row (P.length * 5) _ fun k v hv => by
    have := shvs_part Z P.length HPL.out k v (by
      have e : Z[P.length]'HPL.out = z := by have := HZ.out; subst this; simp
      rw [e]; unfold SX.c; rw [HMV.out, HPV.out]; exact hv)
    exact this
  obtain ⟨w3, hw3⟩ : ∃ w3, w3 = w2.alloc (.cells #[.int .i64 z.s.id, .int .i64 z.s.fr, .int .i64 z.s.to, .slice sma z.s.mem.length smc, .slice pa z.s.past.length pc] 46) := ⟨_, rfl⟩
  have HB3 : Hid (Below w2.heap.size w2 w3) := hid (by rw [hw3]; exact (Below.refl _ _).alloc (Nat.le_refl _) _)
  have HS3 : Hid (w3.heap[w2.heap.size]? = some (.cells #[.int .i64 z.s.id, .int .i64 z.s.fr, .int .i64 z.s.to, .slice sma z.s.mem.length smc, .slice pa z.s.past.length pc] 46 (0, 0))) := hid (by rw [hw3]; exact heap_alloc_new _ _)
  have HW3 := hid hw3
  clear hw3
  go_upto_region 16 with (refine wpl_loadM rfl _ rfl g (P.length * 5) (by go_simp) _ _ _ _ _ hRG ?_)
  rw [← HW3.out]
  clear HW3 hRG
  obtain ⟨S7, hS7⟩ : ∃ S7, S7 = w2.heap.size := ⟨_, rfl⟩
  rw [← hS7]
  rw [← hS7] at HS3
  have H3 := hid (H2.out.below HB3.out)
  have HC3 := hid ((HB3.out.block C (lt_of_block HC2.out)).trans HC2.out)
  have HBW3 := hid (HB2.out.trans (HB3.out.mono HB2.out.size))
  clear H2 HC2 HB2 HB3 hS7 b4
  have a0 : w3.cell? ⟨C, 0, none⟩ = some (.int .i64 _) := (cell_of_row _ _ _ _ _ _ HC3.out).trans rfl
  have s1 : w3.cell? ⟨S7, 1, none⟩ = some (.int .i64 z.s.fr) := (cell_of_row _ _ _ _ _ _ HS3.out).trans rfl
  have s2 : w3.cell? ⟨S7, 2, none⟩ = some (.int .i64 z.s.to) := (cell_of_row _ _ _ _ _ _ HS3.out).trans rfl
  obtain ⟨w4, hw4⟩ : ∃ w4, w4 = w3.alloc (.cells #[.int .i64 z.s.fr, .int .i64 z.s.to] 3) := ⟨_, rfl⟩
  have HB4 : Hid (Below w3.heap.size w3 w4) := hid (by rw [hw4]; exact (Below.refl _ _).alloc (Nat.le_refl _) _)
  have HE4 : Hid (w4.ownsRow w3.heap.size 3 1 (.slice (some ⟨w3.heap.size, 0, none⟩) 2 2) 2 (nvs [z.s.fr, z.s.to])) := hid (by rw [hw4]; exact own_many w3 3 #[.int .i64 z.s.fr, .int .i64 z.s.to] 1 2 (Nat.le_refl _) rfl (by omega))
  have HW4 := hid hw4
  clear hw4
  go_upto_region 18 with fail
  rw [← HW4.out]
  clear HW4 a0 s1 s2
  obtain ⟨E9, hE9⟩ : ∃ E9, E9 = w3.heap.size := ⟨_, rfl⟩
  rw [← hE9]
  rw [← hE9] at HE4
  have H4 := hid (H3.out.below HB4.out)
  have HC4 := hid ((HB4.out.block C (lt_of_block HC3.out)).trans HC3.out)
  have HS4 := hid ((HB4.out.block S7 (lt_of_block HS3.out)).trans HS3.out)
  have HBW4 := hid (HBW3.out.trans (HB4.out.mono HBW3.out.size))
  have HE9 : Hid (w.heap.size ≤ E9) := hid (by rw [hE9]; exact HBW3.out.size)
  clear H3 HC3 HS3 HBW3 HB4 hE9
  have a0 : w4.cell? ⟨C, 0, none⟩ = some (.int .i64 _) := (cell_of_row _ _ _ _ _ _ HC4.out).trans rfl
  have s3 : w4.cell? ⟨S7, 3, none⟩ = some (.slice sma z.s.mem.length smc) := (cell_of_row _ _ _ _ _ _ HS4.out).trans rfl
  have a3 : w4.cell? ⟨C, 3, none⟩ = some (.int .i64 _) := (cell_of_row _ _ _ _ _ _ HC4.out).trans rfl
  have a2 : w4.cell? ⟨C, 2, none⟩ = some (.int .i64 _) := (cell_of_row _ _ _ _ _ _ HC4.out).trans rfl
  have a4 : w4.cell? ⟨C, 4, none⟩ = some (.int .i64 _) := (cell_of_row _ _ _ _ _ _ HC4.out).trans rfl
  have a5 : w4.cell? ⟨C, 5, none⟩ = some (.int .i64 _) := (cell_of_row _ _ _ _ _ _ HC4.out).trans rfl
  have s1 : w4.cell? ⟨S7, 1, none⟩ = some (.int .i64 z.s.fr) := (cell_of_row _ _ _ _ _ _ HS4.out).trans rfl
  have s2 : w4.cell? ⟨S7, 2, none⟩ = some (.int .i64 z.s.to) := (cell_of_row _ _ _ _ _ _ HS4.out).trans rfl
  have HNM : Hid (Nums w4 (.slice sma z.s.mem.length smc) z.s.mem) := hid (nums_own (by
    have := (H4.out.mem z (by rw [HZ.out]; simp)).m
    rw [HMV.out] at this
    exact this) rfl)
  go_wp2_with (go_at_call 43; refine (HSW.out _ _ HNM.out).mono ?_; rintro e w5 ⟨hb5, hs5⟩; rw [HSB.out, if_neg Bool.false_ne_true] at hs5; subst hs5; have HB5 := hid (HBW4.out.trans (hb5.mono HBW4.out.size)); clear hb5)
  go_ret
  exact ⟨rfl, HB5.out⟩
set_option maxRecDepth 100000 in
set_option maxHeartbeats 8000000 in
theorem rapp_miss2 (xb : Nat) (N : AtN) (ov sv : Value) (Z P Q : List SX) (z : SX) (sh ot : Int) (w : World) (h : RB w xb N ov sv Z) (hZ : Z = P ++ z :: Q) (hi : z.s.id = sh) (hd : Z.Pairwise fun x y => x.s.id ≠ y.s.id) (hop : N.op = []) (hnx : 0 ≤ N.nx ∧ N.nx ≤ 1073741824) (hep : 0 ≤ N.ep ∧ N.ep ≤ 1073741824) (hl : Z.length ≤ 100000) (hno : ∀ y ∈ Z, y.s.id ≠ ot) :
    Calls Try.prog 20 #[.pointer (some ⟨xb, 0, none⟩), chV ⟨2, sh, ot, 0, 0, 0⟩] w fun e w' => e = .returned (.int .i64 8) ∧ Below w.heap.size w w' := by
  obtain ⟨k, hk⟩ : ∃ k : Int, k = 2 := ⟨_, rfl⟩
  obtain ⟨at', hat⟩ : ∃ k : Int, k = 0 := ⟨_, rfl⟩
  obtain ⟨out, hout⟩ : ∃ k : Int, k = 0 := ⟨_, rfl⟩
  obtain ⟨in', hin⟩ : ∃ k : Int, k = 0 := ⟨_, rfl⟩
  obtain ⟨w1, hw1⟩ : ∃ w1, w1 = w.alloc (.cells #[.int .i64 k, .int .i64 sh, .int .i64 ot, .int .i64 at', .int .i64 out, .int .i64 in'] 24) := ⟨_, rfl⟩
  have HB1 : Hid (Below w.heap.size w w1) := hid (by rw [hw1]; exact (Below.refl _ _).alloc (Nat.le_refl _) _)
  have HC1 : Hid (w1.heap[w.heap.size]? = some (.cells #[.int .i64 k, .int .i64 sh, .int .i64 ot, .int .i64 at', .int .i64 out, .int .i64 in'] 24 (0, 0))) := hid (by rw [hw1]; exact heap_alloc_new _ _)
  have HW1 := hid hw1
  clear hw1
  subst hk hat hout hin
  have HNO := hid hno
  clear hno
  have HZ := hid hZ
  have HI := hid hi
  have HD := hid hd
  have HOP := hid hop
  have HNX := hid hnx
  have HEP := hid hep
  have HL := hid hl
  obtain ⟨-, sva, svc, rfl⟩ := h.shapes
  obtain rfl := h.nil hop
  have hzl : 0 < Z.length := by rw [hZ]; simp; omega
  obtain ⟨g, rfl⟩ : ∃ g, sva = some ⟨g, 0, none⟩ := own_some h.row hzl
  obtain ⟨⟨sma, smc, hmv⟩, ⟨pa, pc, hpv⟩⟩ := (h.mem z (by rw [hZ]; simp)).shape
  have HMV := hid hmv
  have HPV := hid hpv
  have H1 := hid (h.below HB1.out)
  have b3 : w1.cell? ⟨xb, 3, none⟩ = some (.slice none 0 0) := H1.out.cell 3
  have b4 : w1.cell? ⟨xb, 4, none⟩ = some (.slice (some ⟨g, 0, none⟩) Z.length svc) := H1.out.cell 4
  clear hZ hi hd hop hnx hep hl hmv hpv hzl h
  unfold chV
  go_enter Try.func20, Try.ntmps20
  go_upto_region 1 with fail
  rw [← HW1.out]
  clear HW1
  obtain ⟨C, hCe⟩ : ∃ C, C = w.heap.size := ⟨_, rfl⟩
  rw [← hCe]
  rw [← hCe] at HC1
  have HCE : Hid (w.heap.size ≤ C) := hid (by omega)
  clear hCe
  have a0 : w1.cell? ⟨C, 0, none⟩ = some (.int .i64 _) := (cell_of_row _ _ _ _ _ _ HC1.out).trans rfl
  have a1 : w1.cell? ⟨C, 1, none⟩ = some (.int .i64 _) := (cell_of_row _ _ _ _ _ _ HC1.out).trans rfl
  have a2 : w1.cell? ⟨C, 2, none⟩ = some (.int .i64 _) := (cell_of_row _ _ _ _ _ _ HC1.out).trans rfl
  have a3 : w1.cell? ⟨C, 3, none⟩ = some (.int .i64 _) := (cell_of_row _ _ _ _ _ _ HC1.out).trans rfl
  have a4 : w1.cell? ⟨C, 4, none⟩ = some (.int .i64 _) := (cell_of_row _ _ _ _ _ _ HC1.out).trans rfl
  have a5 : w1.cell? ⟨C, 5, none⟩ = some (.int .i64 _) := (cell_of_row _ _ _ _ _ _ HC1.out).trans rfl
  go_upto_region 13 with (go_at_call 42; refine (rat_at xb N _ _ Z P Q z _ _ H1.out (by have := HL.out; omega) HZ.out HI.out HD.out).mono ?_; rintro e w2 ⟨rfl, hb2⟩; have B2 := hid hb2; clear hb2)
  clear a0 a1 a2 a3 a4 a5 b3 b4
  have H2 := hid (H1.out.below B2.out)
  have HC2 := hid ((B2.out.block C (lt_of_block HC1.out)).trans HC1.out)
  have HB2 := hid (HB1.out.trans (B2.out.mono HB1.out.size))
  clear H1 HC1 HB1 B2
  have b4 : w2.cell? ⟨xb, 4, none⟩ = some (.slice (some ⟨g, 0, none⟩) Z.length svc) := H2.out.cell 4
  have HPL : Hid (P.length < Z.length) := hid (by rw [HZ.out]; simp; try omega)
  have hpl : (P.length : Int) < (Z.length : Int) := by have := HPL.out; omega
  have hpn : ¬ (P.length : Int) < 0 := by omega
  have hRG : w2.rangeAt g (P.length * 5) [.int .i64 z.s.id, .int .i64 z.s.fr, .int .i64 z.s.to, .slice sma z.s.mem.length smc, .slice pa z.s.past.length pc] := own_range H2.out.row (P.length * 5) _ fun k v hv => by
    have := shvs_part Z P.length HPL.out k v (by
      have e : Z[P.length]'HPL.out = z := by have := HZ.out; subst this; simp
      rw [e]; unfold SX.c; rw [HMV.out, HPV.out]; exact hv)
    exact this
  obtain ⟨w3, hw3⟩ : ∃ w3, w3 = w2.alloc (.cells #[.int .i64 z.s.id, .int .i64 z.s.fr, .int .i64 z.s.to, .slice sma z.s.mem.length smc, .slice pa z.s.past.length pc] 46) := ⟨_, rfl⟩
  have HB3 : Hid (Below w2.heap.size w2 w3) := hid (by rw [hw3]; exact (Below.refl _ _).alloc (Nat.le_refl _) _)
  have HS3 : Hid (w3.heap[w2.heap.size]? = some (.cells #[.int .i64 z.s.id, .int .i64 z.s.fr, .int .i64 z.s.to, .slice sma z.s.mem.length smc, .slice pa z.s.past.length pc] 46 (0, 0))) := hid (by rw [hw3]; exact heap_alloc_new _ _)
  have HW3 := hid hw3
  clear hw3
  go_upto_region 16 with (refine wpl_loadM rfl _ rfl g (P.length * 5) (by go_simp) _ _ _ _ _ hRG ?_)
  rw [← HW3.out]
  clear HW3 hRG
  obtain ⟨S7, hS7⟩ : ∃ S7, S7 = w2.heap.size := ⟨_, rfl⟩
  rw [← hS7]
  rw [← hS7] at HS3
  have H3 := hid (H2.out.below HB3.out)
  have HC3 := hid ((HB3.out.block C (lt_of_block HC2.out)).trans HC2.out)
  have HBW3 := hid (HB2.out.trans (HB3.out.mono HB2.out.size))
  clear H2 HC2 HB2 HB3 hS7 b4
  have a0 : w3.cell? ⟨C, 0, none⟩ = some (.int .i64 _) := (cell_of_row _ _ _ _ _ _ HC3.out).trans rfl
  have s1 : w3.cell? ⟨S7, 1, none⟩ = some (.int .i64 z.s.fr) := (cell_of_row _ _ _ _ _ _ HS3.out).trans rfl
  have s2 : w3.cell? ⟨S7, 2, none⟩ = some (.int .i64 z.s.to) := (cell_of_row _ _ _ _ _ _ HS3.out).trans rfl
  obtain ⟨w4, hw4⟩ : ∃ w4, w4 = w3.alloc (.cells #[.int .i64 z.s.fr, .int .i64 z.s.to] 3) := ⟨_, rfl⟩
  have HB4 : Hid (Below w3.heap.size w3 w4) := hid (by rw [hw4]; exact (Below.refl _ _).alloc (Nat.le_refl _) _)
  have HE4 : Hid (w4.ownsRow w3.heap.size 3 1 (.slice (some ⟨w3.heap.size, 0, none⟩) 2 2) 2 (nvs [z.s.fr, z.s.to])) := hid (by rw [hw4]; exact own_many w3 3 #[.int .i64 z.s.fr, .int .i64 z.s.to] 1 2 (Nat.le_refl _) rfl (by omega))
  have HW4 := hid hw4
  clear hw4
  go_upto_region 18 with fail
  rw [← HW4.out]
  clear HW4 a0 s1 s2
  obtain ⟨E9, hE9⟩ : ∃ E9, E9 = w3.heap.size := ⟨_, rfl⟩
  rw [← hE9]
  rw [← hE9] at HE4
  have H4 := hid (H3.out.below HB4.out)
  have HC4 := hid ((HB4.out.block C (lt_of_block HC3.out)).trans HC3.out)
  have HS4 := hid ((HB4.out.block S7 (lt_of_block HS3.out)).trans HS3.out)
  have HBW4 := hid (HBW3.out.trans (HB4.out.mono HBW3.out.size))
  have HE9 : Hid (w.heap.size ≤ E9) := hid (by rw [hE9]; exact HBW3.out.size)
  clear H3 HC3 HS3 HBW3 HB4 hE9
  have a0 : w4.cell? ⟨C, 0, none⟩ = some (.int .i64 _) := (cell_of_row _ _ _ _ _ _ HC4.out).trans rfl
  have s3 : w4.cell? ⟨S7, 3, none⟩ = some (.slice sma z.s.mem.length smc) := (cell_of_row _ _ _ _ _ _ HS4.out).trans rfl
  have a3 : w4.cell? ⟨C, 3, none⟩ = some (.int .i64 _) := (cell_of_row _ _ _ _ _ _ HC4.out).trans rfl
  have a2 : w4.cell? ⟨C, 2, none⟩ = some (.int .i64 _) := (cell_of_row _ _ _ _ _ _ HC4.out).trans rfl
  have a4 : w4.cell? ⟨C, 4, none⟩ = some (.int .i64 _) := (cell_of_row _ _ _ _ _ _ HC4.out).trans rfl
  have a5 : w4.cell? ⟨C, 5, none⟩ = some (.int .i64 _) := (cell_of_row _ _ _ _ _ _ HC4.out).trans rfl
  have s1 : w4.cell? ⟨S7, 1, none⟩ = some (.int .i64 z.s.fr) := (cell_of_row _ _ _ _ _ _ HS4.out).trans rfl
  have s2 : w4.cell? ⟨S7, 2, none⟩ = some (.int .i64 z.s.to) := (cell_of_row _ _ _ _ _ _ HS4.out).trans rfl
  go_wp2_with (go_at_call 42; refine (rat_no xb N _ _ Z _ _ H4.out (by have := HL.out; omega) HNO.out).mono ?_; rintro e w5 ⟨rfl, hb5⟩; have HB5 := hid (HBW4.out.trans (hb5.mono HBW4.out.size)); clear hb5)
  go_ret
  exact ⟨rfl, HB5.out⟩
set_option maxRecDepth 100000 in
set_option maxHeartbeats 8000000 in
theorem rapp_unfit2 (xb : Nat) (N : AtN) (ov sv : Value) (Z P Q P' Q' : List SX) (z y : SX) (sh ot : Int) (w : World) (h : RB w xb N ov sv Z) (hZ : Z = P ++ z :: Q) (hi : z.s.id = sh) (hd : Z.Pairwise fun x y => x.s.id ≠ y.s.id) (hop : N.op = []) (hnx : 0 ≤ N.nx ∧ N.nx ≤ 1073741824) (hep : 0 ≤ N.ep ∧ N.ep ≤ 1073741824) (hl : Z.length ≤ 100000) (hY : Z = P' ++ y :: Q') (hyi : y.s.id = ot) (hne : P'.length ≠ P.length + 1) :
    Calls Try.prog 20 #[.pointer (some ⟨xb, 0, none⟩), chV ⟨2, sh, ot, 0, 0, 0⟩] w fun e w' => e = .returned (.int .i64 1) ∧ Below w.heap.size w w' := by
  obtain ⟨k, hk⟩ : ∃ k : Int, k = 2 := ⟨_, rfl⟩
  obtain ⟨at', hat⟩ : ∃ k : Int, k = 0 := ⟨_, rfl⟩
  obtain ⟨out, hout⟩ : ∃ k : Int, k = 0 := ⟨_, rfl⟩
  obtain ⟨in', hin⟩ : ∃ k : Int, k = 0 := ⟨_, rfl⟩
  obtain ⟨w1, hw1⟩ : ∃ w1, w1 = w.alloc (.cells #[.int .i64 k, .int .i64 sh, .int .i64 ot, .int .i64 at', .int .i64 out, .int .i64 in'] 24) := ⟨_, rfl⟩
  have HB1 : Hid (Below w.heap.size w w1) := hid (by rw [hw1]; exact (Below.refl _ _).alloc (Nat.le_refl _) _)
  have HC1 : Hid (w1.heap[w.heap.size]? = some (.cells #[.int .i64 k, .int .i64 sh, .int .i64 ot, .int .i64 at', .int .i64 out, .int .i64 in'] 24 (0, 0))) := hid (by rw [hw1]; exact heap_alloc_new _ _)
  have HW1 := hid hw1
  clear hw1
  subst hk hat hout hin
  have HYZ := hid hY
  have HYI := hid hyi
  have HNE := hid hne
  clear hY hyi hne
  have HZ := hid hZ
  have HI := hid hi
  have HD := hid hd
  have HOP := hid hop
  have HNX := hid hnx
  have HEP := hid hep
  have HL := hid hl
  obtain ⟨-, sva, svc, rfl⟩ := h.shapes
  obtain rfl := h.nil hop
  have hzl : 0 < Z.length := by rw [hZ]; simp; omega
  obtain ⟨g, rfl⟩ : ∃ g, sva = some ⟨g, 0, none⟩ := own_some h.row hzl
  obtain ⟨⟨sma, smc, hmv⟩, ⟨pa, pc, hpv⟩⟩ := (h.mem z (by rw [hZ]; simp)).shape
  have HMV := hid hmv
  have HPV := hid hpv
  have H1 := hid (h.below HB1.out)
  have b3 : w1.cell? ⟨xb, 3, none⟩ = some (.slice none 0 0) := H1.out.cell 3
  have b4 : w1.cell? ⟨xb, 4, none⟩ = some (.slice (some ⟨g, 0, none⟩) Z.length svc) := H1.out.cell 4
  clear hZ hi hd hop hnx hep hl hmv hpv hzl h
  unfold chV
  go_enter Try.func20, Try.ntmps20
  go_upto_region 1 with fail
  rw [← HW1.out]
  clear HW1
  obtain ⟨C, hCe⟩ : ∃ C, C = w.heap.size := ⟨_, rfl⟩
  rw [← hCe]
  rw [← hCe] at HC1
  have HCE : Hid (w.heap.size ≤ C) := hid (by omega)
  clear hCe
  have a0 : w1.cell? ⟨C, 0, none⟩ = some (.int .i64 _) := (cell_of_row _ _ _ _ _ _ HC1.out).trans rfl
  have a1 : w1.cell? ⟨C, 1, none⟩ = some (.int .i64 _) := (cell_of_row _ _ _ _ _ _ HC1.out).trans rfl
  have a2 : w1.cell? ⟨C, 2, none⟩ = some (.int .i64 _) := (cell_of_row _ _ _ _ _ _ HC1.out).trans rfl
  have a3 : w1.cell? ⟨C, 3, none⟩ = some (.int .i64 _) := (cell_of_row _ _ _ _ _ _ HC1.out).trans rfl
  have a4 : w1.cell? ⟨C, 4, none⟩ = some (.int .i64 _) := (cell_of_row _ _ _ _ _ _ HC1.out).trans rfl
  have a5 : w1.cell? ⟨C, 5, none⟩ = some (.int .i64 _) := (cell_of_row _ _ _ _ _ _ HC1.out).trans rfl
  go_upto_region 13 with (go_at_call 42; refine (rat_at xb N _ _ Z P Q z _ _ H1.out (by have := HL.out; omega) HZ.out HI.out HD.out).mono ?_; rintro e w2 ⟨rfl, hb2⟩; have B2 := hid hb2; clear hb2)
  clear a0 a1 a2 a3 a4 a5 b3 b4
  have H2 := hid (H1.out.below B2.out)
  have HC2 := hid ((B2.out.block C (lt_of_block HC1.out)).trans HC1.out)
  have HB2 := hid (HB1.out.trans (B2.out.mono HB1.out.size))
  clear H1 HC1 HB1 B2
  have b4 : w2.cell? ⟨xb, 4, none⟩ = some (.slice (some ⟨g, 0, none⟩) Z.length svc) := H2.out.cell 4
  have HPL : Hid (P.length < Z.length) := hid (by rw [HZ.out]; simp; try omega)
  have hpl : (P.length : Int) < (Z.length : Int) := by have := HPL.out; omega
  have hpn : ¬ (P.length : Int) < 0 := by omega
  have hRG : w2.rangeAt g (P.length * 5) [.int .i64 z.s.id, .int .i64 z.s.fr, .int .i64 z.s.to, .slice sma z.s.mem.length smc, .slice pa z.s.past.length pc] := own_range H2.out.row (P.length * 5) _ fun k v hv => by
    have := shvs_part Z P.length HPL.out k v (by
      have e : Z[P.length]'HPL.out = z := by have := HZ.out; subst this; simp
      rw [e]; unfold SX.c; rw [HMV.out, HPV.out]; exact hv)
    exact this
  obtain ⟨w3, hw3⟩ : ∃ w3, w3 = w2.alloc (.cells #[.int .i64 z.s.id, .int .i64 z.s.fr, .int .i64 z.s.to, .slice sma z.s.mem.length smc, .slice pa z.s.past.length pc] 46) := ⟨_, rfl⟩
  have HB3 : Hid (Below w2.heap.size w2 w3) := hid (by rw [hw3]; exact (Below.refl _ _).alloc (Nat.le_refl _) _)
  have HS3 : Hid (w3.heap[w2.heap.size]? = some (.cells #[.int .i64 z.s.id, .int .i64 z.s.fr, .int .i64 z.s.to, .slice sma z.s.mem.length smc, .slice pa z.s.past.length pc] 46 (0, 0))) := hid (by rw [hw3]; exact heap_alloc_new _ _)
  have HW3 := hid hw3
  clear hw3
  go_upto_region 16 with (refine wpl_loadM rfl _ rfl g (P.length * 5) (by go_simp) _ _ _ _ _ hRG ?_)
  rw [← HW3.out]
  clear HW3 hRG
  obtain ⟨S7, hS7⟩ : ∃ S7, S7 = w2.heap.size := ⟨_, rfl⟩
  rw [← hS7]
  rw [← hS7] at HS3
  have H3 := hid (H2.out.below HB3.out)
  have HC3 := hid ((HB3.out.block C (lt_of_block HC2.out)).trans HC2.out)
  have HBW3 := hid (HB2.out.trans (HB3.out.mono HB2.out.size))
  clear H2 HC2 HB2 HB3 hS7 b4
  have a0 : w3.cell? ⟨C, 0, none⟩ = some (.int .i64 _) := (cell_of_row _ _ _ _ _ _ HC3.out).trans rfl
  have s1 : w3.cell? ⟨S7, 1, none⟩ = some (.int .i64 z.s.fr) := (cell_of_row _ _ _ _ _ _ HS3.out).trans rfl
  have s2 : w3.cell? ⟨S7, 2, none⟩ = some (.int .i64 z.s.to) := (cell_of_row _ _ _ _ _ _ HS3.out).trans rfl
  obtain ⟨w4, hw4⟩ : ∃ w4, w4 = w3.alloc (.cells #[.int .i64 z.s.fr, .int .i64 z.s.to] 3) := ⟨_, rfl⟩
  have HB4 : Hid (Below w3.heap.size w3 w4) := hid (by rw [hw4]; exact (Below.refl _ _).alloc (Nat.le_refl _) _)
  have HE4 : Hid (w4.ownsRow w3.heap.size 3 1 (.slice (some ⟨w3.heap.size, 0, none⟩) 2 2) 2 (nvs [z.s.fr, z.s.to])) := hid (by rw [hw4]; exact own_many w3 3 #[.int .i64 z.s.fr, .int .i64 z.s.to] 1 2 (Nat.le_refl _) rfl (by omega))
  have HW4 := hid hw4
  clear hw4
  go_upto_region 18 with fail
  rw [← HW4.out]
  clear HW4 a0 s1 s2
  obtain ⟨E9, hE9⟩ : ∃ E9, E9 = w3.heap.size := ⟨_, rfl⟩
  rw [← hE9]
  rw [← hE9] at HE4
  have H4 := hid (H3.out.below HB4.out)
  have HC4 := hid ((HB4.out.block C (lt_of_block HC3.out)).trans HC3.out)
  have HS4 := hid ((HB4.out.block S7 (lt_of_block HS3.out)).trans HS3.out)
  have HBW4 := hid (HBW3.out.trans (HB4.out.mono HBW3.out.size))
  have HE9 : Hid (w.heap.size ≤ E9) := hid (by rw [hE9]; exact HBW3.out.size)
  clear H3 HC3 HS3 HBW3 HB4 hE9
  have a0 : w4.cell? ⟨C, 0, none⟩ = some (.int .i64 _) := (cell_of_row _ _ _ _ _ _ HC4.out).trans rfl
  have s3 : w4.cell? ⟨S7, 3, none⟩ = some (.slice sma z.s.mem.length smc) := (cell_of_row _ _ _ _ _ _ HS4.out).trans rfl
  have a3 : w4.cell? ⟨C, 3, none⟩ = some (.int .i64 _) := (cell_of_row _ _ _ _ _ _ HC4.out).trans rfl
  have a2 : w4.cell? ⟨C, 2, none⟩ = some (.int .i64 _) := (cell_of_row _ _ _ _ _ _ HC4.out).trans rfl
  have a4 : w4.cell? ⟨C, 4, none⟩ = some (.int .i64 _) := (cell_of_row _ _ _ _ _ _ HC4.out).trans rfl
  have a5 : w4.cell? ⟨C, 5, none⟩ = some (.int .i64 _) := (cell_of_row _ _ _ _ _ _ HC4.out).trans rfl
  have s1 : w4.cell? ⟨S7, 1, none⟩ = some (.int .i64 z.s.fr) := (cell_of_row _ _ _ _ _ _ HS4.out).trans rfl
  have s2 : w4.cell? ⟨S7, 2, none⟩ = some (.int .i64 z.s.to) := (cell_of_row _ _ _ _ _ _ HS4.out).trans rfl
  have hwp : IntKind.i64.wrap ((P.length : Int) + 1) = (P.length : Int) + 1 := IntWalk.i64_in _ ⟨by omega, by have := HL.out; have := HPL.out; omega⟩
  have hn1 : ((P'.length : Int) == (P.length : Int) + 1) = false := by have := HNE.out; simp; omega
  have hn2 : ¬ (P'.length : Int) = (P.length : Int) + 1 := by have := HNE.out; omega
  go_wp2_with (go_at_call 42; refine (rat_at xb N _ _ Z P' Q' y _ _ H4.out (by have := HL.out; omega) HYZ.out HYI.out HD.out).mono ?_; rintro e w5 ⟨rfl, hb5⟩; have HB5 := hid (HBW4.out.trans (hb5.mono HBW4.out.size)); clear hb5)
  go_ret
  exact ⟨rfl, HB5.out⟩
end Go.Proofs.Ytnkjkaofgninnaa
