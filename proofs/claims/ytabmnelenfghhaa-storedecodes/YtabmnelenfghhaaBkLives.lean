/- The document's example lives. -/
import Derived.Test.YtabmnelenfghhaaBkApply
namespace Go.Proofs.Ytabmnelenfghhaa
open Go.RowKit Go.Shelf

def tA : ByteArray := ⟨#[97]⟩
def tB : ByteArray := ⟨#[98]⟩
def tC : ByteArray := ⟨#[99]⟩
def exA : CmdD := ⟨2, 1, 1, 0, 2, [tA, tB]⟩
def exB (cl : Int) : CmdD := ⟨2, cl, 1, 1, 2, [tC]⟩
def exS0 : StD := ⟨0, 4, false, List.replicate 4 zeroC⟩
def exS1 : StD := exS0.put (chF exA 1 0 2 exS0.cells (List.finRange 2))
def exS2 : StD := exS1.put (chF exA 1 0 2 exS1.cells (List.finRange 2))
def exS3 : StD := exS2.put (chF (exB 1) 1 1 1 exS2.cells (List.finRange 1))
def exS4 : StD := exS3.put (chF (exB 2) 2 1 1 exS3.cells (List.finRange 1))
theorem ex3 : blockT exS3 1 = tB := by kernel_rfl
theorem ex4 : blockT exS4 1 = tC := by kernel_rfl
theorem exMA : mayB exA = true := by kernel_rfl
theorem exMB1 : mayB (exB 1) = true := by kernel_rfl
theorem exMB2 : mayB (exB 2) = true := by kernel_rfl
theorem exL1 : exS1.cells.length = 4 := by kernel_rfl
theorem exL2 : exS2.cells.length = 4 := by kernel_rfl
theorem exL3 : exS3.cells.length = 4 := by kernel_rfl
theorem strs_one {W : World} {P : Nat} {t : TypeId} {s : ByteArray} (h : W.heap[P]? = some (.cells #[.string s] t (0, 0))) : Strs W (.slice (some ⟨P, 0, none⟩) 1 1) [s] := by
  refine ⟨_, _, _, rfl, rfl, Nat.le_refl _, by omega, (fun h => by cases h), ?_⟩
  intro ad had j hj
  obtain rfl := Option.some.inj had
  obtain rfl : j = 0 := by simpa using hj
  rw [Addr.add_lit, cell_of_row W P _ _ _ _ h]; rfl
theorem strs_two {W : World} {P : Nat} {t : TypeId} {s u : ByteArray} (h : W.heap[P]? = some (.cells #[.string s, .string u] t (0, 0))) : Strs W (.slice (some ⟨P, 0, none⟩) 2 2) [s, u] := by
  refine ⟨_, _, _, rfl, rfl, Nat.le_refl _, by omega, (fun h => by cases h), ?_⟩
  intro ad had j hj
  obtain rfl := Option.some.inj had
  have : j = 0 ∨ j = 1 := by simp at hj; omega
  rcases this with rfl | rfl <;> (rw [Addr.add_lit, cell_of_row W P _ _ _ _ h]; rfl)
theorem heap3 (w : World) (A B C : Obj) : (((w.alloc A).alloc B).alloc C).heap[w.heap.size]? = some A ∧ (((w.alloc A).alloc B).alloc C).heap[w.heap.size + 1]? = some B ∧ (((w.alloc A).alloc B).alloc C).heap[w.heap.size + 1 + 1]? = some C := by
  have e1 : (w.alloc A).heap.size = w.heap.size + 1 := by simp
  have e2 : ((w.alloc A).alloc B).heap.size = w.heap.size + 1 + 1 := by simp
  refine ⟨?_, ?_, ?_⟩
  · rw [Below.heap_alloc _ C _ (by omega), Below.heap_alloc _ B _ (by omega)]; exact heap_alloc_new w A
  · rw [Below.heap_alloc _ C _ (by omega)]; have := heap_alloc_new (w.alloc A) B; rwa [e1] at this
  · have := heap_alloc_new ((w.alloc A).alloc B) C; rwa [e2] at this
theorem heap4 (w : World) (A B C D : Obj) : ((((w.alloc A).alloc B).alloc C).alloc D).heap[w.heap.size]? = some A ∧ ((((w.alloc A).alloc B).alloc C).alloc D).heap[w.heap.size + 1]? = some B ∧ ((((w.alloc A).alloc B).alloc C).alloc D).heap[w.heap.size + 1 + 1]? = some C ∧ ((((w.alloc A).alloc B).alloc C).alloc D).heap[w.heap.size + 1 + 1 + 1]? = some D ∧ ((((w.alloc A).alloc B).alloc C).alloc D).heap.size = w.heap.size + 1 + 1 + 1 + 1 ∧ Below w.heap.size w ((((w.alloc A).alloc B).alloc C).alloc D) := by
  have h := heap3 w A B C
  have e3 : (((w.alloc A).alloc B).alloc C).heap.size = w.heap.size + 1 + 1 + 1 := by simp
  refine ⟨?_, ?_, ?_, ?_, by simp, (((((Below.refl _ _).alloc (Nat.le_refl _) _).alloc (by simp) _).alloc (by simp; omega) _)).alloc (by simp; omega) _⟩
  · rw [Below.heap_alloc _ D _ (by omega)]; exact h.1
  · rw [Below.heap_alloc _ D _ (by omega)]; exact h.2.1
  · rw [Below.heap_alloc _ D _ (by omega)]; exact h.2.2
  · have := heap_alloc_new (((w.alloc A).alloc B).alloc C) D; rwa [e3] at this
/-- The example's memory. -/
structure LV (w : World) (b g P P1 P2 P3 : Nat) (S : StD) (cl : Int) (W : World) : Prop where
  st : St W b g S
  da : W.heap[P]? = some (.cells #[.string tA, .string tB] 9 (0, 0))
  cb : W.heap[P1]? = some (.cells #[.int .i64 2, .int .i64 1, .int .i64 1, .int .i64 0, .int .i64 2, .slice (some ⟨P, 0, none⟩) 2 2] 24 (0, 0))
  db : W.heap[P2]? = some (.cells #[.string tC] 9 (0, 0))
  dd : W.heap[P3]? = some (.cells #[.int .i64 2, .int .i64 cl, .int .i64 1, .int .i64 1, .int .i64 2, .slice (some ⟨P2, 0, none⟩) 1 1] 24 (0, 0))
  bel : Below w.heap.size w W
  ne : w.heap.size ≤ b ∧ w.heap.size ≤ g ∧ g < P ∧ g < P1 ∧ g < P2 ∧ g < P3 ∧ b < P3
theorem LV.kept {w X Y : World} {b g P P1 P2 P3 : Nat} {S : StD} {cl : Int} (h : LV w b g P P1 P2 P3 S cl X) (hb : Below X.heap.size X Y) : LV w b g P P1 P2 P3 S cl Y :=
  ⟨h.st.below hb, (hb.block _ (lt_of_block h.da)).trans h.da, (hb.block _ (lt_of_block h.cb)).trans h.cb, (hb.block _ (lt_of_block h.db)).trans h.db, (hb.block _ (lt_of_block h.dd)).trans h.dd, h.bel.trans (hb.mono h.bel.size), h.ne⟩
theorem LV.grown {w X Y : World} {b g P P1 P2 P3 : Nat} {S S' : StD} {cl : Int} (h : LV w b g P P1 P2 P3 S cl X) (hs : St Y b g S') (hg : X.grownBy Y (some g)) : LV w b g P P1 P2 P3 S' cl Y := by
  have hn := h.ne
  have key : ∀ k, k < X.heap.size → g ≠ k → Y.heap[k]? = X.heap[k]? := fun k hk hne => hg.block k hk (fun e => hne (Option.some.inj e).symm)
  exact ⟨hs, (key _ (lt_of_block h.da) (by omega)).trans h.da, (key _ (lt_of_block h.cb) (by omega)).trans h.cb, (key _ (lt_of_block h.db) (by omega)).trans h.db, (key _ (lt_of_block h.dd) (by omega)).trans h.dd, h.bel.grown hg h.bel.size (fun k e => by cases e; omega), h.ne⟩
theorem LV.set2 {w X : World} {b g P P1 P2 P3 : Nat} {S : StD} (h : LV w b g P P1 P2 P3 S 1 X) : LV w b g P P1 P2 P3 S 2 (X.setCell ⟨P3, 1, none⟩ (.int .i64 2)) := by
  have hn := h.ne
  have key : ∀ k, k ≠ P3 → (X.setCell ⟨P3, 1, none⟩ (.int .i64 2)).heap[k]? = X.heap[k]? := fun k hk => Below.heap_setCell X ⟨P3, 1, none⟩ _ k hk
  have n1 : P ≠ P3 := fun e => by subst e; have h1 := h.da; rw [h.dd] at h1; cases h1
  have n2 : P2 ≠ P3 := fun e => by subst e; have h1 := h.db; rw [h.dd] at h1; cases h1
  have n3 : P1 ≠ P3 := fun e => by subst e; have h1 := h.cb; rw [h.dd] at h1; simp at h1
  refine ⟨h.st.kept (key b (by omega)) (key g (by omega)), (key P n1).trans h.da, (key P1 n3).trans h.cb, (key P2 n2).trans h.db, ?_, h.bel.setCell (p := ⟨P3, 1, none⟩) (by show w.heap.size ≤ P3; omega) _, h.ne⟩
  have := heap_setCell_same X P3 1 _ 24 (.int .i64 2) h.dd
  rw [this]; simp
set_option maxRecDepth 100000 in
set_option maxHeartbeats 3200000 in
theorem lives_any (w : World) : Calls Try.prog 7 #[] w fun e w' => e = .returned (.bool true) ∧ Below w.heap.size w w' := by
  go_enter Try.func7, Try.ntmps7
  go_wp2_with fail
  refine (new_yes (0, 4) w (by kernel_rfl)).mono ?_
  rintro e w1 ⟨b, g, rfl, hb, hg, hst, hbel⟩
  have ST1 : Hid (St w1 b g exS0) := hid hst
  have BE1 := hid hbel
  have hlt := hst.lt
  clear hst hbel
  go_upto_region 6 with fail
  have hh := heap4 w1 (.cells #[.string tA, .string tB] 9) (.cells #[.int .i64 2, .int .i64 1, .int .i64 1, .int .i64 0, .int .i64 2, .slice (some ⟨w1.heap.size, 0, none⟩) 2 2] 24) (.cells #[.string tC] 9) (.cells #[.int .i64 2, .int .i64 1, .int .i64 1, .int .i64 1, .int .i64 2, .slice (some ⟨w1.heap.size + 1 + 1, 0, none⟩) 1 1] 24)
  obtain ⟨w2, hw2⟩ : ∃ w2, w2 = (((w1.alloc (.cells #[.string tA, .string tB] 9)).alloc (.cells #[.int .i64 2, .int .i64 1, .int .i64 1, .int .i64 0, .int .i64 2, .slice (some ⟨w1.heap.size, 0, none⟩) 2 2] 24)).alloc (.cells #[.string tC] 9)).alloc (.cells #[.int .i64 2, .int .i64 1, .int .i64 1, .int .i64 1, .int .i64 2, .slice (some ⟨w1.heap.size + 1 + 1, 0, none⟩) 1 1] 24) := ⟨_, rfl⟩
  rw [← hw2] at hh
  have HW2 := hid hw2
  clear hw2
  unfold tA tB tC at HW2
  rw [← HW2.out]
  obtain ⟨P, hP⟩ : ∃ P, P = w1.heap.size := ⟨_, rfl⟩
  obtain ⟨P1, hP1⟩ : ∃ P, P = w1.heap.size + 1 := ⟨_, rfl⟩
  obtain ⟨P2, hP2⟩ : ∃ P, P = w1.heap.size + 1 + 1 := ⟨_, rfl⟩
  obtain ⟨P3, hP3⟩ : ∃ P, P = w1.heap.size + 1 + 1 + 1 := ⟨_, rfl⟩
  rw [← hP3, ← hP2, ← hP1, ← hP] at hh ⊢
  have LV2 : Hid (LV w b g P P1 P2 P3 exS0 1 w2) := hid ⟨ST1.out.below (by rw [hP] at hh; exact hh.2.2.2.2.2), hh.1, hh.2.1, hh.2.2.1, hh.2.2.2.1, BE1.out.trans ((show Below w1.heap.size w1 w2 by rw [hP] at hh; exact hh.2.2.2.2.2).mono BE1.out.size), by omega⟩
  clear hh HW2 hP hP1 hP2 hP3 ST1 BE1 hlt hb hg
  have c0 : w2.cell? ⟨P1, 0, none⟩ = some (.int .i64 2) := by rw [cell_of_row _ _ _ _ _ _ LV2.out.cb]; rfl
  have c1 : w2.cell? ⟨P1, 1, none⟩ = some (.int .i64 1) := by rw [cell_of_row _ _ _ _ _ _ LV2.out.cb]; rfl
  have c2 : w2.cell? ⟨P1, 2, none⟩ = some (.int .i64 1) := by rw [cell_of_row _ _ _ _ _ _ LV2.out.cb]; rfl
  have c3 : w2.cell? ⟨P1, 3, none⟩ = some (.int .i64 0) := by rw [cell_of_row _ _ _ _ _ _ LV2.out.cb]; rfl
  have c4 : w2.cell? ⟨P1, 4, none⟩ = some (.int .i64 2) := by rw [cell_of_row _ _ _ _ _ _ LV2.out.cb]; rfl
  have c5 : w2.cell? ⟨P1, 5, none⟩ = some (.slice (some ⟨P, 0, none⟩) 2 2) := by rw [cell_of_row _ _ _ _ _ _ LV2.out.cb]; rfl
  go_wp2_with fail
  refine (apply_write b g exS0 exA 1 0 2 (.slice (some ⟨P, 0, none⟩) 2 2) w2 LV2.out.st ⟨strs_two LV2.out.da, by decide, by decide⟩ exMA (.inl rfl) rfl rfl rfl rfl (by rw [(show exS0.cells.length = 4 by kernel_rfl)]; decide) (fun _ => rfl) (fun a n cp e _ => by cases e; have := LV2.out.ne; show P ≠ g; omega)).mono ?_
  rintro e w3 ⟨rfl, hs9, hg9, -⟩
  have LV3 : Hid (LV w b g P P1 P2 P3 exS1 1 w3) := hid (LV2.out.grown hs9 hg9)
  clear hs9 hg9
  clear c0 c1 c2 c3 c4 c5
  have b4 : Below w3.heap.size w3 (w3.alloc (.cells #[.bool true, .slice none 0 0] 60)) := (Below.refl _ _).alloc (Nat.le_refl _) _
  obtain ⟨w4, hw4⟩ : ∃ w4, w4 = w3.alloc (.cells #[.bool true, .slice none 0 0] 60) := ⟨_, rfl⟩
  rw [← hw4] at b4
  have hr4 : w4.heap[w3.heap.size]? = some (.cells #[.bool true, .slice none 0 0] 60 (0, 0)) := by rw [hw4]; exact heap_alloc_new _ _
  have LV4 := hid (LV3.out.kept b4)
  have HW4 := hid hw4
  have hgR : w3.heap.size ≠ g ∧ w3.heap.size ≠ P3 := by have := LV3.out.st.lt; have := lt_of_block LV3.out.dd; omega
  clear hw4 b4
  go_upto_region 7 with fail
  rw [← HW4.out]
  obtain ⟨R, hR⟩ : ∃ R, R = w3.heap.size := ⟨_, rfl⟩
  rw [← hR] at hr4 hgR ⊢
  have HR4 := hid hr4
  clear hR HW4 hr4 LV3
  have c0 : w4.cell? ⟨P1, 0, none⟩ = some (.int .i64 2) := by rw [cell_of_row _ _ _ _ _ _ LV4.out.cb]; rfl
  have c1 : w4.cell? ⟨P1, 1, none⟩ = some (.int .i64 1) := by rw [cell_of_row _ _ _ _ _ _ LV4.out.cb]; rfl
  have c2 : w4.cell? ⟨P1, 2, none⟩ = some (.int .i64 1) := by rw [cell_of_row _ _ _ _ _ _ LV4.out.cb]; rfl
  have c3 : w4.cell? ⟨P1, 3, none⟩ = some (.int .i64 0) := by rw [cell_of_row _ _ _ _ _ _ LV4.out.cb]; rfl
  have c4 : w4.cell? ⟨P1, 4, none⟩ = some (.int .i64 2) := by rw [cell_of_row _ _ _ _ _ _ LV4.out.cb]; rfl
  have c5 : w4.cell? ⟨P1, 5, none⟩ = some (.slice (some ⟨P, 0, none⟩) 2 2) := by rw [cell_of_row _ _ _ _ _ _ LV4.out.cb]; rfl
  go_wp2_with fail
  refine (apply_write b g exS1 exA 1 0 2 (.slice (some ⟨P, 0, none⟩) 2 2) w4 LV4.out.st ⟨strs_two LV4.out.da, by decide, by decide⟩ exMA (.inl rfl) rfl rfl rfl rfl (by rw [exL1]; decide) (fun _ => rfl) (fun a n cp e _ => by cases e; have := LV4.out.ne; show P ≠ g; omega)).mono ?_
  rintro e w5 ⟨rfl, hs9, hg9, -⟩
  have LV5 : Hid (LV w b g P P1 P2 P3 exS2 1 w5) := hid (LV4.out.grown hs9 hg9)
  have HR5 := hid ((hg9.block R (lt_of_block HR4.out) (fun e => hgR.1 (Option.some.inj e))).trans HR4.out)
  clear hs9 hg9
  clear c0 c1 c2 c3 c4 c5
  have d0 : w5.cell? ⟨P3, 0, none⟩ = some (.int .i64 2) := by rw [cell_of_row _ _ _ _ _ _ LV5.out.dd]; rfl
  have d1 : w5.cell? ⟨P3, 1, none⟩ = some (.int .i64 1) := by rw [cell_of_row _ _ _ _ _ _ LV5.out.dd]; rfl
  have d2 : w5.cell? ⟨P3, 2, none⟩ = some (.int .i64 1) := by rw [cell_of_row _ _ _ _ _ _ LV5.out.dd]; rfl
  have d3 : w5.cell? ⟨P3, 3, none⟩ = some (.int .i64 1) := by rw [cell_of_row _ _ _ _ _ _ LV5.out.dd]; rfl
  have d4 : w5.cell? ⟨P3, 4, none⟩ = some (.int .i64 2) := by rw [cell_of_row _ _ _ _ _ _ LV5.out.dd]; rfl
  have d5 : w5.cell? ⟨P3, 5, none⟩ = some (.slice (some ⟨P2, 0, none⟩) 1 1) := by rw [cell_of_row _ _ _ _ _ _ LV5.out.dd]; rfl
  go_wp2_with fail
  refine (apply_write b g exS2 (exB 1) 1 1 1 (.slice (some ⟨P2, 0, none⟩) 1 1) w5 LV5.out.st ⟨strs_one LV5.out.db, by decide, by decide⟩ exMB1 (.inl rfl) rfl rfl rfl rfl (by rw [exL2]; decide) (fun _ => rfl) (fun a n cp e _ => by cases e; have := LV5.out.ne; show P2 ≠ g; omega)).mono ?_
  rintro e w6 ⟨rfl, hs9, hg9, -⟩
  have LV6 : Hid (LV w b g P P1 P2 P3 exS3 1 w6) := hid (LV5.out.grown hs9 hg9)
  have HR6 := hid ((hg9.block R (lt_of_block HR5.out) (fun e => hgR.1 (Option.some.inj e))).trans HR5.out)
  clear hs9 hg9
  clear d0 d1 d2 d3 d4 d5
  go_wp2_with fail
  refine (block_any b g exS3 1 w6 LV6.out.st).mono ?_
  rintro e w7 ⟨rfl, hb7⟩
  rw [ex3]
  have LV7 := hid (LV6.out.kept hb7)
  have HR7 := hid ((hb7.block R (lt_of_block HR6.out)).trans HR6.out)
  clear hb7
  have f7 : w7.frozen? ⟨P3, 1, none⟩ = false := by simp [World.frozen?, LV7.out.dd]
  have g7 : w7.cell? ⟨P3, 1, none⟩ = some (.int .i64 1) := by rw [cell_of_row _ _ _ _ _ _ LV7.out.dd]; rfl
  obtain ⟨w8, hw8⟩ : ∃ w8, w8 = w7.setCell ⟨P3, 1, none⟩ (.int .i64 2) := ⟨_, rfl⟩
  have LV8 : Hid (LV w b g P P1 P2 P3 exS3 2 w8) := hid (by rw [hw8]; exact LV7.out.set2)
  have HR8 : Hid (w8.heap[R]? = some (.cells #[.bool true, .slice none 0 0] 60 (0, 0))) := hid (by rw [hw8]; exact (Below.heap_setCell w7 ⟨P3, 1, none⟩ _ R hgR.2).trans HR7.out)
  have HW8 := hid hw8
  clear hw8
  go_upto_region 11 with fail
  rw [← HW8.out]
  clear HW8 f7 g7
  have d0 : w8.cell? ⟨P3, 0, none⟩ = some (.int .i64 2) := by rw [cell_of_row _ _ _ _ _ _ LV8.out.dd]; rfl
  have d1 : w8.cell? ⟨P3, 1, none⟩ = some (.int .i64 2) := by rw [cell_of_row _ _ _ _ _ _ LV8.out.dd]; rfl
  have d2 : w8.cell? ⟨P3, 2, none⟩ = some (.int .i64 1) := by rw [cell_of_row _ _ _ _ _ _ LV8.out.dd]; rfl
  have d3 : w8.cell? ⟨P3, 3, none⟩ = some (.int .i64 1) := by rw [cell_of_row _ _ _ _ _ _ LV8.out.dd]; rfl
  have d4 : w8.cell? ⟨P3, 4, none⟩ = some (.int .i64 2) := by rw [cell_of_row _ _ _ _ _ _ LV8.out.dd]; rfl
  have d5 : w8.cell? ⟨P3, 5, none⟩ = some (.slice (some ⟨P2, 0, none⟩) 1 1) := by rw [cell_of_row _ _ _ _ _ _ LV8.out.dd]; rfl
  go_wp2_with fail
  refine (apply_write b g exS3 (exB 2) 2 1 1 (.slice (some ⟨P2, 0, none⟩) 1 1) w8 LV8.out.st ⟨strs_one LV8.out.db, by decide, by decide⟩ exMB2 (.inl rfl) rfl rfl rfl rfl (by rw [exL3]; decide) (fun _ => rfl) (fun a n cp e _ => by cases e; have := LV8.out.ne; show P2 ≠ g; omega)).mono ?_
  rintro e w9 ⟨rfl, hs9, hg9, -⟩
  have LV9 : Hid (LV w b g P P1 P2 P3 exS4 2 w9) := hid (LV8.out.grown hs9 hg9)
  have HR9 := hid ((hg9.block R (lt_of_block HR8.out) (fun e => hgR.1 (Option.some.inj e))).trans HR8.out)
  clear hs9 hg9
  clear d0 d1 d2 d3 d4 d5
  go_wp2_with fail
  refine (block_any b g exS4 1 w9 LV9.out.st).mono ?_
  rintro e w10 ⟨rfl, hb10⟩
  rw [ex4]
  have LV10 := hid (LV9.out.kept hb10)
  have HR10 := (hb10.block R (lt_of_block HR9.out)).trans HR9.out
  have r10 : w10.cell? ⟨R, 0, none⟩ = some (.bool true) := by rw [cell_of_row _ _ _ _ _ _ HR10]; rfl
  have eB : (tB.toList == [98]) = true := by kernel_rfl
  have eC : (tC.toList == [99]) = true := by kernel_rfl
  clear hb10 HR10
  go_wp2_with fail
  go_ret
  exact ⟨by first | rfl | simp, LV10.out.bel⟩
end Go.Proofs.Ytabmnelenfghhaa
