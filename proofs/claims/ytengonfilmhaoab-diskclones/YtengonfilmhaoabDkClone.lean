/- What Clone of a device answers and leaves. Conditions: the device lies in memory. -/
import Derived.Test.YtengonfilmhaoabDkLives
namespace Go.Proofs.Ytengonfilmhaoab
open Go.RowKit

set_option maxHeartbeats 1600000 in
theorem copy_any (b : Nat) (R : Nat → Prop) (S : DS) (w : World) (hd : Dk w b R S) :
    Calls Try.prog 12 #[.pointer (some ⟨b, 0, none⟩)] w fun e w' => ∃ b' R', e = .returned (.pointer (some ⟨b', 0, none⟩)) ∧ Dk w' b' R' S ∧ (∀ k, R' k → w.heap.size ≤ k) ∧ Below w.heap.size w w' := by
  obtain ⟨iv, sv, lv, hd⟩ := hd
  obtain ⟨va, vc, rfl⟩ := hd.ol.shape
  obtain ⟨vi, vj, rfl⟩ := hd.oi.shape
  obtain ⟨vs, vt, rfl⟩ := hd.os.shape
  have HD := hid hd
  have hblt := hd.lt
  obtain ⟨c0, c1, c2, c3, c4, c5, c6, c7, cf⟩ := cell_eight hd.head
  have h1 := hd.ok.log
  have h2 := hd.ok.image
  have h3 := hd.ok.stage
  clear hd
  go_enter Try.func12, Try.ntmps12
  go_wp2_with fail
  have hbg : ¬ b = w.heap.size := by omega
  have hbg' : ¬ w.heap.size = b := by omega
  obtain ⟨W, hW⟩ : ∃ W, W = w.alloc (.cells #[.int .i64 S.room, .slice vi S.image.length vj, .slice vs S.stage.length vt, .bool S.staged, .slice va S.log.length vc, .int .i64 S.sure, .bool S.off, .int .i64 S.left] 48) := ⟨_, rfl⟩
  rw [← hW]
  have hB0 : Below w.heap.size w W := by rw [hW]; exact (Below.refl _ _).alloc (Nat.le_refl _) _
  have hH0 : W.heap[w.heap.size]? = some (.cells #[.int .i64 S.room, .slice vi S.image.length vj, .slice vs S.stage.length vt, .bool S.staged, .slice va S.log.length vc, .int .i64 S.sure, .bool S.off, .int .i64 S.left] 48 (0, 0)) := by rw [hW]; exact heap_alloc_new _ _
  have hS0 : W.heap.size = w.heap.size + 1 := by rw [hW]; simp
  clear hW
  have B0 := hid hB0
  have H0 := hid hH0
  have S0 := hid hS0
  clear hB0 hH0 hS0
  refine (clone_any _ S.image _ (HD.out.oi.bts.below B0.out) (by omega)).mono ?_
  rintro e w1 ⟨r1, m1, rfl, ho1, hb1⟩
  have hg0 : w.heap.size < W.heap.size := by rw [S0.out]; omega
  have hH1 := (hb1.block _ hg0).trans H0.out
  obtain ⟨_, g1, g2, _, g4, _, _, _, gf⟩ := cell_eight hH1
  have B1 := hid (B0.out.trans (hb1.mono (Nat.le_of_lt hg0)))
  have k2 := cell_later B1.out c2
  have k4 := cell_later B1.out c4
  have O1 := hid ho1
  have H1 := hid hH1
  have X1 := hid hb1
  clear ho1 hH1 hb1
  go_wp2_with fail
  have hs1 : W.heap.size ≤ w1.heap.size := X1.out.size
  have hgw1 : w.heap.size < w1.heap.size := by omega
  obtain ⟨V1, hV1⟩ : ∃ V1, V1 = w1.setCell ⟨w.heap.size, 1, none⟩ (.slice r1 S.image.length m1) := ⟨_, rfl⟩
  rw [← hV1]
  have hVs1 : V1.heap.size = w1.heap.size := by rw [hV1]; simp [World.setCell]
  have hVh1 : V1.heap[w.heap.size]? = some (.cells #[.int .i64 S.room, .slice r1 S.image.length m1, .slice vs S.stage.length vt, .bool S.staged, .slice va S.log.length vc, .int .i64 S.sure, .bool S.off, .int .i64 S.left] 48 (0, 0)) := by rw [hV1]; exact heap_setCell_same w1 _ 1 _ _ _ H1.out
  have hVo1 : ∀ k, k ≠ w.heap.size → V1.heap[k]? = w1.heap[k]? := fun k hk => by rw [hV1]; exact Below.heap_setCell w1 ⟨w.heap.size, 1, none⟩ _ k (fun e => hk e)
  have hVb1 : Below w.heap.size w V1 := by rw [hV1]; exact B1.out.setCell (p := ⟨w.heap.size, 1, none⟩) (Nat.le_refl _) _
  have o1 : Own V1 (w.heap.size + 1) (.slice r1 S.image.length m1) S.image := by
    refine ((O1.out.lower (by rw [S0.out]; omega)).blk (w' := V1) fun k hk => hVo1 k ?_)
    have := (O1.out.lt k hk).1; omega
  have ol1 : ∀ k, (Value.slice r1 S.image.length m1).ownBlock = some k → k < V1.heap.size := fun k hk => by rw [hVs1]; exact (O1.out.lt k hk).2
  have VB1 := hid hVb1
  have VH1 := hid hVh1
  have P1 := hid o1
  have L1 := hid ol1
  have hsv1 : w.heap.size < V1.heap.size := by omega
  clear hV1 hVs1 hVh1 hVb1 hVo1 o1 ol1 g1 g2 g4 gf k2 k4 X1 O1 H1 B1 hs1 hgw1
  refine (clone_any _ S.stage _ (HD.out.os.bts.below VB1.out) (by omega)).mono ?_
  rintro e w2 ⟨r2, m2, rfl, ho2, hb2⟩
  have hH2 := (hb2.block _ hsv1).trans VH1.out
  obtain ⟨_, g1, g2, _, g4, _, _, _, gf⟩ := cell_eight hH2
  have B2 := hid (VB1.out.trans (hb2.mono (Nat.le_of_lt hsv1)))
  have k4 := cell_later B2.out c4
  have O2 := hid ho2
  have Q1 := hid (P1.out.below hb2)
  have M1 := hid (show ∀ k, (Value.slice r1 S.image.length m1).ownBlock = some k → k < w2.heap.size from fun k hk => Nat.lt_of_lt_of_le (L1.out k hk) hb2.size)
  have H2 := hid hH2
  have hs2 : V1.heap.size ≤ w2.heap.size := hb2.size
  clear ho2 hH2 hb2
  go_wp2_with fail
  obtain ⟨V2, hV2⟩ : ∃ V2, V2 = w2.setCell ⟨w.heap.size, 2, none⟩ (.slice r2 S.stage.length m2) := ⟨_, rfl⟩
  rw [← hV2]
  have hVs2 : V2.heap.size = w2.heap.size := by rw [hV2]; simp [World.setCell]
  have hVh2 : V2.heap[w.heap.size]? = some (.cells #[.int .i64 S.room, .slice r1 S.image.length m1, .slice r2 S.stage.length m2, .bool S.staged, .slice va S.log.length vc, .int .i64 S.sure, .bool S.off, .int .i64 S.left] 48 (0, 0)) := by rw [hV2]; exact heap_setCell_same w2 _ 2 _ _ _ H2.out
  have hVo2 : ∀ k, k ≠ w.heap.size → V2.heap[k]? = w2.heap[k]? := fun k hk => by rw [hV2]; exact Below.heap_setCell w2 ⟨w.heap.size, 2, none⟩ _ k (fun e => hk e)
  have hVb2 : Below w.heap.size w V2 := by rw [hV2]; exact B2.out.setCell (p := ⟨w.heap.size, 2, none⟩) (Nat.le_refl _) _
  have o1 : Own V2 (w.heap.size + 1) (.slice r1 S.image.length m1) S.image := Q1.out.blk fun k hk => hVo2 k (by have := (Q1.out.lt k hk).1; omega)
  have o2 : Own V2 (w.heap.size + 1) (.slice r2 S.stage.length m2) S.stage := (O2.out.lower (by omega)).blk fun k hk => hVo2 k (by have := (O2.out.lt k hk).1; omega)
  have l2 : ∀ k, (Value.slice r2 S.stage.length m2).ownBlock = some k → k < V2.heap.size := fun k hk => by rw [hVs2]; exact (O2.out.lt k hk).2
  have l1 : ∀ k, (Value.slice r1 S.image.length m1).ownBlock = some k → k < V2.heap.size := fun k hk => by rw [hVs2]; exact M1.out k hk
  have VB2 := hid hVb2
  have VH2 := hid hVh2
  have P1 := hid o1
  have P2 := hid o2
  have L1 := hid l1
  have L2 := hid l2
  have hsv2 : w.heap.size < V2.heap.size := by omega
  clear hV2 hVs2 hVh2 hVb2 hVo2 o1 o2 l1 l2 g1 g2 g4 gf k4 O2 H2 B2 hs2 Q1 M1
  refine (clone_any _ S.log _ (HD.out.ol.bts.below VB2.out) (by omega)).mono ?_
  rintro e w3 ⟨r3, m3, rfl, ho3, hb3⟩
  have hH3 := (hb3.block _ hsv2).trans VH2.out
  obtain ⟨_, g1, g2, _, g4, _, _, _, gf⟩ := cell_eight hH3
  have B3 := hid (VB2.out.trans (hb3.mono (Nat.le_of_lt hsv2)))
  have O3 := hid ho3
  have Q1 := hid (P1.out.below hb3)
  have Q2 := hid (P2.out.below hb3)
  have H3 := hid hH3
  have hs3 : V2.heap.size ≤ w3.heap.size := hb3.size
  clear ho3 hH3 hb3
  go_wp2_with fail
  go_ret
  have hVo3 : ∀ k, k ≠ w.heap.size → (w3.setCell ⟨w.heap.size, 4, none⟩ (.slice r3 S.log.length m3)).heap[k]? = w3.heap[k]? := fun k hk => Below.heap_setCell w3 ⟨w.heap.size, 4, none⟩ _ k (fun e => hk e)
  have hVs3 : (w3.setCell ⟨w.heap.size, 4, none⟩ (.slice r3 S.log.length m3)).heap.size = w3.heap.size := by simp [World.setCell]
  refine ⟨w.heap.size, fun k => w.heap.size ≤ k ∧ k < w3.heap.size, rfl, ⟨.slice r1 S.image.length m1, .slice r2 S.stage.length m2, .slice r3 S.log.length m3, ?_⟩, fun k hk => hk.1, B3.out.setCell (p := ⟨w.heap.size, 4, none⟩) (Nat.le_refl _) _⟩
  refine ⟨HD.out.ok, ⟨Nat.le_refl _, by omega⟩, fun k hk => by rw [hVs3]; exact hk.2, heap_setCell_same w3 _ 4 _ _ _ H3.out, ?_, ?_, ?_, ?_, ?_, ?_, ?_, ?_⟩
  · exact (Q1.out.lower (Nat.zero_le _)).blk fun k hk => hVo3 k (by have := (Q1.out.lt k hk).1; omega)
  · exact (Q2.out.lower (Nat.zero_le _)).blk fun k hk => hVo3 k (by have := (Q2.out.lt k hk).1; omega)
  · exact (O3.out.lower (Nat.zero_le _)).blk fun k hk => hVo3 k (by have := (O3.out.lt k hk).1; omega)
  · exact fun k hk => by have := Q1.out.lt k hk; exact ⟨⟨by omega, this.2⟩, by omega⟩
  · exact fun k hk => by have := Q2.out.lt k hk; exact ⟨⟨by omega, this.2⟩, by omega⟩
  · exact fun k hk => by have := O3.out.lt k hk; exact ⟨⟨by omega, this.2⟩, by omega⟩
  · intro k hk e
    have := L1.out k hk
    have := (O3.out.lt k e).1
    omega
  · intro k hk e
    have := L2.out k hk
    have := (O3.out.lt k e).1
    omega
end Go.Proofs.Ytengonfilmhaoab
