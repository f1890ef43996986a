/- For any two spans and any two numbers: parts and blocks that there are not are refused; so are rows of stores that do not go together. -/
import Derived.Test.YtappdhgabbjoiaaBkMerge2
import Derived.Test.YtappdhgabbjoiaaBkMark
import Derived.Test.YtappdhgabbjoiaaBkSmall
import Derived.Test.YtappdhgabbjoiaaBkLight
namespace Go.Proofs.Ytappdhgabbjoiaa
open Go.RowKit
set_option linter.unusedVariables false
set_option linter.unusedSimpArgs false

theorem e_out {S : StD} {k : Int} (m : Int) (h : k < S.from' ∨ S.to ≤ k) : blockE S k = 9 ∧ markE S k m = 9 := by
  unfold blockE markE; rw [if_pos h, if_pos h]; exact ⟨rfl, rfl⟩
theorem e_in {S : StD} {k : Int} (h : ¬ (k < S.from' ∨ S.to ≤ k)) : blockE S k = 0 := by
  unfold blockE; rw [if_neg h]
theorem e_mark {S : StD} {k m : Int} (h : ¬ (k < S.from' ∨ S.to ≤ k)) : markE S k m = if 0 ≤ m ∧ m < 4 then 0 else 1 := by
  unfold markE; rw [if_neg h]
set_option maxRecDepth 100000 in
set_option maxHeartbeats 16000000 in
theorem bounds_any (x o : Sp) (kk : Int × Int) (w : World) :
    Calls Try.prog 8 #[.agg #[.int .i64 x.1, .int .i64 x.2], .agg #[.int .i64 o.1, .int .i64 o.2], .agg #[.int .i64 kk.1, .int .i64 kk.2]] w fun e w' => e = .returned (.bool true) ∧ Below w.heap.size w w' := by
  obtain ⟨f, t⟩ := x
  obtain ⟨f2, t2⟩ := o
  obtain ⟨k0, k1⟩ := kk
  simp only
  obtain ⟨w1, hw1⟩ : ∃ w1, w1 = ((w.alloc (.cells #[.int .i64 f, .int .i64 t] 23)).alloc (.cells #[.int .i64 f2, .int .i64 t2] 23)).alloc (.cells #[.int .i64 k0, .int .i64 k1] 46) := ⟨_, rfl⟩
  have hb1 : Below w.heap.size w w1 := by rw [hw1]; exact (((Below.refl _ _).alloc (Nat.le_refl _) _).alloc (by simp) _).alloc (by simp; omega) _
  have hh := heap3 w (.cells #[.int .i64 f, .int .i64 t] 23) (.cells #[.int .i64 f2, .int .i64 t2] 23) (.cells #[.int .i64 k0, .int .i64 k1] 46)
  rw [← hw1] at hh
  have HW1 := hid hw1
  have B1 := hid hb1
  clear hw1 hb1
  go_enter Try.func8, Try.ntmps8
  go_upto_region 1 with fail
  rw [← HW1.out]
  obtain ⟨A, hA⟩ : ∃ A, A = w.heap.size := ⟨_, rfl⟩
  obtain ⟨C, hC⟩ : ∃ C, C = w.heap.size + 1 := ⟨_, rfl⟩
  obtain ⟨K, hK⟩ : ∃ K, K = w.heap.size + 1 + 1 := ⟨_, rfl⟩
  rw [← hK, ← hC, ← hA] at hh ⊢
  clear hA hC hK HW1
  have SW : Hid (∀ X, Below w1.heap.size w1 X → X.cell? ⟨A, 0, none⟩ = some (.int .i64 f) ∧ X.cell? ⟨A, 1, none⟩ = some (.int .i64 t) ∧ X.cell? ⟨C, 0, none⟩ = some (.int .i64 f2) ∧ X.cell? ⟨C, 1, none⟩ = some (.int .i64 t2) ∧ X.cell? ⟨K, 0, none⟩ = some (.int .i64 k0) ∧ X.cell? ⟨K, 1, none⟩ = some (.int .i64 k1)) := hid fun X hX => by
    have h1 := (hX.block A (lt_of_block hh.1)).trans hh.1
    have h2 := (hX.block C (lt_of_block hh.2.1)).trans hh.2.1
    have h3 := (hX.block K (lt_of_block hh.2.2)).trans hh.2.2
    refine ⟨?_, ?_, ?_, ?_, ?_, ?_⟩ <;> first | (rw [cell_of_row _ _ _ _ _ _ h1]; rfl) | (rw [cell_of_row _ _ _ _ _ _ h2]; rfl) | (rw [cell_of_row _ _ _ _ _ _ h3]; rfl)
  clear hh
  obtain ⟨a0, a1, -, -, -, -⟩ := SW.out w1 (Below.refl _ _)
  go_wp2_with fail
  refine (small_any (f, t) _).mono ?_
  rintro e w2 ⟨⟨p, q⟩, rfl, hm, hb2⟩
  have HM := hid hm
  have B2 := hid hb2
  clear a0 a1 hm hb2
  go_wp2_with fail
  refine (new_yes (p, q) w2 HM.out).mono ?_
  rintro e w3 ⟨b, g, rfl, -, -, hst3, hb3⟩
  have B3 := hid (B2.out.trans (hb3.mono B2.out.size))
  generalize (⟨(p, q).1, (p, q).2, false, List.replicate ((p, q).2 - (p, q).1).toNat zeroC⟩ : StD) = S at hst3
  have ST3 := hid hst3
  clear hst3 hb3
  go_wp2_with fail
  refine (bspan_any b g S w3 ST3.out).mono ?_
  rintro e w4 ⟨rfl, hb4⟩
  have B4 := hid (B3.out.trans (hb4.mono B3.out.size))
  have ST4 := hid (ST3.out.below hb4)
  clear hb4
  obtain ⟨w5, hw5⟩ : ∃ w5, w5 = w4.alloc (.cells #[.int .i64 S.from', .int .i64 S.to] 23) := ⟨_, rfl⟩
  have b5 : Below w4.heap.size w4 w5 := by rw [hw5]; exact (Below.refl _ _).alloc (Nat.le_refl _) _
  have h55 : w5.heap[w4.heap.size]? = some (.cells #[.int .i64 S.from', .int .i64 S.to] 23 (0, 0)) := by rw [hw5]; exact heap_alloc_new _ _
  have HW5 := hid hw5
  have ST5 := hid (ST4.out.below b5)
  have B5 := hid (B4.out.trans (b5.mono B4.out.size))
  clear hw5 b5 B2 B3 ST3 B4 ST4
  go_upto_region 5 with fail
  rw [← HW5.out]
  obtain ⟨Bp, hBp⟩ : ∃ Bp, Bp = w4.heap.size := ⟨_, rfl⟩
  rw [← hBp] at h55
  rw [← hBp]
  have SP : Hid (∀ X, Below w5.heap.size w5 X → X.cell? ⟨Bp, 0, none⟩ = some (.int .i64 S.from') ∧ X.cell? ⟨Bp, 1, none⟩ = some (.int .i64 S.to)) := hid fun X hX => by
    have h1 := (hX.block Bp (lt_of_block h55)).trans h55
    exact ⟨by rw [cell_of_row _ _ _ _ _ _ h1]; rfl, by rw [cell_of_row _ _ _ _ _ _ h1]; rfl⟩
  have hSft := ST5.out.i.ft
  have HFT : Hid (S.from' ≠ S.to) := hid (by omega)
  have HSN := hid ST5.out.i.n
  clear hBp HW5 h55
  obtain ⟨-, -, c0, c1, -, -⟩ := SW.out w5 B5.out
  by_cases h1 : t2 ≤ f2
  · have g1 : decide (t2 ≤ f2) = true := decide_eq_true h1
    have HPT := hid (part_no b g S (f2, t2) w5 ST5.out g1)
    go_wp2_with fail
    refine HPT.out.mono ?_
    rintro e W ⟨rfl, hb6⟩
    clear HPT
    have BW := hid (B5.out.trans (hb6.mono B5.out.size))
    have STW := hid (ST5.out.below hb6)
    have BWP := hid hb6
    clear hb6 c0 c1
    obtain ⟨-, -, c0, c1, -, -⟩ := SW.out W BW.out
    obtain ⟨s0, s1⟩ := SP.out W BWP.out
    go_upto_region 13 with fail
    clear c0 c1 s0 s1
    clear g1 h1
    by_cases hk1 : k0 < S.from'
    · have hd1 : decide (S.from' ≤ k0) = false := decide_eq_false (by omega)
      obtain ⟨hBE, hME⟩ := e_out (S := S) k1 (.inl hk1)
      obtain ⟨-, -, -, -, z0, z1⟩ := SW.out W BW.out
      obtain ⟨s0, s1⟩ := SP.out W BWP.out
      go_wp2_with fail
      refine (block_any b g S k0 W STW.out).mono ?_
      rintro e w6 ⟨rfl, hb6⟩
      rw [hBE]
      have B6 := hid (BW.out.trans (hb6.mono BW.out.size))
      have ST6 := hid (STW.out.below hb6)
      clear z0 z1 s0 s1 hb6
      obtain ⟨-, -, -, -, z0, z1⟩ := SW.out w6 B6.out
      go_wp2_with fail
      refine (mark_any b g S k0 k1 w6 ST6.out).mono ?_
      rintro e w7 ⟨rfl, hb7⟩
      rw [hME]
      have B7 := hid (B6.out.trans (hb7.mono B6.out.size))
      have ST7 := hid (ST6.out.below hb7)
      clear z0 z1 hb7
      obtain ⟨-, -, -, -, z0, z1⟩ := SW.out w7 B7.out
      go_wp2_with fail
      refine (merge_none w7).mono ?_
      rintro e w8 ⟨rfl, rfl⟩
      clear z0 z1
      obtain ⟨w9, hw9⟩ : ∃ w9, w9 = w8.alloc (.cells #[.pointer (some ⟨b, 0, none⟩), .pointer none] 25) := ⟨_, rfl⟩
      have b9 : Below w8.heap.size w8 w9 := by rw [hw9]; exact (Below.refl _ _).alloc (Nat.le_refl _) _
      have hQ9 : Two w9 w8.heap.size (.pointer (some ⟨b, 0, none⟩)) (.pointer none) := by unfold Two; rw [hw9]; exact heap_alloc_new _ _
      have HM1 := hid (merge_nil w8.heap.size w9 (contains_second _ _ w9 hQ9))
      have B9 := hid (B7.out.trans (b9.mono B7.out.size))
      have ST9 := hid (ST7.out.below b9)
      have HW9 := hid hw9
      clear hw9 b9 hQ9
      go_wp2_with fail
      rw [← HW9.out]
      refine HM1.out.mono ?_
      rintro e w10 ⟨rfl, rfl⟩
      clear HM1 HW9
      obtain ⟨w11, hw11⟩ : ∃ w11, w11 = w10.alloc (.cells #[.pointer none, .pointer (some ⟨b, 0, none⟩)] 25) := ⟨_, rfl⟩
      have b11 : Below w10.heap.size w10 w11 := by rw [hw11]; exact (Below.refl _ _).alloc (Nat.le_refl _) _
      have hQ11 : Two w11 w10.heap.size (.pointer none) (.pointer (some ⟨b, 0, none⟩)) := by unfold Two; rw [hw11]; exact heap_alloc_new _ _
      have HM2 := hid (merge_nil w10.heap.size w11 (contains_first _ _ w11 hQ11))
      have B11 := hid (B9.out.trans (b11.mono B9.out.size))
      have ST11 := hid (ST9.out.below b11)
      have HW11 := hid hw11
      clear hw11 b11 hQ11
      go_wp2_with fail
      rw [← HW11.out]
      refine HM2.out.mono ?_
      rintro e w12 ⟨rfl, rfl⟩
      clear HM2 HW11
      obtain ⟨w13, hw13⟩ : ∃ w13, w13 = w12.alloc (.cells #[.pointer (some ⟨b, 0, none⟩), .pointer (some ⟨b, 0, none⟩)] 25) := ⟨_, rfl⟩
      have b13 : Below w12.heap.size w12 w13 := by rw [hw13]; exact (Below.refl _ _).alloc (Nat.le_refl _) _
      have hQ13 : Two w13 w12.heap.size (.pointer (some ⟨b, 0, none⟩)) (.pointer (some ⟨b, 0, none⟩)) := by unfold Two; rw [hw13]; exact heap_alloc_new _ _
      have HM3 := hid (merge_two w12.heap.size b g b g S S w13 hQ13 (ST11.out.below b13) (ST11.out.below b13))
      have B13 := hid (B11.out.trans (b13.mono B11.out.size))
      have HW13 := hid hw13
      clear hw13 b13 hQ13
      go_wp2_with fail
      rw [← HW13.out]
      refine HM3.out.mono ?_
      rintro e w14 ⟨-, hno, hb14⟩
      obtain rfl := hno HFT.out
      have B14 := hid (B13.out.trans (hb14.mono B13.out.size))
      clear hno hb14 HM3 HW13
      go_wp2_with fail
      refine (lives_any _).mono ?_
      rintro e w15 ⟨rfl, hb15⟩
      have B15 := hid (B14.out.trans (hb15.mono B14.out.size))
      clear hb15
      go_wp2_with fail
      go_ret
      exact ⟨rfl, B1.out.trans (B15.out.mono B1.out.size)⟩
    · have hd1 : decide (S.from' ≤ k0) = true := decide_eq_true (by omega)
      by_cases hk2 : S.to ≤ k0
      · have hd2 : decide (k0 < S.to) = false := decide_eq_false (by omega)
        obtain ⟨hBE, hME⟩ := e_out (S := S) k1 (.inr hk2)
        obtain ⟨-, -, -, -, z0, z1⟩ := SW.out W BW.out
        obtain ⟨s0, s1⟩ := SP.out W BWP.out
        go_wp2_with fail
        refine (block_any b g S k0 W STW.out).mono ?_
        rintro e w6 ⟨rfl, hb6⟩
        rw [hBE]
        have B6 := hid (BW.out.trans (hb6.mono BW.out.size))
        have ST6 := hid (STW.out.below hb6)
        clear z0 z1 s0 s1 hb6
        obtain ⟨-, -, -, -, z0, z1⟩ := SW.out w6 B6.out
        go_wp2_with fail
        refine (mark_any b g S k0 k1 w6 ST6.out).mono ?_
        rintro e w7 ⟨rfl, hb7⟩
        rw [hME]
        have B7 := hid (B6.out.trans (hb7.mono B6.out.size))
        have ST7 := hid (ST6.out.below hb7)
        clear z0 z1 hb7
        obtain ⟨-, -, -, -, z0, z1⟩ := SW.out w7 B7.out
        go_wp2_with fail
        refine (merge_none w7).mono ?_
        rintro e w8 ⟨rfl, rfl⟩
        clear z0 z1
        obtain ⟨w9, hw9⟩ : ∃ w9, w9 = w8.alloc (.cells #[.pointer (some ⟨b, 0, none⟩), .pointer none] 25) := ⟨_, rfl⟩
        have b9 : Below w8.heap.size w8 w9 := by rw [hw9]; exact (Below.refl _ _).alloc (Nat.le_refl _) _
        have hQ9 : Two w9 w8.heap.size (.pointer (some ⟨b, 0, none⟩)) (.pointer none) := by unfold Two; rw [hw9]; exact heap_alloc_new _ _
        have HM1 := hid (merge_nil w8.heap.size w9 (contains_second _ _ w9 hQ9))
        have B9 := hid (B7.out.trans (b9.mono B7.out.size))
        have ST9 := hid (ST7.out.below b9)
        have HW9 := hid hw9
        clear hw9 b9 hQ9
        go_wp2_with fail
        rw [← HW9.out]
        refine HM1.out.mono ?_
        rintro e w10 ⟨rfl, rfl⟩
        clear HM1 HW9
        obtain ⟨w11, hw11⟩ : ∃ w11, w11 = w10.alloc (.cells #[.pointer none, .pointer (some ⟨b, 0, none⟩)] 25) := ⟨_, rfl⟩
        have b11 : Below w10.heap.size w10 w11 := by rw [hw11]; exact (Below.refl _ _).alloc (Nat.le_refl _) _
        have hQ11 : Two w11 w10.heap.size (.pointer none) (.pointer (some ⟨b, 0, none⟩)) := by unfold Two; rw [hw11]; exact heap_alloc_new _ _
        have HM2 := hid (merge_nil w10.heap.size w11 (contains_first _ _ w11 hQ11))
        have B11 := hid (B9.out.trans (b11.mono B9.out.size))
        have ST11 := hid (ST9.out.below b11)
        have HW11 := hid hw11
        clear hw11 b11 hQ11
        go_wp2_with fail
        rw [← HW11.out]
        refine HM2.out.mono ?_
        rintro e w12 ⟨rfl, rfl⟩
        clear HM2 HW11
        obtain ⟨w13, hw13⟩ : ∃ w13, w13 = w12.alloc (.cells #[.pointer (some ⟨b, 0, none⟩), .pointer (some ⟨b, 0, none⟩)] 25) := ⟨_, rfl⟩
        have b13 : Below w12.heap.size w12 w13 := by rw [hw13]; exact (Below.refl _ _).alloc (Nat.le_refl _) _
        have hQ13 : Two w13 w12.heap.size (.pointer (some ⟨b, 0, none⟩)) (.pointer (some ⟨b, 0, none⟩)) := by unfold Two; rw [hw13]; exact heap_alloc_new _ _
        have HM3 := hid (merge_two w12.heap.size b g b g S S w13 hQ13 (ST11.out.below b13) (ST11.out.below b13))
        have B13 := hid (B11.out.trans (b13.mono B11.out.size))
        have HW13 := hid hw13
        clear hw13 b13 hQ13
        go_wp2_with fail
        rw [← HW13.out]
        refine HM3.out.mono ?_
        rintro e w14 ⟨-, hno, hb14⟩
        obtain rfl := hno HFT.out
        have B14 := hid (B13.out.trans (hb14.mono B13.out.size))
        clear hno hb14 HM3 HW13
        go_wp2_with fail
        refine (lives_any _).mono ?_
        rintro e w15 ⟨rfl, hb15⟩
        have B15 := hid (B14.out.trans (hb15.mono B14.out.size))
        clear hb15
        go_wp2_with fail
        go_ret
        exact ⟨rfl, B1.out.trans (B15.out.mono B1.out.size)⟩
      · have hd2 : decide (k0 < S.to) = true := decide_eq_true (by omega)
        have hBE := e_in (S := S) (k := k0) (by omega)
        have hME := e_mark (S := S) (k := k0) (m := k1) (by omega)
        by_cases hm1 : k1 < 0
        · have hd3 : decide (0 ≤ k1) = false := decide_eq_false (by omega)
          rw [if_neg (by omega)] at hME
          obtain ⟨-, -, -, -, z0, z1⟩ := SW.out W BW.out
          obtain ⟨s0, s1⟩ := SP.out W BWP.out
          go_wp2_with fail
          refine (block_any b g S k0 W STW.out).mono ?_
          rintro e w6 ⟨rfl, hb6⟩
          rw [hBE]
          have B6 := hid (BW.out.trans (hb6.mono BW.out.size))
          have ST6 := hid (STW.out.below hb6)
          clear z0 z1 s0 s1 hb6
          obtain ⟨-, -, -, -, z0, z1⟩ := SW.out w6 B6.out
          go_wp2_with fail
          refine (mark_any b g S k0 k1 w6 ST6.out).mono ?_
          rintro e w7 ⟨rfl, hb7⟩
          rw [hME]
          have B7 := hid (B6.out.trans (hb7.mono B6.out.size))
          have ST7 := hid (ST6.out.below hb7)
          clear z0 z1 hb7
          obtain ⟨-, -, -, -, z0, z1⟩ := SW.out w7 B7.out
          go_wp2_with fail
          refine (merge_none w7).mono ?_
          rintro e w8 ⟨rfl, rfl⟩
          clear z0 z1
          obtain ⟨w9, hw9⟩ : ∃ w9, w9 = w8.alloc (.cells #[.pointer (some ⟨b, 0, none⟩), .pointer none] 25) := ⟨_, rfl⟩
          have b9 : Below w8.heap.size w8 w9 := by rw [hw9]; exact (Below.refl _ _).alloc (Nat.le_refl _) _
          have hQ9 : Two w9 w8.heap.size (.pointer (some ⟨b, 0, none⟩)) (.pointer none) := by unfold Two; rw [hw9]; exact heap_alloc_new _ _
          have HM1 := hid (merge_nil w8.heap.size w9 (contains_second _ _ w9 hQ9))
          have B9 := hid (B7.out.trans (b9.mono B7.out.size))
          have ST9 := hid (ST7.out.below b9)
          have HW9 := hid hw9
          clear hw9 b9 hQ9
          go_wp2_with fail
          rw [← HW9.out]
          refine HM1.out.mono ?_
          rintro e w10 ⟨rfl, rfl⟩
          clear HM1 HW9
          obtain ⟨w11, hw11⟩ : ∃ w11, w11 = w10.alloc (.cells #[.pointer none, .pointer (some ⟨b, 0, none⟩)] 25) := ⟨_, rfl⟩
          have b11 : Below w10.heap.size w10 w11 := by rw [hw11]; exact (Below.refl _ _).alloc (Nat.le_refl _) _
          have hQ11 : Two w11 w10.heap.size (.pointer none) (.pointer (some ⟨b, 0, none⟩)) := by unfold Two; rw [hw11]; exact heap_alloc_new _ _
          have HM2 := hid (merge_nil w10.heap.size w11 (contains_first _ _ w11 hQ11))
          have B11 := hid (B9.out.trans (b11.mono B9.out.size))
          have ST11 := hid (ST9.out.below b11)
          have HW11 := hid hw11
          clear hw11 b11 hQ11
          go_wp2_with fail
          rw [← HW11.out]
          refine HM2.out.mono ?_
          rintro e w12 ⟨rfl, rfl⟩
          clear HM2 HW11
          obtain ⟨w13, hw13⟩ : ∃ w13, w13 = w12.alloc (.cells #[.pointer (some ⟨b, 0, none⟩), .pointer (some ⟨b, 0, none⟩)] 25) := ⟨_, rfl⟩
          have b13 : Below w12.heap.size w12 w13 := by rw [hw13]; exact (Below.refl _ _).alloc (Nat.le_refl _) _
          have hQ13 : Two w13 w12.heap.size (.pointer (some ⟨b, 0, none⟩)) (.pointer (some ⟨b, 0, none⟩)) := by unfold Two; rw [hw13]; exact heap_alloc_new _ _
          have HM3 := hid (merge_two w12.heap.size b g b g S S w13 hQ13 (ST11.out.below b13) (ST11.out.below b13))
          have B13 := hid (B11.out.trans (b13.mono B11.out.size))
          have HW13 := hid hw13
          clear hw13 b13 hQ13
          go_wp2_with fail
          rw [← HW13.out]
          refine HM3.out.mono ?_
          rintro e w14 ⟨-, hno, hb14⟩
          obtain rfl := hno HFT.out
          have B14 := hid (B13.out.trans (hb14.mono B13.out.size))
          clear hno hb14 HM3 HW13
          go_wp2_with fail
          refine (lives_any _).mono ?_
          rintro e w15 ⟨rfl, hb15⟩
          have B15 := hid (B14.out.trans (hb15.mono B14.out.size))
          clear hb15
          go_wp2_with fail
          go_ret
          exact ⟨rfl, B1.out.trans (B15.out.mono B1.out.size)⟩
        · have hd3 : decide (0 ≤ k1) = true := decide_eq_true (by omega)
          by_cases hm2 : k1 < 4
          · have hd4 : decide (k1 < 4) = true := decide_eq_true hm2
            rw [if_pos (by omega)] at hME
            obtain ⟨-, -, -, -, z0, z1⟩ := SW.out W BW.out
            obtain ⟨s0, s1⟩ := SP.out W BWP.out
            go_wp2_with fail
            refine (block_any b g S k0 W STW.out).mono ?_
            rintro e w6 ⟨rfl, hb6⟩
            rw [hBE]
            have B6 := hid (BW.out.trans (hb6.mono BW.out.size))
            have ST6 := hid (STW.out.below hb6)
            clear z0 z1 s0 s1 hb6
            obtain ⟨-, -, -, -, z0, z1⟩ := SW.out w6 B6.out
            go_wp2_with fail
            refine (mark_any b g S k0 k1 w6 ST6.out).mono ?_
            rintro e w7 ⟨rfl, hb7⟩
            rw [hME]
            have B7 := hid (B6.out.trans (hb7.mono B6.out.size))
            have ST7 := hid (ST6.out.below hb7)
            clear z0 z1 hb7
            obtain ⟨-, -, -, -, z0, z1⟩ := SW.out w7 B7.out
            go_wp2_with fail
            refine (merge_none w7).mono ?_
            rintro e w8 ⟨rfl, rfl⟩
            clear z0 z1
            obtain ⟨w9, hw9⟩ : ∃ w9, w9 = w8.alloc (.cells #[.pointer (some ⟨b, 0, none⟩), .pointer none] 25) := ⟨_, rfl⟩
            have b9 : Below w8.heap.size w8 w9 := by rw [hw9]; exact (Below.refl _ _).alloc (Nat.le_refl _) _
            have hQ9 : Two w9 w8.heap.size (.pointer (some ⟨b, 0, none⟩)) (.pointer none) := by unfold Two; rw [hw9]; exact heap_alloc_new _ _
            have HM1 := hid (merge_nil w8.heap.size w9 (contains_second _ _ w9 hQ9))
            have B9 := hid (B7.out.trans (b9.mono B7.out.size))
            have ST9 := hid (ST7.out.below b9)
            have HW9 := hid hw9
            clear hw9 b9 hQ9
            go_wp2_with fail
            rw [← HW9.out]
            refine HM1.out.mono ?_
            rintro e w10 ⟨rfl, rfl⟩
            clear HM1 HW9
            obtain ⟨w11, hw11⟩ : ∃ w11, w11 = w10.alloc (.cells #[.pointer none, .pointer (some ⟨b, 0, none⟩)] 25) := ⟨_, rfl⟩
            have b11 : Below w10.heap.size w10 w11 := by rw [hw11]; exact (Below.refl _ _).alloc (Nat.le_refl _) _
            have hQ11 : Two w11 w10.heap.size (.pointer none) (.pointer (some ⟨b, 0, none⟩)) := by unfold Two; rw [hw11]; exact heap_alloc_new _ _
            have HM2 := hid (merge_nil w10.heap.size w11 (contains_first _ _ w11 hQ11))
            have B11 := hid (B9.out.trans (b11.mono B9.out.size))
            have ST11 := hid (ST9.out.below b11)
            have HW11 := hid hw11
            clear hw11 b11 hQ11
            go_wp2_with fail
            rw [← HW11.out]
            refine HM2.out.mono ?_
            rintro e w12 ⟨rfl, rfl⟩
            clear HM2 HW11
            obtain ⟨w13, hw13⟩ : ∃ w13, w13 = w12.alloc (.cells #[.pointer (some ⟨b, 0, none⟩), .pointer (some ⟨b, 0, none⟩)] 25) := ⟨_, rfl⟩
            have b13 : Below w12.heap.size w12 w13 := by rw [hw13]; exact (Below.refl _ _).alloc (Nat.le_refl _) _
            have hQ13 : Two w13 w12.heap.size (.pointer (some ⟨b, 0, none⟩)) (.pointer (some ⟨b, 0, none⟩)) := by unfold Two; rw [hw13]; exact heap_alloc_new _ _
            have HM3 := hid (merge_two w12.heap.size b g b g S S w13 hQ13 (ST11.out.below b13) (ST11.out.below b13))
            have B13 := hid (B11.out.trans (b13.mono B11.out.size))
            have HW13 := hid hw13
            clear hw13 b13 hQ13
            go_wp2_with fail
            rw [← HW13.out]
            refine HM3.out.mono ?_
            rintro e w14 ⟨-, hno, hb14⟩
            obtain rfl := hno HFT.out
            have B14 := hid (B13.out.trans (hb14.mono B13.out.size))
            clear hno hb14 HM3 HW13
            go_wp2_with fail
            refine (lives_any _).mono ?_
            rintro e w15 ⟨rfl, hb15⟩
            have B15 := hid (B14.out.trans (hb15.mono B14.out.size))
            clear hb15
            go_wp2_with fail
            go_ret
            exact ⟨rfl, B1.out.trans (B15.out.mono B1.out.size)⟩
          · have hd4 : decide (k1 < 4) = false := decide_eq_false hm2
            rw [if_neg (by omega)] at hME
            obtain ⟨-, -, -, -, z0, z1⟩ := SW.out W BW.out
            obtain ⟨s0, s1⟩ := SP.out W BWP.out
            go_wp2_with fail
            refine (block_any b g S k0 W STW.out).mono ?_
            rintro e w6 ⟨rfl, hb6⟩
            rw [hBE]
            have B6 := hid (BW.out.trans (hb6.mono BW.out.size))
            have ST6 := hid (STW.out.below hb6)
            clear z0 z1 s0 s1 hb6
            obtain ⟨-, -, -, -, z0, z1⟩ := SW.out w6 B6.out
            go_wp2_with fail
            refine (mark_any b g S k0 k1 w6 ST6.out).mono ?_
            rintro e w7 ⟨rfl, hb7⟩
            rw [hME]
            have B7 := hid (B6.out.trans (hb7.mono B6.out.size))
            have ST7 := hid (ST6.out.below hb7)
            clear z0 z1 hb7
            obtain ⟨-, -, -, -, z0, z1⟩ := SW.out w7 B7.out
            go_wp2_with fail
            refine (merge_none w7).mono ?_
            rintro e w8 ⟨rfl, rfl⟩
            clear z0 z1
            obtain ⟨w9, hw9⟩ : ∃ w9, w9 = w8.alloc (.cells #[.pointer (some ⟨b, 0, none⟩), .pointer none] 25) := ⟨_, rfl⟩
            have b9 : Below w8.heap.size w8 w9 := by rw [hw9]; exact (Below.refl _ _).alloc (Nat.le_refl _) _
            have hQ9 : Two w9 w8.heap.size (.pointer (some ⟨b, 0, none⟩)) (.pointer none) := by unfold Two; rw [hw9]; exact heap_alloc_new _ _
            have HM1 := hid (merge_nil w8.heap.size w9 (contains_second _ _ w9 hQ9))
            have B9 := hid (B7.out.trans (b9.mono B7.out.size))
            have ST9 := hid (ST7.out.below b9)
            have HW9 := hid hw9
            clear hw9 b9 hQ9
            go_wp2_with fail
            rw [← HW9.out]
            refine HM1.out.mono ?_
            rintro e w10 ⟨rfl, rfl⟩
            clear HM1 HW9
            obtain ⟨w11, hw11⟩ : ∃ w11, w11 = w10.alloc (.cells #[.pointer none, .pointer (some ⟨b, 0, none⟩)] 25) := ⟨_, rfl⟩
            have b11 : Below w10.heap.size w10 w11 := by rw [hw11]; exact (Below.refl _ _).alloc (Nat.le_refl _) _
            have hQ11 : Two w11 w10.heap.size (.pointer none) (.pointer (some ⟨b, 0, none⟩)) := by unfold Two; rw [hw11]; exact heap_alloc_new _ _
            have HM2 := hid (merge_nil w10.heap.size w11 (contains_first _ _ w11 hQ11))
            have B11 := hid (B9.out.trans (b11.mono B9.out.size))
            have ST11 := hid (ST9.out.below b11)
            have HW11 := hid hw11
            clear hw11 b11 hQ11
            go_wp2_with fail
            rw [← HW11.out]
            refine HM2.out.mono ?_
            rintro e w12 ⟨rfl, rfl⟩
            clear HM2 HW11
            obtain ⟨w13, hw13⟩ : ∃ w13, w13 = w12.alloc (.cells #[.pointer (some ⟨b, 0, none⟩), .pointer (some ⟨b, 0, none⟩)] 25) := ⟨_, rfl⟩
            have b13 : Below w12.heap.size w12 w13 := by rw [hw13]; exact (Below.refl _ _).alloc (Nat.le_refl _) _
            have hQ13 : Two w13 w12.heap.size (.pointer (some ⟨b, 0, none⟩)) (.pointer (some ⟨b, 0, none⟩)) := by unfold Two; rw [hw13]; exact heap_alloc_new _ _
            have HM3 := hid (merge_two w12.heap.size b g b g S S w13 hQ13 (ST11.out.below b13) (ST11.out.below b13))
            have B13 := hid (B11.out.trans (b13.mono B11.out.size))
            have HW13 := hid hw13
            clear hw13 b13 hQ13
            go_wp2_with fail
            rw [← HW13.out]
            refine HM3.out.mono ?_
            rintro e w14 ⟨-, hno, hb14⟩
            obtain rfl := hno HFT.out
            have B14 := hid (B13.out.trans (hb14.mono B13.out.size))
            clear hno hb14 HM3 HW13
            go_wp2_with fail
            refine (lives_any _).mono ?_
            rintro e w15 ⟨rfl, hb15⟩
            have B15 := hid (B14.out.trans (hb15.mono B14.out.size))
            clear hb15
            go_wp2_with fail
            go_ret
            exact ⟨rfl, B1.out.trans (B15.out.mono B1.out.size)⟩
  · have g1 : decide (t2 ≤ f2) = false := decide_eq_false h1
    by_cases h2 : f2 < S.from'
    · have g2 : decide (f2 < S.from') = true := decide_eq_true h2
      have HPT := hid (part_out b g S (f2, t2) w5 ST5.out g1 (by simp; omega))
      go_wp2_with fail
      refine HPT.out.mono ?_
      rintro e W ⟨rfl, hb6⟩
      clear HPT
      have BW := hid (B5.out.trans (hb6.mono B5.out.size))
      have STW := hid (ST5.out.below hb6)
      have BWP := hid hb6
      clear hb6 c0 c1
      obtain ⟨-, -, c0, c1, -, -⟩ := SW.out W BW.out
      obtain ⟨s0, s1⟩ := SP.out W BWP.out
      go_upto_region 13 with fail
      clear c0 c1 s0 s1
      clear g1 h1 g2 h2
      by_cases hk1 : k0 < S.from'
      · have hd1 : decide (S.from' ≤ k0) = false := decide_eq_false (by omega)
        obtain ⟨hBE, hME⟩ := e_out (S := S) k1 (.inl hk1)
        obtain ⟨-, -, -, -, z0, z1⟩ := SW.out W BW.out
        obtain ⟨s0, s1⟩ := SP.out W BWP.out
        go_wp2_with fail
        refine (block_any b g S k0 W STW.out).mono ?_
        rintro e w6 ⟨rfl, hb6⟩
        rw [hBE]
        have B6 := hid (BW.out.trans (hb6.mono BW.out.size))
        have ST6 := hid (STW.out.below hb6)
        clear z0 z1 s0 s1 hb6
        obtain ⟨-, -, -, -, z0, z1⟩ := SW.out w6 B6.out
        go_wp2_with fail
        refine (mark_any b g S k0 k1 w6 ST6.out).mono ?_
        rintro e w7 ⟨rfl, hb7⟩
        rw [hME]
        have B7 := hid (B6.out.trans (hb7.mono B6.out.size))
        have ST7 := hid (ST6.out.below hb7)
        clear z0 z1 hb7
        obtain ⟨-, -, -, -, z0, z1⟩ := SW.out w7 B7.out
        go_wp2_with fail
        refine (merge_none w7).mono ?_
        rintro e w8 ⟨rfl, rfl⟩
        clear z0 z1
        obtain ⟨w9, hw9⟩ : ∃ w9, w9 = w8.alloc (.cells #[.pointer (some ⟨b, 0, none⟩), .pointer none] 25) := ⟨_, rfl⟩
        have b9 : Below w8.heap.size w8 w9 := by rw [hw9]; exact (Below.refl _ _).alloc (Nat.le_refl _) _
        have hQ9 : Two w9 w8.heap.size (.pointer (some ⟨b, 0, none⟩)) (.pointer none) := by unfold Two; rw [hw9]; exact heap_alloc_new _ _
        have HM1 := hid (merge_nil w8.heap.size w9 (contains_second _ _ w9 hQ9))
        have B9 := hid (B7.out.trans (b9.mono B7.out.size))
        have ST9 := hid (ST7.out.below b9)
        have HW9 := hid hw9
        clear hw9 b9 hQ9
        go_wp2_with fail
        rw [← HW9.out]
        refine HM1.out.mono ?_
        rintro e w10 ⟨rfl, rfl⟩
        clear HM1 HW9
        obtain ⟨w11, hw11⟩ : ∃ w11, w11 = w10.alloc (.cells #[.pointer none, .pointer (some ⟨b, 0, none⟩)] 25) := ⟨_, rfl⟩
        have b11 : Below w10.heap.size w10 w11 := by rw [hw11]; exact (Below.refl _ _).alloc (Nat.le_refl _) _
        have hQ11 : Two w11 w10.heap.size (.pointer none) (.pointer (some ⟨b, 0, none⟩)) := by unfold Two; rw [hw11]; exact heap_alloc_new _ _
        have HM2 := hid (merge_nil w10.heap.size w11 (contains_first _ _ w11 hQ11))
        have B11 := hid (B9.out.trans (b11.mono B9.out.size))
        have ST11 := hid (ST9.out.below b11)
        have HW11 := hid hw11
        clear hw11 b11 hQ11
        go_wp2_with fail
        rw [← HW11.out]
        refine HM2.out.mono ?_
        rintro e w12 ⟨rfl, rfl⟩
        clear HM2 HW11
        obtain ⟨w13, hw13⟩ : ∃ w13, w13 = w12.alloc (.cells #[.pointer (some ⟨b, 0, none⟩), .pointer (some ⟨b, 0, none⟩)] 25) := ⟨_, rfl⟩
        have b13 : Below w12.heap.size w12 w13 := by rw [hw13]; exact (Below.refl _ _).alloc (Nat.le_refl _) _
        have hQ13 : Two w13 w12.heap.size (.pointer (some ⟨b, 0, none⟩)) (.pointer (some ⟨b, 0, none⟩)) := by unfold Two; rw [hw13]; exact heap_alloc_new _ _
        have HM3 := hid (merge_two w12.heap.size b g b g S S w13 hQ13 (ST11.out.below b13) (ST11.out.below b13))
        have B13 := hid (B11.out.trans (b13.mono B11.out.size))
        have HW13 := hid hw13
        clear hw13 b13 hQ13
        go_wp2_with fail
        rw [← HW13.out]
        refine HM3.out.mono ?_
        rintro e w14 ⟨-, hno, hb14⟩
        obtain rfl := hno HFT.out
        have B14 := hid (B13.out.trans (hb14.mono B13.out.size))
        clear hno hb14 HM3 HW13
        go_wp2_with fail
        refine (lives_any _).mono ?_
        rintro e w15 ⟨rfl, hb15⟩
        have B15 := hid (B14.out.trans (hb15.mono B14.out.size))
        clear hb15
        go_wp2_with fail
        go_ret
        exact ⟨rfl, B1.out.trans (B15.out.mono B1.out.size)⟩
      · have hd1 : decide (S.from' ≤ k0) = true := decide_eq_true (by omega)
        by_cases hk2 : S.to ≤ k0
        · have hd2 : decide (k0 < S.to) = false := decide_eq_false (by omega)
          obtain ⟨hBE, hME⟩ := e_out (S := S) k1 (.inr hk2)
          obtain ⟨-, -, -, -, z0, z1⟩ := SW.out W BW.out
          obtain ⟨s0, s1⟩ := SP.out W BWP.out
          go_wp2_with fail
          refine (block_any b g S k0 W STW.out).mono ?_
          rintro e w6 ⟨rfl, hb6⟩
          rw [hBE]
          have B6 := hid (BW.out.trans (hb6.mono BW.out.size))
          have ST6 := hid (STW.out.below hb6)
          clear z0 z1 s0 s1 hb6
          obtain ⟨-, -, -, -, z0, z1⟩ := SW.out w6 B6.out
          go_wp2_with fail
          refine (mark_any b g S k0 k1 w6 ST6.out).mono ?_
          rintro e w7 ⟨rfl, hb7⟩
          rw [hME]
          have B7 := hid (B6.out.trans (hb7.mono B6.out.size))
          have ST7 := hid (ST6.out.below hb7)
          clear z0 z1 hb7
          obtain ⟨-, -, -, -, z0, z1⟩ := SW.out w7 B7.out
          go_wp2_with fail
          refine (merge_none w7).mono ?_
          rintro e w8 ⟨rfl, rfl⟩
          clear z0 z1
          obtain ⟨w9, hw9⟩ : ∃ w9, w9 = w8.alloc (.cells #[.pointer (some ⟨b, 0, none⟩), .pointer none] 25) := ⟨_, rfl⟩
          have b9 : Below w8.heap.size w8 w9 := by rw [hw9]; exact (Below.refl _ _).alloc (Nat.le_refl _) _
          have hQ9 : Two w9 w8.heap.size (.pointer (some ⟨b, 0, none⟩)) (.pointer none) := by unfold Two; rw [hw9]; exact heap_alloc_new _ _
          have HM1 := hid (merge_nil w8.heap.size w9 (contains_second _ _ w9 hQ9))
          have B9 := hid (B7.out.trans (b9.mono B7.out.size))
          have ST9 := hid (ST7.out.below b9)
          have HW9 := hid hw9
          clear hw9 b9 hQ9
          go_wp2_with fail
          rw [← HW9.out]
          refine HM1.out.mono ?_
          rintro e w10 ⟨rfl, rfl⟩
          clear HM1 HW9
          obtain ⟨w11, hw11⟩ : ∃ w11, w11 = w10.alloc (.cells #[.pointer none, .pointer (some ⟨b, 0, none⟩)] 25) := ⟨_, rfl⟩
          have b11 : Below w10.heap.size w10 w11 := by rw [hw11]; exact (Below.refl _ _).alloc (Nat.le_refl _) _
          have hQ11 : Two w11 w10.heap.size (.pointer none) (.pointer (some ⟨b, 0, none⟩)) := by unfold Two; rw [hw11]; exact heap_alloc_new _ _
          have HM2 := hid (merge_nil w10.heap.size w11 (contains_first _ _ w11 hQ11))
          have B11 := hid (B9.out.trans (b11.mono B9.out.size))
          have ST11 := hid (ST9.out.below b11)
          have HW11 := hid hw11
          clear hw11 b11 hQ11
          go_wp2_with fail
          rw [← HW11.out]
          refine HM2.out.mono ?_
          rintro e w12 ⟨rfl, rfl⟩
          clear HM2 HW11
          obtain ⟨w13, hw13⟩ : ∃ w13, w13 = w12.alloc (.cells #[.pointer (some ⟨b, 0, none⟩), .pointer (some ⟨b, 0, none⟩)] 25) := ⟨_, rfl⟩
          have b13 : Below w12.heap.size w12 w13 := by rw [hw13]; exact (Below.refl _ _).alloc (Nat.le_refl _) _
          have hQ13 : Two w13 w12.heap.size (.pointer (some ⟨b, 0, none⟩)) (.pointer (some ⟨b, 0, none⟩)) := by unfold Two; rw [hw13]; exact heap_alloc_new _ _
          have HM3 := hid (merge_two w12.heap.size b g b g S S w13 hQ13 (ST11.out.below b13) (ST11.out.below b13))
          have B13 := hid (B11.out.trans (b13.mono B11.out.size))
          have HW13 := hid hw13
          clear hw13 b13 hQ13
          go_wp2_with fail
          rw [← HW13.out]
          refine HM3.out.mono ?_
          rintro e w14 ⟨-, hno, hb14⟩
          obtain rfl := hno HFT.out
          have B14 := hid (B13.out.trans (hb14.mono B13.out.size))
          clear hno hb14 HM3 HW13
          go_wp2_with fail
          refine (lives_any _).mono ?_
          rintro e w15 ⟨rfl, hb15⟩
          have B15 := hid (B14.out.trans (hb15.mono B14.out.size))
          clear hb15
          go_wp2_with fail
          go_ret
          exact ⟨rfl, B1.out.trans (B15.out.mono B1.out.size)⟩
        · have hd2 : decide (k0 < S.to) = true := decide_eq_true (by omega)
          have hBE := e_in (S := S) (k := k0) (by omega)
          have hME := e_mark (S := S) (k := k0) (m := k1) (by omega)
          by_cases hm1 : k1 < 0
          · have hd3 : decide (0 ≤ k1) = false := decide_eq_false (by omega)
            rw [if_neg (by omega)] at hME
            obtain ⟨-, -, -, -, z0, z1⟩ := SW.out W BW.out
            obtain ⟨s0, s1⟩ := SP.out W BWP.out
            go_wp2_with fail
            refine (block_any b g S k0 W STW.out).mono ?_
            rintro e w6 ⟨rfl, hb6⟩
            rw [hBE]
            have B6 := hid (BW.out.trans (hb6.mono BW.out.size))
            have ST6 := hid (STW.out.below hb6)
            clear z0 z1 s0 s1 hb6
            obtain ⟨-, -, -, -, z0, z1⟩ := SW.out w6 B6.out
            go_wp2_with fail
            refine (mark_any b g S k0 k1 w6 ST6.out).mono ?_
            rintro e w7 ⟨rfl, hb7⟩
            rw [hME]
            have B7 := hid (B6.out.trans (hb7.mono B6.out.size))
            have ST7 := hid (ST6.out.below hb7)
            clear z0 z1 hb7
            obtain ⟨-, -, -, -, z0, z1⟩ := SW.out w7 B7.out
            go_wp2_with fail
            refine (merge_none w7).mono ?_
            rintro e w8 ⟨rfl, rfl⟩
            clear z0 z1
            obtain ⟨w9, hw9⟩ : ∃ w9, w9 = w8.alloc (.cells #[.pointer (some ⟨b, 0, none⟩), .pointer none] 25) := ⟨_, rfl⟩
            have b9 : Below w8.heap.size w8 w9 := by rw [hw9]; exact (Below.refl _ _).alloc (Nat.le_refl _) _
            have hQ9 : Two w9 w8.heap.size (.pointer (some ⟨b, 0, none⟩)) (.pointer none) := by unfold Two; rw [hw9]; exact heap_alloc_new _ _
            have HM1 := hid (merge_nil w8.heap.size w9 (contains_second _ _ w9 hQ9))
            have B9 := hid (B7.out.trans (b9.mono B7.out.size))
            have ST9 := hid (ST7.out.below b9)
            have HW9 := hid hw9
            clear hw9 b9 hQ9
            go_wp2_with fail
            rw [← HW9.out]
            refine HM1.out.mono ?_
            rintro e w10 ⟨rfl, rfl⟩
            clear HM1 HW9
            obtain ⟨w11, hw11⟩ : ∃ w11, w11 = w10.alloc (.cells #[.pointer none, .pointer (some ⟨b, 0, none⟩)] 25) := ⟨_, rfl⟩
            have b11 : Below w10.heap.size w10 w11 := by rw [hw11]; exact (Below.refl _ _).alloc (Nat.le_refl _) _
            have hQ11 : Two w11 w10.heap.size (.pointer none) (.pointer (some ⟨b, 0, none⟩)) := by unfold Two; rw [hw11]; exact heap_alloc_new _ _
            have HM2 := hid (merge_nil w10.heap.size w11 (contains_first _ _ w11 hQ11))
            have B11 := hid (B9.out.trans (b11.mono B9.out.size))
            have ST11 := hid (ST9.out.below b11)
            have HW11 := hid hw11
            clear hw11 b11 hQ11
            go_wp2_with fail
            rw [← HW11.out]
            refine HM2.out.mono ?_
            rintro e w12 ⟨rfl, rfl⟩
            clear HM2 HW11
            obtain ⟨w13, hw13⟩ : ∃ w13, w13 = w12.alloc (.cells #[.pointer (some ⟨b, 0, none⟩), .pointer (some ⟨b, 0, none⟩)] 25) := ⟨_, rfl⟩
            have b13 : Below w12.heap.size w12 w13 := by rw [hw13]; exact (Below.refl _ _).alloc (Nat.le_refl _) _
            have hQ13 : Two w13 w12.heap.size (.pointer (some ⟨b, 0, none⟩)) (.pointer (some ⟨b, 0, none⟩)) := by unfold Two; rw [hw13]; exact heap_alloc_new _ _
            have HM3 := hid (merge_two w12.heap.size b g b g S S w13 hQ13 (ST11.out.below b13) (ST11.out.below b13))
            have B13 := hid (B11.out.trans (b13.mono B11.out.size))
            have HW13 := hid hw13
            clear hw13 b13 hQ13
            go_wp2_with fail
            rw [← HW13.out]
            refine HM3.out.mono ?_
            rintro e w14 ⟨-, hno, hb14⟩
            obtain rfl := hno HFT.out
            have B14 := hid (B13.out.trans (hb14.mono B13.out.size))
            clear hno hb14 HM3 HW13
            go_wp2_with fail
            refine (lives_any _).mono ?_
            rintro e w15 ⟨rfl, hb15⟩
            have B15 := hid (B14.out.trans (hb15.mono B14.out.size))
            clear hb15
            go_wp2_with fail
            go_ret
            exact ⟨rfl, B1.out.trans (B15.out.mono B1.out.size)⟩
          · have hd3 : decide (0 ≤ k1) = true := decide_eq_true (by omega)
            by_cases hm2 : k1 < 4
            · have hd4 : decide (k1 < 4) = true := decide_eq_true hm2
              rw [if_pos (by omega)] at hME
              obtain ⟨-, -, -, -, z0, z1⟩ := SW.out W BW.out
              obtain ⟨s0, s1⟩ := SP.out W BWP.out
              go_wp2_with fail
              refine (block_any b g S k0 W STW.out).mono ?_
              rintro e w6 ⟨rfl, hb6⟩
              rw [hBE]
              have B6 := hid (BW.out.trans (hb6.mono BW.out.size))
              have ST6 := hid (STW.out.below hb6)
              clear z0 z1 s0 s1 hb6
              obtain ⟨-, -, -, -, z0, z1⟩ := SW.out w6 B6.out
              go_wp2_with fail
              refine (mark_any b g S k0 k1 w6 ST6.out).mono ?_
              rintro e w7 ⟨rfl, hb7⟩
              rw [hME]
              have B7 := hid (B6.out.trans (hb7.mono B6.out.size))
              have ST7 := hid (ST6.out.below hb7)
              clear z0 z1 hb7
              obtain ⟨-, -, -, -, z0, z1⟩ := SW.out w7 B7.out
              go_wp2_with fail
              refine (merge_none w7).mono ?_
              rintro e w8 ⟨rfl, rfl⟩
              clear z0 z1
              obtain ⟨w9, hw9⟩ : ∃ w9, w9 = w8.alloc (.cells #[.pointer (some ⟨b, 0, none⟩), .pointer none] 25) := ⟨_, rfl⟩
              have b9 : Below w8.heap.size w8 w9 := by rw [hw9]; exact (Below.refl _ _).alloc (Nat.le_refl _) _
              have hQ9 : Two w9 w8.heap.size (.pointer (some ⟨b, 0, none⟩)) (.pointer none) := by unfold Two; rw [hw9]; exact heap_alloc_new _ _
              have HM1 := hid (merge_nil w8.heap.size w9 (contains_second _ _ w9 hQ9))
              have B9 := hid (B7.out.trans (b9.mono B7.out.size))
              have ST9 := hid (ST7.out.below b9)
              have HW9 := hid hw9
              clear hw9 b9 hQ9
              go_wp2_with fail
              rw [← HW9.out]
              refine HM1.out.mono ?_
              rintro e w10 ⟨rfl, rfl⟩
              clear HM1 HW9
              obtain ⟨w11, hw11⟩ : ∃ w11, w11 = w10.alloc (.cells #[.pointer none, .pointer (some ⟨b, 0, none⟩)] 25) := ⟨_, rfl⟩
              have b11 : Below w10.heap.size w10 w11 := by rw [hw11]; exact (Below.refl _ _).alloc (Nat.le_refl _) _
              have hQ11 : Two w11 w10.heap.size (.pointer none) (.pointer (some ⟨b, 0, none⟩)) := by unfold Two; rw [hw11]; exact heap_alloc_new _ _
              have HM2 := hid (merge_nil w10.heap.size w11 (contains_first _ _ w11 hQ11))
              have B11 := hid (B9.out.trans (b11.mono B9.out.size))
              have ST11 := hid (ST9.out.below b11)
              have HW11 := hid hw11
              clear hw11 b11 hQ11
              go_wp2_with fail
              rw [← HW11.out]
              refine HM2.out.mono ?_
              rintro e w12 ⟨rfl, rfl⟩
              clear HM2 HW11
              obtain ⟨w13, hw13⟩ : ∃ w13, w13 = w12.alloc (.cells #[.pointer (some ⟨b, 0, none⟩), .pointer (some ⟨b, 0, none⟩)] 25) := ⟨_, rfl⟩
              have b13 : Below w12.heap.size w12 w13 := by rw [hw13]; exact (Below.refl _ _).alloc (Nat.le_refl _) _
              have hQ13 : Two w13 w12.heap.size (.pointer (some ⟨b, 0, none⟩)) (.pointer (some ⟨b, 0, none⟩)) := by unfold Two; rw [hw13]; exact heap_alloc_new _ _
              have HM3 := hid (merge_two w12.heap.size b g b g S S w13 hQ13 (ST11.out.below b13) (ST11.out.below b13))
              have B13 := hid (B11.out.trans (b13.mono B11.out.size))
              have HW13 := hid hw13
              clear hw13 b13 hQ13
              go_wp2_with fail
              rw [← HW13.out]
              refine HM3.out.mono ?_
              rintro e w14 ⟨-, hno, hb14⟩
              obtain rfl := hno HFT.out
              have B14 := hid (B13.out.trans (hb14.mono B13.out.size))
              clear hno hb14 HM3 HW13
              go_wp2_with fail
              refine (lives_any _).mono ?_
              rintro e w15 ⟨rfl, hb15⟩
              have B15 := hid (B14.out.trans (hb15.mono B14.out.size))
              clear hb15
              go_wp2_with fail
              go_ret
              exact ⟨rfl, B1.out.trans (B15.out.mono B1.out.size)⟩
            · have hd4 : decide (k1 < 4) = false := decide_eq_false hm2
              rw [if_neg (by omega)] at hME
              obtain ⟨-, -, -, -, z0, z1⟩ := SW.out W BW.out
              obtain ⟨s0, s1⟩ := SP.out W BWP.out
              go_wp2_with fail
              refine (block_any b g S k0 W STW.out).mono ?_
              rintro e w6 ⟨rfl, hb6⟩
              rw [hBE]
              have B6 := hid (BW.out.trans (hb6.mono BW.out.size))
              have ST6 := hid (STW.out.below hb6)
              clear z0 z1 s0 s1 hb6
              obtain ⟨-, -, -, -, z0, z1⟩ := SW.out w6 B6.out
              go_wp2_with fail
              refine (mark_any b g S k0 k1 w6 ST6.out).mono ?_
              rintro e w7 ⟨rfl, hb7⟩
              rw [hME]
              have B7 := hid (B6.out.trans (hb7.mono B6.out.size))
              have ST7 := hid (ST6.out.below hb7)
              clear z0 z1 hb7
              obtain ⟨-, -, -, -, z0, z1⟩ := SW.out w7 B7.out
              go_wp2_with fail
              refine (merge_none w7).mono ?_
              rintro e w8 ⟨rfl, rfl⟩
              clear z0 z1
              obtain ⟨w9, hw9⟩ : ∃ w9, w9 = w8.alloc (.cells #[.pointer (some ⟨b, 0, none⟩), .pointer none] 25) := ⟨_, rfl⟩
              have b9 : Below w8.heap.size w8 w9 := by rw [hw9]; exact (Below.refl _ _).alloc (Nat.le_refl _) _
              have hQ9 : Two w9 w8.heap.size (.pointer (some ⟨b, 0, none⟩)) (.pointer none) := by unfold Two; rw [hw9]; exact heap_alloc_new _ _
              have HM1 := hid (merge_nil w8.heap.size w9 (contains_second _ _ w9 hQ9))
              have B9 := hid (B7.out.trans (b9.mono B7.out.size))
              have ST9 := hid (ST7.out.below b9)
              have HW9 := hid hw9
              clear hw9 b9 hQ9
              go_wp2_with fail
              rw [← HW9.out]
              refine HM1.out.mono ?_
              rintro e w10 ⟨rfl, rfl⟩
              clear HM1 HW9
              obtain ⟨w11, hw11⟩ : ∃ w11, w11 = w10.alloc (.cells #[.pointer none, .pointer (some ⟨b, 0, none⟩)] 25) := ⟨_, rfl⟩
              have b11 : Below w10.heap.size w10 w11 := by rw [hw11]; exact (Below.refl _ _).alloc (Nat.le_refl _) _
              have hQ11 : Two w11 w10.heap.size (.pointer none) (.pointer (some ⟨b, 0, none⟩)) := by unfold Two; rw [hw11]; exact heap_alloc_new _ _
              have HM2 := hid (merge_nil w10.heap.size w11 (contains_first _ _ w11 hQ11))
              have B11 := hid (B9.out.trans (b11.mono B9.out.size))
              have ST11 := hid (ST9.out.below b11)
              have HW11 := hid hw11
              clear hw11 b11 hQ11
              go_wp2_with fail
              rw [← HW11.out]
              refine HM2.out.mono ?_
              rintro e w12 ⟨rfl, rfl⟩
              clear HM2 HW11
              obtain ⟨w13, hw13⟩ : ∃ w13, w13 = w12.alloc (.cells #[.pointer (some ⟨b, 0, none⟩), .pointer (some ⟨b, 0, none⟩)] 25) := ⟨_, rfl⟩
              have b13 : Below w12.heap.size w12 w13 := by rw [hw13]; exact (Below.refl _ _).alloc (Nat.le_refl _) _
              have hQ13 : Two w13 w12.heap.size (.pointer (some ⟨b, 0, none⟩)) (.pointer (some ⟨b, 0, none⟩)) := by unfold Two; rw [hw13]; exact heap_alloc_new _ _
              have HM3 := hid (merge_two w12.heap.size b g b g S S w13 hQ13 (ST11.out.below b13) (ST11.out.below b13))
              have B13 := hid (B11.out.trans (b13.mono B11.out.size))
              have HW13 := hid hw13
              clear hw13 b13 hQ13
              go_wp2_with fail
              rw [← HW13.out]
              refine HM3.out.mono ?_
              rintro e w14 ⟨-, hno, hb14⟩
              obtain rfl := hno HFT.out
              have B14 := hid (B13.out.trans (hb14.mono B13.out.size))
              clear hno hb14 HM3 HW13
              go_wp2_with fail
              refine (lives_any _).mono ?_
              rintro e w15 ⟨rfl, hb15⟩
              have B15 := hid (B14.out.trans (hb15.mono B14.out.size))
              clear hb15
              go_wp2_with fail
              go_ret
              exact ⟨rfl, B1.out.trans (B15.out.mono B1.out.size)⟩
    · have g2 : decide (f2 < S.from') = false := decide_eq_false h2
      by_cases h3 : S.to < t2
      · have g3 : decide (S.to < t2) = true := decide_eq_true h3
        have HPT := hid (part_out b g S (f2, t2) w5 ST5.out g1 (by simp; omega))
        go_wp2_with fail
        refine HPT.out.mono ?_
        rintro e W ⟨rfl, hb6⟩
        clear HPT
        have BW := hid (B5.out.trans (hb6.mono B5.out.size))
        have STW := hid (ST5.out.below hb6)
        have BWP := hid hb6
        clear hb6 c0 c1
        obtain ⟨-, -, c0, c1, -, -⟩ := SW.out W BW.out
        obtain ⟨s0, s1⟩ := SP.out W BWP.out
        go_upto_region 13 with fail
        clear c0 c1 s0 s1
        clear g1 h1 g2 h2 g3 h3
        by_cases hk1 : k0 < S.from'
        · have hd1 : decide (S.from' ≤ k0) = false := decide_eq_false (by omega)
          obtain ⟨hBE, hME⟩ := e_out (S := S) k1 (.inl hk1)
          obtain ⟨-, -, -, -, z0, z1⟩ := SW.out W BW.out
          obtain ⟨s0, s1⟩ := SP.out W BWP.out
          go_wp2_with fail
          refine (block_any b g S k0 W STW.out).mono ?_
          rintro e w6 ⟨rfl, hb6⟩
          rw [hBE]
          have B6 := hid (BW.out.trans (hb6.mono BW.out.size))
          have ST6 := hid (STW.out.below hb6)
          clear z0 z1 s0 s1 hb6
          obtain ⟨-, -, -, -, z0, z1⟩ := SW.out w6 B6.out
          go_wp2_with fail
          refine (mark_any b g S k0 k1 w6 ST6.out).mono ?_
          rintro e w7 ⟨rfl, hb7⟩
          rw [hME]
          have B7 := hid (B6.out.trans (hb7.mono B6.out.size))
          have ST7 := hid (ST6.out.below hb7)
          clear z0 z1 hb7
          obtain ⟨-, -, -, -, z0, z1⟩ := SW.out w7 B7.out
          go_wp2_with fail
          refine (merge_none w7).mono ?_
          rintro e w8 ⟨rfl, rfl⟩
          clear z0 z1
          obtain ⟨w9, hw9⟩ : ∃ w9, w9 = w8.alloc (.cells #[.pointer (some ⟨b, 0, none⟩), .pointer none] 25) := ⟨_, rfl⟩
          have b9 : Below w8.heap.size w8 w9 := by rw [hw9]; exact (Below.refl _ _).alloc (Nat.le_refl _) _
          have hQ9 : Two w9 w8.heap.size (.pointer (some ⟨b, 0, none⟩)) (.pointer none) := by unfold Two; rw [hw9]; exact heap_alloc_new _ _
          have HM1 := hid (merge_nil w8.heap.size w9 (contains_second _ _ w9 hQ9))
          have B9 := hid (B7.out.trans (b9.mono B7.out.size))
          have ST9 := hid (ST7.out.below b9)
          have HW9 := hid hw9
          clear hw9 b9 hQ9
          go_wp2_with fail
          rw [← HW9.out]
          refine HM1.out.mono ?_
          rintro e w10 ⟨rfl, rfl⟩
          clear HM1 HW9
          obtain ⟨w11, hw11⟩ : ∃ w11, w11 = w10.alloc (.cells #[.pointer none, .pointer (some ⟨b, 0, none⟩)] 25) := ⟨_, rfl⟩
          have b11 : Below w10.heap.size w10 w11 := by rw [hw11]; exact (Below.refl _ _).alloc (Nat.le_refl _) _
          have hQ11 : Two w11 w10.heap.size (.pointer none) (.pointer (some ⟨b, 0, none⟩)) := by unfold Two; rw [hw11]; exact heap_alloc_new _ _
          have HM2 := hid (merge_nil w10.heap.size w11 (contains_first _ _ w11 hQ11))
          have B11 := hid (B9.out.trans (b11.mono B9.out.size))
          have ST11 := hid (ST9.out.below b11)
          have HW11 := hid hw11
          clear hw11 b11 hQ11
          go_wp2_with fail
          rw [← HW11.out]
          refine HM2.out.mono ?_
          rintro e w12 ⟨rfl, rfl⟩
          clear HM2 HW11
          obtain ⟨w13, hw13⟩ : ∃ w13, w13 = w12.alloc (.cells #[.pointer (some ⟨b, 0, none⟩), .pointer (some ⟨b, 0, none⟩)] 25) := ⟨_, rfl⟩
          have b13 : Below w12.heap.size w12 w13 := by rw [hw13]; exact (Below.refl _ _).alloc (Nat.le_refl _) _
          have hQ13 : Two w13 w12.heap.size (.pointer (some ⟨b, 0, none⟩)) (.pointer (some ⟨b, 0, none⟩)) := by unfold Two; rw [hw13]; exact heap_alloc_new _ _
          have HM3 := hid (merge_two w12.heap.size b g b g S S w13 hQ13 (ST11.out.below b13) (ST11.out.below b13))
          have B13 := hid (B11.out.trans (b13.mono B11.out.size))
          have HW13 := hid hw13
          clear hw13 b13 hQ13
          go_wp2_with fail
          rw [← HW13.out]
          refine HM3.out.mono ?_
          rintro e w14 ⟨-, hno, hb14⟩
          obtain rfl := hno HFT.out
          have B14 := hid (B13.out.trans (hb14.mono B13.out.size))
          clear hno hb14 HM3 HW13
          go_wp2_with fail
          refine (lives_any _).mono ?_
          rintro e w15 ⟨rfl, hb15⟩
          have B15 := hid (B14.out.trans (hb15.mono B14.out.size))
          clear hb15
          go_wp2_with fail
          go_ret
          exact ⟨rfl, B1.out.trans (B15.out.mono B1.out.size)⟩
        · have hd1 : decide (S.from' ≤ k0) = true := decide_eq_true (by omega)
          by_cases hk2 : S.to ≤ k0
          · have hd2 : decide (k0 < S.to) = false := decide_eq_false (by omega)
            obtain ⟨hBE, hME⟩ := e_out (S := S) k1 (.inr hk2)
            obtain ⟨-, -, -, -, z0, z1⟩ := SW.out W BW.out
            obtain ⟨s0, s1⟩ := SP.out W BWP.out
            go_wp2_with fail
            refine (block_any b g S k0 W STW.out).mono ?_
            rintro e w6 ⟨rfl, hb6⟩
            rw [hBE]
            have B6 := hid (BW.out.trans (hb6.mono BW.out.size))
            have ST6 := hid (STW.out.below hb6)
            clear z0 z1 s0 s1 hb6
            obtain ⟨-, -, -, -, z0, z1⟩ := SW.out w6 B6.out
            go_wp2_with fail
            refine (mark_any b g S k0 k1 w6 ST6.out).mono ?_
            rintro e w7 ⟨rfl, hb7⟩
            rw [hME]
            have B7 := hid (B6.out.trans (hb7.mono B6.out.size))
            have ST7 := hid (ST6.out.below hb7)
            clear z0 z1 hb7
            obtain ⟨-, -, -, -, z0, z1⟩ := SW.out w7 B7.out
            go_wp2_with fail
            refine (merge_none w7).mono ?_
            rintro e w8 ⟨rfl, rfl⟩
            clear z0 z1
            obtain ⟨w9, hw9⟩ : ∃ w9, w9 = w8.alloc (.cells #[.pointer (some ⟨b, 0, none⟩), .pointer none] 25) := ⟨_, rfl⟩
            have b9 : Below w8.heap.size w8 w9 := by rw [hw9]; exact (Below.refl _ _).alloc (Nat.le_refl _) _
            have hQ9 : Two w9 w8.heap.size (.pointer (some ⟨b, 0, none⟩)) (.pointer none) := by unfold Two; rw [hw9]; exact heap_alloc_new _ _
            have HM1 := hid (merge_nil w8.heap.size w9 (contains_second _ _ w9 hQ9))
            have B9 := hid (B7.out.trans (b9.mono B7.out.size))
            have ST9 := hid (ST7.out.below b9)
            have HW9 := hid hw9
            clear hw9 b9 hQ9
            go_wp2_with fail
            rw [← HW9.out]
            refine HM1.out.mono ?_
            rintro e w10 ⟨rfl, rfl⟩
            clear HM1 HW9
            obtain ⟨w11, hw11⟩ : ∃ w11, w11 = w10.alloc (.cells #[.pointer none, .pointer (some ⟨b, 0, none⟩)] 25) := ⟨_, rfl⟩
            have b11 : Below w10.heap.size w10 w11 := by rw [hw11]; exact (Below.refl _ _).alloc (Nat.le_refl _) _
            have hQ11 : Two w11 w10.heap.size (.pointer none) (.pointer (some ⟨b, 0, none⟩)) := by unfold Two; rw [hw11]; exact heap_alloc_new _ _
            have HM2 := hid (merge_nil w10.heap.size w11 (contains_first _ _ w11 hQ11))
            have B11 := hid (B9.out.trans (b11.mono B9.out.size))
            have ST11 := hid (ST9.out.below b11)
            have HW11 := hid hw11
            clear hw11 b11 hQ11
            go_wp2_with fail
            rw [← HW11.out]
            refine HM2.out.mono ?_
            rintro e w12 ⟨rfl, rfl⟩
            clear HM2 HW11
            obtain ⟨w13, hw13⟩ : ∃ w13, w13 = w12.alloc (.cells #[.pointer (some ⟨b, 0, none⟩), .pointer (some ⟨b, 0, none⟩)] 25) := ⟨_, rfl⟩
            have b13 : Below w12.heap.size w12 w13 := by rw [hw13]; exact (Below.refl _ _).alloc (Nat.le_refl _) _
            have hQ13 : Two w13 w12.heap.size (.pointer (some ⟨b, 0, none⟩)) (.pointer (some ⟨b, 0, none⟩)) := by unfold Two; rw [hw13]; exact heap_alloc_new _ _
            have HM3 := hid (merge_two w12.heap.size b g b g S S w13 hQ13 (ST11.out.below b13) (ST11.out.below b13))
            have B13 := hid (B11.out.trans (b13.mono B11.out.size))
            have HW13 := hid hw13
            clear hw13 b13 hQ13
            go_wp2_with fail
            rw [← HW13.out]
            refine HM3.out.mono ?_
            rintro e w14 ⟨-, hno, hb14⟩
            obtain rfl := hno HFT.out
            have B14 := hid (B13.out.trans (hb14.mono B13.out.size))
            clear hno hb14 HM3 HW13
            go_wp2_with fail
            refine (lives_any _).mono ?_
            rintro e w15 ⟨rfl, hb15⟩
            have B15 := hid (B14.out.trans (hb15.mono B14.out.size))
            clear hb15
            go_wp2_with fail
            go_ret
            exact ⟨rfl, B1.out.trans (B15.out.mono B1.out.size)⟩
          · have hd2 : decide (k0 < S.to) = true := decide_eq_true (by omega)
            have hBE := e_in (S := S) (k := k0) (by omega)
            have hME := e_mark (S := S) (k := k0) (m := k1) (by omega)
            by_cases hm1 : k1 < 0
            · have hd3 : decide (0 ≤ k1) = false := decide_eq_false (by omega)
              rw [if_neg (by omega)] at hME
              obtain ⟨-, -, -, -, z0, z1⟩ := SW.out W BW.out
              obtain ⟨s0, s1⟩ := SP.out W BWP.out
              go_wp2_with fail
              refine (block_any b g S k0 W STW.out).mono ?_
              rintro e w6 ⟨rfl, hb6⟩
              rw [hBE]
              have B6 := hid (BW.out.trans (hb6.mono BW.out.size))
              have ST6 := hid (STW.out.below hb6)
              clear z0 z1 s0 s1 hb6
              obtain ⟨-, -, -, -, z0, z1⟩ := SW.out w6 B6.out
              go_wp2_with fail
              refine (mark_any b g S k0 k1 w6 ST6.out).mono ?_
              rintro e w7 ⟨rfl, hb7⟩
              rw [hME]
              have B7 := hid (B6.out.trans (hb7.mono B6.out.size))
              have ST7 := hid (ST6.out.below hb7)
              clear z0 z1 hb7
              obtain ⟨-, -, -, -, z0, z1⟩ := SW.out w7 B7.out
              go_wp2_with fail
              refine (merge_none w7).mono ?_
              rintro e w8 ⟨rfl, rfl⟩
              clear z0 z1
              obtain ⟨w9, hw9⟩ : ∃ w9, w9 = w8.alloc (.cells #[.pointer (some ⟨b, 0, none⟩), .pointer none] 25) := ⟨_, rfl⟩
              have b9 : Below w8.heap.size w8 w9 := by rw [hw9]; exact (Below.refl _ _).alloc (Nat.le_refl _) _
              have hQ9 : Two w9 w8.heap.size (.pointer (some ⟨b, 0, none⟩)) (.pointer none) := by unfold Two; rw [hw9]; exact heap_alloc_new _ _
              have HM1 := hid (merge_nil w8.heap.size w9 (contains_second _ _ w9 hQ9))
              have B9 := hid (B7.out.trans (b9.mono B7.out.size))
              have ST9 := hid (ST7.out.below b9)
              have HW9 := hid hw9
              clear hw9 b9 hQ9
              go_wp2_with fail
              rw [← HW9.out]
              refine HM1.out.mono ?_
              rintro e w10 ⟨rfl, rfl⟩
              clear HM1 HW9
              obtain ⟨w11, hw11⟩ : ∃ w11, w11 = w10.alloc (.cells #[.pointer none, .pointer (some ⟨b, 0, none⟩)] 25) := ⟨_, rfl⟩
              have b11 : Below w10.heap.size w10 w11 := by rw [hw11]; exact (Below.refl _ _).alloc (Nat.le_refl _) _
              have hQ11 : Two w11 w10.heap.size (.pointer none) (.pointer (some ⟨b, 0, none⟩)) := by unfold Two; rw [hw11]; exact heap_alloc_new _ _
              have HM2 := hid (merge_nil w10.heap.size w11 (contains_first _ _ w11 hQ11))
              have B11 := hid (B9.out.trans (b11.mono B9.out.size))
              have ST11 := hid (ST9.out.below b11)
              have HW11 := hid hw11
              clear hw11 b11 hQ11
              go_wp2_with fail
              rw [← HW11.out]
              refine HM2.out.mono ?_
              rintro e w12 ⟨rfl, rfl⟩
              clear HM2 HW11
              obtain ⟨w13, hw13⟩ : ∃ w13, w13 = w12.alloc (.cells #[.pointer (some ⟨b, 0, none⟩), .pointer (some ⟨b, 0, none⟩)] 25) := ⟨_, rfl⟩
              have b13 : Below w12.heap.size w12 w13 := by rw [hw13]; exact (Below.refl _ _).alloc (Nat.le_refl _) _
              have hQ13 : Two w13 w12.heap.size (.pointer (some ⟨b, 0, none⟩)) (.pointer (some ⟨b, 0, none⟩)) := by unfold Two; rw [hw13]; exact heap_alloc_new _ _
              have HM3 := hid (merge_two w12.heap.size b g b g S S w13 hQ13 (ST11.out.below b13) (ST11.out.below b13))
              have B13 := hid (B11.out.trans (b13.mono B11.out.size))
              have HW13 := hid hw13
              clear hw13 b13 hQ13
              go_wp2_with fail
              rw [← HW13.out]
              refine HM3.out.mono ?_
              rintro e w14 ⟨-, hno, hb14⟩
              obtain rfl := hno HFT.out
              have B14 := hid (B13.out.trans (hb14.mono B13.out.size))
              clear hno hb14 HM3 HW13
              go_wp2_with fail
              refine (lives_any _).mono ?_
              rintro e w15 ⟨rfl, hb15⟩
              have B15 := hid (B14.out.trans (hb15.mono B14.out.size))
              clear hb15
              go_wp2_with fail
              go_ret
              exact ⟨rfl, B1.out.trans (B15.out.mono B1.out.size)⟩
            · have hd3 : decide (0 ≤ k1) = true := decide_eq_true (by omega)
              by_cases hm2 : k1 < 4
              · have hd4 : decide (k1 < 4) = true := decide_eq_true hm2
                rw [if_pos (by omega)] at hME
                obtain ⟨-, -, -, -, z0, z1⟩ := SW.out W BW.out
                obtain ⟨s0, s1⟩ := SP.out W BWP.out
                go_wp2_with fail
                refine (block_any b g S k0 W STW.out).mono ?_
                rintro e w6 ⟨rfl, hb6⟩
                rw [hBE]
                have B6 := hid (BW.out.trans (hb6.mono BW.out.size))
                have ST6 := hid (STW.out.below hb6)
                clear z0 z1 s0 s1 hb6
                obtain ⟨-, -, -, -, z0, z1⟩ := SW.out w6 B6.out
                go_wp2_with fail
                refine (mark_any b g S k0 k1 w6 ST6.out).mono ?_
                rintro e w7 ⟨rfl, hb7⟩
                rw [hME]
                have B7 := hid (B6.out.trans (hb7.mono B6.out.size))
                have ST7 := hid (ST6.out.below hb7)
                clear z0 z1 hb7
                obtain ⟨-, -, -, -, z0, z1⟩ := SW.out w7 B7.out
                go_wp2_with fail
                refine (merge_none w7).mono ?_
                rintro e w8 ⟨rfl, rfl⟩
                clear z0 z1
                obtain ⟨w9, hw9⟩ : ∃ w9, w9 = w8.alloc (.cells #[.pointer (some ⟨b, 0, none⟩), .pointer none] 25) := ⟨_, rfl⟩
                have b9 : Below w8.heap.size w8 w9 := by rw [hw9]; exact (Below.refl _ _).alloc (Nat.le_refl _) _
                have hQ9 : Two w9 w8.heap.size (.pointer (some ⟨b, 0, none⟩)) (.pointer none) := by unfold Two; rw [hw9]; exact heap_alloc_new _ _
                have HM1 := hid (merge_nil w8.heap.size w9 (contains_second _ _ w9 hQ9))
                have B9 := hid (B7.out.trans (b9.mono B7.out.size))
                have ST9 := hid (ST7.out.below b9)
                have HW9 := hid hw9
                clear hw9 b9 hQ9
                go_wp2_with fail
                rw [← HW9.out]
                refine HM1.out.mono ?_
                rintro e w10 ⟨rfl, rfl⟩
                clear HM1 HW9
                obtain ⟨w11, hw11⟩ : ∃ w11, w11 = w10.alloc (.cells #[.pointer none, .pointer (some ⟨b, 0, none⟩)] 25) := ⟨_, rfl⟩
                have b11 : Below w10.heap.size w10 w11 := by rw [hw11]; exact (Below.refl _ _).alloc (Nat.le_refl _) _
                have hQ11 : Two w11 w10.heap.size (.pointer none) (.pointer (some ⟨b, 0, none⟩)) := by unfold Two; rw [hw11]; exact heap_alloc_new _ _
                have HM2 := hid (merge_nil w10.heap.size w11 (contains_first _ _ w11 hQ11))
                have B11 := hid (B9.out.trans (b11.mono B9.out.size))
                have ST11 := hid (ST9.out.below b11)
                have HW11 := hid hw11
                clear hw11 b11 hQ11
                go_wp2_with fail
                rw [← HW11.out]
                refine HM2.out.mono ?_
                rintro e w12 ⟨rfl, rfl⟩
                clear HM2 HW11
                obtain ⟨w13, hw13⟩ : ∃ w13, w13 = w12.alloc (.cells #[.pointer (some ⟨b, 0, none⟩), .pointer (some ⟨b, 0, none⟩)] 25) := ⟨_, rfl⟩
                have b13 : Below w12.heap.size w12 w13 := by rw [hw13]; exact (Below.refl _ _).alloc (Nat.le_refl _) _
                have hQ13 : Two w13 w12.heap.size (.pointer (some ⟨b, 0, none⟩)) (.pointer (some ⟨b, 0, none⟩)) := by unfold Two; rw [hw13]; exact heap_alloc_new _ _
                have HM3 := hid (merge_two w12.heap.size b g b g S S w13 hQ13 (ST11.out.below b13) (ST11.out.below b13))
                have B13 := hid (B11.out.trans (b13.mono B11.out.size))
                have HW13 := hid hw13
                clear hw13 b13 hQ13
                go_wp2_with fail
                rw [← HW13.out]
                refine HM3.out.mono ?_
                rintro e w14 ⟨-, hno, hb14⟩
                obtain rfl := hno HFT.out
                have B14 := hid (B13.out.trans (hb14.mono B13.out.size))
                clear hno hb14 HM3 HW13
                go_wp2_with fail
                refine (lives_any _).mono ?_
                rintro e w15 ⟨rfl, hb15⟩
                have B15 := hid (B14.out.trans (hb15.mono B14.out.size))
                clear hb15
                go_wp2_with fail
                go_ret
                exact ⟨rfl, B1.out.trans (B15.out.mono B1.out.size)⟩
              · have hd4 : decide (k1 < 4) = false := decide_eq_false hm2
                rw [if_neg (by omega)] at hME
                obtain ⟨-, -, -, -, z0, z1⟩ := SW.out W BW.out
                obtain ⟨s0, s1⟩ := SP.out W BWP.out
                go_wp2_with fail
                refine (block_any b g S k0 W STW.out).mono ?_
                rintro e w6 ⟨rfl, hb6⟩
                rw [hBE]
                have B6 := hid (BW.out.trans (hb6.mono BW.out.size))
                have ST6 := hid (STW.out.below hb6)
                clear z0 z1 s0 s1 hb6
                obtain ⟨-, -, -, -, z0, z1⟩ := SW.out w6 B6.out
                go_wp2_with fail
                refine (mark_any b g S k0 k1 w6 ST6.out).mono ?_
                rintro e w7 ⟨rfl, hb7⟩
                rw [hME]
                have B7 := hid (B6.out.trans (hb7.mono B6.out.size))
                have ST7 := hid (ST6.out.below hb7)
                clear z0 z1 hb7
                obtain ⟨-, -, -, -, z0, z1⟩ := SW.out w7 B7.out
                go_wp2_with fail
                refine (merge_none w7).mono ?_
                rintro e w8 ⟨rfl, rfl⟩
                clear z0 z1
                obtain ⟨w9, hw9⟩ : ∃ w9, w9 = w8.alloc (.cells #[.pointer (some ⟨b, 0, none⟩), .pointer none] 25) := ⟨_, rfl⟩
                have b9 : Below w8.heap.size w8 w9 := by rw [hw9]; exact (Below.refl _ _).alloc (Nat.le_refl _) _
                have hQ9 : Two w9 w8.heap.size (.pointer (some ⟨b, 0, none⟩)) (.pointer none) := by unfold Two; rw [hw9]; exact heap_alloc_new _ _
                have HM1 := hid (merge_nil w8.heap.size w9 (contains_second _ _ w9 hQ9))
                have B9 := hid (B7.out.trans (b9.mono B7.out.size))
                have ST9 := hid (ST7.out.below b9)
                have HW9 := hid hw9
                clear hw9 b9 hQ9
                go_wp2_with fail
                rw [← HW9.out]
                refine HM1.out.mono ?_
                rintro e w10 ⟨rfl, rfl⟩
                clear HM1 HW9
                obtain ⟨w11, hw11⟩ : ∃ w11, w11 = w10.alloc (.cells #[.pointer none, .pointer (some ⟨b, 0, none⟩)] 25) := ⟨_, rfl⟩
                have b11 : Below w10.heap.size w10 w11 := by rw [hw11]; exact (Below.refl _ _).alloc (Nat.le_refl _) _
                have hQ11 : Two w11 w10.heap.size (.pointer none) (.pointer (some ⟨b, 0, none⟩)) := by unfold Two; rw [hw11]; exact heap_alloc_new _ _
                have HM2 := hid (merge_nil w10.heap.size w11 (contains_first _ _ w11 hQ11))
                have B11 := hid (B9.out.trans (b11.mono B9.out.size))
                have ST11 := hid (ST9.out.below b11)
                have HW11 := hid hw11
                clear hw11 b11 hQ11
                go_wp2_with fail
                rw [← HW11.out]
                refine HM2.out.mono ?_
                rintro e w12 ⟨rfl, rfl⟩
                clear HM2 HW11
                obtain ⟨w13, hw13⟩ : ∃ w13, w13 = w12.alloc (.cells #[.pointer (some ⟨b, 0, none⟩), .pointer (some ⟨b, 0, none⟩)] 25) := ⟨_, rfl⟩
                have b13 : Below w12.heap.size w12 w13 := by rw [hw13]; exact (Below.refl _ _).alloc (Nat.le_refl _) _
                have hQ13 : Two w13 w12.heap.size (.pointer (some ⟨b, 0, none⟩)) (.pointer (some ⟨b, 0, none⟩)) := by unfold Two; rw [hw13]; exact heap_alloc_new _ _
                have HM3 := hid (merge_two w12.heap.size b g b g S S w13 hQ13 (ST11.out.below b13) (ST11.out.below b13))
                have B13 := hid (B11.out.trans (b13.mono B11.out.size))
                have HW13 := hid hw13
                clear hw13 b13 hQ13
                go_wp2_with fail
                rw [← HW13.out]
                refine HM3.out.mono ?_
                rintro e w14 ⟨-, hno, hb14⟩
                obtain rfl := hno HFT.out
                have B14 := hid (B13.out.trans (hb14.mono B13.out.size))
                clear hno hb14 HM3 HW13
                go_wp2_with fail
                refine (lives_any _).mono ?_
                rintro e w15 ⟨rfl, hb15⟩
                have B15 := hid (B14.out.trans (hb15.mono B14.out.size))
                clear hb15
                go_wp2_with fail
                go_ret
                exact ⟨rfl, B1.out.trans (B15.out.mono B1.out.size)⟩
      · have g3 : decide (S.to < t2) = false := decide_eq_false h3
        have HPT := hid (part_in b g S (f2, t2) (f2 - S.from').toNat (t2 - f2).toNat w5 ST5.out (by show f2 = _; omega) (by show t2 = f2 + _; omega) (by have := HSN.out; omega) (by omega))
        go_wp2_with fail
        refine HPT.out.mono ?_
        rintro e W ⟨P, g', rfl, -, -, -, hb6⟩
        clear HPT
        have BW := hid (B5.out.trans (hb6.mono B5.out.size))
        have STW := hid (ST5.out.below hb6)
        have BWP := hid hb6
        clear hb6 c0 c1
        obtain ⟨-, -, c0, c1, -, -⟩ := SW.out W BW.out
        obtain ⟨s0, s1⟩ := SP.out W BWP.out
        go_upto_region 13 with fail
        clear c0 c1 s0 s1
        clear g1 h1 g2 h2 g3 h3
        by_cases hk1 : k0 < S.from'
        · have hd1 : decide (S.from' ≤ k0) = false := decide_eq_false (by omega)
          obtain ⟨hBE, hME⟩ := e_out (S := S) k1 (.inl hk1)
          obtain ⟨-, -, -, -, z0, z1⟩ := SW.out W BW.out
          obtain ⟨s0, s1⟩ := SP.out W BWP.out
          go_wp2_with fail
          refine (block_any b g S k0 W STW.out).mono ?_
          rintro e w6 ⟨rfl, hb6⟩
          rw [hBE]
          have B6 := hid (BW.out.trans (hb6.mono BW.out.size))
          have ST6 := hid (STW.out.below hb6)
          clear z0 z1 s0 s1 hb6
          obtain ⟨-, -, -, -, z0, z1⟩ := SW.out w6 B6.out
          go_wp2_with fail
          refine (mark_any b g S k0 k1 w6 ST6.out).mono ?_
          rintro e w7 ⟨rfl, hb7⟩
          rw [hME]
          have B7 := hid (B6.out.trans (hb7.mono B6.out.size))
          have ST7 := hid (ST6.out.below hb7)
          clear z0 z1 hb7
          obtain ⟨-, -, -, -, z0, z1⟩ := SW.out w7 B7.out
          go_wp2_with fail
          refine (merge_none w7).mono ?_
          rintro e w8 ⟨rfl, rfl⟩
          clear z0 z1
          obtain ⟨w9, hw9⟩ : ∃ w9, w9 = w8.alloc (.cells #[.pointer (some ⟨b, 0, none⟩), .pointer none] 25) := ⟨_, rfl⟩
          have b9 : Below w8.heap.size w8 w9 := by rw [hw9]; exact (Below.refl _ _).alloc (Nat.le_refl _) _
          have hQ9 : Two w9 w8.heap.size (.pointer (some ⟨b, 0, none⟩)) (.pointer none) := by unfold Two; rw [hw9]; exact heap_alloc_new _ _
          have HM1 := hid (merge_nil w8.heap.size w9 (contains_second _ _ w9 hQ9))
          have B9 := hid (B7.out.trans (b9.mono B7.out.size))
          have ST9 := hid (ST7.out.below b9)
          have HW9 := hid hw9
          clear hw9 b9 hQ9
          go_wp2_with fail
          rw [← HW9.out]
          refine HM1.out.mono ?_
          rintro e w10 ⟨rfl, rfl⟩
          clear HM1 HW9
          obtain ⟨w11, hw11⟩ : ∃ w11, w11 = w10.alloc (.cells #[.pointer none, .pointer (some ⟨b, 0, none⟩)] 25) := ⟨_, rfl⟩
          have b11 : Below w10.heap.size w10 w11 := by rw [hw11]; exact (Below.refl _ _).alloc (Nat.le_refl _) _
          have hQ11 : Two w11 w10.heap.size (.pointer none) (.pointer (some ⟨b, 0, none⟩)) := by unfold Two; rw [hw11]; exact heap_alloc_new _ _
          have HM2 := hid (merge_nil w10.heap.size w11 (contains_first _ _ w11 hQ11))
          have B11 := hid (B9.out.trans (b11.mono B9.out.size))
          have ST11 := hid (ST9.out.below b11)
          have HW11 := hid hw11
          clear hw11 b11 hQ11
          go_wp2_with fail
          rw [← HW11.out]
          refine HM2.out.mono ?_
          rintro e w12 ⟨rfl, rfl⟩
          clear HM2 HW11
          obtain ⟨w13, hw13⟩ : ∃ w13, w13 = w12.alloc (.cells #[.pointer (some ⟨b, 0, none⟩), .pointer (some ⟨b, 0, none⟩)] 25) := ⟨_, rfl⟩
          have b13 : Below w12.heap.size w12 w13 := by rw [hw13]; exact (Below.refl _ _).alloc (Nat.le_refl _) _
          have hQ13 : Two w13 w12.heap.size (.pointer (some ⟨b, 0, none⟩)) (.pointer (some ⟨b, 0, none⟩)) := by unfold Two; rw [hw13]; exact heap_alloc_new _ _
          have HM3 := hid (merge_two w12.heap.size b g b g S S w13 hQ13 (ST11.out.below b13) (ST11.out.below b13))
          have B13 := hid (B11.out.trans (b13.mono B11.out.size))
          have HW13 := hid hw13
          clear hw13 b13 hQ13
          go_wp2_with fail
          rw [← HW13.out]
          refine HM3.out.mono ?_
          rintro e w14 ⟨-, hno, hb14⟩
          obtain rfl := hno HFT.out
          have B14 := hid (B13.out.trans (hb14.mono B13.out.size))
          clear hno hb14 HM3 HW13
          go_wp2_with fail
          refine (lives_any _).mono ?_
          rintro e w15 ⟨rfl, hb15⟩
          have B15 := hid (B14.out.trans (hb15.mono B14.out.size))
          clear hb15
          go_wp2_with fail
          go_ret
          exact ⟨rfl, B1.out.trans (B15.out.mono B1.out.size)⟩
        · have hd1 : decide (S.from' ≤ k0) = true := decide_eq_true (by omega)
          by_cases hk2 : S.to ≤ k0
          · have hd2 : decide (k0 < S.to) = false := decide_eq_false (by omega)
            obtain ⟨hBE, hME⟩ := e_out (S := S) k1 (.inr hk2)
            obtain ⟨-, -, -, -, z0, z1⟩ := SW.out W BW.out
            obtain ⟨s0, s1⟩ := SP.out W BWP.out
            go_wp2_with fail
            refine (block_any b g S k0 W STW.out).mono ?_
            rintro e w6 ⟨rfl, hb6⟩
            rw [hBE]
            have B6 := hid (BW.out.trans (hb6.mono BW.out.size))
            have ST6 := hid (STW.out.below hb6)
            clear z0 z1 s0 s1 hb6
            obtain ⟨-, -, -, -, z0, z1⟩ := SW.out w6 B6.out
            go_wp2_with fail
            refine (mark_any b g S k0 k1 w6 ST6.out).mono ?_
            rintro e w7 ⟨rfl, hb7⟩
            rw [hME]
            have B7 := hid (B6.out.trans (hb7.mono B6.out.size))
            have ST7 := hid (ST6.out.below hb7)
            clear z0 z1 hb7
            obtain ⟨-, -, -, -, z0, z1⟩ := SW.out w7 B7.out
            go_wp2_with fail
            refine (merge_none w7).mono ?_
            rintro e w8 ⟨rfl, rfl⟩
            clear z0 z1
            obtain ⟨w9, hw9⟩ : ∃ w9, w9 = w8.alloc (.cells #[.pointer (some ⟨b, 0, none⟩), .pointer none] 25) := ⟨_, rfl⟩
            have b9 : Below w8.heap.size w8 w9 := by rw [hw9]; exact (Below.refl _ _).alloc (Nat.le_refl _) _
            have hQ9 : Two w9 w8.heap.size (.pointer (some ⟨b, 0, none⟩)) (.pointer none) := by unfold Two; rw [hw9]; exact heap_alloc_new _ _
            have HM1 := hid (merge_nil w8.heap.size w9 (contains_second _ _ w9 hQ9))
            have B9 := hid (B7.out.trans (b9.mono B7.out.size))
            have ST9 := hid (ST7.out.below b9)
            have HW9 := hid hw9
            clear hw9 b9 hQ9
            go_wp2_with fail
            rw [← HW9.out]
            refine HM1.out.mono ?_
            rintro e w10 ⟨rfl, rfl⟩
            clear HM1 HW9
            obtain ⟨w11, hw11⟩ : ∃ w11, w11 = w10.alloc (.cells #[.pointer none, .pointer (some ⟨b, 0, none⟩)] 25) := ⟨_, rfl⟩
            have b11 : Below w10.heap.size w10 w11 := by rw [hw11]; exact (Below.refl _ _).alloc (Nat.le_refl _) _
            have hQ11 : Two w11 w10.heap.size (.pointer none) (.pointer (some ⟨b, 0, none⟩)) := by unfold Two; rw [hw11]; exact heap_alloc_new _ _
            have HM2 := hid (merge_nil w10.heap.size w11 (contains_first _ _ w11 hQ11))
            have B11 := hid (B9.out.trans (b11.mono B9.out.size))
            have ST11 := hid (ST9.out.below b11)
            have HW11 := hid hw11
            clear hw11 b11 hQ11
            go_wp2_with fail
            rw [← HW11.out]
            refine HM2.out.mono ?_
            rintro e w12 ⟨rfl, rfl⟩
            clear HM2 HW11
            obtain ⟨w13, hw13⟩ : ∃ w13, w13 = w12.alloc (.cells #[.pointer (some ⟨b, 0, none⟩), .pointer (some ⟨b, 0, none⟩)] 25) := ⟨_, rfl⟩
            have b13 : Below w12.heap.size w12 w13 := by rw [hw13]; exact (Below.refl _ _).alloc (Nat.le_refl _) _
            have hQ13 : Two w13 w12.heap.size (.pointer (some ⟨b, 0, none⟩)) (.pointer (some ⟨b, 0, none⟩)) := by unfold Two; rw [hw13]; exact heap_alloc_new _ _
            have HM3 := hid (merge_two w12.heap.size b g b g S S w13 hQ13 (ST11.out.below b13) (ST11.out.below b13))
            have B13 := hid (B11.out.trans (b13.mono B11.out.size))
            have HW13 := hid hw13
            clear hw13 b13 hQ13
            go_wp2_with fail
            rw [← HW13.out]
            refine HM3.out.mono ?_
            rintro e w14 ⟨-, hno, hb14⟩
            obtain rfl := hno HFT.out
            have B14 := hid (B13.out.trans (hb14.mono B13.out.size))
            clear hno hb14 HM3 HW13
            go_wp2_with fail
            refine (lives_any _).mono ?_
            rintro e w15 ⟨rfl, hb15⟩
            have B15 := hid (B14.out.trans (hb15.mono B14.out.size))
            clear hb15
            go_wp2_with fail
            go_ret
            exact ⟨rfl, B1.out.trans (B15.out.mono B1.out.size)⟩
          · have hd2 : decide (k0 < S.to) = true := decide_eq_true (by omega)
            have hBE := e_in (S := S) (k := k0) (by omega)
            have hME := e_mark (S := S) (k := k0) (m := k1) (by omega)
            by_cases hm1 : k1 < 0
            · have hd3 : decide (0 ≤ k1) = false := decide_eq_false (by omega)
              rw [if_neg (by omega)] at hME
              obtain ⟨-, -, -, -, z0, z1⟩ := SW.out W BW.out
              obtain ⟨s0, s1⟩ := SP.out W BWP.out
              go_wp2_with fail
              refine (block_any b g S k0 W STW.out).mono ?_
              rintro e w6 ⟨rfl, hb6⟩
              rw [hBE]
              have B6 := hid (BW.out.trans (hb6.mono BW.out.size))
              have ST6 := hid (STW.out.below hb6)
              clear z0 z1 s0 s1 hb6
              obtain ⟨-, -, -, -, z0, z1⟩ := SW.out w6 B6.out
              go_wp2_with fail
              refine (mark_any b g S k0 k1 w6 ST6.out).mono ?_
              rintro e w7 ⟨rfl, hb7⟩
              rw [hME]
              have B7 := hid (B6.out.trans (hb7.mono B6.out.size))
              have ST7 := hid (ST6.out.below hb7)
              clear z0 z1 hb7
              obtain ⟨-, -, -, -, z0, z1⟩ := SW.out w7 B7.out
              go_wp2_with fail
              refine (merge_none w7).mono ?_
              rintro e w8 ⟨rfl, rfl⟩
              clear z0 z1
              obtain ⟨w9, hw9⟩ : ∃ w9, w9 = w8.alloc (.cells #[.pointer (some ⟨b, 0, none⟩), .pointer none] 25) := ⟨_, rfl⟩
              have b9 : Below w8.heap.size w8 w9 := by rw [hw9]; exact (Below.refl _ _).alloc (Nat.le_refl _) _
              have hQ9 : Two w9 w8.heap.size (.pointer (some ⟨b, 0, none⟩)) (.pointer none) := by unfold Two; rw [hw9]; exact heap_alloc_new _ _
              have HM1 := hid (merge_nil w8.heap.size w9 (contains_second _ _ w9 hQ9))
              have B9 := hid (B7.out.trans (b9.mono B7.out.size))
              have ST9 := hid (ST7.out.below b9)
              have HW9 := hid hw9
              clear hw9 b9 hQ9
              go_wp2_with fail
              rw [← HW9.out]
              refine HM1.out.mono ?_
              rintro e w10 ⟨rfl, rfl⟩
              clear HM1 HW9
              obtain ⟨w11, hw11⟩ : ∃ w11, w11 = w10.alloc (.cells #[.pointer none, .pointer (some ⟨b, 0, none⟩)] 25) := ⟨_, rfl⟩
              have b11 : Below w10.heap.size w10 w11 := by rw [hw11]; exact (Below.refl _ _).alloc (Nat.le_refl _) _
              have hQ11 : Two w11 w10.heap.size (.pointer none) (.pointer (some ⟨b, 0, none⟩)) := by unfold Two; rw [hw11]; exact heap_alloc_new _ _
              have HM2 := hid (merge_nil w10.heap.size w11 (contains_first _ _ w11 hQ11))
              have B11 := hid (B9.out.trans (b11.mono B9.out.size))
              have ST11 := hid (ST9.out.below b11)
              have HW11 := hid hw11
              clear hw11 b11 hQ11
              go_wp2_with fail
              rw [← HW11.out]
              refine HM2.out.mono ?_
              rintro e w12 ⟨rfl, rfl⟩
              clear HM2 HW11
              obtain ⟨w13, hw13⟩ : ∃ w13, w13 = w12.alloc (.cells #[.pointer (some ⟨b, 0, none⟩), .pointer (some ⟨b, 0, none⟩)] 25) := ⟨_, rfl⟩
              have b13 : Below w12.heap.size w12 w13 := by rw [hw13]; exact (Below.refl _ _).alloc (Nat.le_refl _) _
              have hQ13 : Two w13 w12.heap.size (.pointer (some ⟨b, 0, none⟩)) (.pointer (some ⟨b, 0, none⟩)) := by unfold Two; rw [hw13]; exact heap_alloc_new _ _
              have HM3 := hid (merge_two w12.heap.size b g b g S S w13 hQ13 (ST11.out.below b13) (ST11.out.below b13))
              have B13 := hid (B11.out.trans (b13.mono B11.out.size))
              have HW13 := hid hw13
              clear hw13 b13 hQ13
              go_wp2_with fail
              rw [← HW13.out]
              refine HM3.out.mono ?_
              rintro e w14 ⟨-, hno, hb14⟩
              obtain rfl := hno HFT.out
              have B14 := hid (B13.out.trans (hb14.mono B13.out.size))
              clear hno hb14 HM3 HW13
              go_wp2_with fail
              refine (lives_any _).mono ?_
              rintro e w15 ⟨rfl, hb15⟩
              have B15 := hid (B14.out.trans (hb15.mono B14.out.size))
              clear hb15
              go_wp2_with fail
              go_ret
              exact ⟨rfl, B1.out.trans (B15.out.mono B1.out.size)⟩
            · have hd3 : decide (0 ≤ k1) = true := decide_eq_true (by omega)
              by_cases hm2 : k1 < 4
              · have hd4 : decide (k1 < 4) = true := decide_eq_true hm2
                rw [if_pos (by omega)] at hME
                obtain ⟨-, -, -, -, z0, z1⟩ := SW.out W BW.out
                obtain ⟨s0, s1⟩ := SP.out W BWP.out
                go_wp2_with fail
                refine (block_any b g S k0 W STW.out).mono ?_
                rintro e w6 ⟨rfl, hb6⟩
                rw [hBE]
                have B6 := hid (BW.out.trans (hb6.mono BW.out.size))
                have ST6 := hid (STW.out.below hb6)
                clear z0 z1 s0 s1 hb6
                obtain ⟨-, -, -, -, z0, z1⟩ := SW.out w6 B6.out
                go_wp2_with fail
                refine (mark_any b g S k0 k1 w6 ST6.out).mono ?_
                rintro e w7 ⟨rfl, hb7⟩
                rw [hME]
                have B7 := hid (B6.out.trans (hb7.mono B6.out.size))
                have ST7 := hid (ST6.out.below hb7)
                clear z0 z1 hb7
                obtain ⟨-, -, -, -, z0, z1⟩ := SW.out w7 B7.out
                go_wp2_with fail
                refine (merge_none w7).mono ?_
                rintro e w8 ⟨rfl, rfl⟩
                clear z0 z1
                obtain ⟨w9, hw9⟩ : ∃ w9, w9 = w8.alloc (.cells #[.pointer (some ⟨b, 0, none⟩), .pointer none] 25) := ⟨_, rfl⟩
                have b9 : Below w8.heap.size w8 w9 := by rw [hw9]; exact (Below.refl _ _).alloc (Nat.le_refl _) _
                have hQ9 : Two w9 w8.heap.size (.pointer (some ⟨b, 0, none⟩)) (.pointer none) := by unfold Two; rw [hw9]; exact heap_alloc_new _ _
                have HM1 := hid (merge_nil w8.heap.size w9 (contains_second _ _ w9 hQ9))
                have B9 := hid (B7.out.trans (b9.mono B7.out.size))
                have ST9 := hid (ST7.out.below b9)
                have HW9 := hid hw9
                clear hw9 b9 hQ9
                go_wp2_with fail
                rw [← HW9.out]
                refine HM1.out.mono ?_
                rintro e w10 ⟨rfl, rfl⟩
                clear HM1 HW9
                obtain ⟨w11, hw11⟩ : ∃ w11, w11 = w10.alloc (.cells #[.pointer none, .pointer (some ⟨b, 0, none⟩)] 25) := ⟨_, rfl⟩
                have b11 : Below w10.heap.size w10 w11 := by rw [hw11]; exact (Below.refl _ _).alloc (Nat.le_refl _) _
                have hQ11 : Two w11 w10.heap.size (.pointer none) (.pointer (some ⟨b, 0, none⟩)) := by unfold Two; rw [hw11]; exact heap_alloc_new _ _
                have HM2 := hid (merge_nil w10.heap.size w11 (contains_first _ _ w11 hQ11))
                have B11 := hid (B9.out.trans (b11.mono B9.out.size))
                have ST11 := hid (ST9.out.below b11)
                have HW11 := hid hw11
                clear hw11 b11 hQ11
                go_wp2_with fail
                rw [← HW11.out]
                refine HM2.out.mono ?_
                rintro e w12 ⟨rfl, rfl⟩
                clear HM2 HW11
                obtain ⟨w13, hw13⟩ : ∃ w13, w13 = w12.alloc (.cells #[.pointer (some ⟨b, 0, none⟩), .pointer (some ⟨b, 0, none⟩)] 25) := ⟨_, rfl⟩
                have b13 : Below w12.heap.size w12 w13 := by rw [hw13]; exact (Below.refl _ _).alloc (Nat.le_refl _) _
                have hQ13 : Two w13 w12.heap.size (.pointer (some ⟨b, 0, none⟩)) (.pointer (some ⟨b, 0, none⟩)) := by unfold Two; rw [hw13]; exact heap_alloc_new _ _
                have HM3 := hid (merge_two w12.heap.size b g b g S S w13 hQ13 (ST11.out.below b13) (ST11.out.below b13))
                have B13 := hid (B11.out.trans (b13.mono B11.out.size))
                have HW13 := hid hw13
                clear hw13 b13 hQ13
                go_wp2_with fail
                rw [← HW13.out]
                refine HM3.out.mono ?_
                rintro e w14 ⟨-, hno, hb14⟩
                obtain rfl := hno HFT.out
                have B14 := hid (B13.out.trans (hb14.mono B13.out.size))
                clear hno hb14 HM3 HW13
                go_wp2_with fail
                refine (lives_any _).mono ?_
                rintro e w15 ⟨rfl, hb15⟩
                have B15 := hid (B14.out.trans (hb15.mono B14.out.size))
                clear hb15
                go_wp2_with fail
                go_ret
                exact ⟨rfl, B1.out.trans (B15.out.mono B1.out.size)⟩
              · have hd4 : decide (k1 < 4) = false := decide_eq_false hm2
                rw [if_neg (by omega)] at hME
                obtain ⟨-, -, -, -, z0, z1⟩ := SW.out W BW.out
                obtain ⟨s0, s1⟩ := SP.out W BWP.out
                go_wp2_with fail
                refine (block_any b g S k0 W STW.out).mono ?_
                rintro e w6 ⟨rfl, hb6⟩
                rw [hBE]
                have B6 := hid (BW.out.trans (hb6.mono BW.out.size))
                have ST6 := hid (STW.out.below hb6)
                clear z0 z1 s0 s1 hb6
                obtain ⟨-, -, -, -, z0, z1⟩ := SW.out w6 B6.out
                go_wp2_with fail
                refine (mark_any b g S k0 k1 w6 ST6.out).mono ?_
                rintro e w7 ⟨rfl, hb7⟩
                rw [hME]
                have B7 := hid (B6.out.trans (hb7.mono B6.out.size))
                have ST7 := hid (ST6.out.below hb7)
                clear z0 z1 hb7
                obtain ⟨-, -, -, -, z0, z1⟩ := SW.out w7 B7.out
                go_wp2_with fail
                refine (merge_none w7).mono ?_
                rintro e w8 ⟨rfl, rfl⟩
                clear z0 z1
                obtain ⟨w9, hw9⟩ : ∃ w9, w9 = w8.alloc (.cells #[.pointer (some ⟨b, 0, none⟩), .pointer none] 25) := ⟨_, rfl⟩
                have b9 : Below w8.heap.size w8 w9 := by rw [hw9]; exact (Below.refl _ _).alloc (Nat.le_refl _) _
                have hQ9 : Two w9 w8.heap.size (.pointer (some ⟨b, 0, none⟩)) (.pointer none) := by unfold Two; rw [hw9]; exact heap_alloc_new _ _
                have HM1 := hid (merge_nil w8.heap.size w9 (contains_second _ _ w9 hQ9))
                have B9 := hid (B7.out.trans (b9.mono B7.out.size))
                have ST9 := hid (ST7.out.below b9)
                have HW9 := hid hw9
                clear hw9 b9 hQ9
                go_wp2_with fail
                rw [← HW9.out]
                refine HM1.out.mono ?_
                rintro e w10 ⟨rfl, rfl⟩
                clear HM1 HW9
                obtain ⟨w11, hw11⟩ : ∃ w11, w11 = w10.alloc (.cells #[.pointer none, .pointer (some ⟨b, 0, none⟩)] 25) := ⟨_, rfl⟩
                have b11 : Below w10.heap.size w10 w11 := by rw [hw11]; exact (Below.refl _ _).alloc (Nat.le_refl _) _
                have hQ11 : Two w11 w10.heap.size (.pointer none) (.pointer (some ⟨b, 0, none⟩)) := by unfold Two; rw [hw11]; exact heap_alloc_new _ _
                have HM2 := hid (merge_nil w10.heap.size w11 (contains_first _ _ w11 hQ11))
                have B11 := hid (B9.out.trans (b11.mono B9.out.size))
                have ST11 := hid (ST9.out.below b11)
                have HW11 := hid hw11
                clear hw11 b11 hQ11
                go_wp2_with fail
                rw [← HW11.out]
                refine HM2.out.mono ?_
                rintro e w12 ⟨rfl, rfl⟩
                clear HM2 HW11
                obtain ⟨w13, hw13⟩ : ∃ w13, w13 = w12.alloc (.cells #[.pointer (some ⟨b, 0, none⟩), .pointer (some ⟨b, 0, none⟩)] 25) := ⟨_, rfl⟩
                have b13 : Below w12.heap.size w12 w13 := by rw [hw13]; exact (Below.refl _ _).alloc (Nat.le_refl _) _
                have hQ13 : Two w13 w12.heap.size (.pointer (some ⟨b, 0, none⟩)) (.pointer (some ⟨b, 0, none⟩)) := by unfold Two; rw [hw13]; exact heap_alloc_new _ _
                have HM3 := hid (merge_two w12.heap.size b g b g S S w13 hQ13 (ST11.out.below b13) (ST11.out.below b13))
                have B13 := hid (B11.out.trans (b13.mono B11.out.size))
                have HW13 := hid hw13
                clear hw13 b13 hQ13
                go_wp2_with fail
                rw [← HW13.out]
                refine HM3.out.mono ?_
                rintro e w14 ⟨-, hno, hb14⟩
                obtain rfl := hno HFT.out
                have B14 := hid (B13.out.trans (hb14.mono B13.out.size))
                clear hno hb14 HM3 HW13
                go_wp2_with fail
                refine (lives_any _).mono ?_
                rintro e w15 ⟨rfl, hb15⟩
                have B15 := hid (B14.out.trans (hb15.mono B14.out.size))
                clear hb15
                go_wp2_with fail
                go_ret
                exact ⟨rfl, B1.out.trans (B15.out.mono B1.out.size)⟩
end Go.Proofs.Ytappdhgabbjoiaa
