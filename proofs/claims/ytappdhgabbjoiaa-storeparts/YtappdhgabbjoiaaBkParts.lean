/- For any span, any commands (the first 30) and any place: a store that is cut in two there and merged is the same, but not frozen. -/
import Derived.Test.YtappdhgabbjoiaaBkPlay
import Derived.Test.YtappdhgabbjoiaaBkAlike
import Derived.Test.YtappdhgabbjoiaaBkSmall
import Derived.Test.YtappdhgabbjoiaaBkMerge2
namespace Go.Proofs.Ytappdhgabbjoiaa
open Go.RowKit
set_option linter.unusedVariables false
set_option linter.unusedSimpArgs false

theorem pcF_take (S : StD) (d cnt : Nat) (h : d + cnt ≤ S.cells.length) : pcF S d (List.finRange cnt) = (S.cells.drop d).take cnt := by
  apply List.ext_getElem
  · rw [pcF_len]; simp; omega
  · intro i h1 h2
    rw [pcF_len] at h1
    have h1' : i < cnt := by simpa using h1
    simp [pcF, List.getD, List.getElem?_eq_getElem (show d + i < S.cells.length by omega)]
/-- The document's store, thawed. -/
theorem RSt.thaw {w : World} {base X : Nat} {vt vm : Value} {ks : List Nat} {S : StD} (h : RSt w base X vt vm ks S) : RSt (w.setCell ⟨X, 2, none⟩ (.bool false)) base X vt vm ks ⟨S.from', S.to, false, S.cells⟩ := by
  have k : Kt [60] w (w.setCell ⟨X, 2, none⟩ (.bool false)) := (Kt.refl _ _).set X 2 _ h.head (by simp)
  refine ⟨?_, own_kt h.texts k (by decide), own_kt h.rows k (by decide), h.n, fun j h1 h2 => ?_, h.nd⟩
  · have := heap_setCell_same w X 2 _ 60 (.bool false) h.head
    rw [this]; simp
  · obtain ⟨a, b⟩ := h.marks j h1 h2
    exact ⟨a, (k _ _ _ _ b (by decide)).trans b⟩
set_option maxRecDepth 100000 in
set_option maxHeartbeats 8000000 in
theorem parts_any (x : Sp) (v : Value) (l : List (CmdD × Value)) (y : Nat) (w : World) (hl : Cmds w v l) (hz : ∀ y ∈ l, CmdJ y.1) (hy : (y : Int) ≤ 18446744073709551615) :
    Calls Try.prog 7 #[.agg #[.int .i64 x.1, .int .i64 x.2], v, .int .u64 (y : Int)] w fun e w' => e = .returned (.bool true) ∧ Below w.heap.size w w' := by
  obtain ⟨va, vc, rfl⟩ := hl.shape
  obtain ⟨f, t⟩ := x
  have HC := hid hl
  have HZ := hid hz
  clear hl hz
  obtain ⟨w1, hw1⟩ : ∃ w1, w1 = w.alloc (.cells #[.int .i64 f, .int .i64 t] 23) := ⟨_, rfl⟩
  have hb1 : Below w.heap.size w w1 := by rw [hw1]; exact (Below.refl _ _).alloc (Nat.le_refl _) _
  have hA : w1.heap[w.heap.size]? = some (.cells #[.int .i64 f, .int .i64 t] 23 (0, 0)) := by rw [hw1]; exact heap_alloc_new _ _
  have HW1 := hid hw1
  have B1 := hid hb1
  clear hw1 hb1
  go_enter Try.func7, Try.ntmps7
  go_upto_region 1 with fail
  rw [← HW1.out]
  obtain ⟨A, hAe⟩ : ∃ A, A = w.heap.size := ⟨_, rfl⟩
  rw [← hAe] at hA
  rw [← hAe]
  clear hAe HW1
  have x0 : w1.cell? ⟨A, 0, none⟩ = some (.int .i64 f) := by rw [cell_of_row _ _ _ _ _ _ hA]; rfl
  have x1 : w1.cell? ⟨A, 1, none⟩ = some (.int .i64 t) := by rw [cell_of_row _ _ _ _ _ _ hA]; rfl
  clear hA
  go_wp2_with fail
  refine (small_any (f, t) _).mono ?_
  rintro e w2 ⟨⟨p, q⟩, rfl, hm, hb2⟩
  have B2 := hid (B1.out.trans (hb2.mono B1.out.size))
  have HM := hid hm
  clear hb2 hm x0 x1
  go_wp2_with fail
  refine (play_any (p, q) _ l 30 w2 HM.out (HC.out.below B2.out) HZ.out).mono ?_
  rintro e w3 ⟨b, g, base, X, vt, vm, ks, S, rfl, -, -, hX, -, -, -, hps⟩
  have PS3 := hid hps
  have B3 := hid (B2.out.trans (hps.bel.mono B2.out.size))
  have HXw : Hid (w.heap.size ≤ X) := hid (Nat.le_trans B2.out.size hX)
  clear hps hX HC HZ
  go_wp2_with fail
  refine (bspan_any b g S w3 PS3.out.st).mono ?_
  rintro e w4 ⟨rfl, hb4⟩
  have PS4 := hid (PS3.out.later hb4)
  have B4 := hid (B3.out.trans (hb4.mono B3.out.size))
  clear hb4 PS3 B3
  have hSf := PS4.out.st.i.f
  have hSt := PS4.out.st.i.t
  have hSft := PS4.out.st.i.ft
  have hSn := PS4.out.st.i.n
  obtain ⟨n, hn⟩ : ∃ n, n = S.cells.length := ⟨_, rfl⟩
  rw [← hn] at hSn
  have HN := hid hn
  clear hn
  have hn0 : 0 < n := by omega
  obtain ⟨r, hr⟩ : ∃ r, r = y % n := ⟨_, rfl⟩
  have hrn : r < n := by rw [hr]; exact Nat.mod_lt _ hn0
  obtain ⟨w5, hw5⟩ : ∃ w5, w5 = w4.alloc (.cells #[.int .i64 S.from', .int .i64 S.to] 23) := ⟨_, rfl⟩
  have b5 : Below w4.heap.size w4 w5 := by rw [hw5]; exact (Below.refl _ _).alloc (Nat.le_refl _) _
  have h55 : w5.heap[w4.heap.size]? = some (.cells #[.int .i64 S.from', .int .i64 S.to] 23 (0, 0)) := by rw [hw5]; exact heap_alloc_new _ _
  have HW5 := hid hw5
  have PS5 := hid (PS4.out.later b5)
  have B5 := hid (B4.out.trans (b5.mono B4.out.size))
  clear hw5 b5 PS4 B4
  go_upto_region 5 with fail
  rw [← HW5.out]
  obtain ⟨Bp, hBp⟩ : ∃ Bp, Bp = w4.heap.size := ⟨_, rfl⟩
  rw [← hBp] at h55
  rw [← hBp]
  clear hBp HW5
  have H55 := hid h55
  have s0 : w5.cell? ⟨Bp, 0, none⟩ = some (.int .i64 S.from') := by rw [cell_of_row _ _ _ _ _ _ h55]; rfl
  have s1 : w5.cell? ⟨Bp, 1, none⟩ = some (.int .i64 S.to) := by rw [cell_of_row _ _ _ _ _ _ h55]; rfl
  have hge : decide (S.to ≤ S.from') = false := decide_eq_false (by omega)
  have hw1 : IntKind.i64.wrap (S.to - S.from') = (n : Int) := by rw [IntWalk.i64_in _ ⟨by omega, by omega⟩]; omega
  have hw2 : IntKind.u64.wrap (n : Int) = (n : Int) := IntWalk.u64_in _ (by omega)
  have hw3 : ((y : Int).tmod (n : Int)) = (r : Int) := by rw [hr]; rfl
  have hw4 : IntKind.i64.wrap (r : Int) = (r : Int) := IntWalk.i64_in _ ⟨by omega, by omega⟩
  have hw5 : IntKind.i64.wrap (S.from' + (r : Int)) = S.from' + (r : Int) := IntWalk.i64_in _ ⟨by omega, by omega⟩
  have hnz : ((n : Int) == 0) = false := by simp; omega
  have hnz2 : ¬ (n : Int) = 0 := by omega
  have HSN := hid hSn
  clear h55 hSn hr
  go_upto_region 7 with fail
  go_quiet (fail)
  generalize hW : w5.drewN _ = W
  have hBW : Below w5.heap.size w5 W := by rw [← hW]; exact belowN _ _
  have PS6 := hid (PS5.out.later hBW)
  have B6 := hid (B5.out.trans (hBW.mono B5.out.size))
  have H56 := hid ((hBW.block Bp (lt_of_block H55.out)).trans H55.out)
  clear hW hBW s0 s1 PS5 B5 H55
  have s0 : W.cell? ⟨Bp, 0, none⟩ = some (.int .i64 S.from') := by rw [cell_of_row _ _ _ _ _ _ H56.out]; rfl
  have s1 : W.cell? ⟨Bp, 1, none⟩ = some (.int .i64 S.to) := by rw [cell_of_row _ _ _ _ _ _ H56.out]; rfl
  have HP1 := hid (fun WW (h : St WW b g S) => part_in b g S (S.from' + (r : Int), S.to) r (n - r) WW h (by rfl) (by have := HSN.out; show S.to = S.from' + (r : Int) + ((n - r : Nat) : Int); omega) (by rw [← HN.out]; omega) (by omega))
  have HPC : Hid (pcF S r (List.finRange (n - r)) = S.cells.drop r) := hid (by rw [pcF_take S r (n - r) (by rw [← HN.out]; omega), List.take_of_length_le (by simp; rw [← HN.out]; omega)])
  go_wp2_with fail
  refine (HP1.out W PS6.out.st).mono ?_
  rintro e w7 ⟨pb, gb, rfl, hpb, hgb, hst7, hb7⟩
  rw [HPC.out] at hst7
  have SB7 := hid hst7
  have PS7 := hid (PS6.out.later hb7)
  have B7 := hid (B6.out.trans (hb7.mono B6.out.size))
  have H57 := hid ((hb7.block Bp (lt_of_block H56.out)).trans H56.out)
  clear hst7 hpb hgb hb7 s0 s1 HP1 HPC H56 PS6 B6 hw1 hw2 hw3 hw4 hw5 hnz hnz2 hge
  have s0 : w7.cell? ⟨Bp, 0, none⟩ = some (.int .i64 S.from') := by rw [cell_of_row _ _ _ _ _ _ H57.out]; rfl
  have s1 : w7.cell? ⟨Bp, 1, none⟩ = some (.int .i64 S.to) := by rw [cell_of_row _ _ _ _ _ _ H57.out]; rfl
  by_cases hr0 : r = 0
  · have hd : decide (S.from' < S.from' + (r : Int)) = false := decide_eq_false (by omega)
    obtain ⟨WZ, hWZ⟩ : ∃ WZ, WZ = w7 := ⟨_, rfl⟩
    have SZ : Hid (St WZ pb gb ⟨S.from', S.to, false, S.cells⟩) := hid (by
      have := SB7.out
      rw [hr0] at this
      simp only [Int.natCast_zero, Int.add_zero, List.drop_zero] at this
      rw [hWZ]; exact this)
    have RZ := hid PS7.out.rst
    have BZ := B7
    rw [← hWZ] at RZ BZ s0 s1
    rw [← hWZ]
    have HR0 := hid hr0
    clear hr0 hWZ SB7 PS7 B7 H57
    go_upto_region 19 with fail
    have hX2 := RZ.out.head
    have fX : WZ.frozen? ⟨X, 2, none⟩ = false := by simp [World.frozen?, hX2]
    have cX : WZ.cell? ⟨X, 2, none⟩ = some (.bool S.fr) := by rw [cell_of_row _ _ _ _ _ _ hX2]; rfl
    obtain ⟨WY, hWY⟩ : ∃ WY, WY = WZ.setCell ⟨X, 2, none⟩ (.bool false) := ⟨_, rfl⟩
    have RY : Hid (RSt WY base X vt vm ks ⟨S.from', S.to, false, S.cells⟩) := hid (by rw [hWY]; exact RZ.out.thaw)
    have KY : Kt [60] WZ WY := by rw [hWY]; exact (Kt.refl _ _).set X 2 _ hX2 (by simp)
    have SY := hid (KY.st SZ.out (by decide))
    have BY : Hid (Below w.heap.size w WY) := hid (by rw [hWY]; exact BZ.out.setCell (p := ⟨X, 2, none⟩) HXw.out _)
    have HWY := hid hWY
    clear hWY KY hX2
    go_upto_region 20 with fail
    rw [← HWY.out]
    clear HWY fX cX
    go_wp2_with fail
    refine (alike_any _ _ base X vt vm ks ⟨S.from', S.to, false, S.cells⟩ WY SY.out RY.out).mono ?_
    rintro e w18 ⟨rfl, hb18⟩
    have B18 := hid (BY.out.trans (hb18.mono BY.out.size))
    clear hb18
    go_wp2_with fail
    refine (lives_any _).mono ?_
    rintro e w19 ⟨rfl, hb19⟩
    have B19 := hid (B18.out.trans (hb19.mono B18.out.size))
    clear hb19
    go_wp2_with fail
    go_ret
    exact ⟨rfl, B19.out⟩
  · have hd : decide (S.from' < S.from' + (r : Int)) = true := decide_eq_true (by omega)
    have HP2 := hid (fun WW (h : St WW b g S) => part_in b g S (S.from', S.from' + (r : Int)) 0 r WW h (by show S.from' = S.from' + ((0 : Nat) : Int); omega) rfl (by rw [← HN.out]; omega) (by omega))
    have HPC : Hid (pcF S 0 (List.finRange r) = S.cells.take r) := hid (by rw [pcF_take S 0 r (by rw [← HN.out]; omega)]; simp)
    go_wp2_with fail
    refine (HP2.out w7 PS7.out.st).mono ?_
    rintro e w8 ⟨pa, ga, rfl, hpa, hga, hst8, hb8⟩
    rw [HPC.out] at hst8
    have SA8 := hid hst8
    have SB8 := hid (SB7.out.below hb8)
    have PS8 := hid (PS7.out.later hb8)
    have B8 := hid (B7.out.trans (hb8.mono B7.out.size))
    clear hst8 hpa hga hb8 HP2 HPC SB7 PS7 B7 H57 s0 s1 hd
    obtain ⟨w9, hw9⟩ : ∃ w9, w9 = w8.alloc (.cells #[.pointer (some ⟨pa, 0, none⟩), .pointer (some ⟨pb, 0, none⟩)] 25) := ⟨_, rfl⟩
    have b9 : Below w8.heap.size w8 w9 := by rw [hw9]; exact (Below.refl _ _).alloc (Nat.le_refl _) _
    have hQ9 : Two w9 w8.heap.size (.pointer (some ⟨pa, 0, none⟩)) (.pointer (some ⟨pb, 0, none⟩)) := by unfold Two; rw [hw9]; exact heap_alloc_new _ _
    have HM1 := hid (merge_two w8.heap.size pa ga pb gb _ _ w9 hQ9 (SA8.out.below b9) (SB8.out.below b9))
    have PS9 := hid (PS8.out.later b9)
    have B9 := hid (B8.out.trans (b9.mono B8.out.size))
    have SA9 := hid (SA8.out.below b9)
    have SB9 := hid (SB8.out.below b9)
    have HW9 := hid hw9
    clear hw9 b9 hQ9 SA8 SB8 PS8 B8
    go_wp2_with fail
    rw [← HW9.out]
    refine HM1.out.mono ?_
    rintro e w10 ⟨hyes, -, hb10⟩
    obtain ⟨pm, gm', rfl, hpm, hgm, hst10⟩ := hyes rfl
    simp only [List.take_append_drop] at hst10
    have SM10 := hid hst10
    have PS10 := hid (PS9.out.later hb10)
    have B10 := hid (B9.out.trans (hb10.mono B9.out.size))
    have SA10 := hid (SA9.out.below hb10)
    have SB10 := hid (SB9.out.below hb10)
    clear hyes hpm hgm hst10 hb10 HM1 HW9 PS9 B9 SA9 SB9
    obtain ⟨w11, hw11⟩ : ∃ w11, w11 = w10.alloc (.cells #[.pointer (some ⟨pb, 0, none⟩), .pointer (some ⟨pa, 0, none⟩)] 25) := ⟨_, rfl⟩
    have b11 : Below w10.heap.size w10 w11 := by rw [hw11]; exact (Below.refl _ _).alloc (Nat.le_refl _) _
    have hQ11 : Two w11 w10.heap.size (.pointer (some ⟨pb, 0, none⟩)) (.pointer (some ⟨pa, 0, none⟩)) := by unfold Two; rw [hw11]; exact heap_alloc_new _ _
    have HM2 := hid (merge_two w10.heap.size pb gb pa ga _ _ w11 hQ11 (SB10.out.below b11) (SA10.out.below b11))
    have PS11 := hid (PS10.out.later b11)
    have B11 := hid (B10.out.trans (b11.mono B10.out.size))
    have SM11 := hid (SM10.out.below b11)
    have HW11 := hid hw11
    clear hw11 b11 hQ11 SA10 SB10 PS10 B10 SM10
    go_wp2_with fail
    rw [← HW11.out]
    refine HM2.out.mono ?_
    rintro e w12 ⟨-, hno, hb12⟩
    have hne : S.from' ≠ S.to := by omega
    obtain rfl := hno hne
    obtain ⟨WZ, hWZ⟩ : ∃ WZ, WZ = w12 := ⟨_, rfl⟩
    rw [← hWZ]
    have SZ : Hid (St WZ pm gm' ⟨S.from', S.to, false, S.cells⟩) := hid (by rw [hWZ]; exact SM11.out.below hb12)
    have RZ : Hid (RSt WZ base X vt vm ks S) := hid (by rw [hWZ]; exact PS11.out.rst.below hb12)
    have BZ : Hid (Below w.heap.size w WZ) := hid (by rw [hWZ]; exact B11.out.trans (hb12.mono B11.out.size))
    clear hWZ hno hb12 HM2 HW11 PS11 B11 SM11 hne
    go_upto_region 19 with fail
    have hX2 := RZ.out.head
    have fX : WZ.frozen? ⟨X, 2, none⟩ = false := by simp [World.frozen?, hX2]
    have cX : WZ.cell? ⟨X, 2, none⟩ = some (.bool S.fr) := by rw [cell_of_row _ _ _ _ _ _ hX2]; rfl
    obtain ⟨WY, hWY⟩ : ∃ WY, WY = WZ.setCell ⟨X, 2, none⟩ (.bool false) := ⟨_, rfl⟩
    have RY : Hid (RSt WY base X vt vm ks ⟨S.from', S.to, false, S.cells⟩) := hid (by rw [hWY]; exact RZ.out.thaw)
    have KY : Kt [60] WZ WY := by rw [hWY]; exact (Kt.refl _ _).set X 2 _ hX2 (by simp)
    have SY := hid (KY.st SZ.out (by decide))
    have BY : Hid (Below w.heap.size w WY) := hid (by rw [hWY]; exact BZ.out.setCell (p := ⟨X, 2, none⟩) HXw.out _)
    have HWY := hid hWY
    clear hWY KY hX2
    go_upto_region 20 with fail
    rw [← HWY.out]
    clear HWY fX cX
    go_wp2_with fail
    refine (alike_any _ _ base X vt vm ks ⟨S.from', S.to, false, S.cells⟩ WY SY.out RY.out).mono ?_
    rintro e w18 ⟨rfl, hb18⟩
    have B18 := hid (BY.out.trans (hb18.mono BY.out.size))
    clear hb18
    go_wp2_with fail
    refine (lives_any _).mono ?_
    rintro e w19 ⟨rfl, hb19⟩
    have B19 := hid (B18.out.trans (hb19.mono B18.out.size))
    clear hb19
    go_wp2_with fail
    go_ret
    exact ⟨rfl, B19.out⟩
end Go.Proofs.Ytappdhgabbjoiaa
