/- For any command and any bytes: the command is laid as the document lays it, and is taken again. -/
import Derived.Test.YtabmnelenfghhaaBkLaysF
import Derived.Test.YtabmnelenfghhaaBkRLay
import Derived.Test.YtabmnelenfghhaaBkSameC
import Derived.Test.YtabmnelenfghhaaBkLight
import Derived.Test.YtabmnelenfghhaaBkOpen
import Derived.Test.YtabmnelenfghhaaAppBoth
import Derived.Test.YtabmnelenfghhaaCut
import Derived.Test.YtabmnelenfghhaaBkSmall
import Derived.Deep.RegionWith
import Derived.Deep.DrawnRows
namespace Go.Proofs.Ytabmnelenfghhaa
open Go.RowKit
set_option linter.unusedVariables false
set_option linter.unusedSimpArgs false

theorem strs_row {w : World} {v : Value} {l : List ByteArray} (h : Strs w v l) : RowB tv w.heap.size w v l := by
  obtain ⟨ao, n, cap, rfl, h1, h2, h3, h4, h5⟩ := h
  refine ⟨ao, n, cap, rfl, h1, h2, h3, h4, fun ad had j hj => ⟨h5 ad had j hj, ?_⟩⟩
  have := World.block_lt_of_cell? _ _ (h5 ad had j hj)
  have e : (ad.add j).block = ad.block := by simp [Addr.add]; split <;> rfl
  rwa [e] at this
theorem RowB.up {α : Type} {ev : α → Value} {B B' : Nat} {w : World} {v : Value} {xs : List α} (h : RowB ev B w v xs) (hB : B ≤ B') : RowB ev B' w v xs := by
  obtain ⟨ao, n, cap, rfl, h1, h2, h3, h4, h5⟩ := h
  exact ⟨ao, n, cap, rfl, h1, h2, h3, h4, fun ad had j hj => ⟨(h5 ad had j hj).1, Nat.lt_of_lt_of_le (h5 ad had j hj).2 hB⟩⟩
set_option maxRecDepth 100000 in
set_option maxHeartbeats 8000000 in
theorem lays_any (a : CmdD) (ua : Option Addr) (uc : Nat) (ma : Option Addr) (mc : Nat) (more : List UInt8) (w : World) (hu : Strs w (.slice ua a.data.length uc) a.data) (hj : CmdJ a) (hm : Bts w (.slice ma more.length mc) more) :
    Calls Try.prog 3 #[cmdV a (.slice ua a.data.length uc), .slice ma more.length mc] w fun e w' => e = .returned (.bool true) ∧ Below w.heap.size w w' := by
  have HU := hid hu
  have HJ := hid hj
  have HM := hid hm
  have hml : (more.length : Int) ≤ 9223372036854775807 := by obtain ⟨_, _, _, e, h1, h2, h3, _⟩ := hm; cases e; omega
  have HLI := hid (fun W (h : Strs W (.slice ua a.data.length uc) a.data) => light_any a _ W h hj.s)
  clear hu hj hm
  obtain ⟨a0, a1, a2, a3, a4, ad⟩ := a
  unfold cmdV at HLI ⊢
  simp only at HU HLI ⊢
  obtain ⟨w1, hw1⟩ : ∃ w1, w1 = w.alloc (.cells #[.int .i64 a0, .int .i64 a1, .int .i64 a2, .int .i64 a3, .int .i64 a4, .slice ua ad.length uc] 24) := ⟨_, rfl⟩
  have hb1 : Below w.heap.size w w1 := by rw [hw1]; exact (Below.refl _ _).alloc (Nat.le_refl _) _
  have hA : w1.heap[w.heap.size]? = some (.cells #[.int .i64 a0, .int .i64 a1, .int .i64 a2, .int .i64 a3, .int .i64 a4, .slice ua ad.length uc] 24 (0, 0)) := by rw [hw1]; exact heap_alloc_new _ _
  have HW1 := hid hw1
  have B1 := hid hb1
  clear hw1 hb1
  go_enter Try.func3, Try.ntmps3
  go_upto_region 1 with fail
  rw [← HW1.out]
  obtain ⟨A, hAe⟩ : ∃ A, A = w.heap.size := ⟨_, rfl⟩
  have HAe := hid hAe
  rw [← hAe] at hA
  rw [← hAe]
  clear hAe HW1
  have SW : Hid (∀ X, Below w1.heap.size w1 X → X.cell? ⟨A, 0, none⟩ = some (.int .i64 a0) ∧ X.cell? ⟨A, 1, none⟩ = some (.int .i64 a1) ∧ X.cell? ⟨A, 2, none⟩ = some (.int .i64 a2) ∧ X.cell? ⟨A, 3, none⟩ = some (.int .i64 a3) ∧ X.cell? ⟨A, 4, none⟩ = some (.int .i64 a4) ∧ X.cell? ⟨A, 5, none⟩ = some (.slice ua ad.length uc)) := hid fun X hX => by
    have h1 := (hX.block A (lt_of_block hA)).trans hA
    refine ⟨?_, ?_, ?_, ?_, ?_, ?_⟩ <;> (rw [cell_of_row _ _ _ _ _ _ h1]; rfl)
  have HA := hid hA
  clear hA
  obtain ⟨x0, x1, x2, x3, x4, x5⟩ := SW.out w1 (Below.refl _ _)
  go_wp2_with fail
  refine (HLI.out w1 (HU.out.below B1.out)).mono ?_
  rintro e w2 ⟨rl, rfl, hrl, hb2⟩
  have B2 := hid hb2
  have HRL := hid hrl
  clear x0 x1 x2 x3 x4 x5 hb2 hrl HLI
  cases rl with
  | false =>
    go_wp2_with fail
    refine (lives_any _).mono ?_
    rintro e w20 ⟨rfl, hb20⟩
    have B20 := hid (B2.out.trans (hb20.mono B2.out.size))
    clear hb20
    go_wp2_with fail
    go_ret
    exact ⟨rfl, B1.out.trans (B20.out.mono B1.out.size)⟩
  | true =>
    by_cases h3 : (3000 : Int) < (more.length : Int)
    · go_wp2_with fail
      refine (lives_any _).mono ?_
      rintro e w20 ⟨rfl, hb20⟩
      have B20 := hid (B2.out.trans (hb20.mono B2.out.size))
      clear hb20
      go_wp2_with fail
      go_ret
      exact ⟨rfl, B1.out.trans (B20.out.mono B1.out.size)⟩
    · obtain ⟨hdl, hds⟩ := HRL.out rfl
      have HDS := hid hds
      clear hds HRL SW
      have A2 := hid ((B2.out.block A (lt_of_block HA.out)).trans HA.out)
      obtain ⟨x0, x1, x2, x3, x4, x5⟩ : w2.cell? ⟨A, 0, none⟩ = some (.int .i64 a0) ∧ w2.frozen? ⟨A, 0, none⟩ = false ∧ True ∧ True ∧ True ∧ True := ⟨by rw [cell_of_row _ _ _ _ _ _ A2.out]; rfl, frozen_of_row _ _ _ _ _ A2.out, trivial, trivial, trivial, trivial⟩
      clear x2 x3 x4 x5
      obtain ⟨hz0, hz1⟩ := rest_in a0 256 (by omega) (by omega)
      go_upto_region 4 with fail
      generalize wrap64 ((IntKind.u64.wrap a0).tmod 256) = z at *
      have HLC : Hid (LayI ⟨z, a1, a2, a3, a4, ad⟩) := hid ⟨⟨hz0, by simp only; omega⟩, by
        intro x hx
        have hJ := HJ.out
        simp [cmdN] at hx
        rcases hx with rfl | rfl | rfl | rfl
        · exact hJ.client
        · exact hJ.seq
        · exact hJ.f
        · exact hJ.t, fun s hs => by have := HDS.out s hs; omega, by show ad.length ≤ 4096; omega⟩
      obtain ⟨w3, hw3⟩ : ∃ w3, w3 = w2.setCell ⟨A, 0, none⟩ (.int .i64 z) := ⟨_, rfl⟩
      have A3 : Hid (w3.heap[A]? = some (.cells #[.int .i64 z, .int .i64 a1, .int .i64 a2, .int .i64 a3, .int .i64 a4, .slice ua ad.length uc] 24 (0, 0))) := hid (by rw [hw3]; exact heap_setCell_same _ _ _ _ _ _ A2.out)
      have B3 : Hid (Below w.heap.size w w3) := hid (by rw [hw3]; exact (B1.out.trans (B2.out.mono B1.out.size)).setCell (p := ⟨A, 0, none⟩) (by rw [HAe.out]; exact Nat.le_refl _) _)
      rw [← hw3]
      have hA3 := lt_of_block A3.out
      clear hw3 A2 x0 x1 B2 HA HJ HDS
      obtain ⟨w4, hw4⟩ : ∃ w4, w4 = w3.alloc (.cells #[.slice none 0 0] 30) := ⟨_, rfl⟩
      have W4 : Hid (Wr w4 w3.heap.size []) := hid (by rw [hw4]; exact Wr.new _)
      have hb4 : Below w3.heap.size w3 w4 := by rw [hw4]; exact (Below.refl _ _).alloc (Nat.le_refl _) _
      have A4 := hid ((hb4.block A hA3).trans A3.out)
      have B4 := hid (B3.out.trans (hb4.mono B3.out.size))
      have x0 : w4.cell? ⟨A, 0, none⟩ = some (.int .i64 z) := by rw [cell_of_row _ _ _ _ _ _ A4.out]; rfl
      have x1 : w4.cell? ⟨A, 1, none⟩ = some (.int .i64 a1) := by rw [cell_of_row _ _ _ _ _ _ A4.out]; rfl
      have x2 : w4.cell? ⟨A, 2, none⟩ = some (.int .i64 a2) := by rw [cell_of_row _ _ _ _ _ _ A4.out]; rfl
      have x3 : w4.cell? ⟨A, 3, none⟩ = some (.int .i64 a3) := by rw [cell_of_row _ _ _ _ _ _ A4.out]; rfl
      have x4 : w4.cell? ⟨A, 4, none⟩ = some (.int .i64 a4) := by rw [cell_of_row _ _ _ _ _ _ A4.out]; rfl
      have x5 : w4.cell? ⟨A, 5, none⟩ = some (.slice ua ad.length uc) := by rw [cell_of_row _ _ _ _ _ _ A4.out]; rfl
      have HW4 := hid hw4
      have HB34 := hid B3.out.size
      clear hw4 hb4
      go_upto_region 5 with fail
      rw [← HW4.out]
      have HRB : Hid (RowB tv w3.heap.size w4 (.slice ua ad.length uc) ad) := hid (((strs_row HU.out).below B4.out (Nat.le_refl _)).up B3.out.size)
      have hbA : A < w3.heap.size := hA3
      generalize w3.heap.size = b at *
      clear HW4 A3
      go_wp2_with fail
      refine (layCmd_any b [] ⟨z, a1, a2, a3, a4, ad⟩ _ w4 W4.out HRB.out HLC.out (by simp)).mono ?_
      rintro e w5 ⟨rfl, hw5, hb5⟩
      rw [List.nil_append] at hw5
      have W5 := hid hw5
      have A5 := hid ((hb5.bel.block A hbA).trans A4.out)
      have B5 := hid (B4.out.trans (hb5.bel.mono HB34.out))
      clear hw5 hb5 x0 x1 x2 x3 x4 x5 A4 B4 W4 B3 HRB
      have HTB := hid (take_back ⟨z, a1, a2, a3, a4, ad⟩ HLC.out more)
      have HTC := hid (take_cut ⟨z, a1, a2, a3, a4, ad⟩ HLC.out)
      obtain ⟨L, hL⟩ : ∃ L, L = cmdB ⟨z, a1, a2, a3, a4, ad⟩ := ⟨_, rfl⟩
      have HLL : Hid (cmdB ⟨z, a1, a2, a3, a4, ad⟩ = L) := hid hL.symm
      have hLn : 1 ≤ L.length ∧ L.length ≤ 10000000000 := by
        rw [hL]
        unfold cmdB listB cmdN
        have h1 := flat_lenM textB ad 1048586 fun x hx => textB_lenM x (HLC.out.d x hx)
        have h2 := numB_len ad.length (by omega)
        have h3 := flat_lenM intB [a1, a2, a3, a4] 11 fun x hx => intB_lenM x (HLC.out.n x hx)
        simp only [List.length_cons, List.length_append, List.length_nil] at h3 ⊢
        omega
      rw [← hL] at W5 HTB HTC
      clear hL
      obtain ⟨hL1, hL2⟩ := hLn
      go_wp2_with fail
      refine (bytes_any b L _ W5.out (by omega)).mono ?_
      rintro e w6 ⟨va, vc, rfl, ho6, hb6⟩
      have O6 := hid ho6
      have A6 := hid ((hb6.block A (Nat.lt_trans hbA W5.out.lt)).trans A5.out)
      have B6 := hid (B5.out.trans (hb6.mono B5.out.size))
      have hs56 := hb6.size
      have HB5A := hid (Nat.lt_trans hbA W5.out.lt)
      have HWS := hid B5.out.size
      clear ho6 hb6 A5 B5 W5
      go_upto_region 7 with fail
      have SW : Hid (∀ X, Below w6.heap.size w6 X → X.cell? ⟨A, 0, none⟩ = some (.int .i64 z) ∧ X.cell? ⟨A, 1, none⟩ = some (.int .i64 a1) ∧ X.cell? ⟨A, 2, none⟩ = some (.int .i64 a2) ∧ X.cell? ⟨A, 3, none⟩ = some (.int .i64 a3) ∧ X.cell? ⟨A, 4, none⟩ = some (.int .i64 a4) ∧ X.cell? ⟨A, 5, none⟩ = some (.slice ua ad.length uc) ∧ (convert 25 9 (.slice va L.length vc)).run Try.prog X = .ok (.string ⟨L.toArray⟩) X) := hid fun X hX => by
        have h1 := (hX.block A (lt_of_block A6.out)).trans A6.out
        refine ⟨?_, ?_, ?_, ?_, ?_, ?_, conv_string _ _ _ (O6.out.bts.below hX)⟩ <;> (rw [cell_of_row _ _ _ _ _ _ h1]; rfl)
      have BD : Hid (Below w.heap.size w w6.drew) := hid B6.out.drew
      refine wp_region_held_drew (S := fun X => X.cell? ⟨A, 0, none⟩ = some (.int .i64 z) ∧ X.cell? ⟨A, 1, none⟩ = some (.int .i64 a1) ∧ X.cell? ⟨A, 2, none⟩ = some (.int .i64 a2) ∧ X.cell? ⟨A, 3, none⟩ = some (.int .i64 a3) ∧ X.cell? ⟨A, 4, none⟩ = some (.int .i64 a4) ∧ X.cell? ⟨A, 5, none⟩ = some (.slice ua ad.length uc) ∧ (convert 25 9 (.slice va L.length vc)).run Try.prog X = .ok (.string ⟨L.toArray⟩) X) (by kernel_rfl) (SW.out _ ((Below.refl _ _).drew)) (fun hHeld => ?_)
      refine wpAnyH_take (i := 0) (v := ?pv0) rfl (by kernel_rfl) (by kernel_rfl) (by kernel_rfl) (fun _ _ _ h => h) (Or.inl ⟨by rfl, ?py0⟩) (by assumption) ?pr0
      case py0 => (intro w hSw; (try dsimp only at hSw); go_simp; try with_reducible rfl)
      (try simp only [Act.put, List.setIfInBounds_toArray, List.set_cons_zero, List.set_cons_succ, List.getElem_toArray, List.getElem_cons_succ, List.getElem_cons_zero])
      refine wpAnyH_take (i := 1) (v := ?pv1) rfl (by kernel_rfl) (by kernel_rfl) (by kernel_rfl) (fun _ _ _ h => h) (Or.inl ⟨by rfl, ?py1⟩) (by assumption) ?pr1
      case py1 => (intro w hSw; (try dsimp only at hSw); go_simp; try with_reducible rfl)
      (try simp only [Act.put, List.setIfInBounds_toArray, List.set_cons_zero, List.set_cons_succ, List.getElem_toArray, List.getElem_cons_succ, List.getElem_cons_zero])
      refine wpAnyH_take (i := 2) (v := ?pv2) rfl (by kernel_rfl) (by kernel_rfl) (by kernel_rfl) (fun _ _ _ h => h) (Or.inl ⟨by rfl, ?py2⟩) (by assumption) ?pr2
      case py2 => (intro w hSw; (try dsimp only at hSw); go_simp; try with_reducible rfl)
      (try simp only [Act.put, List.setIfInBounds_toArray, List.set_cons_zero, List.set_cons_succ, List.getElem_toArray, List.getElem_cons_succ, List.getElem_cons_zero])
      refine wpAnyH_ready (rs := [3]) (by kernel_rfl) (by simp) ?_
      refine AllReadyH.cons rfl (fun K hK => ?_) AllReadyH.nil
      rw [if_pos (by rfl)]
      go_wp2_with fail
      refine (rlayCmd_any ⟨z, a1, a2, a3, a4, ad⟩ _ _ (HU.out.below BD.out) HLC.out).mono ?_
      rintro e w7 ⟨va7, vc7, rfl, ho7, hb7⟩
      have B7 := hid (BD.out.trans (hb7.mono BD.out.size))
      have B67 := hid (((Below.refl w6.heap.size w6).drew).trans hb7)
      have c7 := conv_string _ _ _ ho7.bts
      rw [HLL.out] at c7 ⊢
      have C7 := hid c7
      clear ho7 hb7 c7
      refine hK.out _ _ (SW.out _ B67.out) (fun hHeld => ?_)
      try clear hK K
      (try simp only [Act.put, List.setIfInBounds_toArray, List.set_cons_zero, List.set_cons_succ, List.getElem_toArray, List.getElem_cons_succ, List.getElem_cons_zero])
      refine wpAnyH_ready (rs := [4]) (by kernel_rfl) (by simp) ?_
      refine AllReadyH.cons rfl (fun K hK => ?_) AllReadyH.nil
      rw [if_pos (by rfl)]
      have c7 := C7.out
      go_simp
      refine hK.out _ _ (SW.out _ B67.out) (fun hHeld => ?_)
      try clear hK K
      (try simp only [Act.put, List.setIfInBounds_toArray, List.set_cons_zero, List.set_cons_succ, List.getElem_toArray, List.getElem_cons_succ, List.getElem_cons_zero])
      refine wpAnyH_take (i := 5) (v := ?pv5) rfl (by kernel_rfl) (by kernel_rfl) (by kernel_rfl) (fun _ _ _ h => h) (Or.inl ⟨by rfl, ?py5⟩) (by assumption) ?pr5
      case py5 => (intro w hSw; (try dsimp only at hSw); go_simp; try with_reducible rfl)
      (try simp only [Act.put, List.setIfInBounds_toArray, List.set_cons_zero, List.set_cons_succ, List.getElem_toArray, List.getElem_cons_succ, List.getElem_cons_zero])
      refine wpAnyH_done (by kernel_rfl) ?_ _
      have O7 := hid (O6.out.below B67.out)
      have A7 := hid ((B67.out.block A (lt_of_block A6.out)).trans A6.out)
      have M7 := hid (HM.out.below B7.out)
      have hs7 : w5.heap.size ≤ w7.heap.size := Nat.le_trans hs56 B67.out.size
      have hmI : (more.length : Int) ≤ 3000 := by omega
      clear hHeld SW BD B6 O6 A6 C7 B67 HM
      have hAw5 : A < w5.heap.size := by have := HB5A.out; exact this
      go_wp2_with (at_builtin; refine wpl_append_both rfl (.tmp 35) (.tmp 36) rfl w5.heap.size (.slice va L.length vc) L rfl O7.out _ more rfl M7.out (by omega) hs7 ?_; intro va8 vc8 w8 ho8 ho8' hg8; have O8 := hid ho8; have P8 := hid ho8'; have G8 := hid hg8; clear ho8 ho8' hg8)
      have B78 := hid (below_grown O7.out G8.out hs7)
      have A8 := hid ((B78.out.block A hAw5).trans A7.out)
      have hs8 := G8.out.size
      have BX8 : Hid (Below w.heap.size w w8) := hid (B7.out.trans (B78.out.mono HWS.out))
      have N8 : Hid (Bts w8 (.slice va8 (L.length + more.length) vc8) (L ++ more)) := hid O8.out.bts
      have K8 : Hid (Bts w8 (.slice va L.length vc) L) := hid P8.out.bts
      clear O7 A7 M7 B78 G8 O8 P8
      refine (newReader_any _ _ _ N8.out (by rw [List.length_append]; omega)).mono ?_
      rintro e w9 ⟨rb, rfl, hrb, hr9, hb9⟩
      have R9 := hid hr9
      have A9 := hid ((hb9.block A (lt_of_block A8.out)).trans A8.out)
      have K9 := hid (K8.out.below hb9)
      have B9 := hid (BX8.out.trans (hb9.mono BX8.out.size))
      have hA8 := lt_of_block A8.out
      have hrA : A < rb := Nat.lt_of_lt_of_le hA8 hrb
      have HKB : Hid (∀ X, w9.grownBy X (some rb) → Bts X (.slice va L.length vc) L) := hid fun X hX => by
        refine K9.out.other hX fun q hq => ?_
        obtain ⟨_, _, _, e, g1, g2, g3, g4, g5⟩ := K8.out
        cases e
        have := World.block_lt_of_cell? _ _ (g5 q hq 0 (by omega))
        rw [Addr.add_zero'] at this
        omega
      clear hr9 hb9 N8 K8 A8 BX8
      go_wp2_with fail
      refine (takeCmd_any rb _ _ R9.out).mono ?_
      rintro e w10 ⟨u, rfl, hu10, hr10, hg10⟩
      rw [HTB.out.1] at hu10 ⊢
      rw [HTB.out.2] at hr10
      have hu10' : Strs w10 u ad := hu10
      obtain ⟨u1, u2, rfl⟩ := hu10'.shape
      have U10 := hid hu10'
      have R10 := hid hr10
      have A10 := hid ((hg10.block A (lt_of_block A9.out) (by simp; omega)).trans A9.out)
      have K10 := hid (HKB.out _ hg10)
      have B10 := hid (grown_below B9.out hg10 B9.out.size (by rw [← HAe.out]; omega))
      clear hr10 hg10 hu10 hu10' A9 K9 B9 R9 HKB HTB
      unfold cmdV
      simp only
      go_upto_region 11 with fail
      obtain ⟨w11, hw11⟩ : ∃ w11, w11 = w10.alloc (.cells #[.int .i64 z, .int .i64 a1, .int .i64 a2, .int .i64 a3, .int .i64 a4, .slice u1 ad.length u2] 24) := ⟨_, rfl⟩
      have hb11 : Below w10.heap.size w10 w11 := by rw [hw11]; exact (Below.refl _ _).alloc (Nat.le_refl _) _
      have D11 : Hid (w11.heap[w10.heap.size]? = some (.cells #[.int .i64 z, .int .i64 a1, .int .i64 a2, .int .i64 a3, .int .i64 a4, .slice u1 ad.length u2] 24 (0, 0))) := hid (by rw [hw11]; exact heap_alloc_new _ _)
      rw [← hw11]
      have U11 := hid (U10.out.below hb11)
      have R11 := hid (R10.out.kept hb11)
      have A11 := hid ((hb11.block A (lt_of_block A10.out)).trans A10.out)
      have K11 := hid (K10.out.below hb11)
      have B11 := hid (B10.out.trans (hb11.mono B10.out.size))
      have hrb11 := R10.out.lt
      clear hw11 hb11 U10 R10 A10 K10 B10
      generalize w10.heap.size = D at *
      have hcap : L.length - 1 ≤ vc := by obtain ⟨_, _, _, e, g1, g2, -⟩ := K11.out; cases e; omega
      obtain ⟨k1, hk1⟩ : ∃ k1 : Nat, L.length = k1 + 1 := ⟨L.length - 1, by omega⟩
      have HK1 := hid hk1
      have hkI : (k1 : Int) + 1 ≤ 10000000000 := by omega
      have K12 : Hid (Bts w11 (.slice va k1 vc) (L.take (L.length - 1))) := hid (by have := K11.out.take (n := L.length - 1) (by omega); rwa [show L.length - 1 = k1 by omega] at this ⊢)
      have HTC' : Hid (takeC (some (L.take (L.length - 1))) = zeroCmd ∧ (tkG (some (L.take (L.length - 1)))).2 = none) := HTC
      have hTl : (L.take (L.length - 1)).length ≤ 10000000000 := by rw [List.length_take]; omega
      generalize L.take (L.length - 1) = L' at *
      rw [hk1] at hcap K11 ⊢
      clear hk1 HTC HLL hL1
      have hcI : (k1 : Int) ≤ (vc : Int) := by omega
      have hcV : (vc : Int) ≤ 9223372036854775807 := by obtain ⟨_, _, _, e, g1, g2, g3, -⟩ := K11.out; cases e; omega
      have hw1 : IntKind.i64.wrap ((k1 : Int) + 1 - 1) = (k1 : Int) := by rw [Int.add_sub_cancel]; exact IntWalk.i64_in _ ⟨by omega, by omega⟩
      go_wp2_with fail
      refine (newReader_any _ _ _ K12.out (by omega)).mono ?_
      rintro e w12 ⟨rc, rfl, hrc, hr12, hb12⟩
      have S12 := hid hr12
      have U12 := hid (U11.out.below hb12)
      have R12 := hid (R11.out.kept hb12)
      have A12 := hid ((hb12.block A (lt_of_block A11.out)).trans A11.out)
      have D12 := hid ((hb12.block D (lt_of_block D11.out)).trans D11.out)
      have B12 := hid (B11.out.trans (hb12.mono B11.out.size))
      have HB12 := hid hb12
      have hAc : A < rc := Nat.lt_of_lt_of_le (lt_of_block A11.out) hrc
      have hDc : D < rc := Nat.lt_of_lt_of_le (lt_of_block D11.out) hrc
      have hrbc : rb < rc := Nat.lt_of_lt_of_le R11.out.lt hrc
      clear hr12 hb12 K12 K11 A11 D11 R11 B11 hw1
      go_wp2_with fail
      refine (takeCmd_any rc _ _ S12.out).mono ?_
      rintro e w13 ⟨u', rfl, hu13, hr13, hg13⟩
      rw [HTC'.out.1] at hu13 ⊢
      rw [HTC'.out.2] at hr13
      obtain ⟨e1, e2, rfl⟩ := hu13.shape
      have B1213 : Below w11.heap.size w11 w13 := grown_below HB12.out hg13 HB12.out.size hrc
      have E13 : Hid (Strs w13 (.slice e1 0 e2) []) := hid hu13
      have S13 := hid hr13
      have U13 := hid (U11.out.below B1213)
      have R13 := hid (R12.out.beyond fun k hk => hg13.block k (Nat.lt_of_le_of_lt hk R12.out.lt) (by simp; omega))
      have A13 := hid ((hg13.block A (lt_of_block A12.out) (by simp; omega)).trans A12.out)
      have D13 := hid ((hg13.block D (lt_of_block D12.out) (by simp; omega)).trans D12.out)
      have B13 := hid (grown_below B12.out hg13 B12.out.size (by rw [← HAe.out]; omega))
      clear hr13 hg13 hu13 B1213 U11 U12 R12 A12 D12 B12 S12 HB12 HTC'
      unfold cmdV zeroCmd
      simp only [List.length_nil]
      go_upto_region 13 with fail
      obtain ⟨w14, hw14⟩ : ∃ w14, w14 = w13.alloc (.cells #[.int .i64 0, .int .i64 0, .int .i64 0, .int .i64 0, .int .i64 0, .slice e1 0 e2] 24) := ⟨_, rfl⟩
      have hb14 : Below w13.heap.size w13 w14 := by rw [hw14]; exact (Below.refl _ _).alloc (Nat.le_refl _) _
      have F14 : Hid (w14.heap[w13.heap.size]? = some (.cells #[.int .i64 0, .int .i64 0, .int .i64 0, .int .i64 0, .int .i64 0, .slice e1 0 e2] 24 (0, 0))) := hid (by rw [hw14]; exact heap_alloc_new _ _)
      rw [← hw14]
      have E14 := hid (E13.out.below hb14)
      have S14 := hid (S13.out.kept hb14)
      have U14 := hid (U13.out.below hb14)
      have R14 := hid (R13.out.kept hb14)
      have A14 := hid ((hb14.block A (lt_of_block A13.out)).trans A13.out)
      have D14 := hid ((hb14.block D (lt_of_block D13.out)).trans D13.out)
      have B14 := hid (B13.out.trans (hb14.mono B13.out.size))
      clear hw14 hb14 E13 S13 U13 R13 A13 D13 B13
      generalize w13.heap.size = E at *
      have x0 : w14.cell? ⟨A, 0, none⟩ = some (.int .i64 z) := by rw [cell_of_row _ _ _ _ _ _ A14.out]; rfl
      have x1 : w14.cell? ⟨A, 1, none⟩ = some (.int .i64 a1) := by rw [cell_of_row _ _ _ _ _ _ A14.out]; rfl
      have x2 : w14.cell? ⟨A, 2, none⟩ = some (.int .i64 a2) := by rw [cell_of_row _ _ _ _ _ _ A14.out]; rfl
      have x3 : w14.cell? ⟨A, 3, none⟩ = some (.int .i64 a3) := by rw [cell_of_row _ _ _ _ _ _ A14.out]; rfl
      have x4 : w14.cell? ⟨A, 4, none⟩ = some (.int .i64 a4) := by rw [cell_of_row _ _ _ _ _ _ A14.out]; rfl
      have x5 : w14.cell? ⟨A, 5, none⟩ = some (.slice ua ad.length uc) := by rw [cell_of_row _ _ _ _ _ _ A14.out]; rfl
      have y0 : w14.cell? ⟨D, 0, none⟩ = some (.int .i64 z) := by rw [cell_of_row _ _ _ _ _ _ D14.out]; rfl
      have y1 : w14.cell? ⟨D, 1, none⟩ = some (.int .i64 a1) := by rw [cell_of_row _ _ _ _ _ _ D14.out]; rfl
      have y2 : w14.cell? ⟨D, 2, none⟩ = some (.int .i64 a2) := by rw [cell_of_row _ _ _ _ _ _ D14.out]; rfl
      have y3 : w14.cell? ⟨D, 3, none⟩ = some (.int .i64 a3) := by rw [cell_of_row _ _ _ _ _ _ D14.out]; rfl
      have y4 : w14.cell? ⟨D, 4, none⟩ = some (.int .i64 a4) := by rw [cell_of_row _ _ _ _ _ _ D14.out]; rfl
      have y5 : w14.cell? ⟨D, 5, none⟩ = some (.slice u1 ad.length u2) := by rw [cell_of_row _ _ _ _ _ _ D14.out]; rfl
      go_wp2_with fail
      refine (sameCmd_any ⟨z, a1, a2, a3, a4, ad⟩ _ _ w14 (HU.out.below B14.out) U14.out).mono ?_
      rintro e w15 ⟨rfl, hb15⟩
      have F15 := hid ((hb15.block E (lt_of_block F14.out)).trans F14.out)
      have E15 := hid (E14.out.below hb15)
      have S15 := hid (S14.out.kept hb15)
      have R15 := hid (R14.out.kept hb15)
      have B15 := hid (B14.out.trans (hb15.mono B14.out.size))
      clear hb15 x0 x1 x2 x3 x4 x5 y0 y1 y2 y3 y4 y5 E14 S14 U14 R14 A14 D14 F14 B14
      go_wp2_with fail
      refine (left_any _ _ _ R15.out).mono ?_
      rintro e w16 ⟨rfl, rfl⟩
      simp only [leftN]
      go_wp2_with fail
      refine (bad_any _ _ _ S15.out).mono ?_
      rintro e w17 ⟨rfl, rfl⟩
      simp only [badO]
      have z0 : w17.cell? ⟨E, 0, none⟩ = some (.int .i64 0) := by rw [cell_of_row _ _ _ _ _ _ F15.out]; rfl
      have z1 : w17.cell? ⟨E, 1, none⟩ = some (.int .i64 0) := by rw [cell_of_row _ _ _ _ _ _ F15.out]; rfl
      have z2 : w17.cell? ⟨E, 2, none⟩ = some (.int .i64 0) := by rw [cell_of_row _ _ _ _ _ _ F15.out]; rfl
      have z3 : w17.cell? ⟨E, 3, none⟩ = some (.int .i64 0) := by rw [cell_of_row _ _ _ _ _ _ F15.out]; rfl
      have z4 : w17.cell? ⟨E, 4, none⟩ = some (.int .i64 0) := by rw [cell_of_row _ _ _ _ _ _ F15.out]; rfl
      have z5 : w17.cell? ⟨E, 5, none⟩ = some (.slice e1 0 e2) := by rw [cell_of_row _ _ _ _ _ _ F15.out]; rfl
      go_wp2_with fail
      refine (sameCmd_any ⟨0, 0, 0, 0, 0, []⟩ _ _ _ E15.out (Strs.nil _)).mono ?_
      rintro e w18 ⟨rfl, hb18⟩
      have B18 := hid (B15.out.trans (hb18.mono B15.out.size))
      clear hb18 z0 z1 z2 z3 z4 z5
      go_wp2_with fail
      refine (lives_any _).mono ?_
      rintro e w20 ⟨rfl, hb20⟩
      have B20 := hid (B18.out.trans (hb20.mono B18.out.size))
      clear hb20
      go_wp2_with fail
      go_ret
      exact ⟨rfl, B20.out⟩
theorem lays_law (a : CmdD) (ua : Option Addr) (uc : Nat) (v : Value) (more : List UInt8) (w : World) (hu : Strs w (.slice ua a.data.length uc) a.data) (hj : CmdJ a) (hm : Bts w v more) :
    Calls Try.prog 3 #[cmdV a (.slice ua a.data.length uc), v] w fun e w' => e = .returned (.bool true) ∧ Below w.heap.size w w' := by
  obtain ⟨ma, mc, rfl⟩ := hm.shape
  exact lays_any a ua uc ma mc more w hu hj hm
end Go.Proofs.Ytabmnelenfghhaa
