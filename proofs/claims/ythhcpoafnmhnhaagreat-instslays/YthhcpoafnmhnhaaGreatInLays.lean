/- The law InstsLays: any instance is laid as the document says, and is taken again. Conditions: the instance and the bytes lie in memory. -/
import Derived.Test.YthhcpoafnmhnhaaGreatInLaysF
import Derived.Test.YthhcpoafnmhnhaaGreatInRLay
import Derived.Test.YthhcpoafnmhnhaaGreatInLight
import Derived.Test.YthhcpoafnmhnhaaGreatInLives
import Derived.Test.YthhcpoafnmhnhaaGreatInRSame
import Derived.Test.YthhcpoafnmhnhaaGreatInOpen
import Derived.Deep.RegionWith
import Derived.Deep.DrawnRows
namespace Go.Proofs.YthhcpoafnmhnhaaGreat
open Go.RowKit
set_option linter.unusedVariables false
set_option linter.unusedSimpArgs false
set_option linter.constructorNameAsVariable false

theorem u64_mod (n : Int) : IntKind.u64.wrap n = n % 18446744073709551616 := by simp [IntKind.wrap, IntKind.bits, IntKind.signed]
theorem rest_in (t m : Int) (h0 : 1 ≤ m) (h1 : m ≤ 300) : 0 ≤ wrap64 ((IntKind.u64.wrap t).tmod m) ∧ wrap64 ((IntKind.u64.wrap t).tmod m) < m := by
  rw [u64_mod, Int.tmod_eq_emod_of_nonneg (by omega)]
  have a := Int.emod_nonneg (t % 18446744073709551616) (b := m) (by omega)
  have b := Int.emod_lt_of_pos (t % 18446744073709551616) (b := m) (by omega)
  rw [IntWalk.wrap64_in _ (by omega)]
  exact ⟨a, b⟩
theorem strs_rowB {w : World} {v : Value} {l : List ByteArray} (h : Strs w v l) {B : Nat} (hB : w.heap.size ≤ B) : RowB tv B w v l := by
  obtain ⟨ao, n, cap, rfl, h1, h2, h3, h4, h5⟩ := h
  refine ⟨ao, n, cap, rfl, h1, h2, h3, h4, fun ad had j hj => ⟨h5 ad had j hj, ?_⟩⟩
  have := World.block_lt_of_cell? _ _ (h5 ad had j hj)
  have e : (ad.add j).block = ad.block := by simp [Addr.add]; split <;> rfl
  rw [e] at this
  omega
theorem instEq_self (x : InD) : instEqB x x = true := by
  unfold instEqB cmdEqB
  simp [eqB_of]
theorem wpl_loadG {ops : Array Oper} {rest : List Oper} {o : Oper} {a : Act} {w : World} {Q : Exit → Act → World → Prop} (hw : Region.wanted o (yielded ops a.tmps) = true) (x : Operand) (ho : o.op = .load 31 x)
    (g : Nat) (hx : a.eval x = .pointer (some ⟨g, 0, none⟩)) (cs : Array Value) (hs : cs.size = 16) (t : TypeId) (fr : Nat × Nat) (hg : w.heap[g]? = some (.cells cs t fr))
    (h : wpList Tryz.prog ops Q rest (a.put o.dst (.agg cs)) w) : wpList Tryz.prog ops Q (o :: rest) a w := by
  obtain ⟨d, hd1, hd2⟩ := Tryz.structInst
  refine wpList_step fun K hK => ?_
  rw [if_pos hw]
  exact wp_load_row _ x ho g hx t cs fr d hg hd1 (by cases d <;> first | rfl | (simp at hd2)) (by rw [hs]; exact Tryz.sizeInst) (hK _ _ h)
theorem exec_loadB {f : Operand → Value} {o : Oper} {w : World} {x : Operand} (hop : o.op = .load 31 x) {g : Nat} (hx : f x = .pointer (some ⟨g, 0, none⟩)) {t : TypeId} (cs : Array Value) (hs : cs.size = 16) {fr : Nat × Nat} (hg : w.heap[g]? = some (.cells cs t fr)) :
    (execOp f o).run Tryz.prog w = .ok (.value (.agg cs)) w := by
  obtain ⟨d, hd1, hd2⟩ := Tryz.structInst
  have := run_loadVar_row (P := Tryz.prog) w g t 31 _ fr d hg hd1 (by cases d <;> first | rfl | (simp at hd2)) (by rw [hs]; exact Tryz.sizeInst)
  unfold execOp
  simp only [hop, hx, Instr.loadAt, Instr.sureAddr, Sem.run_bind, Sem.run_pure, Result.andThen_ok, this]
set_option maxRecDepth 100000 in
set_option maxHeartbeats 8000000 in
theorem instsLays_any (x : InD) (ux vx : Value) (vm : Value) (more : List UInt8) (w : World) (hx : InM w x ux vx) (jx : InJ x) (hm : Bts w vm more) :
    Calls Tryz.prog 3 #[instV x ux vx, vm] w fun e w' => e = .returned (.bool true) ∧ Below w.heap.size w w' := by
  obtain ⟨ua, uc, rfl⟩ := hx.d.shape
  obtain ⟨ra, rc, rfl⟩ := hx.r.shape
  obtain ⟨ma, mc, rfl⟩ := hm.shape
  have HX := hid hx
  have JX := hid jx
  have HM := hid hm
  have hml : (more.length : Int) ≤ 9223372036854775807 := by obtain ⟨_, _, _, e, h1, h2, h3, _⟩ := hm; cases e; omega
  have hrl : (x.deps.length : Int) ≤ 9223372036854775807 := hx.r.len
  clear hx jx hm
  obtain ⟨xc, hxc⟩ : ∃ xc, xc = instC x (.slice ua x.cmd.data.length uc) (.slice ra x.deps.length rc) := ⟨_, rfl⟩
  obtain ⟨w1, hw1⟩ : ∃ w1, w1 = w.alloc (.cells xc 31) := ⟨_, rfl⟩
  have b1 : Below w.heap.size w w1 := by rw [hw1]; exact (Below.refl _ _).alloc (Nat.le_refl _) _
  have hA : w1.heap[w.heap.size]? = some (.cells xc 31 (0, 0)) := by rw [hw1]; exact heap_alloc_new _ _
  have HW1 := hid hw1
  have B1 := hid b1
  have hx16 : xc.size = 16 := by rw [hxc]; rfl
  have HXC := hid hxc
  have HLG := hid (fun W h => ilight_any x (.slice ua x.cmd.data.length uc) (.slice ra x.deps.length rc) W h JX.out.s)
  clear hw1 b1
  rw [hxc] at HW1
  unfold instC at HW1
  have HVX : Hid (instV x (.slice ua x.cmd.data.length uc) (.slice ra x.deps.length rc) = .agg xc) := hid (by rw [hxc]; rfl)
  clear hxc
  rw [HVX.out] at HLG
  unfold instV instC
  go_enter Tryz.func3, Tryz.ntmps3
  go_upto_region 1 with fail
  rw [← HW1.out]
  obtain ⟨A, hAe⟩ : ∃ A, A = w.heap.size := ⟨_, rfl⟩
  have HAe := hid hAe
  rw [← hAe] at hA
  rw [← hAe]
  have HA := hid hA
  clear hAe HW1 hA
  go_wp2_with (refine wpl_loadC rfl _ rfl A rfl xc hx16 _ _ HA.out ?_)
  refine (HLG.out w1 (HX.out.below B1.out)).mono ?_
  rintro e w2 ⟨rl, rfl, hrl', hb2⟩
  have B2 := hid (B1.out.trans (hb2.mono B1.out.size))
  have HRL := hid hrl'
  have hA2 := (hb2.block A (lt_of_block HA.out)).trans HA.out
  have c15 : w2.cell? ⟨A, 15, none⟩ = some (.slice ra x.deps.length rc) := by rw [HXC.out] at hA2; rw [cell_of_row _ _ _ _ _ _ hA2]; rfl
  have HA2 := hid hA2
  clear hb2 hrl' HA HLG hA2
  cases rl with
  | false =>
    go_wp2_with fail
    refine (lives_any _).mono ?_
    rintro e w20 ⟨rfl, hb20⟩
    have B20 := hid (B2.out.trans (hb20.mono B2.out.size))
    clear hb20
    go_wp2_with fail
    go_ret
    exact ⟨rfl, B20.out⟩
  | true =>
    by_cases h3 : (3000 : Int) < (more.length : Int)
    · go_wp2_with fail
      refine (lives_any _).mono ?_
      rintro e w20 ⟨rfl, hb20⟩
      have B20 := hid (B2.out.trans (hb20.mono B2.out.size))
      clear hb20
      go_wp2_with fail
      go_ret
      exact ⟨rfl, B20.out⟩
    · by_cases h4 : (4096 : Int) < (x.deps.length : Int)
      · go_wp2_with fail
        refine (lives_any _).mono ?_
        rintro e w20 ⟨rfl, hb20⟩
        have B20 := hid (B2.out.trans (hb20.mono B2.out.size))
        clear hb20
        go_wp2_with fail
        go_ret
        exact ⟨rfl, B20.out⟩
      · have hLI := HRL.out (by trivial)
        have HLI := hid hLI
        clear hLI HRL
        have c8 : w2.cell? ⟨A, 8, none⟩ = some (.int .i64 x.cmd.op) := by have h := HA2.out; rw [HXC.out] at h; rw [cell_of_row _ _ _ _ _ _ h]; rfl
        have f8 : w2.frozen? ⟨A, 8, none⟩ = false := frozen_of_row _ _ _ _ _ HA2.out
        obtain ⟨hz0, hz1⟩ := rest_in x.cmd.op 256 (by omega) (by omega)
        go_upto_region 4 with fail
        generalize wrap64 ((IntKind.u64.wrap x.cmd.op).tmod 256) = z at *
        obtain ⟨y, hy⟩ : ∃ y : InD, y = { x with cmd := { x.cmd with op := z } } := ⟨_, rfl⟩
        obtain ⟨w3, hw3⟩ : ∃ w3, w3 = w2.setCell ⟨A, 8, none⟩ (.int .i64 z) := ⟨_, rfl⟩
        have A3 : Hid (w3.heap[A]? = some (.cells (instC y (.slice ua x.cmd.data.length uc) (.slice ra x.deps.length rc)) 31 (0, 0))) := hid (by rw [hw3, heap_setCell_same _ _ _ _ _ _ HA2.out, HXC.out, hy]; rfl)
        have B3 : Hid (Below w.heap.size w w3) := hid (by rw [hw3]; exact B2.out.setCell (p := ⟨A, 8, none⟩) (by rw [HAe.out]; exact Nat.le_refl _) _)
        rw [← hw3]
        have HLX : Hid (LayX y) := hid (by
          have hJ := JX.out
          have hl := HLI.out
          rw [hy]
          refine ⟨?_, ⟨⟨hz0, by show z ≤ 255; omega⟩, ?_, fun s hs => by have := hl.2.1 s hs; omega, by have := hl.1; show x.cmd.data.length ≤ 4096; omega⟩, hJ.seq, hJ.deps, by show x.deps.length ≤ 4096; omega⟩
          · intro n hn
            simp [headN] at hn
            rcases hn with rfl | rfl | rfl | rfl | rfl | rfl | rfl
            · exact hJ.ref.1
            · exact hJ.ref.2
            · exact hJ.bal.1
            · exact hJ.bal.2
            · exact hJ.vote.1
            · exact hJ.vote.2
            · exact hJ.st
          · intro n hn
            simp [cmdN] at hn
            rcases hn with rfl | rfl | rfl | rfl
            · exact hJ.cmd.client
            · exact hJ.cmd.seq
            · exact hJ.cmd.f
            · exact hJ.cmd.t)
        have HXY : Hid (∀ W, Below w.heap.size w W → InM W y (.slice ua x.cmd.data.length uc) (.slice ra x.deps.length rc)) := hid fun W hW => by rw [hy]; exact ⟨(HX.out.below hW).d, (HX.out.below hW).r⟩
        have HYL : Hid (y.cmd.data.length = x.cmd.data.length ∧ y.deps.length = x.deps.length) := hid (by rw [hy]; exact ⟨rfl, rfl⟩)
        obtain ⟨vu, hvu⟩ : ∃ vu, vu = Value.slice ua x.cmd.data.length uc := ⟨_, rfl⟩
        obtain ⟨vr, hvr⟩ : ∃ vr, vr = Value.slice ra x.deps.length rc := ⟨_, rfl⟩
        have hvu1 : vu.oneCell' = true := by rw [hvu]; rfl
        have hvr1 : vr.oneCell' = true := by rw [hvr]; rfl
        rw [← hvu, ← hvr] at A3 HXY
        obtain ⟨yc, hyc⟩ : ∃ yc, yc = instC y vu vr := ⟨_, rfl⟩
        have hy16 : yc.size = 16 := by rw [hyc]; rfl
        rw [← hyc] at A3
        have HYC := hid hyc
        have HVY : Hid (instV y vu vr = .agg yc) := hid (by rw [hyc]; rfl)
        have hA3 := lt_of_block A3.out
        clear hw3 hy c8 f8 c15 HA2 B2 HX JX HLI HXC HVX hyc hvu hvr hz0 hz1
        obtain ⟨w4, hw4⟩ : ∃ w4, w4 = w3.alloc (.cells #[.slice none 0 0] 37) := ⟨_, rfl⟩
        have W4 : Hid (Wr w4 w3.heap.size []) := hid (by rw [hw4]; exact Wr.new _)
        have hb4 : Below w3.heap.size w3 w4 := by rw [hw4]; exact (Below.refl _ _).alloc (Nat.le_refl _) _
        have A4 := hid ((hb4.block A hA3).trans A3.out)
        have B4 := hid (B3.out.trans (hb4.mono B3.out.size))
        have HW4 := hid hw4
        have HB34 := hid B3.out.size
        have HRB : Hid (RowB tv w3.heap.size w4 vu y.cmd.data) := hid ((strs_rowB (HXY.out w3 B3.out).d (Nat.le_refl _)).below hb4 (Nat.le_refl _))
        have HRF : Hid (RfB w3.heap.size w4 vr y.deps) := hid ((rfs_low (HXY.out w3 B3.out).r (Nat.le_refl _)).below hb4)
        clear hw4 hb4
        go_upto_region 5 with fail
        rw [← HW4.out]
        have hbA : A < w3.heap.size := hA3
        generalize w3.heap.size = b at *
        clear HW4 A3
        have HLY := hid (layInst_any b y vu vr w4 W4.out HRB.out HRF.out HLX.out)
        rw [HVY.out] at HLY
        go_wp2_with (refine wpl_loadC rfl _ rfl A rfl yc hy16 _ _ A4.out ?_)
        refine HLY.out.mono ?_
        rintro e w5 ⟨rfl, hw5, hb5⟩
        have W5 := hid hw5
        have A5 := hid ((hb5.bel.block A hbA).trans A4.out)
        have B5 := hid (B4.out.trans (hb5.bel.mono HB34.out))
        clear hw5 hb5 A4 B4 W4 B3 HRB HRF HLY
        have HTB := hid (takeI_back y HLX.out more)
        have HTC := hid (takeI_cut y HLX.out)
        obtain ⟨L, hL⟩ : ∃ L, L = instBy y := ⟨_, rfl⟩
        have HLL : Hid (instBy y = L) := hid hL.symm
        have hLn : 1 ≤ L.length ∧ L.length ≤ 10000000000 := by
          rw [hL]
          unfold instBy restB listB
          have h1 := cmdB_len HLX.out.c
          have h2 := numB_len y.deps.length (by have := HLX.out.l; omega)
          have h3 := flat_lenM intB (headN y) 11 fun x hx => intB_lenM x (HLX.out.h x hx)
          have h4 := intB_lenM y.seq HLX.out.s
          have h5 := flat_lenM refB' y.deps 22 fun x hx => refB'_len x (HLX.out.d x hx)
          have h6 := HLX.out.l
          have h7 : (headN y).length = 7 := rfl
          simp only [List.length_cons, List.length_append, List.length_nil] at h3 ⊢
          omega
        rw [← hL] at W5 HTB HTC
        clear hL
        obtain ⟨hL1, hL2⟩ := hLn
        go_wp2_with fail
        refine (bytes_any b L _ W5.out (by omega)).mono ?_
        rintro e w6 ⟨va, vc, rfl, ho6, hb6⟩
        have O6 := hid ho6
        have A6 := hid ((hb6.block A (Nat.lt_trans hbA W5.out.lt)).trans A5.out)
        have B6 := hid (B5.out.trans (hb6.mono B5.out.size))
        have hs56 := hb6.size
        have HB5A := hid (Nat.lt_trans hbA W5.out.lt)
        have HWS := hid B5.out.size
        clear ho6 hb6 A5 B5 W5
        go_upto_region 7 with fail
        have SW : Hid (∀ X, Below w6.heap.size w6 X → X.heap[A]? = some (.cells yc 31 (0, 0)) ∧ (convert 32 9 (.slice va L.length vc)).run Tryz.prog X = .ok (.string ⟨L.toArray⟩) X) := hid fun X hX => ⟨(hX.block A (lt_of_block A6.out)).trans A6.out, conv_string _ _ _ (O6.out.bts.below hX)⟩
        have BD : Hid (Below w.heap.size w w6.drew) := hid B6.out.drew
        have HRLY := hid (fun W hW => rlayInst_any y vu vr W (HXY.out W hW) HLX.out)
        rw [HVY.out, HLL.out] at HRLY
        refine wp_region_held_drew (S := fun X => X.heap[A]? = some (.cells yc 31 (0, 0)) ∧ (convert 32 9 (.slice va L.length vc)).run Tryz.prog X = .ok (.string ⟨L.toArray⟩) X) (by kernel_rfl) (SW.out _ ((Below.refl _ _).drew)) (fun hHeld => ?_)
        refine wpAnyH_take (i := 0) (v := ?pv0) rfl (by kernel_rfl) (by kernel_rfl) (by kernel_rfl) (fun _ _ _ h => h) (Or.inl ⟨by rfl, ?py0⟩) (by assumption) ?pr0
        case py0 => (intro w hSw; (try dsimp only at hSw); go_simp; try with_reducible rfl)
        (try simp only [Act.put, List.setIfInBounds_toArray, List.set_cons_zero, List.set_cons_succ, List.getElem_toArray, List.getElem_cons_succ, List.getElem_cons_zero])
        refine wpAnyH_take (i := 1) (v := ?pv1) rfl (by kernel_rfl) (by kernel_rfl) (by kernel_rfl) (fun _ _ _ h => h) (Or.inl ⟨by rfl, ?py1⟩) (by assumption) ?pr1
        case py1 => (intro w hSw; (try dsimp only at hSw); go_simp; try with_reducible rfl)
        (try simp only [Act.put, List.setIfInBounds_toArray, List.set_cons_zero, List.set_cons_succ, List.getElem_toArray, List.getElem_cons_succ, List.getElem_cons_zero])
        refine wpAnyH_take (i := 2) (v := .agg yc) rfl (by kernel_rfl) (by kernel_rfl) (by kernel_rfl) (fun _ _ _ h => h) (Or.inl ⟨by rfl, ?py2⟩) (by assumption) ?pr2
        case py2 =>
          intro w hSw
          exact exec_loadB rfl rfl yc hy16 hSw.1
        (try simp only [Act.put, List.setIfInBounds_toArray, List.set_cons_zero, List.set_cons_succ, List.getElem_toArray, List.getElem_cons_succ, List.getElem_cons_zero])
        refine wpAnyH_ready (rs := [3]) (by kernel_rfl) (by simp) ?_
        refine AllReadyH.cons rfl (fun K hK => ?_) AllReadyH.nil
        rw [if_pos (by rfl)]
        go_wp2_with fail
        refine (HRLY.out _ BD.out).mono ?_
        rintro e w7 ⟨va7, vc7, rfl, ho7, hb7⟩
        have B7 := hid (BD.out.trans (hb7.mono BD.out.size))
        have B67 := hid (((Below.refl w6.heap.size w6).drew).trans hb7)
        have c7 := conv_string _ _ _ ho7.bts
        have C7 := hid c7
        clear ho7 hb7 c7
        refine hK.out _ _ (SW.out _ B67.out) (fun hHeld => ?_)
        try clear hK K
        (try simp only [Act.put, List.setIfInBounds_toArray, List.set_cons_zero, List.set_cons_succ, List.getElem_toArray, List.getElem_cons_succ, List.getElem_cons_zero])
        refine wpAnyH_ready (rs := [4]) (by kernel_rfl) (by simp) ?_
        refine AllReadyH.cons rfl (fun K hK => ?_) AllReadyH.nil
        rw [if_pos (by rfl)]
        have c7 := C7.out
        go_simp
        refine hK.out _ _ (SW.out _ B67.out) (fun hHeld => ?_)
        try clear hK K
        (try simp only [Act.put, List.setIfInBounds_toArray, List.set_cons_zero, List.set_cons_succ, List.getElem_toArray, List.getElem_cons_succ, List.getElem_cons_zero])
        refine wpAnyH_take (i := 5) (v := ?pv5) rfl (by kernel_rfl) (by kernel_rfl) (by kernel_rfl) (fun _ _ _ h => h) (Or.inl ⟨by rfl, ?py5⟩) (by assumption) ?pr5
        case py5 => (intro w hSw; (try dsimp only at hSw); go_simp; try with_reducible rfl)
        (try simp only [Act.put, List.setIfInBounds_toArray, List.set_cons_zero, List.set_cons_succ, List.getElem_toArray, List.getElem_cons_succ, List.getElem_cons_zero])
        refine wpAnyH_done (by kernel_rfl) ?_ _
        have O7 := hid (O6.out.below B67.out)
        have A7 := hid ((B67.out.block A (lt_of_block A6.out)).trans A6.out)
        have M7 := hid (HM.out.below B7.out)
        have hs7 : w5.heap.size ≤ w7.heap.size := Nat.le_trans hs56 B67.out.size
        have hmI : (more.length : Int) ≤ 3000 := by omega
        clear hHeld SW BD B6 O6 A6 C7 B67 HM HRLY
        have hAw5 : A < w5.heap.size := by have := HB5A.out; exact this
        go_wp2_with (at_builtin; refine wpl_append_both rfl (.tmp 43) (.tmp 44) rfl w5.heap.size (.slice va L.length vc) L rfl O7.out _ more rfl M7.out (by omega) hs7 ?_; intro va8 vc8 w8 ho8 ho8' hg8; have O8 := hid ho8; have P8 := hid ho8'; have G8 := hid hg8; clear ho8 ho8' hg8)
        have B78 := hid (below_grown O7.out G8.out hs7)
        have A8 := hid ((B78.out.block A hAw5).trans A7.out)
        have BX8 : Hid (Below w.heap.size w w8) := hid (B7.out.trans (B78.out.mono HWS.out))
        have N8 : Hid (Bts w8 (.slice va8 (L.length + more.length) vc8) (L ++ more)) := hid O8.out.bts
        have K8 : Hid (Bts w8 (.slice va L.length vc) L) := hid P8.out.bts
        clear O7 A7 M7 B78 G8 O8 P8
        refine (newReader_any _ _ _ N8.out (by rw [List.length_append]; omega)).mono ?_
        rintro e w9 ⟨rb, rfl, hrb, hr9, hb9⟩
        have R9 := hid hr9
        have A9 := hid ((hb9.block A (lt_of_block A8.out)).trans A8.out)
        have K9 := hid (K8.out.below hb9)
        have B9 := hid (BX8.out.trans (hb9.mono BX8.out.size))
        have hA8 := lt_of_block A8.out
        have hrA : A < rb := Nat.lt_of_lt_of_le hA8 hrb
        have HKB : Hid (∀ X, w9.grownBy X (some rb) → Bts X (.slice va L.length vc) L) := hid fun X hX => by
          refine K9.out.other hX fun q hq => ?_
          obtain ⟨_, _, _, e, g1, g2, g3, g4, g5⟩ := K8.out
          cases e
          have := World.block_lt_of_cell? _ _ (g5 q hq 0 (by omega))
          rw [Addr.add_zero'] at this
          omega
        clear hr9 hb9 N8 K8 A8 BX8
        go_wp2_with fail
        refine (takeInst_any rb _ _ R9.out).mono ?_
        rintro e w10 ⟨u10, v10, rfl, hm10, hr10, hg10⟩
        rw [HTB.out.1] at hm10 ⊢
        rw [HTB.out.2] at hr10
        obtain ⟨u1, u2, rfl⟩ := hm10.d.shape
        obtain ⟨v1, v2, rfl⟩ := hm10.r.shape
        have M10 := hid hm10
        have R10 := hid hr10
        have A10 := hid ((hg10.block A (lt_of_block A9.out) (by simp; omega)).trans A9.out)
        have K10 := hid (HKB.out _ hg10)
        have B10 := hid (grown_below B9.out hg10 B9.out.size (by rw [← HAe.out]; omega))
        clear hr10 hg10 hm10 A9 K9 B9 R9 HKB HTB
        simp only [instV]
        have ho10 : (instC y (.slice u1 y.cmd.data.length u2) (.slice v1 y.deps.length v2)).all (·.oneCell') = true := instC_one _ _ _ rfl rfl
        have hs10 : (instC y (.slice u1 y.cmd.data.length u2) (.slice v1 y.deps.length v2)).size = 16 := rfl
        generalize hc10 : instC y (.slice u1 y.cmd.data.length u2) (.slice v1 y.deps.length v2) = c10 at ho10 hs10 ⊢
        have HC10 : Hid (instV y (.slice u1 y.cmd.data.length u2) (.slice v1 y.deps.length v2) = .agg c10) := hid (by rw [← hc10]; rfl)
        clear hc10
        go_upto_region 11 with (refine wpl_storeC rfl _ _ rfl w10.heap.size c10 rfl rfl hs10 ho10 _ zeroI (.slice none 0 0) (.slice none 0 0) (heap_alloc_new _ _) ?_)
        obtain ⟨w11, hw11⟩ : ∃ w11, w11 = (w10.alloc (.cells (instC zeroI (.slice none 0 0) (.slice none 0 0)) 31)).setRow w10.heap.size c10 := ⟨_, rfl⟩
        have hb11 : Below w10.heap.size w10 w11 := by rw [hw11]; exact below_row ((Below.refl _ _).alloc (Nat.le_refl _) _) (Nat.le_refl _) _
        have D11 : Hid (w11.heap[w10.heap.size]? = some (.cells c10 31 (0, 0))) := hid (by rw [hw11]; exact setRow_heap _ _ _ _ _ _ (heap_alloc_new _ _))
        have HW11 := hid hw11
        clear hw11
        unfold instC zeroI at HW11
        simp only at HW11
        rw [← HW11.out]
        have M11 := hid (M10.out.below hb11)
        have R11 := hid (R10.out.kept hb11)
        have A11 := hid ((hb11.block A (lt_of_block A10.out)).trans A10.out)
        have K11 := hid (K10.out.below hb11)
        have B11 := hid (B10.out.trans (hb11.mono B10.out.size))
        clear HW11 hb11 M10 R10 A10 K10 B10
        generalize w10.heap.size = D at *
        have hcap : L.length - 1 ≤ vc := by obtain ⟨_, _, _, e, g1, g2, -⟩ := K11.out; cases e; omega
        obtain ⟨k1, hk1⟩ : ∃ k1 : Nat, L.length = k1 + 1 := ⟨L.length - 1, by omega⟩
        have hkI : (k1 : Int) + 1 ≤ 10000000000 := by omega
        have K12 : Hid (Bts w11 (.slice va k1 vc) (L.take (L.length - 1))) := hid (by have := K11.out.take (n := L.length - 1) (by omega); rwa [show L.length - 1 = k1 by omega] at this ⊢)
        have HTC' : Hid (takeX (some (L.take (L.length - 1))) = zeroI ∧ (tiG (some (L.take (L.length - 1)))).2 = none) := HTC
        have hTl : (L.take (L.length - 1)).length ≤ 10000000000 := by rw [List.length_take]; omega
        generalize L.take (L.length - 1) = L' at *
        rw [hk1] at hcap K11 ⊢
        clear hk1 HTC HLL hL1
        have hcI : (k1 : Int) ≤ (vc : Int) := by omega
        have hcV : (vc : Int) ≤ 9223372036854775807 := by obtain ⟨_, _, _, e, g1, g2, g3, -⟩ := K11.out; cases e; omega
        have hw1 : IntKind.i64.wrap ((k1 : Int) + 1 - 1) = (k1 : Int) := by rw [Int.add_sub_cancel]; exact IntWalk.i64_in _ ⟨by omega, by omega⟩
        go_wp2_with fail
        refine (newReader_any _ _ _ K12.out (by omega)).mono ?_
        rintro e w12 ⟨rc', rfl, hrc, hr12, hb12⟩
        have S12 := hid hr12
        have R12 := hid (R11.out.kept hb12)
        have A12 := hid ((hb12.block A (lt_of_block A11.out)).trans A11.out)
        have D12 := hid ((hb12.block D (lt_of_block D11.out)).trans D11.out)
        have B12 := hid (B11.out.trans (hb12.mono B11.out.size))
        have HB12 := hid hb12
        have hAc : A < rc' := Nat.lt_of_lt_of_le (lt_of_block A11.out) hrc
        have hDc : D < rc' := Nat.lt_of_lt_of_le (lt_of_block D11.out) hrc
        have hrbc : rb < rc' := Nat.lt_of_lt_of_le R11.out.lt hrc
        clear hr12 hb12 K12 K11 A11 D11 R11 B11 hw1
        go_wp2_with fail
        refine (takeInst_any rc' _ _ S12.out).mono ?_
        rintro e w13 ⟨u13, v13, rfl, hm13, hr13, hg13⟩
        rw [HTC'.out.1] at hm13 ⊢
        rw [HTC'.out.2] at hr13
        obtain ⟨e1, e2, rfl⟩ := hm13.d.shape
        obtain ⟨e3, e4, rfl⟩ := hm13.r.shape
        have B1213 : Below w11.heap.size w11 w13 := grown_below HB12.out hg13 HB12.out.size hrc
        have E13 := hid hm13
        have S13 := hid hr13
        have M13 := hid (M11.out.below B1213)
        have R13 := hid (R12.out.beyond fun k hk => hg13.block k (Nat.lt_of_le_of_lt hk R12.out.lt) (by simp; omega))
        have A13 := hid ((hg13.block A (lt_of_block A12.out) (by simp; omega)).trans A12.out)
        have D13 := hid ((hg13.block D (lt_of_block D12.out) (by simp; omega)).trans D12.out)
        have B13 := hid (grown_below B12.out hg13 B12.out.size (by rw [← HAe.out]; omega))
        clear hr13 hg13 hm13 B1213 M11 R12 A12 D12 B12 S12 HB12 HTC'
        simp only [instV]
        have ho13 : (instC zeroI (.slice e1 zeroI.cmd.data.length e2) (.slice e3 zeroI.deps.length e4)).all (·.oneCell') = true := instC_one _ _ _ rfl rfl
        have hs13 : (instC zeroI (.slice e1 zeroI.cmd.data.length e2) (.slice e3 zeroI.deps.length e4)).size = 16 := rfl
        generalize hc13 : instC zeroI (.slice e1 zeroI.cmd.data.length e2) (.slice e3 zeroI.deps.length e4) = c13 at ho13 hs13 ⊢
        have HC13 : Hid (instV zeroI (.slice e1 zeroI.cmd.data.length e2) (.slice e3 zeroI.deps.length e4) = .agg c13) := hid (by rw [← hc13]; rfl)
        clear hc13
        go_upto_region 13 with (refine wpl_storeC rfl _ _ rfl w13.heap.size c13 rfl rfl hs13 ho13 _ zeroI (.slice none 0 0) (.slice none 0 0) (heap_alloc_new _ _) ?_)
        obtain ⟨w14, hw14⟩ : ∃ w14, w14 = (w13.alloc (.cells (instC zeroI (.slice none 0 0) (.slice none 0 0)) 31)).setRow w13.heap.size c13 := ⟨_, rfl⟩
        have hb14 : Below w13.heap.size w13 w14 := by rw [hw14]; exact below_row ((Below.refl _ _).alloc (Nat.le_refl _) _) (Nat.le_refl _) _
        have F14 : Hid (w14.heap[w13.heap.size]? = some (.cells c13 31 (0, 0))) := hid (by rw [hw14]; exact setRow_heap _ _ _ _ _ _ (heap_alloc_new _ _))
        have HW14 := hid hw14
        clear hw14
        unfold instC zeroI at HW14
        simp only at HW14
        rw [← HW14.out]
        have E14 := hid (E13.out.below hb14)
        have S14 := hid (S13.out.kept hb14)
        have M14 := hid (M13.out.below hb14)
        have R14 := hid (R13.out.kept hb14)
        have A14 := hid ((hb14.block A (lt_of_block A13.out)).trans A13.out)
        have D14 := hid ((hb14.block D (lt_of_block D13.out)).trans D13.out)
        have B14 := hid (B13.out.trans (hb14.mono B13.out.size))
        clear HW14 hb14 E13 S13 M13 R13 A13 D13 B13
        generalize w13.heap.size = E at *
        have HSM := hid (rsame_any y y _ _ _ _ w14 (HXY.out w14 B14.out) M14.out)
        rw [HVY.out, HC10.out, instEq_self] at HSM
        go_wp2_with (first | (refine wpl_loadC rfl _ rfl A rfl yc hy16 _ _ A14.out ?_) | (refine wpl_loadC rfl _ rfl D rfl c10 hs10 _ _ D14.out ?_))
        refine HSM.out.mono ?_
        rintro e w15 ⟨rfl, hb15⟩
        have F15 := hid ((hb15.block E (lt_of_block F14.out)).trans F14.out)
        have E15 := hid (E14.out.below hb15)
        have S15 := hid (S14.out.kept hb15)
        have R15 := hid (R14.out.kept hb15)
        have B15 := hid (B14.out.trans (hb15.mono B14.out.size))
        clear hb15 E14 S14 M14 R14 A14 D14 F14 B14 HSM
        go_wp2_with fail
        refine (left_any _ _ _ R15.out).mono ?_
        rintro e w16 ⟨rfl, hw16⟩
        subst hw16
        simp only [leftN]
        go_wp2_with fail
        refine (bad_any _ _ _ S15.out).mono ?_
        rintro e w17 ⟨rfl, hw17⟩
        subst hw17
        simp only [badO]
        have HSZ := hid (rsame_any zeroI zeroI _ _ (.slice none 0 0) (.slice none 0 0) w17 E15.out ⟨Strs.nil _, Rfs.nil _⟩)
        rw [HC13.out, instEq_self] at HSZ
        unfold instV instC zeroI at HSZ
        go_wp2_with (refine wpl_loadG rfl _ rfl E rfl c13 hs13 _ _ F15.out ?_)
        refine HSZ.out.mono ?_
        rintro e w18 ⟨rfl, hb18⟩
        have B2 := hid (B15.out.trans (hb18.mono B15.out.size))
        clear hb18 HSZ
        go_wp2_with fail
        refine (lives_any _).mono ?_
        rintro e w20 ⟨rfl, hb20⟩
        have B20 := hid (B2.out.trans (hb20.mono B2.out.size))
        clear hb20
        go_wp2_with fail
        go_ret
        exact ⟨rfl, B20.out⟩
end Go.Proofs.YthhcpoafnmhnhaaGreat
