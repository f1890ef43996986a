/- The law InstsMays: what May, Same and LessBallot answer is what the document says. Conditions: two instances that lie in memory. -/
import Derived.Test.YtadjeefigjdkiaaInLives
import Derived.Test.YtadjeefigjdkiaaInRMayJ
import Derived.Test.YtadjeefigjdkiaaInOpen
namespace Go.Proofs.Ytadjeefigjdkiaa
open Go.RowKit
set_option linter.unusedVariables false
set_option linter.unusedSimpArgs false

theorem inst_cells {w : World} {q : Nat} {x : InD} {u v : Value} {t : TypeId} {fr : Nat × Nat} (h : w.heap[q]? = some (.cells (instC x u v) t fr)) : w.cell? ⟨q, 0, none⟩ = some (.int .i64 x.ref.1) ∧ w.cell? ⟨q, 1, none⟩ = some (.int .i64 x.ref.2) ∧ w.cell? ⟨q, 2, none⟩ = some (.int .i64 x.bal.1) ∧ w.cell? ⟨q, 3, none⟩ = some (.int .i64 x.bal.2) ∧ w.cell? ⟨q, 4, none⟩ = some (.int .i64 x.vote.1) ∧ w.cell? ⟨q, 5, none⟩ = some (.int .i64 x.vote.2) ∧ w.cell? ⟨q, 6, none⟩ = some (.int .i64 x.st) ∧ w.cell? ⟨q, 7, none⟩ = some (.bool x.same) ∧ w.cell? ⟨q, 8, none⟩ = some (.int .i64 x.cmd.op) ∧ w.cell? ⟨q, 9, none⟩ = some (.int .i64 x.cmd.client) ∧ w.cell? ⟨q, 10, none⟩ = some (.int .i64 x.cmd.seq) ∧ w.cell? ⟨q, 11, none⟩ = some (.int .i64 x.cmd.from') ∧ w.cell? ⟨q, 12, none⟩ = some (.int .i64 x.cmd.to) ∧ w.cell? ⟨q, 13, none⟩ = some (u) ∧ w.cell? ⟨q, 14, none⟩ = some (.int .i64 x.seq) ∧ w.cell? ⟨q, 15, none⟩ = some (v) := by
  refine ⟨?_, ?_, ?_, ?_, ?_, ?_, ?_, ?_, ?_, ?_, ?_, ?_, ?_, ?_, ?_, ?_⟩ <;> (rw [cell_of_row _ _ _ _ _ _ h]; rfl)
theorem instEq_self (x : InD) : instEqB x x = true := by
  unfold instEqB cmdEqB
  simp [eqB_of]
theorem cmdOk_of {w : World} {x : InD} {u v : Value} (hx : InM w x u v) (hl : LightI x) : CmdOk w x.cmd u := ⟨hx.d, by have := hl.1; omega, fun s hs => by have := hl.2.1 s hs; omega⟩
set_option maxRecDepth 100000 in
set_option maxHeartbeats 8000000 in
theorem instsMays_any (a b : InD) (au av bu bv : Value) (w : World) (ha : InM w a au av) (hb : InM w b bu bv) (ja : InJ a) (jb : InJ b) :
    Calls Try.prog 3 #[instV a au av, instV b bu bv] w fun e w' => e = .returned (.bool true) ∧ Below w.heap.size w w' := by
  obtain ⟨aua, auc, rfl⟩ := ha.d.shape
  obtain ⟨ava, avc, rfl⟩ := ha.r.shape
  obtain ⟨bua, buc, rfl⟩ := hb.d.shape
  obtain ⟨bva, bvc, rfl⟩ := hb.r.shape
  have HLA := hid (fun W h => ilight_any a (.slice aua a.cmd.data.length auc) (.slice ava a.deps.length avc) W h ja.s)
  have HLB := hid (fun W h => ilight_any b (.slice bua b.cmd.data.length buc) (.slice bva b.deps.length bvc) W h jb.s)
  have HA0 := hid ha
  have HB0 := hid hb
  clear ha hb ja jb
  obtain ⟨w1, hw1⟩ : ∃ w1, w1 = (w.alloc (.cells (instC a (.slice aua a.cmd.data.length auc) (.slice ava a.deps.length avc)) 31)).alloc (.cells (instC b (.slice bua b.cmd.data.length buc) (.slice bva b.deps.length bvc)) 31) := ⟨_, rfl⟩
  have hb1 : Below w.heap.size w w1 := by rw [hw1]; exact ((Below.refl _ _).alloc (Nat.le_refl _) _).alloc (by simp) _
  have hA : w1.heap[w.heap.size]? = some (.cells (instC a (.slice aua a.cmd.data.length auc) (.slice ava a.deps.length avc)) 31 (0, 0)) := by rw [hw1]; exact heap_alloc2_old _ _ _
  have hB : w1.heap[w.heap.size + 1]? = some (.cells (instC b (.slice bua b.cmd.data.length buc) (.slice bva b.deps.length bvc)) 31 (0, 0)) := by rw [hw1]; exact heap_alloc2_new _ _ _
  have HW1 := hid hw1
  have B1 := hid hb1
  clear hw1 hb1
  unfold instC at HW1
  simp only [instV]
  unfold instC
  go_enter Try.func3, Try.ntmps3
  go_upto_region 1 with fail
  rw [← HW1.out]
  obtain ⟨A, hAe⟩ : ∃ A, A = w.heap.size := ⟨_, rfl⟩
  obtain ⟨B, hBe⟩ : ∃ B, B = w.heap.size + 1 := ⟨_, rfl⟩
  rw [← hAe] at hA
  rw [← hBe] at hB
  rw [← hBe, ← hAe]
  clear hAe hBe HW1
  have HA := hid hA
  have HB := hid hB
  clear hA hB
  have MA : Hid (∀ X, Below w1.heap.size w1 X → InM X a (.slice aua a.cmd.data.length auc) (.slice ava a.deps.length avc)) := hid fun X hX => (HA0.out.below B1.out).below hX
  have MB : Hid (∀ X, Below w1.heap.size w1 X → InM X b (.slice bua b.cmd.data.length buc) (.slice bva b.deps.length bvc)) := hid fun X hX => (HB0.out.below B1.out).below hX
  have BZ : Hid (Below w1.heap.size w1 w1) := hid (Below.refl _ _)
  go_wp2_with (refine wpl_loadI rfl _ rfl A rfl _ a _ _ _ HA.out ?_)
  refine (HLA.out _ (MA.out _ BZ.out)).mono ?_
  rintro e w2 ⟨ra, rfl, hra, hb2⟩
  have HRA := hid hra
  clear BZ hra
  have BZ := hid hb2
  have hB2 := (hb2.block B (lt_of_block HB.out)).trans HB.out
  clear hb2
  cases ra with
  | false =>
    go_wp2_with fail
    refine (lives_any _).mono ?_
    rintro e wf ⟨rfl, hbf⟩
    have BF := hid (B1.out.trans ((BZ.out.trans (hbf.mono BZ.out.size)).mono B1.out.size))
    clear hbf
    go_wp2_with fail
    go_ret
    exact ⟨rfl, BF.out⟩
  | true =>
    obtain ⟨k0, k1, k2, k3, k4, k5, k6, k7, k8, k9, k10, k11, k12, k13, k14, k15⟩ := inst_cells hB2
    go_wp2_with fail
    clear k0 k1 k2 k3 k4 k5 k6 k7 k8 k9 k10 k11 k12 k13 k14 k15
    refine (HLB.out _ (MB.out _ BZ.out)).mono ?_
    rintro e w3 ⟨rb, rfl, hrb, hb3⟩
    have HRB := hid hrb
    have BY := hid (BZ.out.trans (hb3.mono BZ.out.size))
    clear BZ hrb hb3 hB2
    have BZ := BY
    clear BY
    cases rb with
    | false =>
      go_wp2_with fail
      refine (lives_any _).mono ?_
      rintro e wf ⟨rfl, hbf⟩
      have BF := hid (B1.out.trans ((BZ.out.trans (hbf.mono BZ.out.size)).mono B1.out.size))
      clear hbf
      go_wp2_with fail
      go_ret
      exact ⟨rfl, BF.out⟩
    | true =>
      have LA := hid (HRA.out (by trivial))
      have LB := hid (HRB.out (by trivial))
      have B3 := hid (B1.out.trans (BZ.out.mono B1.out.size))
      have MA3 : Hid (∀ X, Below w3.heap.size w3 X → InM X a (.slice aua a.cmd.data.length auc) (.slice ava a.deps.length avc)) := hid fun X hX => (MA.out _ BZ.out).below hX
      have MB3 : Hid (∀ X, Below w3.heap.size w3 X → InM X b (.slice bua b.cmd.data.length buc) (.slice bva b.deps.length bvc)) := hid fun X hX => (MB.out _ BZ.out).below hX
      have SW : Hid (∀ X, Below w3.heap.size w3 X → X.heap[A]? = some (.cells (instC a (.slice aua a.cmd.data.length auc) (.slice ava a.deps.length avc)) 31 (0, 0)) ∧ X.heap[B]? = some (.cells (instC b (.slice bua b.cmd.data.length buc) (.slice bva b.deps.length bvc)) 31 (0, 0)) ∧ X.cell? ⟨A, 2, none⟩ = some (.int .i64 a.bal.1) ∧ X.cell? ⟨A, 3, none⟩ = some (.int .i64 a.bal.2) ∧ X.cell? ⟨B, 2, none⟩ = some (.int .i64 b.bal.1) ∧ X.cell? ⟨B, 3, none⟩ = some (.int .i64 b.bal.2)) := hid fun X hX => by
        have h0 := BZ.out.trans (hX.mono BZ.out.size)
        have h1 := (h0.block A (lt_of_block HA.out)).trans HA.out
        have h2 := (h0.block B (lt_of_block HB.out)).trans HB.out
        refine ⟨h1, h2, ?_, ?_, ?_, ?_⟩ <;> first | (rw [cell_of_row _ _ _ _ _ _ h1]; rfl) | (rw [cell_of_row _ _ _ _ _ _ h2]; rfl)
      clear MA MB BZ HLA HLB HRA HRB HA0 HB0
      have MA := MA3
      have MB := MB3
      clear MA3 MB3
      have CA : Hid (∀ X, Below w3.heap.size w3 X → CmdOk X a.cmd (.slice aua a.cmd.data.length auc)) := hid fun X hX => cmdOk_of (MA.out X hX) LA.out
      have HSELF := hid (instEq_self a)
      have BZ : Hid (Below w3.heap.size w3 w3.drew) := hid ((Below.refl _ _).drew)
      go_upto_region 3 with fail
      refine wp_region_held_drew (S := fun X => X.heap[A]? = some (.cells (instC a (.slice aua a.cmd.data.length auc) (.slice ava a.deps.length avc)) 31 (0, 0)) ∧ X.heap[B]? = some (.cells (instC b (.slice bua b.cmd.data.length buc) (.slice bva b.deps.length bvc)) 31 (0, 0)) ∧ X.cell? ⟨A, 2, none⟩ = some (.int .i64 a.bal.1) ∧ X.cell? ⟨A, 3, none⟩ = some (.int .i64 a.bal.2) ∧ X.cell? ⟨B, 2, none⟩ = some (.int .i64 b.bal.1) ∧ X.cell? ⟨B, 3, none⟩ = some (.int .i64 b.bal.2)) (by kernel_rfl) (SW.out _ BZ.out) (fun hHeld => ?_)
      refine wpAnyH_take (i := 0) (v := instV a (.slice aua a.cmd.data.length auc) (.slice ava a.deps.length avc)) rfl (by kernel_rfl) (by kernel_rfl) (by kernel_rfl) (fun _ _ _ h => h) (Or.inl ⟨by rfl, ?my0⟩) (by assumption) ?mr0
      case my0 =>
        intro w hSw
        exact exec_loadI rfl rfl hSw.1
      (try simp only [Act.put, List.setIfInBounds_toArray, List.set_cons_zero, List.set_cons_succ, List.getElem_toArray, List.getElem_cons_succ, List.getElem_cons_zero])
      refine wpAnyH_take (i := 2) (v := instV a (.slice aua a.cmd.data.length auc) (.slice ava a.deps.length avc)) rfl (by kernel_rfl) (by kernel_rfl) (by kernel_rfl) (fun _ _ _ h => h) (Or.inl ⟨by rfl, ?my2⟩) (by assumption) ?mr2
      case my2 =>
        intro w hSw
        exact exec_loadI rfl rfl hSw.1
      (try simp only [Act.put, List.setIfInBounds_toArray, List.set_cons_zero, List.set_cons_succ, List.getElem_toArray, List.getElem_cons_succ, List.getElem_cons_zero])
      refine wpAnyH_ready (rs := [1]) (by kernel_rfl) (by simp) ?_
      refine AllReadyH.cons rfl (fun K hK => ?_) AllReadyH.nil
      rw [if_pos (by rfl)]
      go_wp2_with fail
      refine (imay_any a _ _ _ (MA.out _ BZ.out) (CA.out _ BZ.out) (fun W hW => (CA.out _ BZ.out).below hW)).mono ?_
      rintro e wz ⟨rfl, hbz⟩
      have BY : Hid (Below w3.heap.size w3 wz) := hid (BZ.out.trans (hbz.mono BZ.out.size))
      clear BZ hbz
      have BZ := BY
      clear BY
      refine hK.out _ _ (SW.out _ BZ.out) (fun hHeld => ?_)
      try clear hK K
      (try simp only [Act.put, List.setIfInBounds_toArray, List.set_cons_zero, List.set_cons_succ, List.getElem_toArray, List.getElem_cons_succ, List.getElem_cons_zero])
      refine wpAnyH_ready (rs := [3]) (by kernel_rfl) (by simp) ?_
      refine AllReadyH.cons rfl (fun K hK => ?_) AllReadyH.nil
      rw [if_pos (by rfl)]
      go_wp2_with fail
      refine (rmayI_any a _ _ _ (MA.out _ BZ.out) (CA.out _ BZ.out)).mono ?_
      rintro e wz ⟨rfl, hbz⟩
      have BY : Hid (Below w3.heap.size w3 wz) := hid (BZ.out.trans (hbz.mono BZ.out.size))
      clear BZ hbz
      have BZ := BY
      clear BY
      refine hK.out _ _ (SW.out _ BZ.out) (fun hHeld => ?_)
      try clear hK K
      (try simp only [Act.put, List.setIfInBounds_toArray, List.set_cons_zero, List.set_cons_succ, List.getElem_toArray, List.getElem_cons_succ, List.getElem_cons_zero])
      refine wpAnyH_take (i := 4) (v := ?mv4) rfl (by kernel_rfl) (by kernel_rfl) (by kernel_rfl) (fun _ _ _ h => h) (Or.inl ⟨by rfl, ?my4⟩) (by assumption) ?mr4
      case my4 => (intro w hSw; (try dsimp only at hSw); go_simp; try with_reducible rfl)
      (try simp only [Act.put, List.setIfInBounds_toArray, List.set_cons_zero, List.set_cons_succ, List.getElem_toArray, List.getElem_cons_succ, List.getElem_cons_zero])
      refine wpAnyH_take (i := 5) (v := ?mv5) rfl (by kernel_rfl) (by kernel_rfl) (by kernel_rfl) (fun _ _ _ h => h) (Or.inl ⟨by rfl, ?my5⟩) (by assumption) ?mr5
      case my5 => (intro w hSw; (try dsimp only at hSw); go_simp; try with_reducible rfl)
      (try simp only [Act.put, List.setIfInBounds_toArray, List.set_cons_zero, List.set_cons_succ, List.getElem_toArray, List.getElem_cons_succ, List.getElem_cons_zero])
      refine wpAnyH_take (i := 6) (v := instV a (.slice aua a.cmd.data.length auc) (.slice ava a.deps.length avc)) rfl (by kernel_rfl) (by kernel_rfl) (by kernel_rfl) (fun _ _ _ h => h) (Or.inl ⟨by rfl, ?my6⟩) (by assumption) ?mr6
      case my6 =>
        intro w hSw
        exact exec_loadI rfl rfl hSw.1
      (try simp only [Act.put, List.setIfInBounds_toArray, List.set_cons_zero, List.set_cons_succ, List.getElem_toArray, List.getElem_cons_succ, List.getElem_cons_zero])
      refine wpAnyH_take (i := 7) (v := instV b (.slice bua b.cmd.data.length buc) (.slice bva b.deps.length bvc)) rfl (by kernel_rfl) (by kernel_rfl) (by kernel_rfl) (fun _ _ _ h => h) (Or.inl ⟨by rfl, ?my7⟩) (by assumption) ?mr7
      case my7 =>
        intro w hSw
        exact exec_loadI rfl rfl hSw.2.1
      (try simp only [Act.put, List.setIfInBounds_toArray, List.set_cons_zero, List.set_cons_succ, List.getElem_toArray, List.getElem_cons_succ, List.getElem_cons_zero])
      refine wpAnyH_take (i := 9) (v := instV a (.slice aua a.cmd.data.length auc) (.slice ava a.deps.length avc)) rfl (by kernel_rfl) (by kernel_rfl) (by kernel_rfl) (fun _ _ _ h => h) (Or.inl ⟨by rfl, ?my9⟩) (by assumption) ?mr9
      case my9 =>
        intro w hSw
        exact exec_loadI rfl rfl hSw.1
      (try simp only [Act.put, List.setIfInBounds_toArray, List.set_cons_zero, List.set_cons_succ, List.getElem_toArray, List.getElem_cons_succ, List.getElem_cons_zero])
      refine wpAnyH_take (i := 10) (v := instV b (.slice bua b.cmd.data.length buc) (.slice bva b.deps.length bvc)) rfl (by kernel_rfl) (by kernel_rfl) (by kernel_rfl) (fun _ _ _ h => h) (Or.inl ⟨by rfl, ?my10⟩) (by assumption) ?mr10
      case my10 =>
        intro w hSw
        exact exec_loadI rfl rfl hSw.2.1
      (try simp only [Act.put, List.setIfInBounds_toArray, List.set_cons_zero, List.set_cons_succ, List.getElem_toArray, List.getElem_cons_succ, List.getElem_cons_zero])
      refine wpAnyH_ready (rs := [8]) (by kernel_rfl) (by simp) ?_
      refine AllReadyH.cons rfl (fun K hK => ?_) AllReadyH.nil
      rw [if_pos (by rfl)]
      go_wp2_with fail
      refine (isame_any a b _ _ _ _ _ (MA.out _ BZ.out) (MB.out _ BZ.out)).mono ?_
      rintro e wz ⟨rfl, hbz⟩
      have BY : Hid (Below w3.heap.size w3 wz) := hid (BZ.out.trans (hbz.mono BZ.out.size))
      clear BZ hbz
      have BZ := BY
      clear BY
      refine hK.out _ _ (SW.out _ BZ.out) (fun hHeld => ?_)
      try clear hK K
      (try simp only [Act.put, List.setIfInBounds_toArray, List.set_cons_zero, List.set_cons_succ, List.getElem_toArray, List.getElem_cons_succ, List.getElem_cons_zero])
      refine wpAnyH_ready (rs := [11]) (by kernel_rfl) (by simp) ?_
      refine AllReadyH.cons rfl (fun K hK => ?_) AllReadyH.nil
      rw [if_pos (by rfl)]
      go_wp2_with fail
      refine (rsame_any a b _ _ _ _ _ (MA.out _ BZ.out) (MB.out _ BZ.out)).mono ?_
      rintro e wz ⟨rfl, hbz⟩
      have BY : Hid (Below w3.heap.size w3 wz) := hid (BZ.out.trans (hbz.mono BZ.out.size))
      clear BZ hbz
      have BZ := BY
      clear BY
      refine hK.out _ _ (SW.out _ BZ.out) (fun hHeld => ?_)
      try clear hK K
      (try simp only [Act.put, List.setIfInBounds_toArray, List.set_cons_zero, List.set_cons_succ, List.getElem_toArray, List.getElem_cons_succ, List.getElem_cons_zero])
      refine wpAnyH_take (i := 12) (v := ?mv12) rfl (by kernel_rfl) (by kernel_rfl) (by kernel_rfl) (fun _ _ _ h => h) (Or.inl ⟨by rfl, ?my12⟩) (by assumption) ?mr12
      case my12 => (intro w hSw; (try dsimp only at hSw); go_simp; try with_reducible rfl)
      (try simp only [Act.put, List.setIfInBounds_toArray, List.set_cons_zero, List.set_cons_succ, List.getElem_toArray, List.getElem_cons_succ, List.getElem_cons_zero])
      refine wpAnyH_take (i := 13) (v := ?mv13) rfl (by kernel_rfl) (by kernel_rfl) (by kernel_rfl) (fun _ _ _ h => h) (Or.inl ⟨by rfl, ?my13⟩) (by assumption) ?mr13
      case my13 => (intro w hSw; (try dsimp only at hSw); go_simp; try with_reducible rfl)
      (try simp only [Act.put, List.setIfInBounds_toArray, List.set_cons_zero, List.set_cons_succ, List.getElem_toArray, List.getElem_cons_succ, List.getElem_cons_zero])
      refine wpAnyH_take (i := 14) (v := ?mv14) rfl (by kernel_rfl) (by kernel_rfl) (by kernel_rfl) (fun _ _ _ h => h) (Or.inl ⟨by rfl, ?my14⟩) (by assumption) ?mr14
      case my14 => (intro w hSw; (try dsimp only at hSw); go_simp; try with_reducible rfl)
      (try simp only [Act.put, List.setIfInBounds_toArray, List.set_cons_zero, List.set_cons_succ, List.getElem_toArray, List.getElem_cons_succ, List.getElem_cons_zero])
      refine wpAnyH_take (i := 15) (v := instV a (.slice aua a.cmd.data.length auc) (.slice ava a.deps.length avc)) rfl (by kernel_rfl) (by kernel_rfl) (by kernel_rfl) (fun _ _ _ h => h) (Or.inl ⟨by rfl, ?my15⟩) (by assumption) ?mr15
      case my15 =>
        intro w hSw
        exact exec_loadI rfl rfl hSw.1
      (try simp only [Act.put, List.setIfInBounds_toArray, List.set_cons_zero, List.set_cons_succ, List.getElem_toArray, List.getElem_cons_succ, List.getElem_cons_zero])
      refine wpAnyH_take (i := 16) (v := instV a (.slice aua a.cmd.data.length auc) (.slice ava a.deps.length avc)) rfl (by kernel_rfl) (by kernel_rfl) (by kernel_rfl) (fun _ _ _ h => h) (Or.inl ⟨by rfl, ?my16⟩) (by assumption) ?mr16
      case my16 =>
        intro w hSw
        exact exec_loadI rfl rfl hSw.1
      (try simp only [Act.put, List.setIfInBounds_toArray, List.set_cons_zero, List.set_cons_succ, List.getElem_toArray, List.getElem_cons_succ, List.getElem_cons_zero])
      refine wpAnyH_ready (rs := [17]) (by kernel_rfl) (by simp) ?_
      refine AllReadyH.cons rfl (fun K hK => ?_) AllReadyH.nil
      rw [if_pos (by rfl)]
      go_wp2_with fail
      refine (isame_any a a _ _ _ _ _ (MA.out _ BZ.out) (MA.out _ BZ.out)).mono ?_
      rintro e wz ⟨rfl, hbz⟩
      rw [HSELF.out]
      have BY : Hid (Below w3.heap.size w3 wz) := hid (BZ.out.trans (hbz.mono BZ.out.size))
      clear BZ hbz
      have BZ := BY
      clear BY
      refine hK.out _ _ (SW.out _ BZ.out) (fun hHeld => ?_)
      try clear hK K
      (try simp only [Act.put, List.setIfInBounds_toArray, List.set_cons_zero, List.set_cons_succ, List.getElem_toArray, List.getElem_cons_succ, List.getElem_cons_zero])
      refine wpAnyH_take (i := 18) (v := ?mv18) rfl (by kernel_rfl) (by kernel_rfl) (by kernel_rfl) (fun _ _ _ h => h) (Or.inl ⟨by rfl, ?my18⟩) (by assumption) ?mr18
      case my18 => (intro w hSw; (try dsimp only at hSw); go_simp; try with_reducible rfl)
      (try simp only [Act.put, List.setIfInBounds_toArray, List.set_cons_zero, List.set_cons_succ, List.getElem_toArray, List.getElem_cons_succ, List.getElem_cons_zero])
      refine wpAnyH_take (i := 19) (v := ?mv19) rfl (by kernel_rfl) (by kernel_rfl) (by kernel_rfl) (fun _ _ _ h => h) (Or.inl ⟨by rfl, ?my19⟩) (by assumption) ?mr19
      case my19 => (intro w hSw; (try dsimp only at hSw); go_simp; try with_reducible rfl)
      (try simp only [Act.put, List.setIfInBounds_toArray, List.set_cons_zero, List.set_cons_succ, List.getElem_toArray, List.getElem_cons_succ, List.getElem_cons_zero])
      refine wpAnyH_take (i := 20) (v := ?mv20) rfl (by kernel_rfl) (by kernel_rfl) (by kernel_rfl) (fun _ _ _ h => h) (Or.inl ⟨by rfl, ?my20⟩) (by assumption) ?mr20
      case my20 => (intro w hSw; (try dsimp only at hSw); go_simp; try with_reducible rfl)
      (try simp only [Act.put, List.setIfInBounds_toArray, List.set_cons_zero, List.set_cons_succ, List.getElem_toArray, List.getElem_cons_succ, List.getElem_cons_zero])
      refine wpAnyH_take (i := 21) (v := ?mv21) rfl (by kernel_rfl) (by kernel_rfl) (by kernel_rfl) (fun _ _ _ h => h) (Or.inl ⟨by rfl, ?my21⟩) (by assumption) ?mr21
      case my21 => (intro w hSw; (try dsimp only at hSw); go_simp; try with_reducible rfl)
      (try simp only [Act.put, List.setIfInBounds_toArray, List.set_cons_zero, List.set_cons_succ, List.getElem_toArray, List.getElem_cons_succ, List.getElem_cons_zero])
      refine wpAnyH_take (i := 22) (v := ?mv22) rfl (by kernel_rfl) (by kernel_rfl) (by kernel_rfl) (fun _ _ _ h => h) (Or.inl ⟨by rfl, ?my22⟩) (by assumption) ?mr22
      case my22 => (intro w hSw; (try dsimp only at hSw); go_simp; try with_reducible rfl)
      (try simp only [Act.put, List.setIfInBounds_toArray, List.set_cons_zero, List.set_cons_succ, List.getElem_toArray, List.getElem_cons_succ, List.getElem_cons_zero])
      refine wpAnyH_take (i := 23) (v := ?mv23) rfl (by kernel_rfl) (by kernel_rfl) (by kernel_rfl) (fun _ _ _ h => h) (Or.inl ⟨by rfl, ?my23⟩) (by assumption) ?mr23
      case my23 => (intro w hSw; (try dsimp only at hSw); go_simp; try with_reducible rfl)
      (try simp only [Act.put, List.setIfInBounds_toArray, List.set_cons_zero, List.set_cons_succ, List.getElem_toArray, List.getElem_cons_succ, List.getElem_cons_zero])
      refine wpAnyH_take (i := 25) (v := ?mv25) rfl (by kernel_rfl) (by kernel_rfl) (by kernel_rfl) (fun _ _ _ h => h) (Or.inl ⟨by rfl, ?my25⟩) (by assumption) ?mr25
      case my25 => (intro w hSw; (try dsimp only at hSw); go_simp; try with_reducible rfl)
      (try simp only [Act.put, List.setIfInBounds_toArray, List.set_cons_zero, List.set_cons_succ, List.getElem_toArray, List.getElem_cons_succ, List.getElem_cons_zero])
      refine wpAnyH_take (i := 26) (v := ?mv26) rfl (by kernel_rfl) (by kernel_rfl) (by kernel_rfl) (fun _ _ _ h => h) (Or.inl ⟨by rfl, ?my26⟩) (by assumption) ?mr26
      case my26 => (intro w hSw; (try dsimp only at hSw); go_simp; try with_reducible rfl)
      (try simp only [Act.put, List.setIfInBounds_toArray, List.set_cons_zero, List.set_cons_succ, List.getElem_toArray, List.getElem_cons_succ, List.getElem_cons_zero])
      refine wpAnyH_take (i := 27) (v := ?mv27) rfl (by kernel_rfl) (by kernel_rfl) (by kernel_rfl) (fun _ _ _ h => h) (Or.inl ⟨by rfl, ?my27⟩) (by assumption) ?mr27
      case my27 => (intro w hSw; (try dsimp only at hSw); go_simp; try with_reducible rfl)
      (try simp only [Act.put, List.setIfInBounds_toArray, List.set_cons_zero, List.set_cons_succ, List.getElem_toArray, List.getElem_cons_succ, List.getElem_cons_zero])
      refine wpAnyH_take (i := 28) (v := ?mv28) rfl (by kernel_rfl) (by kernel_rfl) (by kernel_rfl) (fun _ _ _ h => h) (Or.inl ⟨by rfl, ?my28⟩) (by assumption) ?mr28
      case my28 => (intro w hSw; (try dsimp only at hSw); go_simp; try with_reducible rfl)
      (try simp only [Act.put, List.setIfInBounds_toArray, List.set_cons_zero, List.set_cons_succ, List.getElem_toArray, List.getElem_cons_succ, List.getElem_cons_zero])
      refine wpAnyH_ready (rs := [24]) (by kernel_rfl) (by simp) ?_
      refine AllReadyH.cons rfl (fun K hK => ?_) AllReadyH.nil
      rw [if_pos (by rfl)]
      go_wp2_with fail
      refine (lessBallot_any a.bal b.bal _).mono ?_
      rintro e wz ⟨rfl, hbz⟩
      have BY : Hid (Below w3.heap.size w3 wz) := hid (BZ.out.trans (hbz.mono BZ.out.size))
      clear BZ hbz
      have BZ := BY
      clear BY
      refine hK.out _ _ (SW.out _ BZ.out) (fun hHeld => ?_)
      try clear hK K
      (try simp only [Act.put, List.setIfInBounds_toArray, List.set_cons_zero, List.set_cons_succ, List.getElem_toArray, List.getElem_cons_succ, List.getElem_cons_zero])
      refine wpAnyH_ready (rs := [29]) (by kernel_rfl) (by simp) ?_
      refine AllReadyH.cons rfl (fun K hK => ?_) AllReadyH.nil
      rw [if_pos (by rfl)]
      go_wp2_with fail
      refine (rless_any a.bal b.bal _).mono ?_
      rintro e wz ⟨rfl, hbz⟩
      have BY : Hid (Below w3.heap.size w3 wz) := hid (BZ.out.trans (hbz.mono BZ.out.size))
      clear BZ hbz
      have BZ := BY
      clear BY
      refine hK.out _ _ (SW.out _ BZ.out) (fun hHeld => ?_)
      try clear hK K
      (try simp only [Act.put, List.setIfInBounds_toArray, List.set_cons_zero, List.set_cons_succ, List.getElem_toArray, List.getElem_cons_succ, List.getElem_cons_zero])
      refine wpAnyH_take (i := 30) (v := ?mv30) rfl (by kernel_rfl) (by kernel_rfl) (by kernel_rfl) (fun _ _ _ h => h) (Or.inl ⟨by rfl, ?my30⟩) (by assumption) ?mr30
      case my30 => (intro w hSw; (try dsimp only at hSw); go_simp; try with_reducible rfl)
      (try simp only [Act.put, List.setIfInBounds_toArray, List.set_cons_zero, List.set_cons_succ, List.getElem_toArray, List.getElem_cons_succ, List.getElem_cons_zero])
      refine wpAnyH_take (i := 31) (v := ?mv31) rfl (by kernel_rfl) (by kernel_rfl) (by kernel_rfl) (fun _ _ _ h => h) (Or.inl ⟨by rfl, ?my31⟩) (by assumption) ?mr31
      case my31 => (intro w hSw; (try dsimp only at hSw); go_simp; try with_reducible rfl)
      (try simp only [Act.put, List.setIfInBounds_toArray, List.set_cons_zero, List.set_cons_succ, List.getElem_toArray, List.getElem_cons_succ, List.getElem_cons_zero])
      refine wpAnyH_take (i := 32) (v := ?mv32) rfl (by kernel_rfl) (by kernel_rfl) (by kernel_rfl) (fun _ _ _ h => h) (Or.inl ⟨by rfl, ?my32⟩) (by assumption) ?mr32
      case my32 => (intro w hSw; (try dsimp only at hSw); go_simp; try with_reducible rfl)
      (try simp only [Act.put, List.setIfInBounds_toArray, List.set_cons_zero, List.set_cons_succ, List.getElem_toArray, List.getElem_cons_succ, List.getElem_cons_zero])
      refine wpAnyH_ready (rs := [33]) (by kernel_rfl) (by simp) ?_
      refine AllReadyH.cons rfl (fun K hK => ?_) AllReadyH.nil
      rw [if_pos (by rfl)]
      go_wp2_with fail
      refine (lives_any _).mono ?_
      rintro e wz ⟨rfl, hbz⟩
      have BY : Hid (Below w3.heap.size w3 wz) := hid (BZ.out.trans (hbz.mono BZ.out.size))
      clear BZ hbz
      have BZ := BY
      clear BY
      refine hK.out _ _ (SW.out _ BZ.out) (fun hHeld => ?_)
      try clear hK K
      (try simp only [Act.put, List.setIfInBounds_toArray, List.set_cons_zero, List.set_cons_succ, List.getElem_toArray, List.getElem_cons_succ, List.getElem_cons_zero])
      refine wpAnyH_take (i := 34) (v := ?mv34) rfl (by kernel_rfl) (by kernel_rfl) (by kernel_rfl) (fun _ _ _ h => h) (Or.inl ⟨by rfl, ?my34⟩) (by assumption) ?mr34
      case my34 => (intro w hSw; (try dsimp only at hSw); go_simp; try with_reducible rfl)
      (try simp only [Act.put, List.setIfInBounds_toArray, List.set_cons_zero, List.set_cons_succ, List.getElem_toArray, List.getElem_cons_succ, List.getElem_cons_zero])
      refine wpAnyH_take (i := 35) (v := ?mv35) rfl (by kernel_rfl) (by kernel_rfl) (by kernel_rfl) (fun _ _ _ h => h) (Or.inl ⟨by rfl, ?my35⟩) (by assumption) ?mr35
      case my35 => (intro w hSw; (try dsimp only at hSw); go_simp; try with_reducible rfl)
      (try simp only [Act.put, List.setIfInBounds_toArray, List.set_cons_zero, List.set_cons_succ, List.getElem_toArray, List.getElem_cons_succ, List.getElem_cons_zero])
      refine wpAnyH_done (by kernel_rfl) ?_ _
      go_wp2_with fail
      go_ret
      exact ⟨rfl, B3.out.trans (BZ.out.mono B3.out.size)⟩
end Go.Proofs.Ytadjeefigjdkiaa
