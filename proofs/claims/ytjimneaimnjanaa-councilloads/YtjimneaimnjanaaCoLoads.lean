/- The law CouncilLoads: any bytes (the first 5000) are a council's state, or none; what is read is written as the same. Conditions: the bytes lie in memory. -/
import Derived.Test.YtjimneaimnjanaaCoLoadsF
import Derived.Test.YtjimneaimnjanaaCoEx
namespace Go.Proofs.Ytjimneaimnjanaa
open Go.RowKit
set_option linter.unusedVariables false
set_option linter.unusedSimpArgs false

set_option maxRecDepth 100000 in
set_option maxHeartbeats 1600000 in
theorem cterm_any (base b : Nat) (lv : Value) (D : CoD) (w : World) (h : Co w base b lv D) :
    Calls Try.prog 15 #[.pointer (some ⟨b, 0, none⟩)] w fun e w' => e = .returned (.int .i64 D.term) ∧ w' = w := by
  have c1 : w.cell? ⟨b, 1, none⟩ = some (.int .i64 D.term) := h.cell 1
  clear h
  go_enter Try.func15, Try.ntmps15
  go_wp2_with fail
  go_ret
  exact ⟨rfl, rfl⟩
theorem wpl_loadS {ops : Array Oper} {rest : List Oper} {o : Oper} {a : Act} {w : World} {Q : Exit → Act → World → Prop} (hgd : o.guard = none) (x : Operand) (ho : o.op = .load 29 x)
    (g : Nat) (hx : a.eval x = .pointer (some ⟨g, 0, none⟩)) (t : TypeId) (D : CoD) (lv : Value) (fr : Nat × Nat) (hg : w.heap[g]? = some (.cells (stC D lv) t fr))
    (h : wpList Try.prog ops Q rest (a.put o.dst (.agg (stC D lv))) w) : wpList Try.prog ops Q (o :: rest) a w := by
  obtain ⟨d, hd1, hd2⟩ := Try.structSt
  exact wpList_load_row hgd _ x ho g hx t _ fr d hg hd1 (by cases d <;> first | rfl | (simp at hd2)) Try.sizeSt h
theorem st_new (w : World) : (w.alloc st0).heap[w.heap.size]? = some (.cells (stC zD (.slice none 0 0)) 29 (0, 0)) := heap_alloc_new _ _
theorem wpl_storeG {ops : Array Oper} {rest : List Oper} {o : Oper} {a : Act} {w : World} {Q : Exit → Act → World → Prop} (hgd : o.guard = none) (x y : Operand) (ho : o.op = .store 29 x y)
    (w3 : World) (D : CoD) (va : Option Addr) (vn vc : Nat) (hx : a.eval x = .pointer (some ⟨w3.heap.size, 0, none⟩)) (hy : a.eval y = .agg (stC D (.slice va vn vc))) (hw : w = w3.alloc st0)
    (h : ∀ w4, w4.heap[w3.heap.size]? = some (.cells (stC D (.slice va vn vc)) 29 (0, 0)) → Below w3.heap.size w3 w4 → wpList Try.prog ops Q rest (a.put o.dst undef) w4) : wpList Try.prog ops Q (o :: rest) a w := by
  subst hw
  exact wpl_storeS hgd x y ho w3.heap.size D va vn vc hx hy _ _ _ (st_new w3) (h _ (setRow_heap _ _ _ _ _ _ (st_new w3)) (below_row ((Below.refl w3.heap.size w3).alloc (Nat.le_refl _) st0) (Nat.le_refl _) _))
set_option maxRecDepth 100000 in
set_option maxHeartbeats 8000000 in
theorem loads_any (v : Value) (l0 : List UInt8) (self : Int) (w : World) (hv : Bts w v l0) :
    Calls Try.prog 3 #[v, .int .i64 self] w fun e w' => e = .returned (.bool true) ∧ Below w.heap.size w w' := by
  have hu : Try.prog.underlying 9 = some .string := by kernel_rfl
  have HV := hid hv
  obtain ⟨va, vc, rfl⟩ := hv.shape
  have hcap : (l0.length : Int) ≤ (vc : Int) ∧ (vc : Int) ≤ 9223372036854775807 := by obtain ⟨_, _, _, e, h1, h2, h3, -⟩ := hv; cases e; omega
  obtain ⟨hc1, hc2⟩ := hcap
  clear hv
  go_enter Try.func3, Try.ntmps3
  go_upto_if 15 with fail
  go_cut [0] from 16 to 17 (fun bv wx => ∃ (a : Option Addr) (c : Nat) (l : List UInt8), bv = .slice a l.length c ∧ Bts w (.slice a l.length c) l ∧ l.length ≤ 5000 ∧ wx = w)
  case first =>
    by_cases hbig : (5000 : Int) < (l0.length : Int)
    · have HT := hid (HV.out.take (n := 5000) (by omega))
      have hl : (l0.take 5000).length = 5000 := by rw [List.length_take]; omega
      have HL := hid hl
      clear hl
      go_wp2_with fail
      go_meet
      case rel => exact ⟨va, vc, l0.take 5000, by rw [HL.out], by rw [HL.out]; exact HT.out, by rw [HL.out]; omega, rfl⟩
    · go_wp2_with fail
      go_meet
      case rel => exact ⟨va, vc, l0, rfl, HV.out, by omega, rfl⟩
  case rest =>
    obtain ⟨a, c, l, rfl, hb, hl5, hwc⟩ := hcut
    rw [hwc]
    have HB := hid hb
    have HL5 := hid hl5
    clear hb hwc HV hc1 hc2 hl5
    have HRD := hid (fun W (hW : Below w.heap.size w W) => rread_any (.slice a l.length c) l W (HB.out.below hW))
    by_cases h0 : self < 0
    · have hnb : nodeB self = false := by unfold nodeB; rw [decide_eq_false (show ¬ 0 ≤ self by omega)]; rfl
      have HLD := hid ((load_arg self (.slice a l.length c) w hnb).mono (fun e w' ⟨he, hw⟩ => show e = Ending.returned (.tuple #[.pointer none, .int .i64 1]) ∧ Below w.heap.size w w' from ⟨he, by rw [hw]; exact .refl _ _⟩))
      clear hnb
      go_wp2_with (first | (go_at_call 8; refine HLD.out.mono ?_; rintro e w2 ⟨rfl, hb2⟩; have B2 := hid hb2; clear hb2) | (go_at_call 9; refine (HRD.out _ B2.out).mono ?_; rintro e w3 ⟨D3, va3, vn3, vc3, rfl, hok3, hb3⟩; have B3 := hid (B2.out.trans (hb3.mono B2.out.size)); clear hb3 hok3) | (refine wpl_storeS rfl _ _ rfl w3.heap.size _ _ _ _ rfl rfl _ _ _ (st_new w3) ?_; have B4 := hid (below_row (B3.out.alloc B3.out.size st0) B3.out.size (stC D3 (.slice va3 vn3 vc3)))) | (go_at_call 10; refine (lives_any _).mono ?_; rintro e w5 ⟨rfl, hb5⟩; have B5 := hid (B4.out.trans (hb5.mono B4.out.size)); clear hb5))
      go_ret
      exact ⟨rfl, B5.out⟩
    by_cases h7 : 7 ≤ self
    · have hnb : nodeB self = false := by unfold nodeB; rw [decide_eq_false (show ¬ self < 7 by omega), Bool.and_false]
      have HLD := hid ((load_arg self (.slice a l.length c) w hnb).mono (fun e w' ⟨he, hw⟩ => show e = Ending.returned (.tuple #[.pointer none, .int .i64 1]) ∧ Below w.heap.size w w' from ⟨he, by rw [hw]; exact .refl _ _⟩))
      clear hnb
      go_wp2_with (first | (go_at_call 8; refine HLD.out.mono ?_; rintro e w2 ⟨rfl, hb2⟩; have B2 := hid hb2; clear hb2) | (go_at_call 9; refine (HRD.out _ B2.out).mono ?_; rintro e w3 ⟨D3, va3, vn3, vc3, rfl, hok3, hb3⟩; have B3 := hid (B2.out.trans (hb3.mono B2.out.size)); clear hb3 hok3) | (refine wpl_storeS rfl _ _ rfl w3.heap.size _ _ _ _ rfl rfl _ _ _ (st_new w3) ?_; have B4 := hid (below_row (B3.out.alloc B3.out.size st0) B3.out.size (stC D3 (.slice va3 vn3 vc3)))) | (go_at_call 10; refine (lives_any _).mono ?_; rintro e w5 ⟨rfl, hb5⟩; have B5 := hid (B4.out.trans (hb5.mono B4.out.size)); clear hb5))
      go_ret
      exact ⟨rfl, B5.out⟩
    have hnb : nodeB self = true := by unfold nodeB; rw [decide_eq_true (show 0 ≤ self by omega), decide_eq_true (show self < 7 by omega)]; rfl
    have HLD0 := hid (load_any self (.slice a l.length c) l w HB.out (by have := HL5.out; omega) hnb (by have := ldV_fit l; have := HL5.out; omega))
    clear hnb
    cases hok : ldB 0 l with
    | false =>
      have HLD := hid (HLD0.out.mono (fun e w' ⟨C, lv, he, _, _, _, hb⟩ => show e = Ending.returned (.tuple #[.pointer none, .int .i64 4]) ∧ Below w.heap.size w w' from ⟨by rw [he, ldB_self, hok]; rfl, hb⟩))
      have HRE := hid (fun W hW => (HRD.out W hW).mono (fun e w' ⟨D, va, vn, vc, he, _, hb⟩ => show ∃ D va vn vc, e = Ending.returned (.tuple #[.agg (stC D (.slice va vn vc)), .bool false]) ∧ Below W.heap.size W w' from ⟨D, va, vn, vc, by rw [he, hok], hb⟩))
      clear HLD0 HRD hok
      go_wp2_with (first | (go_at_call 8; refine HLD.out.mono ?_; rintro e w2 ⟨rfl, hb2⟩; have B2 := hid hb2; clear hb2) | (go_at_call 9; refine (HRE.out _ B2.out).mono ?_; rintro e w3 ⟨D3, va3, vn3, vc3, rfl, hb3⟩; have B3 := hid (B2.out.trans (hb3.mono B2.out.size)); clear hb3) | (refine wpl_storeS rfl _ _ rfl w3.heap.size _ _ _ _ rfl rfl _ _ _ (st_new w3) ?_; have B4 := hid (below_row (B3.out.alloc B3.out.size st0) B3.out.size (stC D3 (.slice va3 vn3 vc3)))) | (go_at_call 10; refine (lives_any _).mono ?_; rintro e w5 ⟨rfl, hb5⟩; have B5 := hid (B4.out.trans (hb5.mono B4.out.size)); clear hb5))
      go_ret
      exact ⟨rfl, B5.out⟩
    | true =>
      have HF := hid (ld_facts self l HL5.out (by rw [ldB_self]; exact hok))
      obtain ⟨D, hD⟩ : ∃ D, D = { ldD self l with told := (ldD self l).bi } := ⟨_, rfl⟩
      rw [← hD] at HF
      have HLD := hid (HLD0.out.mono (fun e w' ⟨C, lv, he, _, hc, _, hb⟩ => show ∃ C lv, e = Ending.returned (.tuple #[.pointer (some ⟨C, 0, none⟩), .int .i64 0]) ∧ Co w' 0 C lv D ∧ Below w.heap.size w w' from ⟨C, lv, by rw [he, ldB_self, hok]; rfl, by rw [ldB_self, hok] at hc; rw [hD]; exact hc, hb⟩))
      have HRE := hid (fun W hW => (HRD.out W hW).mono (fun e w' ⟨D', va, vn, vc, he, hx, hb⟩ => show ∃ va vn vc, e = Ending.returned (.tuple #[.agg (stC D (.slice va vn vc)), .bool true]) ∧ Ens w' (.slice va vn vc) D.log ∧ Below W.heap.size W w' from ⟨va, vn, vc, by rw [he, hok, (hx hok).1, hD]; rfl, by rw [hD]; exact (hx hok).2, hb⟩))
      clear HLD0 HRD hok hD
      go_upto_region 5 with (first | (go_at_call 8; refine HLD.out.mono ?_; rintro e w2 ⟨C, lv, rfl, hc2, hb2⟩; have B2 := hid hb2; have C2 := hid hc2; clear hb2 hc2) | (go_at_call 9; refine (HRE.out _ B2.out).mono ?_; rintro e w3 ⟨va3, vn3, vc3, rfl, hen3, hb3⟩; have B3 := hid (B2.out.trans (hb3.mono B2.out.size)); have C3 := hid (C2.out.below hb3); have E3 := hid hen3; clear hb3 hen3) | (refine wpl_storeG rfl _ _ rfl w3 D va3 vn3 vc3 rfl rfl rfl ?_; intro w4 hg4 hb4; have B4 := hid (B3.out.trans (hb4.mono B3.out.size)); have C4 := hid (C3.out.below hb4); have E4 := hid (E3.out.below hb4); have G4 := hid hg4; clear hg4 hb4))
      generalize w3.heap.size = g at *
      clear B2 B3 C2 C3 E3
      obtain ⟨L, hL⟩ : ∃ L, L = vRow (vNow D) := ⟨_, rfl⟩
      have hlen : (if votB (vtx (vNow D)) then (vNow D).size else 0) = L.length := by rw [hL, vRow_len]
      have hL9 : L.length ≤ 999999 := by have := HF.out.now; rw [← hlen]; split <;> omega
      have HLA := hid (fun W (hW : Below w4.heap.size w4 W) => rlast_any (.slice va3 vn3 vc3) D W (E4.out.below hW) HF.out.i)
      have HNW := hid (fun W (hW : Below w4.heap.size w4 W) => rnow_any (.slice va3 vn3 vc3) D W (E4.out.below hW))
      have HVO := hid (fun W => (rvoters_any (vNow D) W (by have := HF.out.now; omega)).mono (fun e w' ⟨v, he, hb, ho⟩ => show ∃ v, e = Ending.returned (.tuple #[v, .bool (votB (vtx (vNow D)))]) ∧ Below W.heap.size W w' ∧ Nums w' v L from ⟨v, he, hb, by rw [hL]; exact nums_own ho (by rw [hlen, hL])⟩))
      have HTX := hid (fun W v (hN : Nums W v L) => rtextv_any L v W hN hL9 (fun x hx => by rw [hL] at hx; have := vRow_node (s := vNow D) hx; omega))
      have HCV0 := hid (fun W (hW : Co W 0 C lv D) => (cvoters_any 0 C lv D W hW HF.out.i HF.out.now).mono (fun e w' ⟨v, he, hb, ho⟩ => show ∃ v, e = Ending.returned v ∧ Below W.heap.size W w' ∧ Nums w' v L from ⟨v, he, hb, by rw [hL]; exact nums_own ho rfl⟩))
      clear hL hlen hL9
      generalize votB (vtx (vNow D)) = okV at HVO
      generalize byT L = tx at HTX
      generalize vNow D = nowT at HNW HVO
      generalize lastT D = lstT at HLA
      go_upto_region 11 with (first | (refine wpl_loadS rfl _ rfl g rfl _ D _ _ ((Bz.out.block g (lt_of_block G4.out)).trans G4.out) ?_) | (refine wpl_loadS rfl _ rfl g rfl _ D _ _ G4.out ?_) | (go_at_call 11; refine (HLA.out _ (Below.refl _ _)).mono ?_; rintro e wz ⟨rfl, hbz⟩; have Bz := hid hbz; clear hbz) | (go_at_call 13; refine (HNW.out _ Bz.out).mono ?_; rintro e wy ⟨rfl, hby⟩; have By := hid (Bz.out.trans (hby.mono Bz.out.size)); clear hby) | (go_at_call 12; refine (HVO.out _).mono ?_; rintro e w5 ⟨v5, rfl, hb5, hn5⟩; have B45 := hid (By.out.trans (hb5.mono By.out.size)); have N5 := hid hn5; clear hb5 hn5))
      have B5 := hid (B4.out.trans (B45.out.mono B4.out.size))
      have C5 := hid (C4.out.below B45.out)
      have G5 := hid ((B45.out.block g (lt_of_block G4.out)).trans G4.out)
      have SW : Hid (∀ Y, Below w5.heap.size w5 Y → (convert 22 9 (.slice a l.length c)).run Try.prog Y = .ok (.string ⟨l.toArray⟩) Y ∧ Y.cell? ⟨g, 0, none⟩ = some (.int .i64 D.term) ∧ Y.cell? ⟨g, 2, none⟩ = some (.int .i64 D.bi)) := hid fun Y hY => by
        have h1 := (hY.block g (lt_of_block G5.out)).trans G5.out
        refine ⟨conv_string _ _ _ (HB.out.below (B5.out.trans (hY.mono B5.out.size))), ?_, ?_⟩
        · rw [cell_of_row _ _ _ _ _ _ h1]; rfl
        · rw [cell_of_row _ _ _ _ _ _ h1]; rfl
      have HCV := hid (fun W (hW : Below w5.heap.size w5 W) => HCV0.out W (C5.out.below hW))
      clear HCV0 HLA HNW HVO By Bz B45 B4 C4 E4 G4 HLD HRE
      have BT : Hid (Below w5.heap.size w5 w5.drew) := hid ((Below.refl _ _).drew)
      refine wp_region_held_drew (S := fun Y => (convert 22 9 (.slice a l.length c)).run Try.prog Y = .ok (.string ⟨l.toArray⟩) Y ∧ Y.cell? ⟨g, 0, none⟩ = some (.int .i64 D.term) ∧ Y.cell? ⟨g, 2, none⟩ = some (.int .i64 D.bi)) (by kernel_rfl) (SW.out _ BT.out) (fun hHeld => ?_)
      refine wpAnyH_take (i := 0) (v := ?pv0) rfl (by kernel_rfl) (by kernel_rfl) (by kernel_rfl) (fun _ _ _ h => h) (Or.inl ⟨by rfl, ?py0⟩) (by assumption) ?pr0
      case py0 => (intro w hSw; (try dsimp only at hSw); go_simp; try with_reducible rfl)
      (try simp only [Act.put, List.setIfInBounds_toArray, List.set_cons_zero, List.set_cons_succ, List.getElem_toArray, List.getElem_cons_succ, List.getElem_cons_zero])
      refine wpAnyH_take (i := 1) (v := ?pv1) rfl (by kernel_rfl) (by kernel_rfl) (by kernel_rfl) (fun _ _ _ h => h) (Or.inl ⟨by rfl, ?py1⟩) (by assumption) ?pr1
      case py1 => (intro w hSw; (try dsimp only at hSw); go_simp; try with_reducible rfl)
      (try simp only [Act.put, List.setIfInBounds_toArray, List.set_cons_zero, List.set_cons_succ, List.getElem_toArray, List.getElem_cons_succ, List.getElem_cons_zero])
      refine wpAnyH_take (i := 2) (v := ?pv2) rfl (by kernel_rfl) (by kernel_rfl) (by kernel_rfl) (fun _ _ _ h => h) (Or.inl ⟨by rfl, ?py2⟩) (by assumption) ?pr2
      case py2 => (intro w hSw; (try dsimp only at hSw); go_simp; try with_reducible rfl)
      (try simp only [Act.put, List.setIfInBounds_toArray, List.set_cons_zero, List.set_cons_succ, List.getElem_toArray, List.getElem_cons_succ, List.getElem_cons_zero])
      refine wpAnyH_take (i := 3) (v := ?pv3) rfl (by kernel_rfl) (by kernel_rfl) (by kernel_rfl) (fun _ _ _ h => h) (Or.inl ⟨by rfl, ?py3⟩) (by assumption) ?pr3
      case py3 => (intro w hSw; (try dsimp only at hSw); go_simp; try with_reducible rfl)
      (try simp only [Act.put, List.setIfInBounds_toArray, List.set_cons_zero, List.set_cons_succ, List.getElem_toArray, List.getElem_cons_succ, List.getElem_cons_zero])
      refine wpAnyH_take (i := 6) (v := ?pv6) rfl (by kernel_rfl) (by kernel_rfl) (by kernel_rfl) (fun _ _ _ h => h) (Or.inl ⟨by rfl, ?py6⟩) (by assumption) ?pr6
      case py6 => (intro w hSw; (try dsimp only at hSw); go_simp; try with_reducible rfl)
      (try simp only [Act.put, List.setIfInBounds_toArray, List.set_cons_zero, List.set_cons_succ, List.getElem_toArray, List.getElem_cons_succ, List.getElem_cons_zero])
      refine wpAnyH_take (i := 7) (v := ?pv7) rfl (by kernel_rfl) (by kernel_rfl) (by kernel_rfl) (fun _ _ _ h => h) (Or.inl ⟨by rfl, ?py7⟩) (by assumption) ?pr7
      case py7 => (intro w hSw; (try dsimp only at hSw); go_simp; try with_reducible rfl)
      (try simp only [Act.put, List.setIfInBounds_toArray, List.set_cons_zero, List.set_cons_succ, List.getElem_toArray, List.getElem_cons_succ, List.getElem_cons_zero])
      refine wpAnyH_ready (rs := [4]) (by kernel_rfl) (by simp) ?_
      refine AllReadyH.cons rfl (fun K hK => ?_) AllReadyH.nil
      rw [if_pos (by rfl)]
      go_wp2_with fail
      refine (encode_any C lv D _ (C5.out.below BT.out) HF.out.j).mono ?_
      rw [HF.out.by_]
      rintro e w6 ⟨va6, vc6, rfl, ho6, hb6⟩
      replace BT := hid (BT.out.trans (hb6.mono BT.out.size))
      have K6 := hid (conv_string _ _ _ ho6.bts)
      clear ho6 hb6
      refine hK.out _ _ (SW.out _ BT.out) (fun hHeld => ?_)
      try clear hK K
      (try simp only [Act.put, List.setIfInBounds_toArray, List.set_cons_zero, List.set_cons_succ, List.getElem_toArray, List.getElem_cons_succ, List.getElem_cons_zero])
      refine wpAnyH_ready (rs := [5]) (by kernel_rfl) (by simp) ?_
      refine AllReadyH.cons rfl (fun K hK => ?_) AllReadyH.nil
      rw [if_pos (by rfl)]
      have k6 := K6.out
      go_simp
      refine hK.out _ _ (SW.out _ BT.out) (fun hHeld => ?_)
      clear k6
      try clear hK K
      (try simp only [Act.put, List.setIfInBounds_toArray, List.set_cons_zero, List.set_cons_succ, List.getElem_toArray, List.getElem_cons_succ, List.getElem_cons_zero])
      refine wpAnyH_take (i := 8) (v := ?pv8) rfl (by kernel_rfl) (by kernel_rfl) (by kernel_rfl) (fun _ _ _ h => h) (Or.inl ⟨by rfl, ?py8⟩) (by assumption) ?pr8
      case py8 => (intro w hSw; (try dsimp only at hSw); go_simp; try with_reducible rfl)
      (try simp only [Act.put, List.setIfInBounds_toArray, List.set_cons_zero, List.set_cons_succ, List.getElem_toArray, List.getElem_cons_succ, List.getElem_cons_zero])
      refine wpAnyH_take (i := 9) (v := ?pv9) rfl (by kernel_rfl) (by kernel_rfl) (by kernel_rfl) (fun _ _ _ h => h) (Or.inl ⟨by rfl, ?py9⟩) (by assumption) ?pr9
      case py9 => (intro w hSw; (try dsimp only at hSw); go_simp; try with_reducible rfl)
      (try simp only [Act.put, List.setIfInBounds_toArray, List.set_cons_zero, List.set_cons_succ, List.getElem_toArray, List.getElem_cons_succ, List.getElem_cons_zero])
      refine wpAnyH_take (i := 10) (v := ?pv10) rfl (by kernel_rfl) (by kernel_rfl) (by kernel_rfl) (fun _ _ _ h => h) (Or.inl ⟨by rfl, ?py10⟩) (by assumption) ?pr10
      case py10 => (intro w hSw; (try dsimp only at hSw); go_simp; try with_reducible rfl)
      (try simp only [Act.put, List.setIfInBounds_toArray, List.set_cons_zero, List.set_cons_succ, List.getElem_toArray, List.getElem_cons_succ, List.getElem_cons_zero])
      refine wpAnyH_take (i := 11) (v := ?pv11) rfl (by kernel_rfl) (by kernel_rfl) (by kernel_rfl) (fun _ _ _ h => h) (Or.inl ⟨by rfl, ?py11⟩) (by assumption) ?pr11
      case py11 => (intro w hSw; (try dsimp only at hSw); go_simp; try with_reducible rfl)
      (try simp only [Act.put, List.setIfInBounds_toArray, List.set_cons_zero, List.set_cons_succ, List.getElem_toArray, List.getElem_cons_succ, List.getElem_cons_zero])
      refine wpAnyH_take (i := 13) (v := ?pv13) rfl (by kernel_rfl) (by kernel_rfl) (by kernel_rfl) (fun _ _ _ h => h) (Or.inl ⟨by rfl, ?py13⟩) (by assumption) ?pr13
      case py13 => (intro w hSw; (try dsimp only at hSw); go_simp; try with_reducible rfl)
      (try simp only [Act.put, List.setIfInBounds_toArray, List.set_cons_zero, List.set_cons_succ, List.getElem_toArray, List.getElem_cons_succ, List.getElem_cons_zero])
      refine wpAnyH_take (i := 14) (v := ?pv14) rfl (by kernel_rfl) (by kernel_rfl) (by kernel_rfl) (fun _ _ _ h => h) (Or.inl ⟨by rfl, ?py14⟩) (by assumption) ?pr14
      case py14 => (intro w hSw; (try dsimp only at hSw); go_simp; try with_reducible rfl)
      (try simp only [Act.put, List.setIfInBounds_toArray, List.set_cons_zero, List.set_cons_succ, List.getElem_toArray, List.getElem_cons_succ, List.getElem_cons_zero])
      refine wpAnyH_ready (rs := [12]) (by kernel_rfl) (by simp) ?_
      refine AllReadyH.cons rfl (fun K hK => ?_) AllReadyH.nil
      rw [if_pos (by rfl)]
      go_wp2_with fail
      refine (cterm_any 0 C lv D _ (C5.out.below BT.out)).mono ?_
      rintro e wx ⟨rfl, hx⟩
      replace hx := hx.symm
      subst hx
      refine hK.out _ _ (SW.out _ BT.out) (fun hHeld => ?_)
      try clear hK K
      (try simp only [Act.put, List.setIfInBounds_toArray, List.set_cons_zero, List.set_cons_succ, List.getElem_toArray, List.getElem_cons_succ, List.getElem_cons_zero])
      refine wpAnyH_take (i := 15) (v := ?pv15) rfl (by kernel_rfl) (by kernel_rfl) (by kernel_rfl) (fun _ _ _ h => h) (Or.inl ⟨by rfl, ?py15⟩) (by assumption) ?pr15
      case py15 => (intro w hSw; (try dsimp only at hSw); go_simp; try with_reducible rfl)
      (try simp only [Act.put, List.setIfInBounds_toArray, List.set_cons_zero, List.set_cons_succ, List.getElem_toArray, List.getElem_cons_succ, List.getElem_cons_zero])
      refine wpAnyH_take (i := 16) (v := ?pv16) rfl (by kernel_rfl) (by kernel_rfl) (by kernel_rfl) (fun _ _ _ h => h) (Or.inl ⟨by rfl, ?py16⟩) (by assumption) ?pr16
      case py16 => (intro w hSw; (try dsimp only at hSw); go_simp; try with_reducible rfl)
      (try simp only [Act.put, List.setIfInBounds_toArray, List.set_cons_zero, List.set_cons_succ, List.getElem_toArray, List.getElem_cons_succ, List.getElem_cons_zero])
      refine wpAnyH_take (i := 17) (v := ?pv17) rfl (by kernel_rfl) (by kernel_rfl) (by kernel_rfl) (fun _ _ _ h => h) (Or.inl ⟨by rfl, ?py17⟩) (by assumption) ?pr17
      case py17 => (intro w hSw; (try dsimp only at hSw); go_simp; try with_reducible rfl)
      (try simp only [Act.put, List.setIfInBounds_toArray, List.set_cons_zero, List.set_cons_succ, List.getElem_toArray, List.getElem_cons_succ, List.getElem_cons_zero])
      refine wpAnyH_take (i := 18) (v := ?pv18) rfl (by kernel_rfl) (by kernel_rfl) (by kernel_rfl) (fun _ _ _ h => h) (Or.inl ⟨by rfl, ?py18⟩) (by assumption) ?pr18
      case py18 => (intro w hSw; (try dsimp only at hSw); go_simp; try with_reducible rfl)
      (try simp only [Act.put, List.setIfInBounds_toArray, List.set_cons_zero, List.set_cons_succ, List.getElem_toArray, List.getElem_cons_succ, List.getElem_cons_zero])
      refine wpAnyH_take (i := 20) (v := ?pv20) rfl (by kernel_rfl) (by kernel_rfl) (by kernel_rfl) (fun _ _ _ h => h) (Or.inl ⟨by rfl, ?py20⟩) (by assumption) ?pr20
      case py20 => (intro w hSw; (try dsimp only at hSw); go_simp; try with_reducible rfl)
      (try simp only [Act.put, List.setIfInBounds_toArray, List.set_cons_zero, List.set_cons_succ, List.getElem_toArray, List.getElem_cons_succ, List.getElem_cons_zero])
      refine wpAnyH_ready (rs := [19]) (by kernel_rfl) (by simp) ?_
      refine AllReadyH.cons rfl (fun K hK => ?_) AllReadyH.nil
      rw [if_pos (by rfl)]
      go_wp2_with fail
      refine (last_any 0 C lv D _ (C5.out.below BT.out) HF.out.i).mono ?_
      rintro e w7 ⟨rfl, m7, hm7⟩
      replace BT : Hid (Below w5.heap.size w5 w7) := hid (by rw [hm7]; exact BT.out.trans ((belowN _ m7).mono BT.out.size))
      clear hm7
      refine hK.out _ _ (SW.out _ BT.out) (fun hHeld => ?_)
      try clear hK K
      (try simp only [Act.put, List.setIfInBounds_toArray, List.set_cons_zero, List.set_cons_succ, List.getElem_toArray, List.getElem_cons_succ, List.getElem_cons_zero])
      refine wpAnyH_take (i := 21) (v := ?pv21) rfl (by kernel_rfl) (by kernel_rfl) (by kernel_rfl) (fun _ _ _ h => h) (Or.inl ⟨by rfl, ?py21⟩) (by assumption) ?pr21
      case py21 => (intro w hSw; (try dsimp only at hSw); go_simp; try with_reducible rfl)
      (try simp only [Act.put, List.setIfInBounds_toArray, List.set_cons_zero, List.set_cons_succ, List.getElem_toArray, List.getElem_cons_succ, List.getElem_cons_zero])
      refine wpAnyH_take (i := 22) (v := ?pv22) rfl (by kernel_rfl) (by kernel_rfl) (by kernel_rfl) (fun _ _ _ h => h) (Or.inl ⟨by rfl, ?py22⟩) (by assumption) ?pr22
      case py22 => (intro w hSw; (try dsimp only at hSw); go_simp; try with_reducible rfl)
      (try simp only [Act.put, List.setIfInBounds_toArray, List.set_cons_zero, List.set_cons_succ, List.getElem_toArray, List.getElem_cons_succ, List.getElem_cons_zero])
      refine wpAnyH_take (i := 23) (v := ?pv23) rfl (by kernel_rfl) (by kernel_rfl) (by kernel_rfl) (fun _ _ _ h => h) (Or.inl ⟨by rfl, ?py23⟩) (by assumption) ?pr23
      case py23 => (intro w hSw; (try dsimp only at hSw); go_simp; try with_reducible rfl)
      (try simp only [Act.put, List.setIfInBounds_toArray, List.set_cons_zero, List.set_cons_succ, List.getElem_toArray, List.getElem_cons_succ, List.getElem_cons_zero])
      refine wpAnyH_take (i := 24) (v := ?pv24) rfl (by kernel_rfl) (by kernel_rfl) (by kernel_rfl) (fun _ _ _ h => h) (Or.inl ⟨by rfl, ?py24⟩) (by assumption) ?pr24
      case py24 => (intro w hSw; (try dsimp only at hSw); go_simp; try with_reducible rfl)
      (try simp only [Act.put, List.setIfInBounds_toArray, List.set_cons_zero, List.set_cons_succ, List.getElem_toArray, List.getElem_cons_succ, List.getElem_cons_zero])
      refine wpAnyH_take (i := 26) (v := ?pv26) rfl (by kernel_rfl) (by kernel_rfl) (by kernel_rfl) (fun _ _ _ h => h) (Or.inl ⟨by rfl, ?py26⟩) (by assumption) ?pr26
      case py26 => (intro w hSw; (try dsimp only at hSw); go_simp; try with_reducible rfl)
      (try simp only [Act.put, List.setIfInBounds_toArray, List.set_cons_zero, List.set_cons_succ, List.getElem_toArray, List.getElem_cons_succ, List.getElem_cons_zero])
      refine wpAnyH_take (i := 27) (v := ?pv27) rfl (by kernel_rfl) (by kernel_rfl) (by kernel_rfl) (fun _ _ _ h => h) (Or.inl ⟨by rfl, ?py27⟩) (by assumption) ?pr27
      case py27 => (intro w hSw; (try dsimp only at hSw); go_simp; try with_reducible rfl)
      (try simp only [Act.put, List.setIfInBounds_toArray, List.set_cons_zero, List.set_cons_succ, List.getElem_toArray, List.getElem_cons_succ, List.getElem_cons_zero])
      refine wpAnyH_ready (rs := [25]) (by kernel_rfl) (by simp) ?_
      refine AllReadyH.cons rfl (fun K hK => ?_) AllReadyH.nil
      rw [if_pos (by rfl)]
      go_wp2_with fail
      refine (told_any 0 C lv D _ (C5.out.below BT.out)).mono ?_
      rintro e wx ⟨rfl, hx⟩
      replace hx := hx.symm
      subst hx
      rw [HF.out.told]
      refine hK.out _ _ (SW.out _ BT.out) (fun hHeld => ?_)
      try clear hK K
      (try simp only [Act.put, List.setIfInBounds_toArray, List.set_cons_zero, List.set_cons_succ, List.getElem_toArray, List.getElem_cons_succ, List.getElem_cons_zero])
      refine wpAnyH_take (i := 28) (v := ?pv28) rfl (by kernel_rfl) (by kernel_rfl) (by kernel_rfl) (fun _ _ _ h => h) (Or.inl ⟨by rfl, ?py28⟩) (by assumption) ?pr28
      case py28 => (intro w hSw; (try dsimp only at hSw); go_simp; try with_reducible rfl)
      (try simp only [Act.put, List.setIfInBounds_toArray, List.set_cons_zero, List.set_cons_succ, List.getElem_toArray, List.getElem_cons_succ, List.getElem_cons_zero])
      refine wpAnyH_take (i := 29) (v := ?pv29) rfl (by kernel_rfl) (by kernel_rfl) (by kernel_rfl) (fun _ _ _ h => h) (Or.inl ⟨by rfl, ?py29⟩) (by assumption) ?pr29
      case py29 => (intro w hSw; (try dsimp only at hSw); go_simp; try with_reducible rfl)
      (try simp only [Act.put, List.setIfInBounds_toArray, List.set_cons_zero, List.set_cons_succ, List.getElem_toArray, List.getElem_cons_succ, List.getElem_cons_zero])
      refine wpAnyH_take (i := 30) (v := ?pv30) rfl (by kernel_rfl) (by kernel_rfl) (by kernel_rfl) (fun _ _ _ h => h) (Or.inl ⟨by rfl, ?py30⟩) (by assumption) ?pr30
      case py30 => (intro w hSw; (try dsimp only at hSw); go_simp; try with_reducible rfl)
      (try simp only [Act.put, List.setIfInBounds_toArray, List.set_cons_zero, List.set_cons_succ, List.getElem_toArray, List.getElem_cons_succ, List.getElem_cons_zero])
      refine wpAnyH_take (i := 31) (v := ?pv31) rfl (by kernel_rfl) (by kernel_rfl) (by kernel_rfl) (fun _ _ _ h => h) (Or.inl ⟨by rfl, ?py31⟩) (by assumption) ?pr31
      case py31 => (intro w hSw; (try dsimp only at hSw); go_simp; try with_reducible rfl)
      (try simp only [Act.put, List.setIfInBounds_toArray, List.set_cons_zero, List.set_cons_succ, List.getElem_toArray, List.getElem_cons_succ, List.getElem_cons_zero])
      refine wpAnyH_take (i := 34) (v := ?pv34) rfl (by kernel_rfl) (by kernel_rfl) (by kernel_rfl) (fun _ _ _ h => h) (Or.inl ⟨by rfl, ?py34⟩) (by assumption) ?pr34
      case py34 => (intro w hSw; (try dsimp only at hSw); go_simp; try with_reducible rfl)
      (try simp only [Act.put, List.setIfInBounds_toArray, List.set_cons_zero, List.set_cons_succ, List.getElem_toArray, List.getElem_cons_succ, List.getElem_cons_zero])
      refine wpAnyH_ready (rs := [32]) (by kernel_rfl) (by simp) ?_
      refine AllReadyH.cons rfl (fun K hK => ?_) AllReadyH.nil
      rw [if_pos (by rfl)]
      go_wp2_with fail
      refine (HCV.out _ BT.out).mono ?_
      rintro e w8 ⟨v8, rfl, hb8, ho8⟩
      replace BT := hid (BT.out.trans (hb8.mono BT.out.size))
      have N8 := hid ho8
      clear ho8 hb8
      refine hK.out _ _ (SW.out _ BT.out) (fun hHeld => ?_)
      try clear hK K
      (try simp only [Act.put, List.setIfInBounds_toArray, List.set_cons_zero, List.set_cons_succ, List.getElem_toArray, List.getElem_cons_succ, List.getElem_cons_zero])
      refine wpAnyH_ready (rs := [33]) (by kernel_rfl) (by simp) ?_
      refine AllReadyH.cons rfl (fun K hK => ?_) AllReadyH.nil
      rw [if_pos (by rfl)]
      go_wp2_with fail
      refine (HTX.out _ _ N8.out).mono ?_
      rintro e w11 ⟨rfl, hb11⟩
      replace BT := hid (BT.out.trans (hb11.mono BT.out.size))
      clear hb11
      refine hK.out _ _ (SW.out _ BT.out) (fun hHeld => ?_)
      try clear hK K
      (try simp only [Act.put, List.setIfInBounds_toArray, List.set_cons_zero, List.set_cons_succ, List.getElem_toArray, List.getElem_cons_succ, List.getElem_cons_zero])
      refine wpAnyH_ready (rs := [35]) (by kernel_rfl) (by simp) ?_
      refine AllReadyH.cons rfl (fun K hK => ?_) AllReadyH.nil
      rw [if_pos (by rfl)]
      go_wp2_with fail
      refine (HTX.out _ _ (N5.out.below BT.out)).mono ?_
      rintro e w10 ⟨rfl, hb10⟩
      replace BT := hid (BT.out.trans (hb10.mono BT.out.size))
      (try replace N8 := hid (N8.out.below hb10))
      clear hb10
      refine hK.out _ _ (SW.out _ BT.out) (fun hHeld => ?_)
      try clear hK K
      (try simp only [Act.put, List.setIfInBounds_toArray, List.set_cons_zero, List.set_cons_succ, List.getElem_toArray, List.getElem_cons_succ, List.getElem_cons_zero])
      refine wpAnyH_take (i := 36) (v := ?qv36) rfl (by kernel_rfl) (by kernel_rfl) (by kernel_rfl) (fun _ _ _ h => h) (Or.inl ⟨by rfl, ?qy36⟩) (by assumption) ?qr36
      case qy36 => (intro w hSw; (try dsimp only at hSw); go_simp; try with_reducible rfl)
      (try simp only [Act.put, List.setIfInBounds_toArray, List.set_cons_zero, List.set_cons_succ, List.getElem_toArray, List.getElem_cons_succ, List.getElem_cons_zero])
      refine wpAnyH_take (i := 37) (v := ?qv37) rfl (by kernel_rfl) (by kernel_rfl) (by kernel_rfl) (fun _ _ _ h => h) (Or.inl ⟨by rfl, ?qy37⟩) (by assumption) ?qr37
      case qy37 => (intro w hSw; (try dsimp only at hSw); go_simp; try with_reducible rfl)
      (try simp only [Act.put, List.setIfInBounds_toArray, List.set_cons_zero, List.set_cons_succ, List.getElem_toArray, List.getElem_cons_succ, List.getElem_cons_zero])
      refine wpAnyH_take (i := 38) (v := ?qv38) rfl (by kernel_rfl) (by kernel_rfl) (by kernel_rfl) (fun _ _ _ h => h) (Or.inl ⟨by rfl, ?qy38⟩) (by assumption) ?qr38
      case qy38 => (intro w hSw; (try dsimp only at hSw); go_simp; try with_reducible rfl)
      (try simp only [Act.put, List.setIfInBounds_toArray, List.set_cons_zero, List.set_cons_succ, List.getElem_toArray, List.getElem_cons_succ, List.getElem_cons_zero])
      refine wpAnyH_take (i := 39) (v := ?qv39) rfl (by kernel_rfl) (by kernel_rfl) (by kernel_rfl) (fun _ _ _ h => h) (Or.inl ⟨by rfl, ?qy39⟩) (by assumption) ?qr39
      case qy39 => (intro w hSw; (try dsimp only at hSw); go_simp; try with_reducible rfl)
      (try simp only [Act.put, List.setIfInBounds_toArray, List.set_cons_zero, List.set_cons_succ, List.getElem_toArray, List.getElem_cons_succ, List.getElem_cons_zero])
      refine wpAnyH_ready (rs := [40]) (by kernel_rfl) (by simp) ?_
      refine AllReadyH.cons rfl (fun K hK => ?_) AllReadyH.nil
      rw [if_pos (by rfl)]
      go_wp2_with fail
      refine (leads_any 0 C lv D _ (C5.out.below BT.out)).mono ?_
      rw [HF.out.role]
      rintro e wx ⟨rfl, hx⟩
      replace hx := hx.symm
      subst hx
      refine hK.out _ _ (SW.out _ BT.out) (fun hHeld => ?_)
      try clear hK K
      (try simp only [Act.put, List.setIfInBounds_toArray, List.set_cons_zero, List.set_cons_succ, List.getElem_toArray, List.getElem_cons_succ, List.getElem_cons_zero])
      refine wpAnyH_take (i := 41) (v := ?qv41) rfl (by kernel_rfl) (by kernel_rfl) (by kernel_rfl) (fun _ _ _ h => h) (Or.inl ⟨by rfl, ?qy41⟩) (by assumption) ?qr41
      case qy41 => (intro w hSw; (try dsimp only at hSw); go_simp; try with_reducible rfl)
      (try simp only [Act.put, List.setIfInBounds_toArray, List.set_cons_zero, List.set_cons_succ, List.getElem_toArray, List.getElem_cons_succ, List.getElem_cons_zero])
      refine wpAnyH_take (i := 42) (v := ?qv42) rfl (by kernel_rfl) (by kernel_rfl) (by kernel_rfl) (fun _ _ _ h => h) (Or.inl ⟨by rfl, ?qy42⟩) (by assumption) ?qr42
      case qy42 => (intro w hSw; (try dsimp only at hSw); go_simp; try with_reducible rfl)
      (try simp only [Act.put, List.setIfInBounds_toArray, List.set_cons_zero, List.set_cons_succ, List.getElem_toArray, List.getElem_cons_succ, List.getElem_cons_zero])
      refine wpAnyH_take (i := 43) (v := ?qv43) rfl (by kernel_rfl) (by kernel_rfl) (by kernel_rfl) (fun _ _ _ h => h) (Or.inl ⟨by rfl, ?qy43⟩) (by assumption) ?qr43
      case qy43 => (intro w hSw; (try dsimp only at hSw); go_simp; try with_reducible rfl)
      (try simp only [Act.put, List.setIfInBounds_toArray, List.set_cons_zero, List.set_cons_succ, List.getElem_toArray, List.getElem_cons_succ, List.getElem_cons_zero])
      refine wpAnyH_ready (rs := [44]) (by kernel_rfl) (by simp) ?_
      refine AllReadyH.cons rfl (fun K hK => ?_) AllReadyH.nil
      rw [if_pos (by rfl)]
      go_wp2_with fail
      refine (lives_any _).mono ?_
      rintro e w9 ⟨rfl, hb9⟩
      replace BT := hid (BT.out.trans (hb9.mono BT.out.size))
      clear hb9
      refine hK.out _ _ (SW.out _ BT.out) (fun hHeld => ?_)
      try clear hK K
      (try simp only [Act.put, List.setIfInBounds_toArray, List.set_cons_zero, List.set_cons_succ, List.getElem_toArray, List.getElem_cons_succ, List.getElem_cons_zero])
      refine wpAnyH_take (i := 45) (v := ?qv45) rfl (by kernel_rfl) (by kernel_rfl) (by kernel_rfl) (fun _ _ _ h => h) (Or.inl ⟨by rfl, ?qy45⟩) (by assumption) ?qr45
      case qy45 => (intro w hSw; (try dsimp only at hSw); go_simp; try with_reducible rfl)
      (try simp only [Act.put, List.setIfInBounds_toArray, List.set_cons_zero, List.set_cons_succ, List.getElem_toArray, List.getElem_cons_succ, List.getElem_cons_zero])
      refine wpAnyH_take (i := 46) (v := ?qv46) rfl (by kernel_rfl) (by kernel_rfl) (by kernel_rfl) (fun _ _ _ h => h) (Or.inl ⟨by rfl, ?qy46⟩) (by assumption) ?qr46
      case qy46 => (intro w hSw; (try dsimp only at hSw); go_simp; try with_reducible rfl)
      (try simp only [Act.put, List.setIfInBounds_toArray, List.set_cons_zero, List.set_cons_succ, List.getElem_toArray, List.getElem_cons_succ, List.getElem_cons_zero])
      refine wpAnyH_done (by kernel_rfl) ?_ _
      go_wp2_with fail
      go_ret
      exact ⟨rfl, B5.out.trans (BT.out.mono B5.out.size)⟩
end Go.Proofs.Ytjimneaimnjanaa
