/- For any bytes (the first 5000): they are the document's store, or none; what is read is written as the same bytes. -/
import Derived.Test.YtabmnelenfghhaaBkRRead
import Derived.Test.YtabmnelenfghhaaBkAlike
import Derived.Test.YtabmnelenfghhaaBkLives
import Derived.Test.YtabmnelenfghhaaBkEncDec
namespace Go.Proofs.Ytabmnelenfghhaa
open Go.RowKit
set_option linter.unusedVariables false
set_option linter.unusedSimpArgs false

set_option maxRecDepth 100000 in
set_option maxHeartbeats 3200000 in
theorem decodes_any (v : Value) (l0 : List UInt8) (w : World) (hv : Bts w v l0) :
    Calls Try.prog 5 #[v] w fun e w' => e = .returned (.bool true) ∧ Below w.heap.size w w' := by
  have HV := hid hv
  obtain ⟨va, vc, rfl⟩ := hv.shape
  have hcap : (l0.length : Int) ≤ (vc : Int) ∧ (vc : Int) ≤ 9223372036854775807 := by obtain ⟨_, _, _, e, h1, h2, h3, -⟩ := hv; cases e; omega
  obtain ⟨hc1, hc2⟩ := hcap
  clear hv
  go_enter Try.func5, Try.ntmps5
  go_upto_if 9 with fail
  go_cut [0] from 10 to 11 (fun bv wx => ∃ (a : Option Addr) (c : Nat) (l : List UInt8), bv = .slice a l.length c ∧ Bts w (.slice a l.length c) l ∧ l.length ≤ 5000 ∧ wx = w)
  case first =>
    by_cases hbig : (5000 : Int) < (l0.length : Int)
    · have HT := hid (HV.out.take (n := 5000) (by omega))
      have hl : (l0.take 5000).length = 5000 := by rw [List.length_take]; omega
      have HL := hid hl
      clear hl
      go_wp2_with fail
      go_meet
      case rel => exact ⟨va, vc, l0.take 5000, by rw [HL.out], by rw [HL.out]; exact HT.out, by rw [HL.out]; omega, rfl⟩
    · go_wp2_with fail
      go_meet
      case rel => exact ⟨va, vc, l0, rfl, HV.out, by omega, rfl⟩
  case rest =>
    obtain ⟨a, c, l, rfl, hb, hl5, hwc⟩ := hcut
    rw [hwc]
    have HB := hid hb
    clear hb hwc HV hc1 hc2
    go_wp2_with fail
    refine (decode_any _ l _ HB.out (by omega)).mono ?_
    rintro e w2 (⟨h0, rfl, hb2⟩ | ⟨h0, b, g, rfl, -, -, hst2, hb2⟩)
    · have B2 := hid hb2
      have H0 := hid h0
      clear h0 hb2
      go_wp2_with fail
      refine (rread_any _ l _ (HB.out.below B2.out) hl5).mono ?_
      rintro e w3 (⟨-, p, rfl, hb3⟩ | ⟨h1, -⟩)
      · have B3 := hid (B2.out.trans (hb3.mono B2.out.size))
        clear hb3
        go_wp2_with fail
        refine (lives_any _).mono ?_
        rintro e w4 ⟨rfl, hb4⟩
        have B4 := hid (B3.out.trans (hb4.mono B3.out.size))
        clear hb4
        go_wp2_with fail
        go_ret
        exact ⟨rfl, B4.out⟩
      · rw [H0.out] at h1; cases h1
    · have B2 := hid hb2
      have T2 := hid hst2
      have H0 := hid h0
      have HED := hid (enc_dec l h0)
      clear h0 hb2 hst2
      go_wp2_with fail
      refine (rread_any _ l _ (HB.out.below B2.out) hl5).mono ?_
      rintro e w3 (⟨h1, -⟩ | ⟨-, base, X, vt, vm, ks, rfl, hr3, hb3⟩)
      · rw [H0.out] at h1; cases h1
      · have R3 := hid hr3
        have T3 := hid (T2.out.below hb3)
        have B3 := hid (B2.out.trans (hb3.mono B2.out.size))
        have SW : Hid (∀ Y, Below w3.heap.size w3 Y → (convert 25 9 (.slice a l.length c)).run Try.prog Y = .ok (.string ⟨l.toArray⟩) Y) := hid fun Y hY => conv_string _ _ _ (HB.out.below (B3.out.trans (hY.mono B3.out.size)))
        clear hr3 hb3 T2
        go_upto_region 7 with fail
        refine wp_region_held_drew (S := fun Y => (convert 25 9 (.slice a l.length c)).run Try.prog Y = .ok (.string ⟨l.toArray⟩) Y) (by kernel_rfl) (SW.out _ ((Below.refl _ _).drew)) (fun hHeld => ?_)
        refine wpAnyH_take (i := 0) (v := ?pv0) rfl (by kernel_rfl) (by kernel_rfl) (by kernel_rfl) (fun _ _ _ h => h) (Or.inl ⟨by rfl, ?py0⟩) (by assumption) ?pr0
        case py0 => (intro w hSw; (try dsimp only at hSw); go_simp; try with_reducible rfl)
        (try simp only [Act.put, List.setIfInBounds_toArray, List.set_cons_zero, List.set_cons_succ, List.getElem_toArray, List.getElem_cons_succ, List.getElem_cons_zero])
        refine wpAnyH_take (i := 1) (v := ?pv1) rfl (by kernel_rfl) (by kernel_rfl) (by kernel_rfl) (fun _ _ _ h => h) (Or.inl ⟨by rfl, ?py1⟩) (by assumption) ?pr1
        case py1 => (intro w hSw; (try dsimp only at hSw); go_simp; try with_reducible rfl)
        (try simp only [Act.put, List.setIfInBounds_toArray, List.set_cons_zero, List.set_cons_succ, List.getElem_toArray, List.getElem_cons_succ, List.getElem_cons_zero])
        refine wpAnyH_take (i := 2) (v := ?pv2) rfl (by kernel_rfl) (by kernel_rfl) (by kernel_rfl) (fun _ _ _ h => h) (Or.inl ⟨by rfl, ?py2⟩) (by assumption) ?pr2
        case py2 => (intro w hSw; (try dsimp only at hSw); go_simp; try with_reducible rfl)
        (try simp only [Act.put, List.setIfInBounds_toArray, List.set_cons_zero, List.set_cons_succ, List.getElem_toArray, List.getElem_cons_succ, List.getElem_cons_zero])
        refine wpAnyH_take (i := 3) (v := ?pv3) rfl (by kernel_rfl) (by kernel_rfl) (by kernel_rfl) (fun _ _ _ h => h) (Or.inl ⟨by rfl, ?py3⟩) (by assumption) ?pr3
        case py3 => (intro w hSw; (try dsimp only at hSw); go_simp; try with_reducible rfl)
        (try simp only [Act.put, List.setIfInBounds_toArray, List.set_cons_zero, List.set_cons_succ, List.getElem_toArray, List.getElem_cons_succ, List.getElem_cons_zero])
        refine wpAnyH_take (i := 4) (v := ?pv4) rfl (by kernel_rfl) (by kernel_rfl) (by kernel_rfl) (fun _ _ _ h => h) (Or.inl ⟨by rfl, ?py4⟩) (by assumption) ?pr4
        case py4 => (intro w hSw; (try dsimp only at hSw); go_simp; try with_reducible rfl)
        (try simp only [Act.put, List.setIfInBounds_toArray, List.set_cons_zero, List.set_cons_succ, List.getElem_toArray, List.getElem_cons_succ, List.getElem_cons_zero])
        refine wpAnyH_ready (rs := [5]) (by kernel_rfl) (by simp) ?_
        refine AllReadyH.cons rfl (fun K hK => ?_) AllReadyH.nil
        rw [if_pos (by rfl)]
        go_wp2_with fail
        refine (alike_any b g base X vt vm ks (dcD l) _ (T3.out.below ((Below.refl _ _).drew)) (R3.out.below ((Below.refl _ _).drew))).mono ?_
        rintro e w4 ⟨rfl, hb4⟩
        have B34 := hid (((Below.refl w3.heap.size w3).drew).trans hb4)
        clear hb4
        refine hK.out _ _ (SW.out _ B34.out) (fun hHeld => ?_)
        try clear hK K
        (try simp only [Act.put, List.setIfInBounds_toArray, List.set_cons_zero, List.set_cons_succ, List.getElem_toArray, List.getElem_cons_succ, List.getElem_cons_zero])
        refine wpAnyH_take (i := 6) (v := ?pv6) rfl (by kernel_rfl) (by kernel_rfl) (by kernel_rfl) (fun _ _ _ h => h) (Or.inl ⟨by rfl, ?py6⟩) (by assumption) ?pr6
        case py6 => (intro w hSw; (try dsimp only at hSw); go_simp; try with_reducible rfl)
        (try simp only [Act.put, List.setIfInBounds_toArray, List.set_cons_zero, List.set_cons_succ, List.getElem_toArray, List.getElem_cons_succ, List.getElem_cons_zero])
        refine wpAnyH_take (i := 7) (v := ?pv7) rfl (by kernel_rfl) (by kernel_rfl) (by kernel_rfl) (fun _ _ _ h => h) (Or.inl ⟨by rfl, ?py7⟩) (by assumption) ?pr7
        case py7 => (intro w hSw; (try dsimp only at hSw); go_simp; try with_reducible rfl)
        (try simp only [Act.put, List.setIfInBounds_toArray, List.set_cons_zero, List.set_cons_succ, List.getElem_toArray, List.getElem_cons_succ, List.getElem_cons_zero])
        refine wpAnyH_take (i := 8) (v := ?pv8) rfl (by kernel_rfl) (by kernel_rfl) (by kernel_rfl) (fun _ _ _ h => h) (Or.inl ⟨by rfl, ?py8⟩) (by assumption) ?pr8
        case py8 => (intro w hSw; (try dsimp only at hSw); go_simp; try with_reducible rfl)
        (try simp only [Act.put, List.setIfInBounds_toArray, List.set_cons_zero, List.set_cons_succ, List.getElem_toArray, List.getElem_cons_succ, List.getElem_cons_zero])
        refine wpAnyH_take (i := 11) (v := ?pv11) rfl (by kernel_rfl) (by kernel_rfl) (by kernel_rfl) (fun _ _ _ h => h) (Or.inl ⟨by rfl, ?py11⟩) (by assumption) ?pr11
        case py11 => (intro w hSw; (try dsimp only at hSw); go_simp; try with_reducible rfl)
        (try simp only [Act.put, List.setIfInBounds_toArray, List.set_cons_zero, List.set_cons_succ, List.getElem_toArray, List.getElem_cons_succ, List.getElem_cons_zero])
        refine wpAnyH_take (i := 12) (v := ?pv12) rfl (by kernel_rfl) (by kernel_rfl) (by kernel_rfl) (fun _ _ _ h => h) (Or.inl ⟨by rfl, ?py12⟩) (by assumption) ?pr12
        case py12 => (intro w hSw; (try dsimp only at hSw); go_simp; try with_reducible rfl)
        (try simp only [Act.put, List.setIfInBounds_toArray, List.set_cons_zero, List.set_cons_succ, List.getElem_toArray, List.getElem_cons_succ, List.getElem_cons_zero])
        refine wpAnyH_ready (rs := [9]) (by kernel_rfl) (by simp) ?_
        refine AllReadyH.cons rfl (fun K hK => ?_) AllReadyH.nil
        rw [if_pos (by rfl)]
        go_wp2_with fail
        refine (encode_any b g (dcD l) _ (T3.out.below B34.out) HED.out.2).mono ?_
        rw [HED.out.1]
        rintro e w5 ⟨va5, vc5, rfl, ho5, hb5⟩
        have B35 := hid (B34.out.trans (hb5.mono B34.out.size))
        have C5 := hid (conv_string _ _ _ ho5.bts)
        clear ho5 hb5
        refine hK.out _ _ (SW.out _ B35.out) (fun hHeld => ?_)
        try clear hK K
        (try simp only [Act.put, List.setIfInBounds_toArray, List.set_cons_zero, List.set_cons_succ, List.getElem_toArray, List.getElem_cons_succ, List.getElem_cons_zero])
        refine wpAnyH_ready (rs := [10]) (by kernel_rfl) (by simp) ?_
        refine AllReadyH.cons rfl (fun K hK => ?_) AllReadyH.nil
        rw [if_pos (by rfl)]
        have c5 := C5.out
        go_simp
        refine hK.out _ _ (SW.out _ B35.out) (fun hHeld => ?_)
        try clear hK K
        (try simp only [Act.put, List.setIfInBounds_toArray, List.set_cons_zero, List.set_cons_succ, List.getElem_toArray, List.getElem_cons_succ, List.getElem_cons_zero])
        refine wpAnyH_take (i := 13) (v := ?pv13) rfl (by kernel_rfl) (by kernel_rfl) (by kernel_rfl) (fun _ _ _ h => h) (Or.inl ⟨by rfl, ?py13⟩) (by assumption) ?pr13
        case py13 => (intro w hSw; (try dsimp only at hSw); go_simp; try with_reducible rfl)
        (try simp only [Act.put, List.setIfInBounds_toArray, List.set_cons_zero, List.set_cons_succ, List.getElem_toArray, List.getElem_cons_succ, List.getElem_cons_zero])
        refine wpAnyH_take (i := 14) (v := ?pv14) rfl (by kernel_rfl) (by kernel_rfl) (by kernel_rfl) (fun _ _ _ h => h) (Or.inl ⟨by rfl, ?py14⟩) (by assumption) ?pr14
        case py14 => (intro w hSw; (try dsimp only at hSw); go_simp; try with_reducible rfl)
        (try simp only [Act.put, List.setIfInBounds_toArray, List.set_cons_zero, List.set_cons_succ, List.getElem_toArray, List.getElem_cons_succ, List.getElem_cons_zero])
        refine wpAnyH_take (i := 15) (v := ?pv15) rfl (by kernel_rfl) (by kernel_rfl) (by kernel_rfl) (fun _ _ _ h => h) (Or.inl ⟨by rfl, ?py15⟩) (by assumption) ?pr15
        case py15 => (intro w hSw; (try dsimp only at hSw); go_simp; try with_reducible rfl)
        (try simp only [Act.put, List.setIfInBounds_toArray, List.set_cons_zero, List.set_cons_succ, List.getElem_toArray, List.getElem_cons_succ, List.getElem_cons_zero])
        refine wpAnyH_ready (rs := [16]) (by kernel_rfl) (by simp) ?_
        refine AllReadyH.cons rfl (fun K hK => ?_) AllReadyH.nil
        rw [if_pos (by rfl)]
        go_wp2_with fail
        refine (lives_any _).mono ?_
        rintro e w6 ⟨rfl, hb6⟩
        have B36 := hid (B35.out.trans (hb6.mono B35.out.size))
        clear hb6
        refine hK.out _ _ (SW.out _ B36.out) (fun hHeld => ?_)
        try clear hK K
        (try simp only [Act.put, List.setIfInBounds_toArray, List.set_cons_zero, List.set_cons_succ, List.getElem_toArray, List.getElem_cons_succ, List.getElem_cons_zero])
        refine wpAnyH_take (i := 17) (v := ?pv17) rfl (by kernel_rfl) (by kernel_rfl) (by kernel_rfl) (fun _ _ _ h => h) (Or.inl ⟨by rfl, ?py17⟩) (by assumption) ?pr17
        case py17 => (intro w hSw; (try dsimp only at hSw); go_simp; try with_reducible rfl)
        (try simp only [Act.put, List.setIfInBounds_toArray, List.set_cons_zero, List.set_cons_succ, List.getElem_toArray, List.getElem_cons_succ, List.getElem_cons_zero])
        refine wpAnyH_take (i := 18) (v := ?pv18) rfl (by kernel_rfl) (by kernel_rfl) (by kernel_rfl) (fun _ _ _ h => h) (Or.inl ⟨by rfl, ?py18⟩) (by assumption) ?pr18
        case py18 => (intro w hSw; (try dsimp only at hSw); go_simp; try with_reducible rfl)
        (try simp only [Act.put, List.setIfInBounds_toArray, List.set_cons_zero, List.set_cons_succ, List.getElem_toArray, List.getElem_cons_succ, List.getElem_cons_zero])
        refine wpAnyH_done (by kernel_rfl) ?_ _
        go_wp2_with fail
        go_ret
        exact ⟨rfl, B3.out.trans (B36.out.mono B3.out.size)⟩
end Go.Proofs.Ytabmnelenfghhaa
